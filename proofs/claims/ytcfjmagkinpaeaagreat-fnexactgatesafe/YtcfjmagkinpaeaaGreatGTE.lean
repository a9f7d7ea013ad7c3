import Derived.Test.YtcfjmagkinpaeaaGreatGTD
set_option maxHeartbeats 16000000
set_option maxRecDepth 100000
open Go.Proofs.Tryz
namespace Go.Proofs.YtcfjmagkinpaeaaGreat
open Go.RowKit Go.Deep
theorem Zkz (tv vv:Value) (r:Ru) (nt:Nat) (a:Option Addr) (cap:Nat) (a':Option Addr) (cap':Nat) (ht:tv=.slice a nt cap) (hvv:vv=.slice a' r.vb.length cap') (w:World) :
 Calls prog 91 #[tv,.agg #[vv,.string r.kd,.string r.tm,.string r.pf]] w fun e w'=>e=.returned (.func (.func 150) #[.agg #[tv,vv,.string r.kd,.string r.tm,.string r.pf]] #[])∧Zw_ w w':=by
 subst hvv ht;go_enter func91,ntmps91;go_wp2;go_ret;exact⟨rfl,Zac _ _⟩
theorem Znv (lo lr:Nat) (tv vv:Value) (Ts:List Tm) (r:Ru) (kind team name:Zy_) (w:World) (hT:Zbd lo w tv Ts) (hv:Zap lr w vv r.vb) :
 Calls prog 150 #[.agg #[tv,vv,.string r.kd,.string r.tm,.string r.pf],.string kind,.string team,.string name] w
  fun e w'=>e=.returned (.int .u8 (num (ZbH Ts r kind team name)))∧Zw_ w w':=by
 have HT:=Zab hT;have HV:=Zab hv;obtain⟨ta,tcap,rfl⟩:=hT.form;obtain⟨a,cap,rfl⟩:=hv.form;clear hT hv
 by_cases q1:(!r.kd.toList.isEmpty&&!(r.kd.toList == kind.toList))=true
 · rw [Bool.and_eq_true] at q1
   have e1:r.kd.toList.isEmpty=false:=by simpa using q1.1
   have e2:(r.kd.toList == kind.toList)=false:=by rw [← Bool.not_eq_true'];exact q1.2
   have HR:Hid (num (ZbH Ts r kind team name)=0):=ZdO (by unfold ZgI;rw [e1,e2];rfl);clear q1;go_enter func150,ntmps150;go_wp2;go_ret;exact⟨ZcK HR.out.symm,Zac _ _⟩
 have HK:Hid ((r.kd.toList.isEmpty || r.kd.toList == kind.toList)=true):=by
  unfold Hid
  cases h1:r.kd.toList.isEmpty <;> cases h2:(r.kd.toList == kind.toList) <;> simp_all
 have HE:Hid (ZgI Ts r kind team name=((r.tm.toList.isEmpty || ZaA Ts team r.tm)&&Zbb name r.pf)):=by unfold Hid ZgI;rw [HK.out];rfl
 have hk:r.kd.toList.isEmpty=true∨(r.kd.toList.isEmpty=false∧(r.kd.toList == kind.toList)=true):=by
  have:=HK.out
  cases h1:r.kd.toList.isEmpty <;> cases h2:(r.kd.toList == kind.toList) <;> simp_all
 clear q1 HK
 rcases hk with h1 | ⟨h1,h2⟩
 · cases h3:r.tm.toList.isEmpty with
   | true=>
    go_enter func150,ntmps150;go_wp2_with fail;generalize hWa:w.alloc _=Wa;have HBa:Hid (Zw_ w Wa):=by rw [← hWa];exact Zac _ _
    have FA:Hid (Box Wa w.heap.size #[.slice ta Ts.length tcap,.slice a r.vb.length cap,.string r.kd,.string r.tm,.string r.pf]):=by rw [← hWa];exact Box.new _ _ _ _ rfl
    clear hWa;have a1:Wa.cell? ⟨w.heap.size,1,none⟩=some (.slice a r.vb.length cap):=FA.out.cell 1;have a4:Wa.cell? ⟨w.heap.size,4,none⟩=some (.string r.pf):=FA.out.cell 4;refine (ZcR name r.pf _).mono ?_;rintro e w2 ⟨rfl,rfl⟩
    cases hq:Zbb name r.pf with
    | false=>
     have HR:Hid (num (ZbH Ts r kind team name)=0):=ZdO (by rw [HE.out,hq];simp);go_wp2;go_ret;exact⟨ZcK HR.out.symm,HBa.out⟩
    | true=>
     have HR:Hid (num (ZbH Ts r kind team name)=num (ZeM r.vb)):=Zfe (by rw [HE.out,hq];simp [h3]);go_wp2_with fail;refine (Zdf lr _ r.vb _ (HV.out.below HBa.out)).mono ?_;rintro e w3 ⟨rfl,rfl⟩;go_wp2;go_ret;exact⟨ZcK HR.out.symm,HBa.out⟩
   | false=>
    go_enter func150,ntmps150;go_wp2_with fail;generalize hWa:w.alloc _=Wa;have HBa:Hid (Zw_ w Wa):=by rw [← hWa];exact Zac _ _
    have FA:Hid (Box Wa w.heap.size #[.slice ta Ts.length tcap,.slice a r.vb.length cap,.string r.kd,.string r.tm,.string r.pf]):=by rw [← hWa];exact Box.new _ _ _ _ rfl
    clear hWa;refine (ZdP lo _ Ts team r.tm _ (HT.out.below HBa.out)).mono ?_;rintro e w1 ⟨rfl,hb1⟩;replace FA:=Zab (FA.out.on hb1);replace HBa:Hid (Zw_ w w1):=HBa.out.trans (hb1.mono HBa.out.size);clear hb1;have a1:w1.cell? ⟨w.heap.size,1,none⟩=some (.slice a r.vb.length cap):=FA.out.cell 1;have a4:w1.cell? ⟨w.heap.size,4,none⟩=some (.string r.pf):=FA.out.cell 4
    cases h4:ZaA Ts team r.tm with
    | false=>
     have HR:Hid (num (ZbH Ts r kind team name)=0):=ZdO (by rw [HE.out,h3,h4];rfl);go_wp2;go_ret;exact⟨ZcK HR.out.symm,HBa.out⟩
    | true=>
     go_wp2_with fail;refine (ZcR name r.pf _).mono ?_;rintro e w2 ⟨rfl,rfl⟩
     cases hq:Zbb name r.pf with
     | false=>
      have HR:Hid (num (ZbH Ts r kind team name)=0):=ZdO (by rw [HE.out,hq];simp);go_wp2;go_ret;exact⟨ZcK HR.out.symm,HBa.out⟩
     | true=>
      have HR:Hid (num (ZbH Ts r kind team name)=num (ZeM r.vb)):=Zfe (by rw [HE.out,hq];simp [h3,h4]);go_wp2_with fail;refine (Zdf lr _ r.vb _ (HV.out.below HBa.out)).mono ?_;rintro e w3 ⟨rfl,rfl⟩;go_wp2;go_ret;exact⟨ZcK HR.out.symm,HBa.out⟩
 · cases h3:r.tm.toList.isEmpty with
   | true=>
    go_enter func150,ntmps150;go_wp2_with fail;generalize hWa:w.alloc _=Wa;have HBa:Hid (Zw_ w Wa):=by rw [← hWa];exact Zac _ _
    have FA:Hid (Box Wa w.heap.size #[.slice ta Ts.length tcap,.slice a r.vb.length cap,.string r.kd,.string r.tm,.string r.pf]):=by rw [← hWa];exact Box.new _ _ _ _ rfl
    clear hWa;have a1:Wa.cell? ⟨w.heap.size,1,none⟩=some (.slice a r.vb.length cap):=FA.out.cell 1;have a4:Wa.cell? ⟨w.heap.size,4,none⟩=some (.string r.pf):=FA.out.cell 4;refine (ZcR name r.pf _).mono ?_;rintro e w2 ⟨rfl,rfl⟩
    cases hq:Zbb name r.pf with
    | false=>
     have HR:Hid (num (ZbH Ts r kind team name)=0):=ZdO (by rw [HE.out,hq];simp);go_wp2;go_ret;exact⟨ZcK HR.out.symm,HBa.out⟩
    | true=>
     have HR:Hid (num (ZbH Ts r kind team name)=num (ZeM r.vb)):=Zfe (by rw [HE.out,hq];simp [h3]);go_wp2_with fail;refine (Zdf lr _ r.vb _ (HV.out.below HBa.out)).mono ?_;rintro e w3 ⟨rfl,rfl⟩;go_wp2;go_ret;exact⟨ZcK HR.out.symm,HBa.out⟩
   | false=>
    go_enter func150,ntmps150;go_wp2_with fail;generalize hWa:w.alloc _=Wa;have HBa:Hid (Zw_ w Wa):=by rw [← hWa];exact Zac _ _
    have FA:Hid (Box Wa w.heap.size #[.slice ta Ts.length tcap,.slice a r.vb.length cap,.string r.kd,.string r.tm,.string r.pf]):=by rw [← hWa];exact Box.new _ _ _ _ rfl
    clear hWa;refine (ZdP lo _ Ts team r.tm _ (HT.out.below HBa.out)).mono ?_;rintro e w1 ⟨rfl,hb1⟩;replace FA:=Zab (FA.out.on hb1);replace HBa:Hid (Zw_ w w1):=HBa.out.trans (hb1.mono HBa.out.size);clear hb1;have a1:w1.cell? ⟨w.heap.size,1,none⟩=some (.slice a r.vb.length cap):=FA.out.cell 1;have a4:w1.cell? ⟨w.heap.size,4,none⟩=some (.string r.pf):=FA.out.cell 4
    cases h4:ZaA Ts team r.tm with
    | false=>
     have HR:Hid (num (ZbH Ts r kind team name)=0):=ZdO (by rw [HE.out,h3,h4];rfl);go_wp2;go_ret;exact⟨ZcK HR.out.symm,HBa.out⟩
    | true=>
     go_wp2_with fail;refine (ZcR name r.pf _).mono ?_;rintro e w2 ⟨rfl,rfl⟩
     cases hq:Zbb name r.pf with
     | false=>
      have HR:Hid (num (ZbH Ts r kind team name)=0):=ZdO (by rw [HE.out,hq];simp);go_wp2;go_ret;exact⟨ZcK HR.out.symm,HBa.out⟩
     | true=>
      have HR:Hid (num (ZbH Ts r kind team name)=num (ZeM r.vb)):=Zfe (by rw [HE.out,hq];simp [h3,h4]);go_wp2_with fail;refine (Zdf lr _ r.vb _ (HV.out.below HBa.out)).mono ?_;rintro e w3 ⟨rfl,rfl⟩;go_wp2;go_ret;exact⟨ZcK HR.out.symm,HBa.out⟩
theorem Za5 (lr:Nat) (r:Ru) (vv:Value) (v:Int) (w:World) (hv:Zap lr w vv r.vb) :
 Calls prog 77 #[.agg #[vv,.string r.kd,.string r.tm,.string r.pf],.int .i64 v] w fun e w'=>e=.returned (.bool (ZeM r.vb v))∧Zw_ w w':=by
 have HV:=Zab hv;have hm:=hv.max;unfold maxLen at hm;obtain⟨a,cap,rfl⟩:=hv.form;clear hv;go_enter func77,ntmps77;go_wp2;generalize hWa:w.alloc _=Wa;have HBa:Hid (Zw_ w Wa):=by rw [← hWa];exact Zac _ _
 have FA:Hid (Box Wa w.heap.size #[.slice a r.vb.length cap,.string r.kd,.string r.tm,.string r.pf]):=by rw [← hWa];exact Box.new _ _ _ _ rfl
 clear hWa;have g0:Wa.cell? ⟨w.heap.size,0,none⟩=some (.slice a r.vb.length cap):=FA.out.cell 0
 go_loop [5] (fun i=>∃ k:Nat,i=.int .i64 k∧k≤r.vb.length∧∀ j (hj:j < r.vb.length),j < k→(r.vb[j] == v)=false) (fun i=>r.vb.length - (intOf i).toNat)
 case atStart=>exact⟨0,rfl,by omega,fun j _ h=>by omega⟩
 case round=>
  obtain⟨k,rfl,hk,hall⟩:=hrel;have HA:=Zab hall;clear hall
  by_cases hlt:k < r.vb.length
  · obtain⟨b,off,rfl,hbw,hc⟩:=(HV.out.below HBa.out).full' (by omega)
    have c0:=hc k hlt;clear hc
    cases he:(r.vb[k] == v) with
    | true=>
     have he2:r.vb[k]=v:=by simpa using he
     go_wp2;go_ret;exact⟨Zaa (Zny hlt he).symm,HBa.out⟩
    | false=>
     have he2:¬ r.vb[k]=v:=by simpa using he
     go_wp2
     go_round
     case rel=>exact⟨k+1,by go_num,by omega,fun j hj h=>by
                by_cases e:j=k
                · subst e;exact he
                · exact HA.out j hj (by omega)⟩
     case measure=>simp [intOf];omega
  · go_wp2
    go_ret;exact⟨Zaa (Zrn fun j hj=>HA.out j hj (by omega)).symm,HBa.out⟩
theorem Zay (lr:Nat) (r:Ru) (vv:Value) (w:World) (hv:Zap lr w vv r.vb) (hz:Zdk r) :
 Calls prog 107 #[.agg #[vv,.string r.kd,.string r.tm,.string r.pf]] w fun e w'=>e=.returned (.bool (ZaS r))∧Zw_ w w':=by
 have HV:=Zab hv;have HZ:=Zab hz;have hm:=hv.max;unfold maxLen at hm;have hsz:=hz.s3;unfold maxLen at hsz;obtain⟨a,cap,rfl⟩:=hv.form;clear hv hz
 by_cases hpos:0 < r.vb.length
 case neg=>
  have HR:Hid (ZaS r=false):=by unfold Hid ZaS ZkO;rw [decide_eq_false hpos];rfl
  have h0:r.vb.length=0:=by omega
  rw [h0];clear hm;go_enter func107,ntmps107;go_wp2;go_ret;exact⟨Zaa HR.out.symm,Zac _ _⟩
 have HPOS:=Zab hpos;have hbl:((r.vb.length:Int) == 0)=false:=by rw [beq_eq_false_iff_ne];omega
 have hnil:¬ r.vb=[]:=fun e=>by rw [e] at hpos;simp at hpos
 by_cases h16:(r.pf.size:Int)≤16
 case neg=>
  have HR:Hid (ZaS r=false):=by unfold Hid ZaS;rw [decide_eq_false h16];simp
  have h16':(16:Int) < r.pf.size:=by omega
  go_enter func107,ntmps107;go_wp2;go_ret;exact⟨Zaa HR.out.symm,Zac _ _⟩
 have h16p:¬ (16:Int) < r.pf.size:=by omega
 cases h1:r.kd.toList.isEmpty with
 | true=>
  have HKD:Hid (Zak r.kd=true):=by unfold Hid Zak;rw [h1];rfl
  cases h3:r.tm.toList.isEmpty with
  | true=>
   have HTM:Hid (Zak r.tm=true):=by unfold Hid Zak;rw [h3];rfl
   go_enter func107,ntmps107;go_wp2
   try simp only [hbl]
   try simp only [h2]
   try simp only [h4]
   generalize hWa:w.alloc _=Wa;have HBa:Hid (Zw_ w Wa):=by rw [← hWa];exact Zac _ _
   have FA:Hid (Box Wa w.heap.size #[.slice a r.vb.length cap,.string r.kd,.string r.tm,.string r.pf]):=by rw [← hWa];exact Box.new _ _ _ _ rfl
   clear hWa;have HVa:=Zab (HV.out.below HBa.out)
   go_loopw [3] (fun i wr=>∃ k:Nat,i=.int .i64 k∧k≤r.vb.length∧Below Wa.heap.size Wa wr∧∀ i,i < k→vAt r.vb i=true) (fun i _=>r.vb.length - (intOf i).toNat)
   case atStart=>exact⟨0,rfl,by omega,Below.refl _ _,fun i h=>by omega⟩
   case round=>
    obtain⟨k,rfl,hk,hb,hall⟩:=hrel;have HA:=Zab hall;have HB:=Zab hb;clear hall hb;have g0:wr.cell? ⟨w.heap.size,0,none⟩=some (.slice a r.vb.length cap):=(FA.out.on HB.out).cell 0;have g3:wr.cell? ⟨w.heap.size,3,none⟩=some (.string r.pf):=(FA.out.on HB.out).cell 3;have HX0:Hid (Zw_ w wr):=bt HBa.out HB.out;obtain⟨b,off,rfl,hbw,hc⟩:=(HVa.out.below HB.out).full' hpos
    by_cases hlt:k < r.vb.length
    · have c0:=hc k hlt
      cases hi:inB 1 5 r.vb[k] with
      | false=>
       have HR:Hid (ZaS r=false):=by unfold Hid ZaS;rw [Zek hlt (ZhU hlt hi)];rfl
       cases k with
       | zero=>
        have c0:wr.cell? ⟨b,off,none⟩=some (.int .i64 r.vb[0]):=by simpa using c0
        go_wp2
        go_quiet ((go_at_call 54;exact (Zal _ _ _ _).mono fun _ _ h=>⟨h.1,_,h.2⟩))
        go_wp2;go_ret;exact⟨Zaa HR.out.symm,below_drewN HX0.out _⟩
       | succ j=>
        go_wp2
        go_quiet ((go_at_call 54;exact (Zal _ _ _ _).mono fun _ _ h=>⟨h.1,_,h.2⟩))
        go_wp2;go_ret;exact⟨Zaa HR.out.symm,below_drewN HX0.out _⟩
      | true=>
       cases k with
       | zero=>
        have c0:wr.cell? ⟨b,off,none⟩=some (.int .i64 r.vb[0]):=by simpa using c0
        have HX:Hid (vAt r.vb 0=true):=by unfold Hid;rw [Zfq hlt];exact hi
        go_wp2
        go_quiet ((go_at_call 54;exact (Zal _ _ _ _).mono fun _ _ h=>⟨h.1,_,h.2⟩))
        go_wp2;go_roundw
        case rel=>exact⟨1,by go_num,by omega,below_drewN HB.out _,ZoW HX.out⟩
        case measure=>simp [intOf];omega
       | succ j=>
        have cj:=hc j (by omega);have hjw:IntKind.i64.wrap (j:Int)=j:=by rw [IntKind.wrap_i64];omega
        have hjl:j < r.vb.length:=by omega
        have hdl:decide ((j:Int)+1 < (r.vb.length:Int))=true:=by simp;omega
        have cj3:∀ n,(wr.drewN n).cell? ⟨b,off+j,none⟩=some (.int .i64 r.vb[j]):=fun n=>cj
        have c03:∀ n,(wr.drewN n).cell? ⟨b,off+(j+1),none⟩=some (.int .i64 r.vb[j+1]):=fun n=>c0
        by_cases hls:r.vb[j] < r.vb[j+1]
        · have HX:Hid (vAt r.vb (j+1)=true):=by unfold Hid;rw [Zcu hlt,hi,decide_eq_true hls];rfl
          go_wp2
          go_quiet ((go_at_call 54;exact (Zal _ _ _ _).mono fun _ _ h=>⟨h.1,_,h.2⟩))
          go_wp2;go_roundw
          case rel=>exact⟨j+2,by go_num,by omega,below_drewN HB.out _,fun i hi=>by
                     by_cases e:i=j+1
                     · subst e;exact HX.out
                     · exact HA.out i (by omega)⟩
          case measure=>simp [intOf];omega
        · have HR:Hid (ZaS r=false):=by unfold Hid ZaS;rw [Zek hlt (by rw [Zcu hlt,decide_eq_false hls];simp)];rfl
          go_wp2
          go_quiet ((go_at_call 54;exact (Zal _ _ _ _).mono fun _ _ h=>⟨h.1,_,h.2⟩))
          go_wp2;go_ret;exact⟨Zaa HR.out.symm,below_drewN HX0.out _⟩
    · have HR:Hid (ZaS r=Zfs Zas r.pf):=by
       unfold Hid ZaS;rw [Zg3 (by omega) HA.out,decide_eq_true HPOS.out,HKD.out,HTM.out,decide_eq_true h16];rfl
      go_wp2
      go_loop [4] (fun i=>∃ q:Nat,q≤r.pf.size∧i=.int .i64 q∧(r.pf.data.toList.take q).all Zas=true) (fun i=>r.pf.size - (intOf i).toNat)
      case atStart=>exact⟨0,Nat.zero_le _,rfl,rfl⟩
      case round=>
       obtain⟨q,hq,rfl,hallq⟩:=hrel;have HAQ:=Zab hallq;clear hallq
       by_cases hltq:q < r.pf.size
       · by_cases hn:Zas r.pf[q]=true
         · go_wp2_with (go_at_call 112;refine (Zct _ _).mono ?_;rintro e w' ⟨rfl,rfl⟩)
           go_round
           case rel=>exact⟨q+1,by omega,by go_num,Zb6 HAQ.out hltq hn⟩
           case measure=>simp [intOf];omega
         · have hn':Zas r.pf[q]=false:=by simpa using hn
           go_wp2_with (go_at_call 112;refine (Zct _ _).mono ?_;rintro e w' ⟨rfl,rfl⟩);go_ret;exact⟨Zaa (by rw [HR.out,Zb7 hltq hn']),HX0.out⟩
       · go_wp2
         go_ret;exact⟨Zaa (by rw [HR.out,ZcF HAQ.out (by omega)]),HX0.out⟩
  | false=>
   have HTE:Hid (Zak r.tm=Zaj r.tm):=by unfold Hid Zak;rw [h3];rfl
   go_enter func107,ntmps107;go_wp2_with fail;refine (Zad r.tm _ HZ.out.s2).mono ?_;rintro e w2 ⟨rfl,rfl⟩
   cases h4:Zaj r.tm with
   | false=>
    have HR:Hid (ZaS r=false):=by unfold Hid ZaS;rw [HTE.out,h4];simp
    go_wp2;go_ret;exact⟨Zaa HR.out.symm,Zac _ _⟩
   | true=>
    have HTM:Hid (Zak r.tm=true):=by unfold Hid;rw [HTE.out,h4]
    go_wp2
    try simp only [hbl]
    try simp only [h2]
    try simp only [h4]
    generalize hWa:w.alloc _=Wa;have HBa:Hid (Zw_ w Wa):=by rw [← hWa];exact Zac _ _
    have FA:Hid (Box Wa w.heap.size #[.slice a r.vb.length cap,.string r.kd,.string r.tm,.string r.pf]):=by rw [← hWa];exact Box.new _ _ _ _ rfl
    clear hWa;have HVa:=Zab (HV.out.below HBa.out)
    go_loopw [3] (fun i wr=>∃ k:Nat,i=.int .i64 k∧k≤r.vb.length∧Below Wa.heap.size Wa wr∧∀ i,i < k→vAt r.vb i=true) (fun i _=>r.vb.length - (intOf i).toNat)
    case atStart=>exact⟨0,rfl,by omega,Below.refl _ _,fun i h=>by omega⟩
    case round=>
     obtain⟨k,rfl,hk,hb,hall⟩:=hrel;have HA:=Zab hall;have HB:=Zab hb;clear hall hb;have g0:wr.cell? ⟨w.heap.size,0,none⟩=some (.slice a r.vb.length cap):=(FA.out.on HB.out).cell 0;have g3:wr.cell? ⟨w.heap.size,3,none⟩=some (.string r.pf):=(FA.out.on HB.out).cell 3;have HX0:Hid (Zw_ w wr):=bt HBa.out HB.out;obtain⟨b,off,rfl,hbw,hc⟩:=(HVa.out.below HB.out).full' hpos
     by_cases hlt:k < r.vb.length
     · have c0:=hc k hlt
       cases hi:inB 1 5 r.vb[k] with
       | false=>
        have HR:Hid (ZaS r=false):=by unfold Hid ZaS;rw [Zek hlt (ZhU hlt hi)];rfl
        cases k with
        | zero=>
         have c0:wr.cell? ⟨b,off,none⟩=some (.int .i64 r.vb[0]):=by simpa using c0
         go_wp2
         go_quiet ((go_at_call 54;exact (Zal _ _ _ _).mono fun _ _ h=>⟨h.1,_,h.2⟩))
         go_wp2;go_ret;exact⟨Zaa HR.out.symm,below_drewN HX0.out _⟩
        | succ j=>
         go_wp2
         go_quiet ((go_at_call 54;exact (Zal _ _ _ _).mono fun _ _ h=>⟨h.1,_,h.2⟩))
         go_wp2;go_ret;exact⟨Zaa HR.out.symm,below_drewN HX0.out _⟩
       | true=>
        cases k with
        | zero=>
         have c0:wr.cell? ⟨b,off,none⟩=some (.int .i64 r.vb[0]):=by simpa using c0
         have HX:Hid (vAt r.vb 0=true):=by unfold Hid;rw [Zfq hlt];exact hi
         go_wp2
         go_quiet ((go_at_call 54;exact (Zal _ _ _ _).mono fun _ _ h=>⟨h.1,_,h.2⟩))
         go_wp2;go_roundw
         case rel=>exact⟨1,by go_num,by omega,below_drewN HB.out _,ZoW HX.out⟩
         case measure=>simp [intOf];omega
        | succ j=>
         have cj:=hc j (by omega);have hjw:IntKind.i64.wrap (j:Int)=j:=by rw [IntKind.wrap_i64];omega
         have hjl:j < r.vb.length:=by omega
         have hdl:decide ((j:Int)+1 < (r.vb.length:Int))=true:=by simp;omega
         have cj3:∀ n,(wr.drewN n).cell? ⟨b,off+j,none⟩=some (.int .i64 r.vb[j]):=fun n=>cj
         have c03:∀ n,(wr.drewN n).cell? ⟨b,off+(j+1),none⟩=some (.int .i64 r.vb[j+1]):=fun n=>c0
         by_cases hls:r.vb[j] < r.vb[j+1]
         · have HX:Hid (vAt r.vb (j+1)=true):=by unfold Hid;rw [Zcu hlt,hi,decide_eq_true hls];rfl
           go_wp2
           go_quiet ((go_at_call 54;exact (Zal _ _ _ _).mono fun _ _ h=>⟨h.1,_,h.2⟩))
           go_wp2;go_roundw
           case rel=>exact⟨j+2,by go_num,by omega,below_drewN HB.out _,fun i hi=>by
                      by_cases e:i=j+1
                      · subst e;exact HX.out
                      · exact HA.out i (by omega)⟩
           case measure=>simp [intOf];omega
         · have HR:Hid (ZaS r=false):=by unfold Hid ZaS;rw [Zek hlt (by rw [Zcu hlt,decide_eq_false hls];simp)];rfl
           go_wp2
           go_quiet ((go_at_call 54;exact (Zal _ _ _ _).mono fun _ _ h=>⟨h.1,_,h.2⟩))
           go_wp2;go_ret;exact⟨Zaa HR.out.symm,below_drewN HX0.out _⟩
     · have HR:Hid (ZaS r=Zfs Zas r.pf):=by
        unfold Hid ZaS;rw [Zg3 (by omega) HA.out,decide_eq_true HPOS.out,HKD.out,HTM.out,decide_eq_true h16];rfl
       go_wp2
       go_loop [4] (fun i=>∃ q:Nat,q≤r.pf.size∧i=.int .i64 q∧(r.pf.data.toList.take q).all Zas=true) (fun i=>r.pf.size - (intOf i).toNat)
       case atStart=>exact⟨0,Nat.zero_le _,rfl,rfl⟩
       case round=>
        obtain⟨q,hq,rfl,hallq⟩:=hrel;have HAQ:=Zab hallq;clear hallq
        by_cases hltq:q < r.pf.size
        · by_cases hn:Zas r.pf[q]=true
          · go_wp2_with (go_at_call 112;refine (Zct _ _).mono ?_;rintro e w' ⟨rfl,rfl⟩)
            go_round
            case rel=>exact⟨q+1,by omega,by go_num,Zb6 HAQ.out hltq hn⟩
            case measure=>simp [intOf];omega
          · have hn':Zas r.pf[q]=false:=by simpa using hn
            go_wp2_with (go_at_call 112;refine (Zct _ _).mono ?_;rintro e w' ⟨rfl,rfl⟩);go_ret;exact⟨Zaa (by rw [HR.out,Zb7 hltq hn']),HX0.out⟩
        · go_wp2
          go_ret;exact⟨Zaa (by rw [HR.out,ZcF HAQ.out (by omega)]),HX0.out⟩
 | false=>
  have HKE:Hid (Zak r.kd=Zaj r.kd):=by unfold Hid Zak;rw [h1];rfl
  go_enter func107,ntmps107;go_wp2_with fail;refine (Zad r.kd _ HZ.out.s1).mono ?_;rintro e w1 ⟨rfl,rfl⟩
  cases h2:Zaj r.kd with
  | false=>
   have HR:Hid (ZaS r=false):=by unfold Hid ZaS;rw [HKE.out,h2];simp
   go_wp2;go_ret;exact⟨Zaa HR.out.symm,Zac _ _⟩
  | true=>
   have HKD:Hid (Zak r.kd=true):=by unfold Hid;rw [HKE.out,h2]
   cases h3:r.tm.toList.isEmpty with
   | true=>
    have HTM:Hid (Zak r.tm=true):=by unfold Hid Zak;rw [h3];rfl
    go_wp2
    try simp only [hbl]
    try simp only [h2]
    try simp only [h4]
    generalize hWa:w.alloc _=Wa;have HBa:Hid (Zw_ w Wa):=by rw [← hWa];exact Zac _ _
    have FA:Hid (Box Wa w.heap.size #[.slice a r.vb.length cap,.string r.kd,.string r.tm,.string r.pf]):=by rw [← hWa];exact Box.new _ _ _ _ rfl
    clear hWa;have HVa:=Zab (HV.out.below HBa.out)
    go_loopw [3] (fun i wr=>∃ k:Nat,i=.int .i64 k∧k≤r.vb.length∧Below Wa.heap.size Wa wr∧∀ i,i < k→vAt r.vb i=true) (fun i _=>r.vb.length - (intOf i).toNat)
    case atStart=>exact⟨0,rfl,by omega,Below.refl _ _,fun i h=>by omega⟩
    case round=>
     obtain⟨k,rfl,hk,hb,hall⟩:=hrel;have HA:=Zab hall;have HB:=Zab hb;clear hall hb;have g0:wr.cell? ⟨w.heap.size,0,none⟩=some (.slice a r.vb.length cap):=(FA.out.on HB.out).cell 0;have g3:wr.cell? ⟨w.heap.size,3,none⟩=some (.string r.pf):=(FA.out.on HB.out).cell 3;have HX0:Hid (Zw_ w wr):=bt HBa.out HB.out;obtain⟨b,off,rfl,hbw,hc⟩:=(HVa.out.below HB.out).full' hpos
     by_cases hlt:k < r.vb.length
     · have c0:=hc k hlt
       cases hi:inB 1 5 r.vb[k] with
       | false=>
        have HR:Hid (ZaS r=false):=by unfold Hid ZaS;rw [Zek hlt (ZhU hlt hi)];rfl
        cases k with
        | zero=>
         have c0:wr.cell? ⟨b,off,none⟩=some (.int .i64 r.vb[0]):=by simpa using c0
         go_wp2
         go_quiet ((go_at_call 54;exact (Zal _ _ _ _).mono fun _ _ h=>⟨h.1,_,h.2⟩))
         go_wp2;go_ret;exact⟨Zaa HR.out.symm,below_drewN HX0.out _⟩
        | succ j=>
         go_wp2
         go_quiet ((go_at_call 54;exact (Zal _ _ _ _).mono fun _ _ h=>⟨h.1,_,h.2⟩))
         go_wp2;go_ret;exact⟨Zaa HR.out.symm,below_drewN HX0.out _⟩
       | true=>
        cases k with
        | zero=>
         have c0:wr.cell? ⟨b,off,none⟩=some (.int .i64 r.vb[0]):=by simpa using c0
         have HX:Hid (vAt r.vb 0=true):=by unfold Hid;rw [Zfq hlt];exact hi
         go_wp2
         go_quiet ((go_at_call 54;exact (Zal _ _ _ _).mono fun _ _ h=>⟨h.1,_,h.2⟩))
         go_wp2;go_roundw
         case rel=>exact⟨1,by go_num,by omega,below_drewN HB.out _,ZoW HX.out⟩
         case measure=>simp [intOf];omega
        | succ j=>
         have cj:=hc j (by omega);have hjw:IntKind.i64.wrap (j:Int)=j:=by rw [IntKind.wrap_i64];omega
         have hjl:j < r.vb.length:=by omega
         have hdl:decide ((j:Int)+1 < (r.vb.length:Int))=true:=by simp;omega
         have cj3:∀ n,(wr.drewN n).cell? ⟨b,off+j,none⟩=some (.int .i64 r.vb[j]):=fun n=>cj
         have c03:∀ n,(wr.drewN n).cell? ⟨b,off+(j+1),none⟩=some (.int .i64 r.vb[j+1]):=fun n=>c0
         by_cases hls:r.vb[j] < r.vb[j+1]
         · have HX:Hid (vAt r.vb (j+1)=true):=by unfold Hid;rw [Zcu hlt,hi,decide_eq_true hls];rfl
           go_wp2
           go_quiet ((go_at_call 54;exact (Zal _ _ _ _).mono fun _ _ h=>⟨h.1,_,h.2⟩))
           go_wp2;go_roundw
           case rel=>exact⟨j+2,by go_num,by omega,below_drewN HB.out _,fun i hi=>by
                      by_cases e:i=j+1
                      · subst e;exact HX.out
                      · exact HA.out i (by omega)⟩
           case measure=>simp [intOf];omega
         · have HR:Hid (ZaS r=false):=by unfold Hid ZaS;rw [Zek hlt (by rw [Zcu hlt,decide_eq_false hls];simp)];rfl
           go_wp2
           go_quiet ((go_at_call 54;exact (Zal _ _ _ _).mono fun _ _ h=>⟨h.1,_,h.2⟩))
           go_wp2;go_ret;exact⟨Zaa HR.out.symm,below_drewN HX0.out _⟩
     · have HR:Hid (ZaS r=Zfs Zas r.pf):=by
        unfold Hid ZaS;rw [Zg3 (by omega) HA.out,decide_eq_true HPOS.out,HKD.out,HTM.out,decide_eq_true h16];rfl
       go_wp2
       go_loop [4] (fun i=>∃ q:Nat,q≤r.pf.size∧i=.int .i64 q∧(r.pf.data.toList.take q).all Zas=true) (fun i=>r.pf.size - (intOf i).toNat)
       case atStart=>exact⟨0,Nat.zero_le _,rfl,rfl⟩
       case round=>
        obtain⟨q,hq,rfl,hallq⟩:=hrel;have HAQ:=Zab hallq;clear hallq
        by_cases hltq:q < r.pf.size
        · by_cases hn:Zas r.pf[q]=true
          · go_wp2_with (go_at_call 112;refine (Zct _ _).mono ?_;rintro e w' ⟨rfl,rfl⟩)
            go_round
            case rel=>exact⟨q+1,by omega,by go_num,Zb6 HAQ.out hltq hn⟩
            case measure=>simp [intOf];omega
          · have hn':Zas r.pf[q]=false:=by simpa using hn
            go_wp2_with (go_at_call 112;refine (Zct _ _).mono ?_;rintro e w' ⟨rfl,rfl⟩);go_ret;exact⟨Zaa (by rw [HR.out,Zb7 hltq hn']),HX0.out⟩
        · go_wp2
          go_ret;exact⟨Zaa (by rw [HR.out,ZcF HAQ.out (by omega)]),HX0.out⟩
   | false=>
    have HTE:Hid (Zak r.tm=Zaj r.tm):=by unfold Hid Zak;rw [h3];rfl
    go_wp2_with fail;refine (Zad r.tm _ HZ.out.s2).mono ?_;rintro e w2 ⟨rfl,rfl⟩
    cases h4:Zaj r.tm with
    | false=>
     have HR:Hid (ZaS r=false):=by unfold Hid ZaS;rw [HTE.out,h4];simp
     go_wp2;go_ret;exact⟨Zaa HR.out.symm,Zac _ _⟩
    | true=>
     have HTM:Hid (Zak r.tm=true):=by unfold Hid;rw [HTE.out,h4]
     go_wp2
     try simp only [hbl]
     try simp only [h2]
     try simp only [h4]
     generalize hWa:w.alloc _=Wa;have HBa:Hid (Zw_ w Wa):=by rw [← hWa];exact Zac _ _
     have FA:Hid (Box Wa w.heap.size #[.slice a r.vb.length cap,.string r.kd,.string r.tm,.string r.pf]):=by rw [← hWa];exact Box.new _ _ _ _ rfl
     clear hWa;have HVa:=Zab (HV.out.below HBa.out)
     go_loopw [3] (fun i wr=>∃ k:Nat,i=.int .i64 k∧k≤r.vb.length∧Below Wa.heap.size Wa wr∧∀ i,i < k→vAt r.vb i=true) (fun i _=>r.vb.length - (intOf i).toNat)
     case atStart=>exact⟨0,rfl,by omega,Below.refl _ _,fun i h=>by omega⟩
     case round=>
      obtain⟨k,rfl,hk,hb,hall⟩:=hrel;have HA:=Zab hall;have HB:=Zab hb;clear hall hb;have g0:wr.cell? ⟨w.heap.size,0,none⟩=some (.slice a r.vb.length cap):=(FA.out.on HB.out).cell 0;have g3:wr.cell? ⟨w.heap.size,3,none⟩=some (.string r.pf):=(FA.out.on HB.out).cell 3;have HX0:Hid (Zw_ w wr):=bt HBa.out HB.out;obtain⟨b,off,rfl,hbw,hc⟩:=(HVa.out.below HB.out).full' hpos
      by_cases hlt:k < r.vb.length
      · have c0:=hc k hlt
        cases hi:inB 1 5 r.vb[k] with
        | false=>
         have HR:Hid (ZaS r=false):=by unfold Hid ZaS;rw [Zek hlt (ZhU hlt hi)];rfl
         cases k with
         | zero=>
          have c0:wr.cell? ⟨b,off,none⟩=some (.int .i64 r.vb[0]):=by simpa using c0
          go_wp2
          go_quiet ((go_at_call 54;exact (Zal _ _ _ _).mono fun _ _ h=>⟨h.1,_,h.2⟩))
          go_wp2;go_ret;exact⟨Zaa HR.out.symm,below_drewN HX0.out _⟩
         | succ j=>
          go_wp2
          go_quiet ((go_at_call 54;exact (Zal _ _ _ _).mono fun _ _ h=>⟨h.1,_,h.2⟩))
          go_wp2;go_ret;exact⟨Zaa HR.out.symm,below_drewN HX0.out _⟩
        | true=>
         cases k with
         | zero=>
          have c0:wr.cell? ⟨b,off,none⟩=some (.int .i64 r.vb[0]):=by simpa using c0
          have HX:Hid (vAt r.vb 0=true):=by unfold Hid;rw [Zfq hlt];exact hi
          go_wp2
          go_quiet ((go_at_call 54;exact (Zal _ _ _ _).mono fun _ _ h=>⟨h.1,_,h.2⟩))
          go_wp2;go_roundw
          case rel=>exact⟨1,by go_num,by omega,below_drewN HB.out _,ZoW HX.out⟩
          case measure=>simp [intOf];omega
         | succ j=>
          have cj:=hc j (by omega);have hjw:IntKind.i64.wrap (j:Int)=j:=by rw [IntKind.wrap_i64];omega
          have hjl:j < r.vb.length:=by omega
          have hdl:decide ((j:Int)+1 < (r.vb.length:Int))=true:=by simp;omega
          have cj3:∀ n,(wr.drewN n).cell? ⟨b,off+j,none⟩=some (.int .i64 r.vb[j]):=fun n=>cj
          have c03:∀ n,(wr.drewN n).cell? ⟨b,off+(j+1),none⟩=some (.int .i64 r.vb[j+1]):=fun n=>c0
          by_cases hls:r.vb[j] < r.vb[j+1]
          · have HX:Hid (vAt r.vb (j+1)=true):=by unfold Hid;rw [Zcu hlt,hi,decide_eq_true hls];rfl
            go_wp2
            go_quiet ((go_at_call 54;exact (Zal _ _ _ _).mono fun _ _ h=>⟨h.1,_,h.2⟩))
            go_wp2;go_roundw
            case rel=>exact⟨j+2,by go_num,by omega,below_drewN HB.out _,fun i hi=>by
                       by_cases e:i=j+1
                       · subst e;exact HX.out
                       · exact HA.out i (by omega)⟩
            case measure=>simp [intOf];omega
          · have HR:Hid (ZaS r=false):=by unfold Hid ZaS;rw [Zek hlt (by rw [Zcu hlt,decide_eq_false hls];simp)];rfl
            go_wp2
            go_quiet ((go_at_call 54;exact (Zal _ _ _ _).mono fun _ _ h=>⟨h.1,_,h.2⟩))
            go_wp2;go_ret;exact⟨Zaa HR.out.symm,below_drewN HX0.out _⟩
      · have HR:Hid (ZaS r=Zfs Zas r.pf):=by
         unfold Hid ZaS;rw [Zg3 (by omega) HA.out,decide_eq_true HPOS.out,HKD.out,HTM.out,decide_eq_true h16];rfl
        go_wp2
        go_loop [4] (fun i=>∃ q:Nat,q≤r.pf.size∧i=.int .i64 q∧(r.pf.data.toList.take q).all Zas=true) (fun i=>r.pf.size - (intOf i).toNat)
        case atStart=>exact⟨0,Nat.zero_le _,rfl,rfl⟩
        case round=>
         obtain⟨q,hq,rfl,hallq⟩:=hrel;have HAQ:=Zab hallq;clear hallq
         by_cases hltq:q < r.pf.size
         · by_cases hn:Zas r.pf[q]=true
           · go_wp2_with (go_at_call 112;refine (Zct _ _).mono ?_;rintro e w' ⟨rfl,rfl⟩)
             go_round
             case rel=>exact⟨q+1,by omega,by go_num,Zb6 HAQ.out hltq hn⟩
             case measure=>simp [intOf];omega
           · have hn':Zas r.pf[q]=false:=by simpa using hn
             go_wp2_with (go_at_call 112;refine (Zct _ _).mono ?_;rintro e w' ⟨rfl,rfl⟩);go_ret;exact⟨Zaa (by rw [HR.out,Zb7 hltq hn']),HX0.out⟩
         · go_wp2
           go_ret;exact⟨Zaa (by rw [HR.out,ZcF HAQ.out (by omega)]),HX0.out⟩
end Go.Proofs.YtcfjmagkinpaeaaGreat
