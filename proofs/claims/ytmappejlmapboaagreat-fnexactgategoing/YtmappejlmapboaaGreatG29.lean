import Derived.Test.YtmappejlmapboaaGreatG25
set_option maxHeartbeats 16000000
set_option maxRecDepth 100000
open Go.Proofs.Tryz
namespace Go.Proofs.YtmappejlmapboaaGreat
open Go.RowKit Go.Deep
theorem ZaE (lr:Nat) (r:Ru) (vv:Value) (w:World) (hv:Zat lr w vv r.vb) (hz:Zg6 r) :
 Calls prog 133 #[.agg #[vv,.string r.kd,.string r.tm,.string r.pf]] w fun e w'=>e=.returned (.bool (ZaW r))/\Zw_ w w':=by
 have HV:=Zab hv;have HZ:=Zab hz;have hm:=hv.max;unfold maxLen at hm;have hsz:=hz.s3;unfold maxLen at hsz;obtain⟨a,cap,rfl⟩:=hv.form;clear hv hz
 by_cases hpos:0 < r.vb.length
 case neg=>
  have HR:Hd (ZaW r=false):=by unfold Hd ZaW Zov;rw [decide_eq_false hpos];rfl
  have h0:r.vb.length=0:=by omega
  rw [h0];clear hm;go_enter func133,ntmps133;go_wp2;go_ret;exact⟨Zaa HR.o.symm,Zac _ _⟩
 have HPOS:=Zab hpos;have hbl:((r.vb.length:Int) == 0)=false:=by rw [beq_eq_false_iff_ne];omega
 have hnil:¬ r.vb=[]:=fun e=>by rw [e] at hpos;simp at hpos
 by_cases h16:(r.pf.size:Int)<=16
 case neg=>
  have HR:Hd (ZaW r=false):=by unfold Hd ZaW;rw [decide_eq_false h16];simp
  have h16':(16:Int) < r.pf.size:=by omega
  go_enter func133,ntmps133;go_wp2;go_ret;exact⟨Zaa HR.o.symm,Zac _ _⟩
 have h16p:¬ (16:Int) < r.pf.size:=by omega
 cases h1:r.kd.toList.isEmpty with
 | true=>
  have HKD:Hd (Zai r.kd=true):=by unfold Hd Zai;rw [h1];rfl
  cases h3:r.tm.toList.isEmpty with
  | true=>
   have HTM:Hd (Zai r.tm=true):=by unfold Hd Zai;rw [h3];rfl
   go_enter func133,ntmps133;go_wp2
   try simp only [hbl]
   try simp only [h2]
   try simp only [h4]
   generalize hWa:w.alloc _=Wa;have HBa:Hd (Zw_ w Wa):=by rw [<- hWa];exact Zac _ _
   have FA:Hd (Box Wa w.heap.size #[.slice a r.vb.length cap,.string r.kd,.string r.tm,.string r.pf]):=by rw [<- hWa];exact Box.new _ _ _ _ rfl
   clear hWa;have HVa:=Zab (HV.o.below HBa.o)
   go_loopw [3] (fun i wr=>∃ k:Nat,i=.int .i64 k/\k<=r.vb.length/\Below Wa.heap.size Wa wr/\∀ i,i < k->vAt r.vb i=true) (fun i _=>r.vb.length - (intOf i).toNat)
   case atStart=>exact⟨0,rfl,by omega,Below.refl _ _,fun i h=>by omega⟩
   case round=>
    obtain⟨k,rfl,hk,hb,hall⟩:=hrel;have HA:=Zab hall;have HB:=Zab hb;clear hall hb;have g0:wr.cell? ⟨w.heap.size,0,none⟩=some (.slice a r.vb.length cap):=(FA.o.on HB.o).cell 0;have g3:wr.cell? ⟨w.heap.size,3,none⟩=some (.string r.pf):=(FA.o.on HB.o).cell 3;have HX0:Hd (Zw_ w wr):=bt HBa.o HB.o;obtain⟨b,off,rfl,hbw,hc⟩:=(HVa.o.below HB.o).full' hpos
    by_cases hlt:k < r.vb.length
    . have c0:=hc k hlt
      cases hi:inB 1 5 r.vb[k] with
      | false=>
       have HR:Hd (ZaW r=false):=by unfold Hd ZaW;rw [ZeL hlt (ZiU hlt hi)];rfl
       cases k with
       | zero=>
        have c0:wr.cell? ⟨b,off,none⟩=some (.int .i64 r.vb[0]):=by simpa using c0
        go_wp2
        go_quiet ((go_at_call 82;exact (Zao _ _ _ _).mono fun _ _ h=>⟨h.1,_,h.2⟩))
        go_wp2;go_ret;exact⟨Zaa HR.o.symm,below_drewN HX0.o _⟩
       | succ j=>
        go_wp2
        go_quiet ((go_at_call 82;exact (Zao _ _ _ _).mono fun _ _ h=>⟨h.1,_,h.2⟩))
        go_wp2;go_ret;exact⟨Zaa HR.o.symm,below_drewN HX0.o _⟩
      | true=>
       cases k with
       | zero=>
        have c0:wr.cell? ⟨b,off,none⟩=some (.int .i64 r.vb[0]):=by simpa using c0
        have HX:Hd (vAt r.vb 0=true):=by unfold Hd;rw [ZfY hlt];exact hi
        go_wp2
        go_quiet ((go_at_call 82;exact (Zao _ _ _ _).mono fun _ _ h=>⟨h.1,_,h.2⟩))
        go_wp2;go_roundw
        . exact⟨1,by go_num,by omega,below_drewN HB.o _,Zqw HX.o⟩
        . simp [intOf];omega
       | succ j=>
        have cj:=hc j (by omega);have hjw:IntKind.i64.wrap (j:Int)=j:=by rw [IntKind.wrap_i64];omega
        have hjl:j < r.vb.length:=by omega
        have hdl:decide ((j:Int)+1 < (r.vb.length:Int))=true:=by simp;omega
        have cj3:∀ n,(wr.drewN n).cell? ⟨b,off+j,none⟩=some (.int .i64 r.vb[j]):=fun n=>cj
        have c03:∀ n,(wr.drewN n).cell? ⟨b,off+(j+1),none⟩=some (.int .i64 r.vb[j+1]):=fun n=>c0
        by_cases hls:r.vb[j] < r.vb[j+1]
        . have HX:Hd (vAt r.vb (j+1)=true):=by unfold Hd;rw [ZcC hlt,hi,decide_eq_true hls];rfl
          go_wp2
          go_quiet ((go_at_call 82;exact (Zao _ _ _ _).mono fun _ _ h=>⟨h.1,_,h.2⟩))
          go_wp2;go_roundw
          case rel=>exact⟨j+2,by go_num,by omega,below_drewN HB.o _,fun i hi=>by
                     by_cases e:i=j+1
                     . subst e;exact HX.o
                     . exact HA.o i (by omega)⟩
          . simp [intOf];omega
        . have HR:Hd (ZaW r=false):=by unfold Hd ZaW;rw [ZeL hlt (by rw [ZcC hlt,decide_eq_false hls];simp)];rfl
          go_wp2
          go_quiet ((go_at_call 82;exact (Zao _ _ _ _).mono fun _ _ h=>⟨h.1,_,h.2⟩))
          go_wp2;go_ret;exact⟨Zaa HR.o.symm,below_drewN HX0.o _⟩
    . have HR:Hd (ZaW r=Zf1 Zaw r.pf):=by
       unfold Hd ZaW;rw [ZhN (by omega) HA.o,decide_eq_true HPOS.o,HKD.o,HTM.o,decide_eq_true h16];rfl
      go_wp2
      go_loop [4] (fun i=>∃ q:Nat,q<=r.pf.size/\i=.int .i64 q/\(r.pf.data.toList.take q).all Zaw=true) (fun i=>r.pf.size - (intOf i).toNat)
      case atStart=>exact⟨0,Nat.zero_le _,rfl,rfl⟩
      case round=>
       obtain⟨q,hq,rfl,hallq⟩:=hrel;have HAQ:=Zab hallq;clear hallq
       by_cases hltq:q < r.pf.size
       . by_cases hn:Zaw r.pf[q]=true
         . go_wp2_with (go_at_call 175;refine (ZcA _ _).mono ?_;rintro e w' ⟨rfl,rfl⟩)
           go_round
           . exact⟨q+1,by omega,by go_num,Zcb HAQ.o hltq hn⟩
           . simp [intOf];omega
         . have hn':Zaw r.pf[q]=false:=by simpa using hn
           go_wp2_with (go_at_call 175;refine (ZcA _ _).mono ?_;rintro e w' ⟨rfl,rfl⟩);go_ret;exact⟨Zaa (by rw [HR.o,Zcc hltq hn']),HX0.o⟩
       . go_wp2
         go_ret;exact⟨Zaa (by rw [HR.o,ZcP HAQ.o (by omega)]),HX0.o⟩
  | false=>
   have HTE:Hd (Zai r.tm=Zap r.tm):=by unfold Hd Zai;rw [h3];rfl
   go_enter func133,ntmps133;go_wp2_with fail;refine (Zae r.tm _ HZ.o.s2).mono ?_;rintro e w2 ⟨rfl,rfl⟩
   cases h4:Zap r.tm with
   | false=>
    have HR:Hd (ZaW r=false):=by unfold Hd ZaW;rw [HTE.o,h4];simp
    go_wp2;go_ret;exact⟨Zaa HR.o.symm,Zac _ _⟩
   | true=>
    have HTM:Hd (Zai r.tm=true):=by unfold Hd;rw [HTE.o,h4]
    go_wp2
    try simp only [hbl]
    try simp only [h2]
    try simp only [h4]
    generalize hWa:w.alloc _=Wa;have HBa:Hd (Zw_ w Wa):=by rw [<- hWa];exact Zac _ _
    have FA:Hd (Box Wa w.heap.size #[.slice a r.vb.length cap,.string r.kd,.string r.tm,.string r.pf]):=by rw [<- hWa];exact Box.new _ _ _ _ rfl
    clear hWa;have HVa:=Zab (HV.o.below HBa.o)
    go_loopw [3] (fun i wr=>∃ k:Nat,i=.int .i64 k/\k<=r.vb.length/\Below Wa.heap.size Wa wr/\∀ i,i < k->vAt r.vb i=true) (fun i _=>r.vb.length - (intOf i).toNat)
    case atStart=>exact⟨0,rfl,by omega,Below.refl _ _,fun i h=>by omega⟩
    case round=>
     obtain⟨k,rfl,hk,hb,hall⟩:=hrel;have HA:=Zab hall;have HB:=Zab hb;clear hall hb;have g0:wr.cell? ⟨w.heap.size,0,none⟩=some (.slice a r.vb.length cap):=(FA.o.on HB.o).cell 0;have g3:wr.cell? ⟨w.heap.size,3,none⟩=some (.string r.pf):=(FA.o.on HB.o).cell 3;have HX0:Hd (Zw_ w wr):=bt HBa.o HB.o;obtain⟨b,off,rfl,hbw,hc⟩:=(HVa.o.below HB.o).full' hpos
     by_cases hlt:k < r.vb.length
     . have c0:=hc k hlt
       cases hi:inB 1 5 r.vb[k] with
       | false=>
        have HR:Hd (ZaW r=false):=by unfold Hd ZaW;rw [ZeL hlt (ZiU hlt hi)];rfl
        cases k with
        | zero=>
         have c0:wr.cell? ⟨b,off,none⟩=some (.int .i64 r.vb[0]):=by simpa using c0
         go_wp2
         go_quiet ((go_at_call 82;exact (Zao _ _ _ _).mono fun _ _ h=>⟨h.1,_,h.2⟩))
         go_wp2;go_ret;exact⟨Zaa HR.o.symm,below_drewN HX0.o _⟩
        | succ j=>
         go_wp2
         go_quiet ((go_at_call 82;exact (Zao _ _ _ _).mono fun _ _ h=>⟨h.1,_,h.2⟩))
         go_wp2;go_ret;exact⟨Zaa HR.o.symm,below_drewN HX0.o _⟩
       | true=>
        cases k with
        | zero=>
         have c0:wr.cell? ⟨b,off,none⟩=some (.int .i64 r.vb[0]):=by simpa using c0
         have HX:Hd (vAt r.vb 0=true):=by unfold Hd;rw [ZfY hlt];exact hi
         go_wp2
         go_quiet ((go_at_call 82;exact (Zao _ _ _ _).mono fun _ _ h=>⟨h.1,_,h.2⟩))
         go_wp2;go_roundw
         . exact⟨1,by go_num,by omega,below_drewN HB.o _,Zqw HX.o⟩
         . simp [intOf];omega
        | succ j=>
         have cj:=hc j (by omega);have hjw:IntKind.i64.wrap (j:Int)=j:=by rw [IntKind.wrap_i64];omega
         have hjl:j < r.vb.length:=by omega
         have hdl:decide ((j:Int)+1 < (r.vb.length:Int))=true:=by simp;omega
         have cj3:∀ n,(wr.drewN n).cell? ⟨b,off+j,none⟩=some (.int .i64 r.vb[j]):=fun n=>cj
         have c03:∀ n,(wr.drewN n).cell? ⟨b,off+(j+1),none⟩=some (.int .i64 r.vb[j+1]):=fun n=>c0
         by_cases hls:r.vb[j] < r.vb[j+1]
         . have HX:Hd (vAt r.vb (j+1)=true):=by unfold Hd;rw [ZcC hlt,hi,decide_eq_true hls];rfl
           go_wp2
           go_quiet ((go_at_call 82;exact (Zao _ _ _ _).mono fun _ _ h=>⟨h.1,_,h.2⟩))
           go_wp2;go_roundw
           case rel=>exact⟨j+2,by go_num,by omega,below_drewN HB.o _,fun i hi=>by
                      by_cases e:i=j+1
                      . subst e;exact HX.o
                      . exact HA.o i (by omega)⟩
           . simp [intOf];omega
         . have HR:Hd (ZaW r=false):=by unfold Hd ZaW;rw [ZeL hlt (by rw [ZcC hlt,decide_eq_false hls];simp)];rfl
           go_wp2
           go_quiet ((go_at_call 82;exact (Zao _ _ _ _).mono fun _ _ h=>⟨h.1,_,h.2⟩))
           go_wp2;go_ret;exact⟨Zaa HR.o.symm,below_drewN HX0.o _⟩
     . have HR:Hd (ZaW r=Zf1 Zaw r.pf):=by
        unfold Hd ZaW;rw [ZhN (by omega) HA.o,decide_eq_true HPOS.o,HKD.o,HTM.o,decide_eq_true h16];rfl
       go_wp2
       go_loop [4] (fun i=>∃ q:Nat,q<=r.pf.size/\i=.int .i64 q/\(r.pf.data.toList.take q).all Zaw=true) (fun i=>r.pf.size - (intOf i).toNat)
       case atStart=>exact⟨0,Nat.zero_le _,rfl,rfl⟩
       case round=>
        obtain⟨q,hq,rfl,hallq⟩:=hrel;have HAQ:=Zab hallq;clear hallq
        by_cases hltq:q < r.pf.size
        . by_cases hn:Zaw r.pf[q]=true
          . go_wp2_with (go_at_call 175;refine (ZcA _ _).mono ?_;rintro e w' ⟨rfl,rfl⟩)
            go_round
            . exact⟨q+1,by omega,by go_num,Zcb HAQ.o hltq hn⟩
            . simp [intOf];omega
          . have hn':Zaw r.pf[q]=false:=by simpa using hn
            go_wp2_with (go_at_call 175;refine (ZcA _ _).mono ?_;rintro e w' ⟨rfl,rfl⟩);go_ret;exact⟨Zaa (by rw [HR.o,Zcc hltq hn']),HX0.o⟩
        . go_wp2
          go_ret;exact⟨Zaa (by rw [HR.o,ZcP HAQ.o (by omega)]),HX0.o⟩
 | false=>
  have HKE:Hd (Zai r.kd=Zap r.kd):=by unfold Hd Zai;rw [h1];rfl
  go_enter func133,ntmps133;go_wp2_with fail;refine (Zae r.kd _ HZ.o.s1).mono ?_;rintro e w1 ⟨rfl,rfl⟩
  cases h2:Zap r.kd with
  | false=>
   have HR:Hd (ZaW r=false):=by unfold Hd ZaW;rw [HKE.o,h2];simp
   go_wp2;go_ret;exact⟨Zaa HR.o.symm,Zac _ _⟩
  | true=>
   have HKD:Hd (Zai r.kd=true):=by unfold Hd;rw [HKE.o,h2]
   cases h3:r.tm.toList.isEmpty with
   | true=>
    have HTM:Hd (Zai r.tm=true):=by unfold Hd Zai;rw [h3];rfl
    go_wp2
    try simp only [hbl]
    try simp only [h2]
    try simp only [h4]
    generalize hWa:w.alloc _=Wa;have HBa:Hd (Zw_ w Wa):=by rw [<- hWa];exact Zac _ _
    have FA:Hd (Box Wa w.heap.size #[.slice a r.vb.length cap,.string r.kd,.string r.tm,.string r.pf]):=by rw [<- hWa];exact Box.new _ _ _ _ rfl
    clear hWa;have HVa:=Zab (HV.o.below HBa.o)
    go_loopw [3] (fun i wr=>∃ k:Nat,i=.int .i64 k/\k<=r.vb.length/\Below Wa.heap.size Wa wr/\∀ i,i < k->vAt r.vb i=true) (fun i _=>r.vb.length - (intOf i).toNat)
    case atStart=>exact⟨0,rfl,by omega,Below.refl _ _,fun i h=>by omega⟩
    case round=>
     obtain⟨k,rfl,hk,hb,hall⟩:=hrel;have HA:=Zab hall;have HB:=Zab hb;clear hall hb;have g0:wr.cell? ⟨w.heap.size,0,none⟩=some (.slice a r.vb.length cap):=(FA.o.on HB.o).cell 0;have g3:wr.cell? ⟨w.heap.size,3,none⟩=some (.string r.pf):=(FA.o.on HB.o).cell 3;have HX0:Hd (Zw_ w wr):=bt HBa.o HB.o;obtain⟨b,off,rfl,hbw,hc⟩:=(HVa.o.below HB.o).full' hpos
     by_cases hlt:k < r.vb.length
     . have c0:=hc k hlt
       cases hi:inB 1 5 r.vb[k] with
       | false=>
        have HR:Hd (ZaW r=false):=by unfold Hd ZaW;rw [ZeL hlt (ZiU hlt hi)];rfl
        cases k with
        | zero=>
         have c0:wr.cell? ⟨b,off,none⟩=some (.int .i64 r.vb[0]):=by simpa using c0
         go_wp2
         go_quiet ((go_at_call 82;exact (Zao _ _ _ _).mono fun _ _ h=>⟨h.1,_,h.2⟩))
         go_wp2;go_ret;exact⟨Zaa HR.o.symm,below_drewN HX0.o _⟩
        | succ j=>
         go_wp2
         go_quiet ((go_at_call 82;exact (Zao _ _ _ _).mono fun _ _ h=>⟨h.1,_,h.2⟩))
         go_wp2;go_ret;exact⟨Zaa HR.o.symm,below_drewN HX0.o _⟩
       | true=>
        cases k with
        | zero=>
         have c0:wr.cell? ⟨b,off,none⟩=some (.int .i64 r.vb[0]):=by simpa using c0
         have HX:Hd (vAt r.vb 0=true):=by unfold Hd;rw [ZfY hlt];exact hi
         go_wp2
         go_quiet ((go_at_call 82;exact (Zao _ _ _ _).mono fun _ _ h=>⟨h.1,_,h.2⟩))
         go_wp2;go_roundw
         . exact⟨1,by go_num,by omega,below_drewN HB.o _,Zqw HX.o⟩
         . simp [intOf];omega
        | succ j=>
         have cj:=hc j (by omega);have hjw:IntKind.i64.wrap (j:Int)=j:=by rw [IntKind.wrap_i64];omega
         have hjl:j < r.vb.length:=by omega
         have hdl:decide ((j:Int)+1 < (r.vb.length:Int))=true:=by simp;omega
         have cj3:∀ n,(wr.drewN n).cell? ⟨b,off+j,none⟩=some (.int .i64 r.vb[j]):=fun n=>cj
         have c03:∀ n,(wr.drewN n).cell? ⟨b,off+(j+1),none⟩=some (.int .i64 r.vb[j+1]):=fun n=>c0
         by_cases hls:r.vb[j] < r.vb[j+1]
         . have HX:Hd (vAt r.vb (j+1)=true):=by unfold Hd;rw [ZcC hlt,hi,decide_eq_true hls];rfl
           go_wp2
           go_quiet ((go_at_call 82;exact (Zao _ _ _ _).mono fun _ _ h=>⟨h.1,_,h.2⟩))
           go_wp2;go_roundw
           case rel=>exact⟨j+2,by go_num,by omega,below_drewN HB.o _,fun i hi=>by
                      by_cases e:i=j+1
                      . subst e;exact HX.o
                      . exact HA.o i (by omega)⟩
           . simp [intOf];omega
         . have HR:Hd (ZaW r=false):=by unfold Hd ZaW;rw [ZeL hlt (by rw [ZcC hlt,decide_eq_false hls];simp)];rfl
           go_wp2
           go_quiet ((go_at_call 82;exact (Zao _ _ _ _).mono fun _ _ h=>⟨h.1,_,h.2⟩))
           go_wp2;go_ret;exact⟨Zaa HR.o.symm,below_drewN HX0.o _⟩
     . have HR:Hd (ZaW r=Zf1 Zaw r.pf):=by
        unfold Hd ZaW;rw [ZhN (by omega) HA.o,decide_eq_true HPOS.o,HKD.o,HTM.o,decide_eq_true h16];rfl
       go_wp2
       go_loop [4] (fun i=>∃ q:Nat,q<=r.pf.size/\i=.int .i64 q/\(r.pf.data.toList.take q).all Zaw=true) (fun i=>r.pf.size - (intOf i).toNat)
       case atStart=>exact⟨0,Nat.zero_le _,rfl,rfl⟩
       case round=>
        obtain⟨q,hq,rfl,hallq⟩:=hrel;have HAQ:=Zab hallq;clear hallq
        by_cases hltq:q < r.pf.size
        . by_cases hn:Zaw r.pf[q]=true
          . go_wp2_with (go_at_call 175;refine (ZcA _ _).mono ?_;rintro e w' ⟨rfl,rfl⟩)
            go_round
            . exact⟨q+1,by omega,by go_num,Zcb HAQ.o hltq hn⟩
            . simp [intOf];omega
          . have hn':Zaw r.pf[q]=false:=by simpa using hn
            go_wp2_with (go_at_call 175;refine (ZcA _ _).mono ?_;rintro e w' ⟨rfl,rfl⟩);go_ret;exact⟨Zaa (by rw [HR.o,Zcc hltq hn']),HX0.o⟩
        . go_wp2
          go_ret;exact⟨Zaa (by rw [HR.o,ZcP HAQ.o (by omega)]),HX0.o⟩
   | false=>
    have HTE:Hd (Zai r.tm=Zap r.tm):=by unfold Hd Zai;rw [h3];rfl
    go_wp2_with fail;refine (Zae r.tm _ HZ.o.s2).mono ?_;rintro e w2 ⟨rfl,rfl⟩
    cases h4:Zap r.tm with
    | false=>
     have HR:Hd (ZaW r=false):=by unfold Hd ZaW;rw [HTE.o,h4];simp
     go_wp2;go_ret;exact⟨Zaa HR.o.symm,Zac _ _⟩
    | true=>
     have HTM:Hd (Zai r.tm=true):=by unfold Hd;rw [HTE.o,h4]
     go_wp2
     try simp only [hbl]
     try simp only [h2]
     try simp only [h4]
     generalize hWa:w.alloc _=Wa;have HBa:Hd (Zw_ w Wa):=by rw [<- hWa];exact Zac _ _
     have FA:Hd (Box Wa w.heap.size #[.slice a r.vb.length cap,.string r.kd,.string r.tm,.string r.pf]):=by rw [<- hWa];exact Box.new _ _ _ _ rfl
     clear hWa;have HVa:=Zab (HV.o.below HBa.o)
     go_loopw [3] (fun i wr=>∃ k:Nat,i=.int .i64 k/\k<=r.vb.length/\Below Wa.heap.size Wa wr/\∀ i,i < k->vAt r.vb i=true) (fun i _=>r.vb.length - (intOf i).toNat)
     case atStart=>exact⟨0,rfl,by omega,Below.refl _ _,fun i h=>by omega⟩
     case round=>
      obtain⟨k,rfl,hk,hb,hall⟩:=hrel;have HA:=Zab hall;have HB:=Zab hb;clear hall hb;have g0:wr.cell? ⟨w.heap.size,0,none⟩=some (.slice a r.vb.length cap):=(FA.o.on HB.o).cell 0;have g3:wr.cell? ⟨w.heap.size,3,none⟩=some (.string r.pf):=(FA.o.on HB.o).cell 3;have HX0:Hd (Zw_ w wr):=bt HBa.o HB.o;obtain⟨b,off,rfl,hbw,hc⟩:=(HVa.o.below HB.o).full' hpos
      by_cases hlt:k < r.vb.length
      . have c0:=hc k hlt
        cases hi:inB 1 5 r.vb[k] with
        | false=>
         have HR:Hd (ZaW r=false):=by unfold Hd ZaW;rw [ZeL hlt (ZiU hlt hi)];rfl
         cases k with
         | zero=>
          have c0:wr.cell? ⟨b,off,none⟩=some (.int .i64 r.vb[0]):=by simpa using c0
          go_wp2
          go_quiet ((go_at_call 82;exact (Zao _ _ _ _).mono fun _ _ h=>⟨h.1,_,h.2⟩))
          go_wp2;go_ret;exact⟨Zaa HR.o.symm,below_drewN HX0.o _⟩
         | succ j=>
          go_wp2
          go_quiet ((go_at_call 82;exact (Zao _ _ _ _).mono fun _ _ h=>⟨h.1,_,h.2⟩))
          go_wp2;go_ret;exact⟨Zaa HR.o.symm,below_drewN HX0.o _⟩
        | true=>
         cases k with
         | zero=>
          have c0:wr.cell? ⟨b,off,none⟩=some (.int .i64 r.vb[0]):=by simpa using c0
          have HX:Hd (vAt r.vb 0=true):=by unfold Hd;rw [ZfY hlt];exact hi
          go_wp2
          go_quiet ((go_at_call 82;exact (Zao _ _ _ _).mono fun _ _ h=>⟨h.1,_,h.2⟩))
          go_wp2;go_roundw
          . exact⟨1,by go_num,by omega,below_drewN HB.o _,Zqw HX.o⟩
          . simp [intOf];omega
         | succ j=>
          have cj:=hc j (by omega);have hjw:IntKind.i64.wrap (j:Int)=j:=by rw [IntKind.wrap_i64];omega
          have hjl:j < r.vb.length:=by omega
          have hdl:decide ((j:Int)+1 < (r.vb.length:Int))=true:=by simp;omega
          have cj3:∀ n,(wr.drewN n).cell? ⟨b,off+j,none⟩=some (.int .i64 r.vb[j]):=fun n=>cj
          have c03:∀ n,(wr.drewN n).cell? ⟨b,off+(j+1),none⟩=some (.int .i64 r.vb[j+1]):=fun n=>c0
          by_cases hls:r.vb[j] < r.vb[j+1]
          . have HX:Hd (vAt r.vb (j+1)=true):=by unfold Hd;rw [ZcC hlt,hi,decide_eq_true hls];rfl
            go_wp2
            go_quiet ((go_at_call 82;exact (Zao _ _ _ _).mono fun _ _ h=>⟨h.1,_,h.2⟩))
            go_wp2;go_roundw
            case rel=>exact⟨j+2,by go_num,by omega,below_drewN HB.o _,fun i hi=>by
                       by_cases e:i=j+1
                       . subst e;exact HX.o
                       . exact HA.o i (by omega)⟩
            . simp [intOf];omega
          . have HR:Hd (ZaW r=false):=by unfold Hd ZaW;rw [ZeL hlt (by rw [ZcC hlt,decide_eq_false hls];simp)];rfl
            go_wp2
            go_quiet ((go_at_call 82;exact (Zao _ _ _ _).mono fun _ _ h=>⟨h.1,_,h.2⟩))
            go_wp2;go_ret;exact⟨Zaa HR.o.symm,below_drewN HX0.o _⟩
      . have HR:Hd (ZaW r=Zf1 Zaw r.pf):=by
         unfold Hd ZaW;rw [ZhN (by omega) HA.o,decide_eq_true HPOS.o,HKD.o,HTM.o,decide_eq_true h16];rfl
        go_wp2
        go_loop [4] (fun i=>∃ q:Nat,q<=r.pf.size/\i=.int .i64 q/\(r.pf.data.toList.take q).all Zaw=true) (fun i=>r.pf.size - (intOf i).toNat)
        case atStart=>exact⟨0,Nat.zero_le _,rfl,rfl⟩
        case round=>
         obtain⟨q,hq,rfl,hallq⟩:=hrel;have HAQ:=Zab hallq;clear hallq
         by_cases hltq:q < r.pf.size
         . by_cases hn:Zaw r.pf[q]=true
           . go_wp2_with (go_at_call 175;refine (ZcA _ _).mono ?_;rintro e w' ⟨rfl,rfl⟩)
             go_round
             . exact⟨q+1,by omega,by go_num,Zcb HAQ.o hltq hn⟩
             . simp [intOf];omega
           . have hn':Zaw r.pf[q]=false:=by simpa using hn
             go_wp2_with (go_at_call 175;refine (ZcA _ _).mono ?_;rintro e w' ⟨rfl,rfl⟩);go_ret;exact⟨Zaa (by rw [HR.o,Zcc hltq hn']),HX0.o⟩
         . go_wp2
           go_ret;exact⟨Zaa (by rw [HR.o,ZcP HAQ.o (by omega)]),HX0.o⟩
end Go.Proofs.YtmappejlmapboaaGreat
