import Derived.Test.YtfohnageehneoaaGreatUTA
import Derived.ChangeSlices
set_option maxHeartbeats 16000000
set_option maxRecDepth 100000
open Go.Proofs.Tryz
namespace Go.Proofs.YtfohnageehneoaaGreat
open Go.RowKit Go.Deep
variable {fuel:Nat}
theorem ZaF (lr:Nat) (r:Ru) (vv:Value) (w:World) (hv:Zau lr w vv r.vb) (hz:Zhv r) :
 Calls prog 158 #[.agg #[vv,.string r.kd,.string r.tm,.string r.pf]] w fun e w'=>e=.returned (.bool (Za2 r))/\Zw_ w w':=by
 have HV:=Zab hv;have HZ:=Zab hz;have hm:=hv.max;unfold maxLen at hm;have hsz:=hz.s3;unfold maxLen at hsz;obtain⟨a,cap,rfl⟩:=hv.form;clear hv hz
 by_cases hpos:0 < r.vb.length
 case neg=>
  have HR:Hd (Za2 r=false):=by unfold Hd Za2 ZnQ;rw [decide_eq_false hpos];rfl
  have h0:r.vb.length=0:=by omega
  rw [h0];clear hm;go_enter func158,ntmps158;go_wp2;go_ret;exact⟨Zaa HR.o.symm,Zac _ _⟩
 have HPOS:=Zab hpos;have hbl:((r.vb.length:Int) == 0)=false:=by rw [beq_eq_false_iff_ne];omega
 have hnil:¬ r.vb=[]:=fun e=>by rw [e] at hpos;simp at hpos
 by_cases h16:(r.pf.size:Int)<=16
 case neg=>
  have HR:Hd (Za2 r=false):=by unfold Hd Za2;rw [decide_eq_false h16];simp
  have h16':(16:Int) < r.pf.size:=by omega
  go_enter func158,ntmps158;go_wp2;go_ret;exact⟨Zaa HR.o.symm,Zac _ _⟩
 have h16p:¬ (16:Int) < r.pf.size:=by omega
 cases h1:r.kd.toList.isEmpty with
 | true=>
  have HKD:Hd (Zaj r.kd=true):=by unfold Hd Zaj;rw [h1];rfl
  cases h3:r.tm.toList.isEmpty with
  | true=>
   have HTM:Hd (Zaj r.tm=true):=by unfold Hd Zaj;rw [h3];rfl
   go_enter func158,ntmps158;go_wp2
   try simp only [hbl]
   try simp only [h2]
   try simp only [h4]
   generalize hWa:w.alloc _=Wa;have HBa:Hd (Zw_ w Wa):=by rw [<- hWa];exact Zac _ _
   have FA:Hd (Box Wa w.heap.size #[.slice a r.vb.length cap,.string r.kd,.string r.tm,.string r.pf]):=by rw [<- hWa];exact Box.new _ _ _ _ rfl
   clear hWa;have HVa:=Zab (HV.o.below HBa.o)
   go_loopw [3] (fun i wr=>∃ k:Nat,i=.int .i64 k/\k<=r.vb.length/\Below Wa.heap.size Wa wr/\∀ i,i < k->vAt r.vb i=true) (fun i _=>r.vb.length - (intOf i).toNat)
   case atStart=>exact⟨0,rfl,by omega,Below.refl _ _,fun i h=>by omega⟩
   case round=>
    obtain⟨k,rfl,hk,hb,hall⟩:=hrel;have HA:=Zab hall;have HB:=Zab hb;clear hall hb;have g0:wr.cell? ⟨w.heap.size,0,none⟩=some (.slice a r.vb.length cap):=(FA.o.on HB.o).cell 0;have g3:wr.cell? ⟨w.heap.size,3,none⟩=some (.string r.pf):=(FA.o.on HB.o).cell 3;have HX0:Hd (Zw_ w wr):=bt HBa.o HB.o;obtain⟨b,off,rfl,hbw,hc⟩:=(HVa.o.below HB.o).full' hpos
    by_cases hlt:k < r.vb.length
    . have c0:=hc k hlt
      cases hi:inB 1 5 r.vb[k] with
      | false=>
       have HR:Hd (Za2 r=false):=by unfold Hd Za2;rw [Zez hlt (Zh5 hlt hi)];rfl
       cases k with
       | zero=>
        have c0:wr.cell? ⟨b,off,none⟩=some (.int .i64 r.vb[0]):=by simpa using c0
        go_wp2
        go_quiet ((go_at_call 38;exact (Zar _ _ _ _).mono fun _ _ h=>⟨h.1,_,h.2⟩))
        go_wp2;go_ret;exact⟨Zaa HR.o.symm,below_drewN HX0.o _⟩
       | succ j=>
        go_wp2
        go_quiet ((go_at_call 38;exact (Zar _ _ _ _).mono fun _ _ h=>⟨h.1,_,h.2⟩))
        go_wp2;go_ret;exact⟨Zaa HR.o.symm,below_drewN HX0.o _⟩
      | true=>
       cases k with
       | zero=>
        have c0:wr.cell? ⟨b,off,none⟩=some (.int .i64 r.vb[0]):=by simpa using c0
        have HX:Hd (vAt r.vb 0=true):=by unfold Hd;rw [ZfB hlt];exact hi
        go_wp2
        go_quiet ((go_at_call 38;exact (Zar _ _ _ _).mono fun _ _ h=>⟨h.1,_,h.2⟩))
        go_wp2;go_roundw
        . exact⟨1,by go_num,by omega,below_drewN HB.o _,Zpc HX.o⟩
        . simp [intOf];omega
       | succ j=>
        have cj:=hc j (by omega);have hjw:IntKind.i64.wrap (j:Int)=j:=by rw [IntKind.wrap_i64];omega
        have hjl:j < r.vb.length:=by omega
        have hdl:decide ((j:Int)+1 < (r.vb.length:Int))=true:=by simp;omega
        have cj3:∀ n,(wr.drewN n).cell? ⟨b,off+j,none⟩=some (.int .i64 r.vb[j]):=fun n=>cj
        have c03:∀ n,(wr.drewN n).cell? ⟨b,off+(j+1),none⟩=some (.int .i64 r.vb[j+1]):=fun n=>c0
        by_cases hls:r.vb[j] < r.vb[j+1]
        . have HX:Hd (vAt r.vb (j+1)=true):=by unfold Hd;rw [ZcI hlt,hi,decide_eq_true hls];rfl
          go_wp2
          go_quiet ((go_at_call 38;exact (Zar _ _ _ _).mono fun _ _ h=>⟨h.1,_,h.2⟩))
          go_wp2;go_roundw
          case rel=>exact⟨j+2,by go_num,by omega,below_drewN HB.o _,fun i hi=>by
                     by_cases e:i=j+1
                     . subst e;exact HX.o
                     . exact HA.o i (by omega)⟩
          . simp [intOf];omega
        . have HR:Hd (Za2 r=false):=by unfold Hd Za2;rw [Zez hlt (by rw [ZcI hlt,decide_eq_false hls];simp)];rfl
          go_wp2
          go_quiet ((go_at_call 38;exact (Zar _ _ _ _).mono fun _ _ h=>⟨h.1,_,h.2⟩))
          go_wp2;go_ret;exact⟨Zaa HR.o.symm,below_drewN HX0.o _⟩
    . have HR:Hd (Za2 r=ZfJ Zaw r.pf):=by
       unfold Hd Za2;rw [Zg7 (by omega) HA.o,decide_eq_true HPOS.o,HKD.o,HTM.o,decide_eq_true h16];rfl
      go_wp2
      go_loop [4] (fun i=>∃ q:Nat,q<=r.pf.size/\i=.int .i64 q/\(r.pf.data.toList.take q).all Zaw=true) (fun i=>r.pf.size - (intOf i).toNat)
      case atStart=>exact⟨0,Nat.zero_le _,rfl,rfl⟩
      case round=>
       obtain⟨q,hq,rfl,hallq⟩:=hrel;have HAQ:=Zab hallq;clear hallq
       by_cases hltq:q < r.pf.size
       . by_cases hn:Zaw r.pf[q]=true
         . go_wp2_with (go_at_call 98;refine (ZcJ _ _).mono ?_;rintro e w' ⟨rfl,rfl⟩)
           go_round
           . exact⟨q+1,by omega,by go_num,Zck HAQ.o hltq hn⟩
           . simp [intOf];omega
         . have hn':Zaw r.pf[q]=false:=by simpa using hn
           go_wp2_with (go_at_call 98;refine (ZcJ _ _).mono ?_;rintro e w' ⟨rfl,rfl⟩);go_ret;exact⟨Zaa (by rw [HR.o,Zcj hltq hn']),HX0.o⟩
       . go_wp2
         go_ret;exact⟨Zaa (by rw [HR.o,Zc0 HAQ.o (by omega)]),HX0.o⟩
  | false=>
   have HTE:Hd (Zaj r.tm=Zan r.tm):=by unfold Hd Zaj;rw [h3];rfl
   go_enter func158,ntmps158;go_wp2_with fail;refine (Zaf r.tm _ HZ.o.s2).mono ?_;rintro e w2 ⟨rfl,rfl⟩
   cases h4:Zan r.tm with
   | false=>
    have HR:Hd (Za2 r=false):=by unfold Hd Za2;rw [HTE.o,h4];simp
    go_wp2;go_ret;exact⟨Zaa HR.o.symm,Zac _ _⟩
   | true=>
    have HTM:Hd (Zaj r.tm=true):=by unfold Hd;rw [HTE.o,h4]
    go_wp2
    try simp only [hbl]
    try simp only [h2]
    try simp only [h4]
    generalize hWa:w.alloc _=Wa;have HBa:Hd (Zw_ w Wa):=by rw [<- hWa];exact Zac _ _
    have FA:Hd (Box Wa w.heap.size #[.slice a r.vb.length cap,.string r.kd,.string r.tm,.string r.pf]):=by rw [<- hWa];exact Box.new _ _ _ _ rfl
    clear hWa;have HVa:=Zab (HV.o.below HBa.o)
    go_loopw [3] (fun i wr=>∃ k:Nat,i=.int .i64 k/\k<=r.vb.length/\Below Wa.heap.size Wa wr/\∀ i,i < k->vAt r.vb i=true) (fun i _=>r.vb.length - (intOf i).toNat)
    case atStart=>exact⟨0,rfl,by omega,Below.refl _ _,fun i h=>by omega⟩
    case round=>
     obtain⟨k,rfl,hk,hb,hall⟩:=hrel;have HA:=Zab hall;have HB:=Zab hb;clear hall hb;have g0:wr.cell? ⟨w.heap.size,0,none⟩=some (.slice a r.vb.length cap):=(FA.o.on HB.o).cell 0;have g3:wr.cell? ⟨w.heap.size,3,none⟩=some (.string r.pf):=(FA.o.on HB.o).cell 3;have HX0:Hd (Zw_ w wr):=bt HBa.o HB.o;obtain⟨b,off,rfl,hbw,hc⟩:=(HVa.o.below HB.o).full' hpos
     by_cases hlt:k < r.vb.length
     . have c0:=hc k hlt
       cases hi:inB 1 5 r.vb[k] with
       | false=>
        have HR:Hd (Za2 r=false):=by unfold Hd Za2;rw [Zez hlt (Zh5 hlt hi)];rfl
        cases k with
        | zero=>
         have c0:wr.cell? ⟨b,off,none⟩=some (.int .i64 r.vb[0]):=by simpa using c0
         go_wp2
         go_quiet ((go_at_call 38;exact (Zar _ _ _ _).mono fun _ _ h=>⟨h.1,_,h.2⟩))
         go_wp2;go_ret;exact⟨Zaa HR.o.symm,below_drewN HX0.o _⟩
        | succ j=>
         go_wp2
         go_quiet ((go_at_call 38;exact (Zar _ _ _ _).mono fun _ _ h=>⟨h.1,_,h.2⟩))
         go_wp2;go_ret;exact⟨Zaa HR.o.symm,below_drewN HX0.o _⟩
       | true=>
        cases k with
        | zero=>
         have c0:wr.cell? ⟨b,off,none⟩=some (.int .i64 r.vb[0]):=by simpa using c0
         have HX:Hd (vAt r.vb 0=true):=by unfold Hd;rw [ZfB hlt];exact hi
         go_wp2
         go_quiet ((go_at_call 38;exact (Zar _ _ _ _).mono fun _ _ h=>⟨h.1,_,h.2⟩))
         go_wp2;go_roundw
         . exact⟨1,by go_num,by omega,below_drewN HB.o _,Zpc HX.o⟩
         . simp [intOf];omega
        | succ j=>
         have cj:=hc j (by omega);have hjw:IntKind.i64.wrap (j:Int)=j:=by rw [IntKind.wrap_i64];omega
         have hjl:j < r.vb.length:=by omega
         have hdl:decide ((j:Int)+1 < (r.vb.length:Int))=true:=by simp;omega
         have cj3:∀ n,(wr.drewN n).cell? ⟨b,off+j,none⟩=some (.int .i64 r.vb[j]):=fun n=>cj
         have c03:∀ n,(wr.drewN n).cell? ⟨b,off+(j+1),none⟩=some (.int .i64 r.vb[j+1]):=fun n=>c0
         by_cases hls:r.vb[j] < r.vb[j+1]
         . have HX:Hd (vAt r.vb (j+1)=true):=by unfold Hd;rw [ZcI hlt,hi,decide_eq_true hls];rfl
           go_wp2
           go_quiet ((go_at_call 38;exact (Zar _ _ _ _).mono fun _ _ h=>⟨h.1,_,h.2⟩))
           go_wp2;go_roundw
           case rel=>exact⟨j+2,by go_num,by omega,below_drewN HB.o _,fun i hi=>by
                      by_cases e:i=j+1
                      . subst e;exact HX.o
                      . exact HA.o i (by omega)⟩
           . simp [intOf];omega
         . have HR:Hd (Za2 r=false):=by unfold Hd Za2;rw [Zez hlt (by rw [ZcI hlt,decide_eq_false hls];simp)];rfl
           go_wp2
           go_quiet ((go_at_call 38;exact (Zar _ _ _ _).mono fun _ _ h=>⟨h.1,_,h.2⟩))
           go_wp2;go_ret;exact⟨Zaa HR.o.symm,below_drewN HX0.o _⟩
     . have HR:Hd (Za2 r=ZfJ Zaw r.pf):=by
        unfold Hd Za2;rw [Zg7 (by omega) HA.o,decide_eq_true HPOS.o,HKD.o,HTM.o,decide_eq_true h16];rfl
       go_wp2
       go_loop [4] (fun i=>∃ q:Nat,q<=r.pf.size/\i=.int .i64 q/\(r.pf.data.toList.take q).all Zaw=true) (fun i=>r.pf.size - (intOf i).toNat)
       case atStart=>exact⟨0,Nat.zero_le _,rfl,rfl⟩
       case round=>
        obtain⟨q,hq,rfl,hallq⟩:=hrel;have HAQ:=Zab hallq;clear hallq
        by_cases hltq:q < r.pf.size
        . by_cases hn:Zaw r.pf[q]=true
          . go_wp2_with (go_at_call 98;refine (ZcJ _ _).mono ?_;rintro e w' ⟨rfl,rfl⟩)
            go_round
            . exact⟨q+1,by omega,by go_num,Zck HAQ.o hltq hn⟩
            . simp [intOf];omega
          . have hn':Zaw r.pf[q]=false:=by simpa using hn
            go_wp2_with (go_at_call 98;refine (ZcJ _ _).mono ?_;rintro e w' ⟨rfl,rfl⟩);go_ret;exact⟨Zaa (by rw [HR.o,Zcj hltq hn']),HX0.o⟩
        . go_wp2
          go_ret;exact⟨Zaa (by rw [HR.o,Zc0 HAQ.o (by omega)]),HX0.o⟩
 | false=>
  have HKE:Hd (Zaj r.kd=Zan r.kd):=by unfold Hd Zaj;rw [h1];rfl
  go_enter func158,ntmps158;go_wp2_with fail;refine (Zaf r.kd _ HZ.o.s1).mono ?_;rintro e w1 ⟨rfl,rfl⟩
  cases h2:Zan r.kd with
  | false=>
   have HR:Hd (Za2 r=false):=by unfold Hd Za2;rw [HKE.o,h2];simp
   go_wp2;go_ret;exact⟨Zaa HR.o.symm,Zac _ _⟩
  | true=>
   have HKD:Hd (Zaj r.kd=true):=by unfold Hd;rw [HKE.o,h2]
   cases h3:r.tm.toList.isEmpty with
   | true=>
    have HTM:Hd (Zaj r.tm=true):=by unfold Hd Zaj;rw [h3];rfl
    go_wp2
    try simp only [hbl]
    try simp only [h2]
    try simp only [h4]
    generalize hWa:w.alloc _=Wa;have HBa:Hd (Zw_ w Wa):=by rw [<- hWa];exact Zac _ _
    have FA:Hd (Box Wa w.heap.size #[.slice a r.vb.length cap,.string r.kd,.string r.tm,.string r.pf]):=by rw [<- hWa];exact Box.new _ _ _ _ rfl
    clear hWa;have HVa:=Zab (HV.o.below HBa.o)
    go_loopw [3] (fun i wr=>∃ k:Nat,i=.int .i64 k/\k<=r.vb.length/\Below Wa.heap.size Wa wr/\∀ i,i < k->vAt r.vb i=true) (fun i _=>r.vb.length - (intOf i).toNat)
    case atStart=>exact⟨0,rfl,by omega,Below.refl _ _,fun i h=>by omega⟩
    case round=>
     obtain⟨k,rfl,hk,hb,hall⟩:=hrel;have HA:=Zab hall;have HB:=Zab hb;clear hall hb;have g0:wr.cell? ⟨w.heap.size,0,none⟩=some (.slice a r.vb.length cap):=(FA.o.on HB.o).cell 0;have g3:wr.cell? ⟨w.heap.size,3,none⟩=some (.string r.pf):=(FA.o.on HB.o).cell 3;have HX0:Hd (Zw_ w wr):=bt HBa.o HB.o;obtain⟨b,off,rfl,hbw,hc⟩:=(HVa.o.below HB.o).full' hpos
     by_cases hlt:k < r.vb.length
     . have c0:=hc k hlt
       cases hi:inB 1 5 r.vb[k] with
       | false=>
        have HR:Hd (Za2 r=false):=by unfold Hd Za2;rw [Zez hlt (Zh5 hlt hi)];rfl
        cases k with
        | zero=>
         have c0:wr.cell? ⟨b,off,none⟩=some (.int .i64 r.vb[0]):=by simpa using c0
         go_wp2
         go_quiet ((go_at_call 38;exact (Zar _ _ _ _).mono fun _ _ h=>⟨h.1,_,h.2⟩))
         go_wp2;go_ret;exact⟨Zaa HR.o.symm,below_drewN HX0.o _⟩
        | succ j=>
         go_wp2
         go_quiet ((go_at_call 38;exact (Zar _ _ _ _).mono fun _ _ h=>⟨h.1,_,h.2⟩))
         go_wp2;go_ret;exact⟨Zaa HR.o.symm,below_drewN HX0.o _⟩
       | true=>
        cases k with
        | zero=>
         have c0:wr.cell? ⟨b,off,none⟩=some (.int .i64 r.vb[0]):=by simpa using c0
         have HX:Hd (vAt r.vb 0=true):=by unfold Hd;rw [ZfB hlt];exact hi
         go_wp2
         go_quiet ((go_at_call 38;exact (Zar _ _ _ _).mono fun _ _ h=>⟨h.1,_,h.2⟩))
         go_wp2;go_roundw
         . exact⟨1,by go_num,by omega,below_drewN HB.o _,Zpc HX.o⟩
         . simp [intOf];omega
        | succ j=>
         have cj:=hc j (by omega);have hjw:IntKind.i64.wrap (j:Int)=j:=by rw [IntKind.wrap_i64];omega
         have hjl:j < r.vb.length:=by omega
         have hdl:decide ((j:Int)+1 < (r.vb.length:Int))=true:=by simp;omega
         have cj3:∀ n,(wr.drewN n).cell? ⟨b,off+j,none⟩=some (.int .i64 r.vb[j]):=fun n=>cj
         have c03:∀ n,(wr.drewN n).cell? ⟨b,off+(j+1),none⟩=some (.int .i64 r.vb[j+1]):=fun n=>c0
         by_cases hls:r.vb[j] < r.vb[j+1]
         . have HX:Hd (vAt r.vb (j+1)=true):=by unfold Hd;rw [ZcI hlt,hi,decide_eq_true hls];rfl
           go_wp2
           go_quiet ((go_at_call 38;exact (Zar _ _ _ _).mono fun _ _ h=>⟨h.1,_,h.2⟩))
           go_wp2;go_roundw
           case rel=>exact⟨j+2,by go_num,by omega,below_drewN HB.o _,fun i hi=>by
                      by_cases e:i=j+1
                      . subst e;exact HX.o
                      . exact HA.o i (by omega)⟩
           . simp [intOf];omega
         . have HR:Hd (Za2 r=false):=by unfold Hd Za2;rw [Zez hlt (by rw [ZcI hlt,decide_eq_false hls];simp)];rfl
           go_wp2
           go_quiet ((go_at_call 38;exact (Zar _ _ _ _).mono fun _ _ h=>⟨h.1,_,h.2⟩))
           go_wp2;go_ret;exact⟨Zaa HR.o.symm,below_drewN HX0.o _⟩
     . have HR:Hd (Za2 r=ZfJ Zaw r.pf):=by
        unfold Hd Za2;rw [Zg7 (by omega) HA.o,decide_eq_true HPOS.o,HKD.o,HTM.o,decide_eq_true h16];rfl
       go_wp2
       go_loop [4] (fun i=>∃ q:Nat,q<=r.pf.size/\i=.int .i64 q/\(r.pf.data.toList.take q).all Zaw=true) (fun i=>r.pf.size - (intOf i).toNat)
       case atStart=>exact⟨0,Nat.zero_le _,rfl,rfl⟩
       case round=>
        obtain⟨q,hq,rfl,hallq⟩:=hrel;have HAQ:=Zab hallq;clear hallq
        by_cases hltq:q < r.pf.size
        . by_cases hn:Zaw r.pf[q]=true
          . go_wp2_with (go_at_call 98;refine (ZcJ _ _).mono ?_;rintro e w' ⟨rfl,rfl⟩)
            go_round
            . exact⟨q+1,by omega,by go_num,Zck HAQ.o hltq hn⟩
            . simp [intOf];omega
          . have hn':Zaw r.pf[q]=false:=by simpa using hn
            go_wp2_with (go_at_call 98;refine (ZcJ _ _).mono ?_;rintro e w' ⟨rfl,rfl⟩);go_ret;exact⟨Zaa (by rw [HR.o,Zcj hltq hn']),HX0.o⟩
        . go_wp2
          go_ret;exact⟨Zaa (by rw [HR.o,Zc0 HAQ.o (by omega)]),HX0.o⟩
   | false=>
    have HTE:Hd (Zaj r.tm=Zan r.tm):=by unfold Hd Zaj;rw [h3];rfl
    go_wp2_with fail;refine (Zaf r.tm _ HZ.o.s2).mono ?_;rintro e w2 ⟨rfl,rfl⟩
    cases h4:Zan r.tm with
    | false=>
     have HR:Hd (Za2 r=false):=by unfold Hd Za2;rw [HTE.o,h4];simp
     go_wp2;go_ret;exact⟨Zaa HR.o.symm,Zac _ _⟩
    | true=>
     have HTM:Hd (Zaj r.tm=true):=by unfold Hd;rw [HTE.o,h4]
     go_wp2
     try simp only [hbl]
     try simp only [h2]
     try simp only [h4]
     generalize hWa:w.alloc _=Wa;have HBa:Hd (Zw_ w Wa):=by rw [<- hWa];exact Zac _ _
     have FA:Hd (Box Wa w.heap.size #[.slice a r.vb.length cap,.string r.kd,.string r.tm,.string r.pf]):=by rw [<- hWa];exact Box.new _ _ _ _ rfl
     clear hWa;have HVa:=Zab (HV.o.below HBa.o)
     go_loopw [3] (fun i wr=>∃ k:Nat,i=.int .i64 k/\k<=r.vb.length/\Below Wa.heap.size Wa wr/\∀ i,i < k->vAt r.vb i=true) (fun i _=>r.vb.length - (intOf i).toNat)
     case atStart=>exact⟨0,rfl,by omega,Below.refl _ _,fun i h=>by omega⟩
     case round=>
      obtain⟨k,rfl,hk,hb,hall⟩:=hrel;have HA:=Zab hall;have HB:=Zab hb;clear hall hb;have g0:wr.cell? ⟨w.heap.size,0,none⟩=some (.slice a r.vb.length cap):=(FA.o.on HB.o).cell 0;have g3:wr.cell? ⟨w.heap.size,3,none⟩=some (.string r.pf):=(FA.o.on HB.o).cell 3;have HX0:Hd (Zw_ w wr):=bt HBa.o HB.o;obtain⟨b,off,rfl,hbw,hc⟩:=(HVa.o.below HB.o).full' hpos
      by_cases hlt:k < r.vb.length
      . have c0:=hc k hlt
        cases hi:inB 1 5 r.vb[k] with
        | false=>
         have HR:Hd (Za2 r=false):=by unfold Hd Za2;rw [Zez hlt (Zh5 hlt hi)];rfl
         cases k with
         | zero=>
          have c0:wr.cell? ⟨b,off,none⟩=some (.int .i64 r.vb[0]):=by simpa using c0
          go_wp2
          go_quiet ((go_at_call 38;exact (Zar _ _ _ _).mono fun _ _ h=>⟨h.1,_,h.2⟩))
          go_wp2;go_ret;exact⟨Zaa HR.o.symm,below_drewN HX0.o _⟩
         | succ j=>
          go_wp2
          go_quiet ((go_at_call 38;exact (Zar _ _ _ _).mono fun _ _ h=>⟨h.1,_,h.2⟩))
          go_wp2;go_ret;exact⟨Zaa HR.o.symm,below_drewN HX0.o _⟩
        | true=>
         cases k with
         | zero=>
          have c0:wr.cell? ⟨b,off,none⟩=some (.int .i64 r.vb[0]):=by simpa using c0
          have HX:Hd (vAt r.vb 0=true):=by unfold Hd;rw [ZfB hlt];exact hi
          go_wp2
          go_quiet ((go_at_call 38;exact (Zar _ _ _ _).mono fun _ _ h=>⟨h.1,_,h.2⟩))
          go_wp2;go_roundw
          . exact⟨1,by go_num,by omega,below_drewN HB.o _,Zpc HX.o⟩
          . simp [intOf];omega
         | succ j=>
          have cj:=hc j (by omega);have hjw:IntKind.i64.wrap (j:Int)=j:=by rw [IntKind.wrap_i64];omega
          have hjl:j < r.vb.length:=by omega
          have hdl:decide ((j:Int)+1 < (r.vb.length:Int))=true:=by simp;omega
          have cj3:∀ n,(wr.drewN n).cell? ⟨b,off+j,none⟩=some (.int .i64 r.vb[j]):=fun n=>cj
          have c03:∀ n,(wr.drewN n).cell? ⟨b,off+(j+1),none⟩=some (.int .i64 r.vb[j+1]):=fun n=>c0
          by_cases hls:r.vb[j] < r.vb[j+1]
          . have HX:Hd (vAt r.vb (j+1)=true):=by unfold Hd;rw [ZcI hlt,hi,decide_eq_true hls];rfl
            go_wp2
            go_quiet ((go_at_call 38;exact (Zar _ _ _ _).mono fun _ _ h=>⟨h.1,_,h.2⟩))
            go_wp2;go_roundw
            case rel=>exact⟨j+2,by go_num,by omega,below_drewN HB.o _,fun i hi=>by
                       by_cases e:i=j+1
                       . subst e;exact HX.o
                       . exact HA.o i (by omega)⟩
            . simp [intOf];omega
          . have HR:Hd (Za2 r=false):=by unfold Hd Za2;rw [Zez hlt (by rw [ZcI hlt,decide_eq_false hls];simp)];rfl
            go_wp2
            go_quiet ((go_at_call 38;exact (Zar _ _ _ _).mono fun _ _ h=>⟨h.1,_,h.2⟩))
            go_wp2;go_ret;exact⟨Zaa HR.o.symm,below_drewN HX0.o _⟩
      . have HR:Hd (Za2 r=ZfJ Zaw r.pf):=by
         unfold Hd Za2;rw [Zg7 (by omega) HA.o,decide_eq_true HPOS.o,HKD.o,HTM.o,decide_eq_true h16];rfl
        go_wp2
        go_loop [4] (fun i=>∃ q:Nat,q<=r.pf.size/\i=.int .i64 q/\(r.pf.data.toList.take q).all Zaw=true) (fun i=>r.pf.size - (intOf i).toNat)
        case atStart=>exact⟨0,Nat.zero_le _,rfl,rfl⟩
        case round=>
         obtain⟨q,hq,rfl,hallq⟩:=hrel;have HAQ:=Zab hallq;clear hallq
         by_cases hltq:q < r.pf.size
         . by_cases hn:Zaw r.pf[q]=true
           . go_wp2_with (go_at_call 98;refine (ZcJ _ _).mono ?_;rintro e w' ⟨rfl,rfl⟩)
             go_round
             . exact⟨q+1,by omega,by go_num,Zck HAQ.o hltq hn⟩
             . simp [intOf];omega
           . have hn':Zaw r.pf[q]=false:=by simpa using hn
             go_wp2_with (go_at_call 98;refine (ZcJ _ _).mono ?_;rintro e w' ⟨rfl,rfl⟩);go_ret;exact⟨Zaa (by rw [HR.o,Zcj hltq hn']),HX0.o⟩
         . go_wp2
           go_ret;exact⟨Zaa (by rw [HR.o,Zc0 HAQ.o (by omega)]),HX0.o⟩
open Go.ChangeShapes Go.WideShapes Go.ChangeAt Go.RowKit Go.Deep
theorem Tryz.cells62:prog.cellsOf 62=4:=by kernel_rfl
theorem Tryz.cells60:prog.cellsOf 60=1:=by kernel_rfl
theorem Zs2 {l:List Value} (h:l.length=4):∃ c0 c1 c2 c3,l=[c0,c1,c2,c3]:=by
 match l,h with
 | [c0,c1,c2,c3],_=>exact⟨c0,c1,c2,c3,rfl⟩
section
variable {H:Type} {enc:TypeId×Value->H} {W:World}
theorem Zqi {c:Value}{x:DataW H×List MemPlace} (h:DataW.trod enc prog W 0 (fun _=>true) true fuel 60 [c]=some x):∃ L,Zau 0 W c L:=by
 rcases Go.ChangeShapes.open_ints underlying60 underlying3 Tryz.cells3 h with ⟨hcs,_⟩ | ⟨a,len,cap,zs,hcs,_,hl,hm,hzs,_,hcell,_⟩
 . simp only [List.cons.injEq,and_true] at hcs
   exact⟨[],Or.inl ⟨_,_,hcs,rfl⟩⟩
 . simp only [List.cons.injEq,and_true] at hcs
   simp only [if_true] at hzs
   by_cases h0:len=0
   . subst h0
     exact⟨[],Or.inl ⟨_,_,hcs,rfl⟩⟩
   . obtain⟨b,off,spot⟩:=a
     have hspot:spot=none:=by simpa [Addr.add] using World.cell?_spot (hcell 0 (by omega))
     subst hspot;have hlen:(zs.take len).length=len:=by rw [List.length_take];omega
     refine⟨zs.take len,Or.inr ⟨b,off,cap,by rw [hcs,hlen],?_,by omega,?_,Nat.zero_le _,?_⟩⟩
     . intro e;rw [e] at hlen;simp at hlen;omega
     . exact World.block_lt_of_cell? W _ (hcell 0 (by omega))
     . intro i hi
       have:=hcell i (by omega);rw [add_plain] at this;rw [this,List.getElem_take,List.getD_eq_getElem?_getD,List.getElem?_eq_getElem (by omega)]
       rfl
theorem ZqX {cs:List Value}{x:DataW H×List MemPlace} (h:DataW.trod enc prog W 0 (fun _=>true) true fuel 62 cs=some x) :
 ∃ (r:Ru) (vv:Value),cs=[vv,.string r.kd,.string r.tm,.string r.pf]/\Zau 0 W vv r.vb/\Zhv r:=by
 obtain⟨xs,n,_,_,hl,hlen,hfld⟩:=DataW.trod_struct underlying62 h;obtain⟨c0,c1,c2,c3,rfl⟩:=Zs2 (hl.trans Tryz.cells62);simp only [Array.size,List.length_cons,List.length_nil] at hlen;have g0:DataW.trod enc prog W 0 (fun _=>true) true n 60 ((([c0,c1,c2,c3]:List Value).drop 0).take (prog.cellsOf 60))=xs[0]?:=hfld 0 _ rfl;have g1:DataW.trod enc prog W 0 (fun _=>true) true n 9 ((([c0,c1,c2,c3]:List Value).drop 1).take (prog.cellsOf 9))=xs[1]?:=hfld 1 _ rfl;have g2:DataW.trod enc prog W 0 (fun _=>true) true n 9 ((([c0,c1,c2,c3]:List Value).drop 2).take (prog.cellsOf 9))=xs[2]?:=hfld 2 _ rfl;have g3:DataW.trod enc prog W 0 (fun _=>true) true n 9 ((([c0,c1,c2,c3]:List Value).drop 3).take (prog.cellsOf 9))=xs[3]?:=hfld 3 _ rfl;simp only [Tryz.cells9,Tryz.cells60,List.drop_succ_cons,List.drop_zero,List.take_succ_cons,List.take_zero] at g0 g1 g2 g3
 rw [List.getElem?_eq_getElem (by omega)] at g0 g1 g2 g3;obtain⟨L,hL⟩:=Zqi g0;obtain⟨k,e1,_,s1⟩:=DataW.trod_string underlying9 g1;obtain⟨t,e2,_,s2⟩:=DataW.trod_string underlying9 g2;obtain⟨p,e3,_,s3⟩:=DataW.trod_string underlying9 g3;simp only [List.cons.injEq,and_true] at e1 e2 e3;subst e1 e2 e3;exact⟨⟨L,k,t,p⟩,c0,rfl,hL,⟨s1,s2,s3⟩⟩
end
end Go.Proofs.YtfohnageehneoaaGreat
