import Derived.Test.YtmappejlmapboaaGreatD24
set_option maxHeartbeats 16000000
set_option maxRecDepth 100000
open Go.Proofs.Tryz
namespace Go.Proofs.YtmappejlmapboaaGreat
open Go.RowKit Go.Deep
theorem ZaF (lr:Nat) (r:Ru) (vv:Value) (w:World) (hv:Zat lr w vv r.vb) (hz:Zhx r) :
 Calls prog 133 #[.agg #[vv,.string r.kd,.string r.tm,.string r.pf]] w fun e w'=>e=.returned (.bool (ZaW r))/\Zw_ w w':=by
 have HV:=Zab hv;have HZ:=Zab hz;have hm:=hv.max;unfold maxLen at hm;have hsz:=hz.s3;unfold maxLen at hsz;obtain⟨a,cap,rfl⟩:=hv.form;clear hv hz
 by_cases hpos:0 < r.vb.length
 case neg=>
  have HR:Hd (ZaW r=false):=by unfold Hd ZaW Zpz;rw [decide_eq_false hpos];rfl
  have h0:r.vb.length=0:=by omega
  rw [h0];clear hm;go_enter func133,ntmps133;go_wp2;go_ret;exact⟨Zaa HR.o.symm,Zac _ _⟩
 have HPOS:=Zab hpos;have hbl:((r.vb.length:Int) == 0)=false:=by rw [beq_eq_false_iff_ne];omega
 have hnil:¬ r.vb=[]:=fun e=>by rw [e] at hpos;simp at hpos
 by_cases h16:(r.pf.size:Int)<=16
 case neg=>
  have HR:Hd (ZaW r=false):=by unfold Hd ZaW;rw [decide_eq_false h16];simp
  have h16':(16:Int) < r.pf.size:=by omega
  go_enter func133,ntmps133;go_wp2;go_ret;exact⟨Zaa HR.o.symm,Zac _ _⟩
 have h16p:¬ (16:Int) < r.pf.size:=by omega
 cases h1:r.kd.toList.isEmpty with
 | true=>
  have HKD:Hd (Zai r.kd=true):=by unfold Hd Zai;rw [h1];rfl
  cases h3:r.tm.toList.isEmpty with
  | true=>
   have HTM:Hd (Zai r.tm=true):=by unfold Hd Zai;rw [h3];rfl
   go_enter func133,ntmps133;go_wp2
   try simp only [hbl]
   try simp only [h2]
   try simp only [h4]
   generalize hWa:w.alloc _=Wa;have HBa:Hd (Zw_ w Wa):=by rw [<- hWa];exact Zac _ _
   have FA:Hd (Box Wa w.heap.size #[.slice a r.vb.length cap,.string r.kd,.string r.tm,.string r.pf]):=by rw [<- hWa];exact Box.new _ _ _ _ rfl
   clear hWa;have HVa:=Zab (HV.o.below HBa.o)
   go_loopw [3] (fun i wr=>∃ k:Nat,i=.int .i64 k/\k<=r.vb.length/\Below Wa.heap.size Wa wr/\∀ i,i < k->vAt r.vb i=true) (fun i _=>r.vb.length - (intOf i).toNat)
   case atStart=>exact⟨0,rfl,by omega,Below.refl _ _,fun i h=>by omega⟩
   case round=>
    obtain⟨k,rfl,hk,hb,hall⟩:=hrel;have HA:=Zab hall;have HB:=Zab hb;clear hall hb;have g0:wr.cell? ⟨w.heap.size,0,none⟩=some (.slice a r.vb.length cap):=(FA.o.on HB.o).cell 0;have g3:wr.cell? ⟨w.heap.size,3,none⟩=some (.string r.pf):=(FA.o.on HB.o).cell 3;have HX0:Hd (Zw_ w wr):=bt HBa.o HB.o;obtain⟨b,off,rfl,hbw,hc⟩:=(HVa.o.below HB.o).full' hpos
    by_cases hlt:k < r.vb.length
    . have c0:=hc k hlt
      cases hi:inB 1 5 r.vb[k] with
      | false=>
       have HR:Hd (ZaW r=false):=by unfold Hd ZaW;rw [Ze1 hlt (Zjs hlt hi)];rfl
       cases k with
       | zero=>
        have c0:wr.cell? ⟨b,off,none⟩=some (.int .i64 r.vb[0]):=by simpa using c0
        go_wp2
        go_quiet ((go_at_call 82;exact (Zao _ _ _ _).mono fun _ _ h=>⟨h.1,_,h.2⟩))
        go_wp2;go_ret;exact⟨Zaa HR.o.symm,below_drewN HX0.o _⟩
       | succ j=>
        go_wp2
        go_quiet ((go_at_call 82;exact (Zao _ _ _ _).mono fun _ _ h=>⟨h.1,_,h.2⟩))
        go_wp2;go_ret;exact⟨Zaa HR.o.symm,below_drewN HX0.o _⟩
      | true=>
       cases k with
       | zero=>
        have c0:wr.cell? ⟨b,off,none⟩=some (.int .i64 r.vb[0]):=by simpa using c0
        have HX:Hd (vAt r.vb 0=true):=by unfold Hd;rw [Zgi hlt];exact hi
        go_wp2
        go_quiet ((go_at_call 82;exact (Zao _ _ _ _).mono fun _ _ h=>⟨h.1,_,h.2⟩))
        go_wp2;go_roundw
        . exact⟨1,by go_num,by omega,below_drewN HB.o _,Zrt HX.o⟩
        . simp [intOf];omega
       | succ j=>
        have cj:=hc j (by omega);have hjw:IntKind.i64.wrap (j:Int)=j:=by rw [IntKind.wrap_i64];omega
        have hjl:j < r.vb.length:=by omega
        have hdl:decide ((j:Int)+1 < (r.vb.length:Int))=true:=by simp;omega
        have cj3:∀ n,(wr.drewN n).cell? ⟨b,off+j,none⟩=some (.int .i64 r.vb[j]):=fun n=>cj
        have c03:∀ n,(wr.drewN n).cell? ⟨b,off+(j+1),none⟩=some (.int .i64 r.vb[j+1]):=fun n=>c0
        by_cases hls:r.vb[j] < r.vb[j+1]
        . have HX:Hd (vAt r.vb (j+1)=true):=by unfold Hd;rw [ZcK hlt,hi,decide_eq_true hls];rfl
          go_wp2
          go_quiet ((go_at_call 82;exact (Zao _ _ _ _).mono fun _ _ h=>⟨h.1,_,h.2⟩))
          go_wp2;go_roundw
          case rel=>exact⟨j+2,by go_num,by omega,below_drewN HB.o _,fun i hi=>by
                     by_cases e:i=j+1
                     . subst e;exact HX.o
                     . exact HA.o i (by omega)⟩
          . simp [intOf];omega
        . have HR:Hd (ZaW r=false):=by unfold Hd ZaW;rw [Ze1 hlt (by rw [ZcK hlt,decide_eq_false hls];simp)];rfl
          go_wp2
          go_quiet ((go_at_call 82;exact (Zao _ _ _ _).mono fun _ _ h=>⟨h.1,_,h.2⟩))
          go_wp2;go_ret;exact⟨Zaa HR.o.symm,below_drewN HX0.o _⟩
    . have HR:Hd (ZaW r=Zgn Zaw r.pf):=by
       unfold Hd ZaW;rw [Zik (by omega) HA.o,decide_eq_true HPOS.o,HKD.o,HTM.o,decide_eq_true h16];rfl
      go_wp2
      go_loop [4] (fun i=>∃ q:Nat,q<=r.pf.size/\i=.int .i64 q/\(r.pf.data.toList.take q).all Zaw=true) (fun i=>r.pf.size - (intOf i).toNat)
      case atStart=>exact⟨0,Nat.zero_le _,rfl,rfl⟩
      case round=>
       obtain⟨q,hq,rfl,hallq⟩:=hrel;have HAQ:=Zab hallq;clear hallq
       by_cases hltq:q < r.pf.size
       . by_cases hn:Zaw r.pf[q]=true
         . go_wp2_with (go_at_call 175;refine (ZcI _ _).mono ?_;rintro e w' ⟨rfl,rfl⟩)
           go_round
           . exact⟨q+1,by omega,by go_num,Zce HAQ.o hltq hn⟩
           . simp [intOf];omega
         . have hn':Zaw r.pf[q]=false:=by simpa using hn
           go_wp2_with (go_at_call 175;refine (ZcI _ _).mono ?_;rintro e w' ⟨rfl,rfl⟩);go_ret;exact⟨Zaa (by rw [HR.o,Zcf hltq hn']),HX0.o⟩
       . go_wp2
         go_ret;exact⟨Zaa (by rw [HR.o,ZcV HAQ.o (by omega)]),HX0.o⟩
  | false=>
   have HTE:Hd (Zai r.tm=Zap r.tm):=by unfold Hd Zai;rw [h3];rfl
   go_enter func133,ntmps133;go_wp2_with fail;refine (Zae r.tm _ HZ.o.s2).mono ?_;rintro e w2 ⟨rfl,rfl⟩
   cases h4:Zap r.tm with
   | false=>
    have HR:Hd (ZaW r=false):=by unfold Hd ZaW;rw [HTE.o,h4];simp
    go_wp2;go_ret;exact⟨Zaa HR.o.symm,Zac _ _⟩
   | true=>
    have HTM:Hd (Zai r.tm=true):=by unfold Hd;rw [HTE.o,h4]
    go_wp2
    try simp only [hbl]
    try simp only [h2]
    try simp only [h4]
    generalize hWa:w.alloc _=Wa;have HBa:Hd (Zw_ w Wa):=by rw [<- hWa];exact Zac _ _
    have FA:Hd (Box Wa w.heap.size #[.slice a r.vb.length cap,.string r.kd,.string r.tm,.string r.pf]):=by rw [<- hWa];exact Box.new _ _ _ _ rfl
    clear hWa;have HVa:=Zab (HV.o.below HBa.o)
    go_loopw [3] (fun i wr=>∃ k:Nat,i=.int .i64 k/\k<=r.vb.length/\Below Wa.heap.size Wa wr/\∀ i,i < k->vAt r.vb i=true) (fun i _=>r.vb.length - (intOf i).toNat)
    case atStart=>exact⟨0,rfl,by omega,Below.refl _ _,fun i h=>by omega⟩
    case round=>
     obtain⟨k,rfl,hk,hb,hall⟩:=hrel;have HA:=Zab hall;have HB:=Zab hb;clear hall hb;have g0:wr.cell? ⟨w.heap.size,0,none⟩=some (.slice a r.vb.length cap):=(FA.o.on HB.o).cell 0;have g3:wr.cell? ⟨w.heap.size,3,none⟩=some (.string r.pf):=(FA.o.on HB.o).cell 3;have HX0:Hd (Zw_ w wr):=bt HBa.o HB.o;obtain⟨b,off,rfl,hbw,hc⟩:=(HVa.o.below HB.o).full' hpos
     by_cases hlt:k < r.vb.length
     . have c0:=hc k hlt
       cases hi:inB 1 5 r.vb[k] with
       | false=>
        have HR:Hd (ZaW r=false):=by unfold Hd ZaW;rw [Ze1 hlt (Zjs hlt hi)];rfl
        cases k with
        | zero=>
         have c0:wr.cell? ⟨b,off,none⟩=some (.int .i64 r.vb[0]):=by simpa using c0
         go_wp2
         go_quiet ((go_at_call 82;exact (Zao _ _ _ _).mono fun _ _ h=>⟨h.1,_,h.2⟩))
         go_wp2;go_ret;exact⟨Zaa HR.o.symm,below_drewN HX0.o _⟩
        | succ j=>
         go_wp2
         go_quiet ((go_at_call 82;exact (Zao _ _ _ _).mono fun _ _ h=>⟨h.1,_,h.2⟩))
         go_wp2;go_ret;exact⟨Zaa HR.o.symm,below_drewN HX0.o _⟩
       | true=>
        cases k with
        | zero=>
         have c0:wr.cell? ⟨b,off,none⟩=some (.int .i64 r.vb[0]):=by simpa using c0
         have HX:Hd (vAt r.vb 0=true):=by unfold Hd;rw [Zgi hlt];exact hi
         go_wp2
         go_quiet ((go_at_call 82;exact (Zao _ _ _ _).mono fun _ _ h=>⟨h.1,_,h.2⟩))
         go_wp2;go_roundw
         . exact⟨1,by go_num,by omega,below_drewN HB.o _,Zrt HX.o⟩
         . simp [intOf];omega
        | succ j=>
         have cj:=hc j (by omega);have hjw:IntKind.i64.wrap (j:Int)=j:=by rw [IntKind.wrap_i64];omega
         have hjl:j < r.vb.length:=by omega
         have hdl:decide ((j:Int)+1 < (r.vb.length:Int))=true:=by simp;omega
         have cj3:∀ n,(wr.drewN n).cell? ⟨b,off+j,none⟩=some (.int .i64 r.vb[j]):=fun n=>cj
         have c03:∀ n,(wr.drewN n).cell? ⟨b,off+(j+1),none⟩=some (.int .i64 r.vb[j+1]):=fun n=>c0
         by_cases hls:r.vb[j] < r.vb[j+1]
         . have HX:Hd (vAt r.vb (j+1)=true):=by unfold Hd;rw [ZcK hlt,hi,decide_eq_true hls];rfl
           go_wp2
           go_quiet ((go_at_call 82;exact (Zao _ _ _ _).mono fun _ _ h=>⟨h.1,_,h.2⟩))
           go_wp2;go_roundw
           case rel=>exact⟨j+2,by go_num,by omega,below_drewN HB.o _,fun i hi=>by
                      by_cases e:i=j+1
                      . subst e;exact HX.o
                      . exact HA.o i (by omega)⟩
           . simp [intOf];omega
         . have HR:Hd (ZaW r=false):=by unfold Hd ZaW;rw [Ze1 hlt (by rw [ZcK hlt,decide_eq_false hls];simp)];rfl
           go_wp2
           go_quiet ((go_at_call 82;exact (Zao _ _ _ _).mono fun _ _ h=>⟨h.1,_,h.2⟩))
           go_wp2;go_ret;exact⟨Zaa HR.o.symm,below_drewN HX0.o _⟩
     . have HR:Hd (ZaW r=Zgn Zaw r.pf):=by
        unfold Hd ZaW;rw [Zik (by omega) HA.o,decide_eq_true HPOS.o,HKD.o,HTM.o,decide_eq_true h16];rfl
       go_wp2
       go_loop [4] (fun i=>∃ q:Nat,q<=r.pf.size/\i=.int .i64 q/\(r.pf.data.toList.take q).all Zaw=true) (fun i=>r.pf.size - (intOf i).toNat)
       case atStart=>exact⟨0,Nat.zero_le _,rfl,rfl⟩
       case round=>
        obtain⟨q,hq,rfl,hallq⟩:=hrel;have HAQ:=Zab hallq;clear hallq
        by_cases hltq:q < r.pf.size
        . by_cases hn:Zaw r.pf[q]=true
          . go_wp2_with (go_at_call 175;refine (ZcI _ _).mono ?_;rintro e w' ⟨rfl,rfl⟩)
            go_round
            . exact⟨q+1,by omega,by go_num,Zce HAQ.o hltq hn⟩
            . simp [intOf];omega
          . have hn':Zaw r.pf[q]=false:=by simpa using hn
            go_wp2_with (go_at_call 175;refine (ZcI _ _).mono ?_;rintro e w' ⟨rfl,rfl⟩);go_ret;exact⟨Zaa (by rw [HR.o,Zcf hltq hn']),HX0.o⟩
        . go_wp2
          go_ret;exact⟨Zaa (by rw [HR.o,ZcV HAQ.o (by omega)]),HX0.o⟩
 | false=>
  have HKE:Hd (Zai r.kd=Zap r.kd):=by unfold Hd Zai;rw [h1];rfl
  go_enter func133,ntmps133;go_wp2_with fail;refine (Zae r.kd _ HZ.o.s1).mono ?_;rintro e w1 ⟨rfl,rfl⟩
  cases h2:Zap r.kd with
  | false=>
   have HR:Hd (ZaW r=false):=by unfold Hd ZaW;rw [HKE.o,h2];simp
   go_wp2;go_ret;exact⟨Zaa HR.o.symm,Zac _ _⟩
  | true=>
   have HKD:Hd (Zai r.kd=true):=by unfold Hd;rw [HKE.o,h2]
   cases h3:r.tm.toList.isEmpty with
   | true=>
    have HTM:Hd (Zai r.tm=true):=by unfold Hd Zai;rw [h3];rfl
    go_wp2
    try simp only [hbl]
    try simp only [h2]
    try simp only [h4]
    generalize hWa:w.alloc _=Wa;have HBa:Hd (Zw_ w Wa):=by rw [<- hWa];exact Zac _ _
    have FA:Hd (Box Wa w.heap.size #[.slice a r.vb.length cap,.string r.kd,.string r.tm,.string r.pf]):=by rw [<- hWa];exact Box.new _ _ _ _ rfl
    clear hWa;have HVa:=Zab (HV.o.below HBa.o)
    go_loopw [3] (fun i wr=>∃ k:Nat,i=.int .i64 k/\k<=r.vb.length/\Below Wa.heap.size Wa wr/\∀ i,i < k->vAt r.vb i=true) (fun i _=>r.vb.length - (intOf i).toNat)
    case atStart=>exact⟨0,rfl,by omega,Below.refl _ _,fun i h=>by omega⟩
    case round=>
     obtain⟨k,rfl,hk,hb,hall⟩:=hrel;have HA:=Zab hall;have HB:=Zab hb;clear hall hb;have g0:wr.cell? ⟨w.heap.size,0,none⟩=some (.slice a r.vb.length cap):=(FA.o.on HB.o).cell 0;have g3:wr.cell? ⟨w.heap.size,3,none⟩=some (.string r.pf):=(FA.o.on HB.o).cell 3;have HX0:Hd (Zw_ w wr):=bt HBa.o HB.o;obtain⟨b,off,rfl,hbw,hc⟩:=(HVa.o.below HB.o).full' hpos
     by_cases hlt:k < r.vb.length
     . have c0:=hc k hlt
       cases hi:inB 1 5 r.vb[k] with
       | false=>
        have HR:Hd (ZaW r=false):=by unfold Hd ZaW;rw [Ze1 hlt (Zjs hlt hi)];rfl
        cases k with
        | zero=>
         have c0:wr.cell? ⟨b,off,none⟩=some (.int .i64 r.vb[0]):=by simpa using c0
         go_wp2
         go_quiet ((go_at_call 82;exact (Zao _ _ _ _).mono fun _ _ h=>⟨h.1,_,h.2⟩))
         go_wp2;go_ret;exact⟨Zaa HR.o.symm,below_drewN HX0.o _⟩
        | succ j=>
         go_wp2
         go_quiet ((go_at_call 82;exact (Zao _ _ _ _).mono fun _ _ h=>⟨h.1,_,h.2⟩))
         go_wp2;go_ret;exact⟨Zaa HR.o.symm,below_drewN HX0.o _⟩
       | true=>
        cases k with
        | zero=>
         have c0:wr.cell? ⟨b,off,none⟩=some (.int .i64 r.vb[0]):=by simpa using c0
         have HX:Hd (vAt r.vb 0=true):=by unfold Hd;rw [Zgi hlt];exact hi
         go_wp2
         go_quiet ((go_at_call 82;exact (Zao _ _ _ _).mono fun _ _ h=>⟨h.1,_,h.2⟩))
         go_wp2;go_roundw
         . exact⟨1,by go_num,by omega,below_drewN HB.o _,Zrt HX.o⟩
         . simp [intOf];omega
        | succ j=>
         have cj:=hc j (by omega);have hjw:IntKind.i64.wrap (j:Int)=j:=by rw [IntKind.wrap_i64];omega
         have hjl:j < r.vb.length:=by omega
         have hdl:decide ((j:Int)+1 < (r.vb.length:Int))=true:=by simp;omega
         have cj3:∀ n,(wr.drewN n).cell? ⟨b,off+j,none⟩=some (.int .i64 r.vb[j]):=fun n=>cj
         have c03:∀ n,(wr.drewN n).cell? ⟨b,off+(j+1),none⟩=some (.int .i64 r.vb[j+1]):=fun n=>c0
         by_cases hls:r.vb[j] < r.vb[j+1]
         . have HX:Hd (vAt r.vb (j+1)=true):=by unfold Hd;rw [ZcK hlt,hi,decide_eq_true hls];rfl
           go_wp2
           go_quiet ((go_at_call 82;exact (Zao _ _ _ _).mono fun _ _ h=>⟨h.1,_,h.2⟩))
           go_wp2;go_roundw
           case rel=>exact⟨j+2,by go_num,by omega,below_drewN HB.o _,fun i hi=>by
                      by_cases e:i=j+1
                      . subst e;exact HX.o
                      . exact HA.o i (by omega)⟩
           . simp [intOf];omega
         . have HR:Hd (ZaW r=false):=by unfold Hd ZaW;rw [Ze1 hlt (by rw [ZcK hlt,decide_eq_false hls];simp)];rfl
           go_wp2
           go_quiet ((go_at_call 82;exact (Zao _ _ _ _).mono fun _ _ h=>⟨h.1,_,h.2⟩))
           go_wp2;go_ret;exact⟨Zaa HR.o.symm,below_drewN HX0.o _⟩
     . have HR:Hd (ZaW r=Zgn Zaw r.pf):=by
        unfold Hd ZaW;rw [Zik (by omega) HA.o,decide_eq_true HPOS.o,HKD.o,HTM.o,decide_eq_true h16];rfl
       go_wp2
       go_loop [4] (fun i=>∃ q:Nat,q<=r.pf.size/\i=.int .i64 q/\(r.pf.data.toList.take q).all Zaw=true) (fun i=>r.pf.size - (intOf i).toNat)
       case atStart=>exact⟨0,Nat.zero_le _,rfl,rfl⟩
       case round=>
        obtain⟨q,hq,rfl,hallq⟩:=hrel;have HAQ:=Zab hallq;clear hallq
        by_cases hltq:q < r.pf.size
        . by_cases hn:Zaw r.pf[q]=true
          . go_wp2_with (go_at_call 175;refine (ZcI _ _).mono ?_;rintro e w' ⟨rfl,rfl⟩)
            go_round
            . exact⟨q+1,by omega,by go_num,Zce HAQ.o hltq hn⟩
            . simp [intOf];omega
          . have hn':Zaw r.pf[q]=false:=by simpa using hn
            go_wp2_with (go_at_call 175;refine (ZcI _ _).mono ?_;rintro e w' ⟨rfl,rfl⟩);go_ret;exact⟨Zaa (by rw [HR.o,Zcf hltq hn']),HX0.o⟩
        . go_wp2
          go_ret;exact⟨Zaa (by rw [HR.o,ZcV HAQ.o (by omega)]),HX0.o⟩
   | false=>
    have HTE:Hd (Zai r.tm=Zap r.tm):=by unfold Hd Zai;rw [h3];rfl
    go_wp2_with fail;refine (Zae r.tm _ HZ.o.s2).mono ?_;rintro e w2 ⟨rfl,rfl⟩
    cases h4:Zap r.tm with
    | false=>
     have HR:Hd (ZaW r=false):=by unfold Hd ZaW;rw [HTE.o,h4];simp
     go_wp2;go_ret;exact⟨Zaa HR.o.symm,Zac _ _⟩
    | true=>
     have HTM:Hd (Zai r.tm=true):=by unfold Hd;rw [HTE.o,h4]
     go_wp2
     try simp only [hbl]
     try simp only [h2]
     try simp only [h4]
     generalize hWa:w.alloc _=Wa;have HBa:Hd (Zw_ w Wa):=by rw [<- hWa];exact Zac _ _
     have FA:Hd (Box Wa w.heap.size #[.slice a r.vb.length cap,.string r.kd,.string r.tm,.string r.pf]):=by rw [<- hWa];exact Box.new _ _ _ _ rfl
     clear hWa;have HVa:=Zab (HV.o.below HBa.o)
     go_loopw [3] (fun i wr=>∃ k:Nat,i=.int .i64 k/\k<=r.vb.length/\Below Wa.heap.size Wa wr/\∀ i,i < k->vAt r.vb i=true) (fun i _=>r.vb.length - (intOf i).toNat)
     case atStart=>exact⟨0,rfl,by omega,Below.refl _ _,fun i h=>by omega⟩
     case round=>
      obtain⟨k,rfl,hk,hb,hall⟩:=hrel;have HA:=Zab hall;have HB:=Zab hb;clear hall hb;have g0:wr.cell? ⟨w.heap.size,0,none⟩=some (.slice a r.vb.length cap):=(FA.o.on HB.o).cell 0;have g3:wr.cell? ⟨w.heap.size,3,none⟩=some (.string r.pf):=(FA.o.on HB.o).cell 3;have HX0:Hd (Zw_ w wr):=bt HBa.o HB.o;obtain⟨b,off,rfl,hbw,hc⟩:=(HVa.o.below HB.o).full' hpos
      by_cases hlt:k < r.vb.length
      . have c0:=hc k hlt
        cases hi:inB 1 5 r.vb[k] with
        | false=>
         have HR:Hd (ZaW r=false):=by unfold Hd ZaW;rw [Ze1 hlt (Zjs hlt hi)];rfl
         cases k with
         | zero=>
          have c0:wr.cell? ⟨b,off,none⟩=some (.int .i64 r.vb[0]):=by simpa using c0
          go_wp2
          go_quiet ((go_at_call 82;exact (Zao _ _ _ _).mono fun _ _ h=>⟨h.1,_,h.2⟩))
          go_wp2;go_ret;exact⟨Zaa HR.o.symm,below_drewN HX0.o _⟩
         | succ j=>
          go_wp2
          go_quiet ((go_at_call 82;exact (Zao _ _ _ _).mono fun _ _ h=>⟨h.1,_,h.2⟩))
          go_wp2;go_ret;exact⟨Zaa HR.o.symm,below_drewN HX0.o _⟩
        | true=>
         cases k with
         | zero=>
          have c0:wr.cell? ⟨b,off,none⟩=some (.int .i64 r.vb[0]):=by simpa using c0
          have HX:Hd (vAt r.vb 0=true):=by unfold Hd;rw [Zgi hlt];exact hi
          go_wp2
          go_quiet ((go_at_call 82;exact (Zao _ _ _ _).mono fun _ _ h=>⟨h.1,_,h.2⟩))
          go_wp2;go_roundw
          . exact⟨1,by go_num,by omega,below_drewN HB.o _,Zrt HX.o⟩
          . simp [intOf];omega
         | succ j=>
          have cj:=hc j (by omega);have hjw:IntKind.i64.wrap (j:Int)=j:=by rw [IntKind.wrap_i64];omega
          have hjl:j < r.vb.length:=by omega
          have hdl:decide ((j:Int)+1 < (r.vb.length:Int))=true:=by simp;omega
          have cj3:∀ n,(wr.drewN n).cell? ⟨b,off+j,none⟩=some (.int .i64 r.vb[j]):=fun n=>cj
          have c03:∀ n,(wr.drewN n).cell? ⟨b,off+(j+1),none⟩=some (.int .i64 r.vb[j+1]):=fun n=>c0
          by_cases hls:r.vb[j] < r.vb[j+1]
          . have HX:Hd (vAt r.vb (j+1)=true):=by unfold Hd;rw [ZcK hlt,hi,decide_eq_true hls];rfl
            go_wp2
            go_quiet ((go_at_call 82;exact (Zao _ _ _ _).mono fun _ _ h=>⟨h.1,_,h.2⟩))
            go_wp2;go_roundw
            case rel=>exact⟨j+2,by go_num,by omega,below_drewN HB.o _,fun i hi=>by
                       by_cases e:i=j+1
                       . subst e;exact HX.o
                       . exact HA.o i (by omega)⟩
            . simp [intOf];omega
          . have HR:Hd (ZaW r=false):=by unfold Hd ZaW;rw [Ze1 hlt (by rw [ZcK hlt,decide_eq_false hls];simp)];rfl
            go_wp2
            go_quiet ((go_at_call 82;exact (Zao _ _ _ _).mono fun _ _ h=>⟨h.1,_,h.2⟩))
            go_wp2;go_ret;exact⟨Zaa HR.o.symm,below_drewN HX0.o _⟩
      . have HR:Hd (ZaW r=Zgn Zaw r.pf):=by
         unfold Hd ZaW;rw [Zik (by omega) HA.o,decide_eq_true HPOS.o,HKD.o,HTM.o,decide_eq_true h16];rfl
        go_wp2
        go_loop [4] (fun i=>∃ q:Nat,q<=r.pf.size/\i=.int .i64 q/\(r.pf.data.toList.take q).all Zaw=true) (fun i=>r.pf.size - (intOf i).toNat)
        case atStart=>exact⟨0,Nat.zero_le _,rfl,rfl⟩
        case round=>
         obtain⟨q,hq,rfl,hallq⟩:=hrel;have HAQ:=Zab hallq;clear hallq
         by_cases hltq:q < r.pf.size
         . by_cases hn:Zaw r.pf[q]=true
           . go_wp2_with (go_at_call 175;refine (ZcI _ _).mono ?_;rintro e w' ⟨rfl,rfl⟩)
             go_round
             . exact⟨q+1,by omega,by go_num,Zce HAQ.o hltq hn⟩
             . simp [intOf];omega
           . have hn':Zaw r.pf[q]=false:=by simpa using hn
             go_wp2_with (go_at_call 175;refine (ZcI _ _).mono ?_;rintro e w' ⟨rfl,rfl⟩);go_ret;exact⟨Zaa (by rw [HR.o,Zcf hltq hn']),HX0.o⟩
         . go_wp2
           go_ret;exact⟨Zaa (by rw [HR.o,ZcV HAQ.o (by omega)]),HX0.o⟩
section
variable {k:Nat}
def gnB (given:Int) (g:Gr):Bool:=inB 1 given g.nu&&Zap g.tw&&Zai g.gb&&ZaW g.ru
def ZaT (B:Bk):Bool:=decide (B.gs.length<=24)&&ZdN Zhm B.gs&&B.gs.all (gnB B.given)
def leB (Ts:List Tm) (x:Le):Bool:=ZgB Ts x.tm&&Zap x.re&&inB 0 1000000 x.mo&&inB 0 x.mo x.fr
def ZaO (Ts:List Tm) (Ls:List Le):Bool:=decide (Ls.length<=10)&&ZdN Zdt Ls&&Ls.all (leB Ts)
def puB (B:Bk) (p:Pu):Bool:=B.ls.any (ZdK p.tm p.re)&&Zap p.dr&&inB 1 1000000 p.am&&inB B.tick (B.tick+10) p.un
def Za4 (B:Bk):Bool:=decide (B.ps.length<=24)&&ZdN ZhA B.ps&&B.ps.all (puB B)
theorem ZcL {X:Type}{L:List X}{f:X->Bool} (hk:k < L.length) (h:f L[k]=false):L.all f=false:=by
 rw [List.all_eq_false];exact⟨L[k],List.getElem_mem hk,by simp [h]⟩
theorem ZeL {X:Type}{L:List X}{f:X->Bool} (h:∀ i (h:i < L.length),f L[i]=true):L.all f=true:=by
 rw [List.all_eq_true];intro x hx;obtain⟨i,hi,rfl⟩:=List.getElem_of_mem hx;exact h i hi
theorem ZdE {X:Type}{L:List X}{f:X->Bool} (hall:∀ j (h:j < L.length),j < k->f L[j]=true) (hk:k < L.length) (h:f L[k]=true):∀ j (h:j < L.length),j < k+1->f L[j]=true:=fun j hj hjk=>by
 by_cases e:j=k
 . subst e;exact h
 . exact hall j hj (by omega)
theorem Zje (Ts:List Tm) (s:Zy_):decide (ZdB Ts s < 0)=!ZgB Ts s:=by
 rw [ZhP];unfold ZdB
 by_cases h:plT Ts s < Ts.length
 . simp [h]
 . simp [h]
section
variable (lo:Nat) (ov gv lv pv:Value) (B:Bk) (w:World)
theorem Ziw (h:ZaU lo w ov gv lv pv B) :
 Calls prog 182 #[.agg #[.int .i64 B.now,.int .i64 B.tick,.int .i64 B.given,ov,gv,lv,pv]] w fun e w'=>e=.returned (.bool (ZaT B))/\Zw_ w w':=by
 have HG:=Zab h.grs;obtain⟨a0,k0,rfl⟩:=h.obs.form;obtain⟨a1,k1,rfl⟩:=h.grs.form;obtain⟨a2,k2,rfl⟩:=h.les.form;obtain⟨a3,k3,rfl⟩:=h.pus.form;have HI:Hd (ZaT B=(decide (B.gs.length<=24)&&ZdN Zhm B.gs&&B.gs.all (gnB B.given))):=rfl;clear h
 by_cases hl:B.gs.length<=24
 case neg=>
  have HE:Hd (ZaT B=false):=by unfold Hd;rw [HI.o,decide_eq_false hl];rfl
  have hgt:decide ((24:Int) < (B.gs.length:Int))=true:=by simp;omega
  go_enter func182,ntmps182;go_wp2;go_ret;exact⟨Zaa HE.o.symm,Zac _ _⟩
 have hgt:decide ((24:Int) < (B.gs.length:Int))=false:=by simp;omega
 go_enter func182,ntmps182;go_wp2_with fail;generalize hWa:w.alloc _=Wa;have HB:Hd (Zw_ w Wa):=by rw [<- hWa];exact Zac w _
 have HX:Hd (Box Wa w.heap.size #[.int .i64 B.now,.int .i64 B.tick,.int .i64 B.given,.slice a0 B.os.length k0,.slice a1 B.gs.length k1,.slice a2 B.ls.length k2,.slice a3 B.ps.length k3]):=by rw [<- hWa];exact Box.new _ _ _ _ rfl
 clear hWa;refine (Znv lo _ B.gs _ (HG.o.below HB.o)).mono ?_;rintro e w1 ⟨rfl,hb1⟩;have HB1:Hd (Zw_ w w1):=HB.o.trans (hb1.mono HB.o.size);have HX1:=Zab (HX.o.on hb1);clear hb1 HB HX
 cases hr:ZdN Zhm B.gs with
 | false=>
  have HE:Hd (ZaT B=false):=by unfold Hd;rw [HI.o,hr,decide_eq_true hl];rfl
  go_wp2;go_ret;exact⟨Zaa HE.o.symm,HB1.o⟩
 | true=>
  have HE:Hd (ZaT B=B.gs.all (gnB B.given)):=by unfold Hd;rw [HI.o,hr,decide_eq_true hl];rfl
  have x4:=HX1.o.cell 4;simp at x4;go_wp2;clear x4
  go_loopw [18] (fun i wr=>∃ k:Nat,i=.int .i64 k/\k<=B.gs.length/\Zw_ w wr/\Box wr w.heap.size #[.int .i64 B.now,.int .i64 B.tick,.int .i64 B.given,.slice a0 B.os.length k0,.slice a1 B.gs.length k1,.slice a2 B.ls.length k2,.slice a3 B.ps.length k3]/\∀ j (h:j < B.gs.length),j < k->gnB B.given B.gs[j]=true) (fun i _=>B.gs.length - (intOf i).toNat)
  case atStart=>exact⟨0,rfl,Nat.zero_le _,HB1.o,HX1.o,fun j _ h=>by omega⟩
  case round=>
   obtain⟨k,rfl,hk,hb,hx,hall⟩:=hrel;have HBr:=Zab hb;have HXr:=Zab hx;have HA:=Zab hall;clear hb hx hall
   by_cases hlt:k < B.gs.length
   . obtain⟨b,off,rfl,hbw,-,hc⟩:=HG.o.full' (by omega)
     obtain⟨hs,vv0,hcell,hv0⟩:=hc k hlt;obtain⟨c0,c1,c2,c3,c4,c5,c6⟩:=hcell.below HBr.o hbw;have HV:=Zab hv0;have HZ:=Zab hs;obtain⟨va,vcap,rfl⟩:=hv0.form;have HQ:Hd (gnB B.given B.gs[k]=(inB 1 B.given B.gs[k].nu&&Zap B.gs[k].tw&&Zai B.gs[k].gb&&ZaW B.gs[k].ru)):=rfl;have x2:=HXr.o.cell 2;simp at x2;have xlt:=HXr.o.lt;have x2:∀ o,(wr.alloc o).cell? ⟨w.heap.size,2,none⟩=some (.int .i64 B.given):=fun o=>(Zaj _ _ _ _ xlt).trans x2
     have HBA:∀ o,Hd (Zw_ w (wr.alloc o)):=fun o=>HBr.o.trans ((Zac _ _).mono HBr.o.size)
     have s0:=hs.s0;have s1:=hs.s1;clear hc hcell hv0 hs xlt
     cases h1:inB 1 B.given B.gs[k].nu with
     | false=>
      have HN:Hd (ZaT B=false):=by unfold Hd;rw [HE.o];exact ZcL hlt (by rw [HQ.o,h1];rfl)
      go_wp2_with (first|(go_at_call 209;refine (ZaR _ _ _ _).mono ?_;rintro e w' ⟨rfl,rfl⟩));go_ret;exact⟨Zaa HN.o.symm,(HBA _).o⟩
     | true=>
      cases h2:Zap B.gs[k].tw with
      | false=>
       have HN:Hd (ZaT B=false):=by unfold Hd;rw [HE.o];exact ZcL hlt (by rw [HQ.o,h1,h2];rfl)
       go_wp2_with (first|(go_at_call 209;refine (ZaR _ _ _ _).mono ?_;rintro e w' ⟨rfl,rfl⟩)|(go_at_call 206;refine (Zan _ _ s0).mono ?_;rintro e w' ⟨rfl,rfl⟩));go_ret;exact⟨Zaa HN.o.symm,(HBA _).o⟩
      | true=>
       cases h3:Zai B.gs[k].gb with
       | false=>
        have HN:Hd (ZaT B=false):=by unfold Hd;rw [HE.o];exact ZcL hlt (by rw [HQ.o,h1,h2,h3];rfl)
        go_wp2_with (first|(go_at_call 209;refine (ZaR _ _ _ _).mono ?_;rintro e w' ⟨rfl,rfl⟩)|(go_at_call 206;refine (Zan _ _ s0).mono ?_;rintro e w' ⟨rfl,rfl⟩)|(go_at_call 216;refine (ZbL _ _ s1).mono ?_;rintro e w' ⟨rfl,rfl⟩));go_ret;exact⟨Zaa HN.o.symm,(HBA _).o⟩
       | true=>
        have HRZ:Hd (Zhx B.gs[k].ru):=⟨HZ.o.s2,HZ.o.s3,HZ.o.s4⟩;go_wp2_with (first|(go_at_call 209;refine (ZaR _ _ _ _).mono ?_;rintro e w' ⟨rfl,rfl⟩)|(go_at_call 206;refine (Zan _ _ s0).mono ?_;rintro e w' ⟨rfl,rfl⟩)|(go_at_call 216;refine (ZbL _ _ s1).mono ?_;rintro e w' ⟨rfl,rfl⟩));refine (ZkQ lo B.gs[k].ru _ _ ((HV.o.below HBr.o).below (Zac _ _)) HRZ.o).mono ?_;rintro e w2 ⟨rfl,hb2⟩;have HB2:Hd (Zw_ w w2):=(HBA _).o.trans (hb2.mono (HBA _).o.size);have HX2:=Zab ((HXr.o.on (Zac _ _)).on hb2);clear hb2
        cases h4:ZaW B.gs[k].ru with
        | false=>
         have HN:Hd (ZaT B=false):=by unfold Hd;rw [HE.o];exact ZcL hlt (by rw [HQ.o,h1,h2,h3,h4];rfl)
         go_wp2;go_ret;exact⟨Zaa HN.o.symm,HB2.o⟩
        | true=>
         have HT:Hd (gnB B.given B.gs[k]=true):=by unfold Hd;rw [HQ.o,h1,h2,h3,h4];rfl
         go_wp2;go_roundw
         . exact⟨k+1,by go_num,by omega,HB2.o,HX2.o,ZdE HA.o hlt HT.o⟩
         . simp [intOf];omega
   . have HT:Hd (ZaT B=true):=by unfold Hd;rw [HE.o];exact ZeL (fun i hi=>HA.o i hi (by omega))
     go_wp2;go_ret;exact⟨Zaa HT.o.symm,HBr.o⟩
theorem Zix (h:ZaU lo w ov gv lv pv B) (hn:B.ls.length<=1048576) (hrl:ZdN Zdt B.ls=true) (ht:inB 0 1000000 B.tick=true) :
 Calls prog 184 #[.agg #[.int .i64 B.now,.int .i64 B.tick,.int .i64 B.given,ov,gv,lv,pv]] w fun e w'=>e=.returned (.bool (Za4 B))/\Zw_ w w':=by
 have HG:=Zab h.pus;have HL:=Zab h.les;have HRL:=Zab hrl;obtain⟨a0,k0,rfl⟩:=h.obs.form;obtain⟨a1,k1,rfl⟩:=h.grs.form;obtain⟨a2,k2,rfl⟩:=h.les.form;obtain⟨a3,k3,rfl⟩:=h.pus.form;have HI:Hd (Za4 B=(decide (B.ps.length<=24)&&ZdN ZhA B.ps&&B.ps.all (puB B))):=rfl;have ht0:0<=B.tick/\B.tick<=1000000:=by unfold inB at ht;exact of_decide_eq_true ht
 clear h hrl ht
 by_cases hl:B.ps.length<=24
 case neg=>
  have HE:Hd (Za4 B=false):=by unfold Hd;rw [HI.o,decide_eq_false hl];rfl
  have hgt:decide ((24:Int) < (B.ps.length:Int))=true:=by simp;omega
  go_enter func184,ntmps184;go_wp2;go_ret;exact⟨Zaa HE.o.symm,Zac _ _⟩
 have hgt:decide ((24:Int) < (B.ps.length:Int))=false:=by simp;omega
 go_enter func184,ntmps184;go_wp2_with fail;generalize hWa:w.alloc _=Wa;have HB:Hd (Zw_ w Wa):=by rw [<- hWa];exact Zac w _
 have HX:Hd (Box Wa w.heap.size #[.int .i64 B.now,.int .i64 B.tick,.int .i64 B.given,.slice a0 B.os.length k0,.slice a1 B.gs.length k1,.slice a2 B.ls.length k2,.slice a3 B.ps.length k3]):=by rw [<- hWa];exact Box.new _ _ _ _ rfl
 clear hWa;refine (Zny lo _ B.ps _ (HG.o.below HB.o)).mono ?_;rintro e w1 ⟨rfl,hb1⟩;have HB1:Hd (Zw_ w w1):=HB.o.trans (hb1.mono HB.o.size);have HX1:=Zab (HX.o.on hb1);clear hb1 HB HX
 cases hr:ZdN ZhA B.ps with
 | false=>
  have HE:Hd (Za4 B=false):=by unfold Hd;rw [HI.o,hr,decide_eq_true hl];rfl
  go_wp2;go_ret;exact⟨Zaa HE.o.symm,HB1.o⟩
 | true=>
  have HE:Hd (Za4 B=B.ps.all (puB B)):=by unfold Hd;rw [HI.o,hr,decide_eq_true hl];rfl
  have x4:=HX1.o.cell 6;simp at x4;go_wp2;clear x4
  go_loopw [20] (fun i wr=>∃ k:Nat,i=.int .i64 k/\k<=B.ps.length/\Zw_ w wr/\Box wr w.heap.size #[.int .i64 B.now,.int .i64 B.tick,.int .i64 B.given,.slice a0 B.os.length k0,.slice a1 B.gs.length k1,.slice a2 B.ls.length k2,.slice a3 B.ps.length k3]/\∀ j (h:j < B.ps.length),j < k->puB B B.ps[j]=true) (fun i _=>B.ps.length - (intOf i).toNat)
  case atStart=>exact⟨0,rfl,Nat.zero_le _,HB1.o,HX1.o,fun j _ h=>by omega⟩
  case round=>
   obtain⟨k,rfl,hk,hb,hx,hall⟩:=hrel;have HBr:=Zab hb;have HXr:=Zab hx;have HA:=Zab hall;clear hb hx hall
   by_cases hlt:k < B.ps.length
   . obtain⟨b,off,rfl,hbw,-,hc⟩:=HG.o.full' (by omega)
     obtain⟨hs,hcell⟩:=hc k hlt;obtain⟨c0,c1,c2,c3,c4⟩:=hcell.below HBr.o hbw;have HZ:=Zab hs;have HQ:Hd (puB B B.ps[k]=(B.ls.any (ZdK B.ps[k].tm B.ps[k].re)&&Zap B.ps[k].dr&&inB 1 1000000 B.ps[k].am&&inB B.tick (B.tick+10) B.ps[k].un)):=rfl;have x5:=HXr.o.cell 5;simp at x5;have xlt:=HXr.o.lt;have x5:∀ o,(wr.alloc o).cell? ⟨w.heap.size,5,none⟩=some (.slice a2 B.ls.length k2):=fun o=>(Zaj _ _ _ _ xlt).trans x5
     have HBA:∀ o,Hd (Zw_ w (wr.alloc o)):=fun o=>HBr.o.trans ((Zac _ _).mono HBr.o.size)
     clear hc hcell hs xlt;go_wp2_with fail;generalize hWb:wr.alloc _=Wb;have HBb:Hd (Zw_ w Wb):=by rw [<- hWb];exact (HBA _).o
     have HXb:Hd (Box Wb w.heap.size #[.int .i64 B.now,.int .i64 B.tick,.int .i64 B.given,.slice a0 B.os.length k0,.slice a1 B.gs.length k1,.slice a2 B.ls.length k2,.slice (some ⟨b,off,none⟩) B.ps.length k3]):=by rw [<- hWb];exact HXr.o.on (Zac _ _)
     have HYb:Hd (Box Wb wr.heap.size #[.string B.ps[k].dr,.string B.ps[k].tm,.string B.ps[k].re,.int .i64 B.ps[k].am,.int .i64 B.ps[k].un]):=by rw [<- hWb];exact Box.new _ _ _ _ rfl
     clear hWb x5 HBA;refine (Zh0 lo _ B.ls _ _ _ (HL.o.below HBb.o) hn HRL.o).mono ?_;rintro e w2 ⟨⟨p,-,rfl⟩,hb2⟩;have HB2:Hd (Zw_ w w2):=HBb.o.trans (hb2.mono HBb.o.size);have HX2:=Zab (HXb.o.on hb2);have HY2:=Zab (HYb.o.on hb2);have s0:=HZ.o.s0;have y0:=HY2.o.cell 0;have y3:=HY2.o.cell 3;have y4:=HY2.o.cell 4;have z1:=HX2.o.cell 1;simp at y0 y3 y4 z1;clear hb2 HBb HXb HYb
     cases h1:B.ls.any (ZdK B.ps[k].tm B.ps[k].re) with
     | false=>
      have HN:Hd (Za4 B=false):=by unfold Hd;rw [HE.o];exact ZcL hlt (by rw [HQ.o,h1];rfl)
      go_wp2;go_ret;exact⟨Zaa HN.o.symm,HB2.o⟩
     | true=>
      cases h2:Zap B.ps[k].dr with
      | false=>
       have HN:Hd (Za4 B=false):=by unfold Hd;rw [HE.o];exact ZcL hlt (by rw [HQ.o,h1,h2];rfl)
       go_wp2_with (go_at_call 206;refine (Zan _ _ s0).mono ?_;rintro e w' ⟨rfl,rfl⟩);go_ret;exact⟨Zaa HN.o.symm,HB2.o⟩
      | true=>
       cases h3:inB 1 1000000 B.ps[k].am with
       | false=>
        have HN:Hd (Za4 B=false):=by unfold Hd;rw [HE.o];exact ZcL hlt (by rw [HQ.o,h1,h2,h3];rfl)
        go_wp2_with (first|(go_at_call 206;refine (Zan _ _ s0).mono ?_;rintro e w' ⟨rfl,rfl⟩)|(go_at_call 209;refine (ZaR _ _ _ _).mono ?_;rintro e w' ⟨rfl,rfl⟩));go_ret;exact⟨Zaa HN.o.symm,HB2.o⟩
       | true=>
        cases h4:inB B.tick (B.tick+10) B.ps[k].un with
        | false=>
         have HN:Hd (Za4 B=false):=by unfold Hd;rw [HE.o];exact ZcL hlt (by rw [HQ.o,h1,h2,h3,h4];rfl)
         go_wp2_with (first|(go_at_call 206;refine (Zan _ _ s0).mono ?_;rintro e w' ⟨rfl,rfl⟩)|(go_at_call 209;refine (ZaR _ _ _ _).mono ?_;rintro e w' ⟨rfl,rfl⟩));go_ret;exact⟨Zaa HN.o.symm,HB2.o⟩
        | true=>
         have HT:Hd (puB B B.ps[k]=true):=by unfold Hd;rw [HQ.o,h1,h2,h3,h4];rfl
         go_wp2_with (first|(go_at_call 206;refine (Zan _ _ s0).mono ?_;rintro e w' ⟨rfl,rfl⟩)|(go_at_call 209;refine (ZaR _ _ _ _).mono ?_;rintro e w' ⟨rfl,rfl⟩));go_roundw
         . exact⟨k+1,by go_num,by omega,HB2.o,HX2.o,ZdE HA.o hlt HT.o⟩
         . simp [intOf];omega
   . have HT:Hd (Za4 B=true):=by unfold Hd;rw [HE.o];exact ZeL (fun i hi=>HA.o i hi (by omega))
     go_wp2;go_ret;exact⟨Zaa HT.o.symm,HBr.o⟩
end
section
variable (lo:Nat) (sv mv tv lv:Value) (Ss:List Sh) (Ms:List Md) (Ts:List Tm) (Ls:List Le) (w:World)
theorem ZhR (h:ZbH lo w sv mv tv Ss Ms Ts) (hl:ZbJ lo w lv Ls) :
 Calls prog 183 #[.agg #[sv,mv,tv],lv] w fun e w'=>e=.returned (.bool (ZaO Ts Ls))/\Zw_ w w':=by
 have HL:=Zab h;have HG:=Zab hl;obtain⟨sa,sc,rfl⟩:=h.shs.form;obtain⟨ma,mc,rfl⟩:=h.mds.form;obtain⟨ta,tc,rfl⟩:=h.tms.form;obtain⟨la,lc,rfl⟩:=hl.form;have HI:Hd (ZaO Ts Ls=(decide (Ls.length<=10)&&ZdN Zdt Ls&&Ls.all (leB Ts))):=rfl;clear h hl
 by_cases hl:Ls.length<=10
 case neg=>
  have HE:Hd (ZaO Ts Ls=false):=by unfold Hd;rw [HI.o,decide_eq_false hl];rfl
  have hgt:decide ((10:Int) < (Ls.length:Int))=true:=by simp;omega
  go_enter func183,ntmps183;go_wp2;go_ret;exact⟨Zaa HE.o.symm,Zac _ _⟩
 have hgt:decide ((10:Int) < (Ls.length:Int))=false:=by simp;omega
 go_enter func183,ntmps183;go_wp2_with fail;generalize hWa:w.alloc _=Wa;have HB:Hd (Zw_ w Wa):=by rw [<- hWa];exact Zac w _
 have HX:Hd (Box Wa w.heap.size #[.slice sa Ss.length sc,.slice ma Ms.length mc,.slice ta Ts.length tc]):=by rw [<- hWa];exact Box.new _ _ _ _ rfl
 clear hWa;refine (Znw lo _ Ls _ (HG.o.below HB.o)).mono ?_;rintro e w1 ⟨rfl,hb1⟩;have HB1:Hd (Zw_ w w1):=HB.o.trans (hb1.mono HB.o.size);have HX1:=Zab (HX.o.on hb1);clear hb1 HB HX
 cases hr:ZdN Zdt Ls with
 | false=>
  have HE:Hd (ZaO Ts Ls=false):=by unfold Hd;rw [HI.o,hr,decide_eq_true hl];rfl
  go_wp2;go_ret;exact⟨Zaa HE.o.symm,HB1.o⟩
 | true=>
  have HE:Hd (ZaO Ts Ls=Ls.all (leB Ts)):=by unfold Hd;rw [HI.o,hr,decide_eq_true hl];rfl
  go_wp2
  go_loopw [17] (fun i wr=>∃ k:Nat,i=.int .i64 k/\k<=Ls.length/\Zw_ w wr/\Box wr w.heap.size #[.slice sa Ss.length sc,.slice ma Ms.length mc,.slice ta Ts.length tc]/\∀ j (h:j < Ls.length),j < k->leB Ts Ls[j]=true) (fun i _=>Ls.length - (intOf i).toNat)
  case atStart=>exact⟨0,rfl,Nat.zero_le _,HB1.o,HX1.o,fun j _ h=>by omega⟩
  case round=>
   obtain⟨k,rfl,hk,hb,hx,hall⟩:=hrel;have HBr:=Zab hb;have HXr:=Zab hx;have HA:=Zab hall;clear hb hx hall
   by_cases hlt:k < Ls.length
   . obtain⟨b,off,rfl,hbw,-,hc⟩:=HG.o.full' (by omega)
     obtain⟨hs,hcell⟩:=hc k hlt;obtain⟨c0,c1,c2,c3⟩:=hcell.below HBr.o hbw;have HZ:=Zab hs;have HQ:Hd (leB Ts Ls[k]=(ZgB Ts Ls[k].tm&&Zap Ls[k].re&&inB 0 1000000 Ls[k].mo&&inB 0 Ls[k].mo Ls[k].fr)):=rfl;have HP:=Zab (Zje Ts Ls[k].tm);have x5:=HXr.o.cell 2;simp at x5;have xlt:=HXr.o.lt;have x5:∀ o,(wr.alloc o).cell? ⟨w.heap.size,2,none⟩=some (.slice ta Ts.length tc):=fun o=>(Zaj _ _ _ _ xlt).trans x5
     have HBA:∀ o,Hd (Zw_ w (wr.alloc o)):=fun o=>HBr.o.trans ((Zac _ _).mono HBr.o.size)
     clear hc hcell hs xlt;go_wp2_with fail;generalize hWb:wr.alloc _=Wb;have HBb:Hd (Zw_ w Wb):=by rw [<- hWb];exact (HBA _).o
     have HXb:Hd (Box Wb w.heap.size #[.slice sa Ss.length sc,.slice ma Ms.length mc,.slice ta Ts.length tc]):=by rw [<- hWb];exact HXr.o.on (Zac _ _)
     have HYb:Hd (Box Wb wr.heap.size #[.string Ls[k].tm,.string Ls[k].re,.int .i64 Ls[k].mo,.int .i64 Ls[k].fr]):=by rw [<- hWb];exact Box.new _ _ _ _ rfl
     clear hWb x5 HBA;refine (ZcB lo _ Ts _ _ (HL.o.below HBb.o).tms).mono ?_;rintro e w2 ⟨rfl,hb2⟩;have HB2:Hd (Zw_ w w2):=HBb.o.trans (hb2.mono HBb.o.size);have HX2:=Zab (HXb.o.on hb2);have HY2:=Zab (HYb.o.on hb2);have s1:=HZ.o.s1;have y1:=HY2.o.cell 1;have y2:=HY2.o.cell 2;have y3:=HY2.o.cell 3;simp at y1 y2 y3;clear hb2 HBb HXb HYb
     cases h1:ZgB Ts Ls[k].tm with
     | false=>
      have HN:Hd (ZaO Ts Ls=false):=by unfold Hd;rw [HE.o];exact ZcL hlt (by rw [HQ.o,h1];rfl)
      have hd:decide (ZdB Ts Ls[k].tm < 0)=true:=by rw [HP.o,h1];rfl
      go_wp2;go_ret;exact⟨Zaa HN.o.symm,HB2.o⟩
     | true=>
      have hd:decide (ZdB Ts Ls[k].tm < 0)=false:=by rw [HP.o,h1];rfl
      cases h2:Zap Ls[k].re with
      | false=>
       have HN:Hd (ZaO Ts Ls=false):=by unfold Hd;rw [HE.o];exact ZcL hlt (by rw [HQ.o,h1,h2];rfl)
       go_wp2_with (go_at_call 206;refine (Zan _ _ s1).mono ?_;rintro e w' ⟨rfl,rfl⟩);go_ret;exact⟨Zaa HN.o.symm,HB2.o⟩
      | true=>
       cases h3:inB 0 1000000 Ls[k].mo with
       | false=>
        have HN:Hd (ZaO Ts Ls=false):=by unfold Hd;rw [HE.o];exact ZcL hlt (by rw [HQ.o,h1,h2,h3];rfl)
        go_wp2_with (first|(go_at_call 206;refine (Zan _ _ s1).mono ?_;rintro e w' ⟨rfl,rfl⟩)|(go_at_call 209;refine (ZaR _ _ _ _).mono ?_;rintro e w' ⟨rfl,rfl⟩));go_ret;exact⟨Zaa HN.o.symm,HB2.o⟩
       | true=>
        cases h4:inB 0 Ls[k].mo Ls[k].fr with
        | false=>
         have HN:Hd (ZaO Ts Ls=false):=by unfold Hd;rw [HE.o];exact ZcL hlt (by rw [HQ.o,h1,h2,h3,h4];rfl)
         go_wp2_with (first|(go_at_call 206;refine (Zan _ _ s1).mono ?_;rintro e w' ⟨rfl,rfl⟩)|(go_at_call 209;refine (ZaR _ _ _ _).mono ?_;rintro e w' ⟨rfl,rfl⟩));go_ret;exact⟨Zaa HN.o.symm,HB2.o⟩
        | true=>
         have HT:Hd (leB Ts Ls[k]=true):=by unfold Hd;rw [HQ.o,h1,h2,h3,h4];rfl
         go_wp2_with (first|(go_at_call 206;refine (Zan _ _ s1).mono ?_;rintro e w' ⟨rfl,rfl⟩)|(go_at_call 209;refine (ZaR _ _ _ _).mono ?_;rintro e w' ⟨rfl,rfl⟩));go_roundw
         . exact⟨k+1,by go_num,by omega,HB2.o,HX2.o,ZdE HA.o hlt HT.o⟩
         . simp [intOf];omega
   . have HT:Hd (ZaO Ts Ls=true):=by unfold Hd;rw [HE.o];exact ZeL (fun i hi=>HA.o i hi (by omega))
     go_wp2;go_ret;exact⟨Zaa HT.o.symm,HBr.o⟩
end
end
variable {L:List Int} {wr w1:World} {B k:Nat} {Xl:List Gr}
theorem Zav.setLow {lo hi:Nat}{w:World}{v:Value} (h:Zav lo hi w v L) {p:Addr} (hp:p.block < lo) (u:Value):Zav lo hi (w.setCell p u) v L:=by
 rcases h with h | ⟨b,off,cap,h1,h2,h3,h4,h5,h7,h8,h9⟩
 . exact Or.inl h
 . exact Or.inr ⟨b,off,cap,h1,h2,h3,by simpa [World.setCell] using h4,fun i hi'=>by rw [Zar _ _ _ _ (by show b≠p.block;omega)];exact h5 i hi',h7,h8,fun i=>by rw [World.frozen?_setCell];exact h9 i⟩
theorem Zdf.own (h:Zdf wr B L k) (hk:L.length<=k) (hne:L≠[]) (hm:L.length<=maxLen):Zav B wr.heap.size wr (.slice (some ⟨B,0,none⟩) L.length L.length) L:=by
 refine Or.inr ⟨B,0,L.length,rfl,hne,hm,World.rowIs.lt h,fun i hi=>?_,Nat.le_refl _,World.rowIs.lt h,fun i=>by rw [Nat.zero_add];exact World.rowIs.frozen h i⟩;rw [Nat.zero_add,World.rowIs.cell h hi];unfold ZrO;rw [if_pos (by omega),List.getD_eq_getElem?_getD,List.getElem?_eq_getElem hi];rfl
theorem ZmL (lo:Nat) (v:Value) (L:List Int) (w:World) (hv:Zat lo w v L) (hn:L.length<=1048576) :
 Calls prog 177 #[v] w fun e w'=>∃ v',e=.returned v'/\Zw_ w w'/\Zav w.heap.size w'.heap.size w' v' L:=by
 by_cases hL:L=[]
 . subst hL
   obtain⟨a,cap,rfl⟩:=hv.form;clear hv
   have hmk:∀ u:World,(Instr.makeSlice 35 (.int .i64 0) (.int .i64 0)).run prog u=.ok (.slice (some ⟨u.heap.size,0,none⟩) 0 0) (u.alloc (.cells (madeCells #[.int .i64 0] 0) 3)):=
    fun u=>run_make_row' 35 3 (.int .i64 0) 8 underlying35 Tryz.info3 rfl .i64 .i64 0 (by omega) (by omega) u
   go_enter func177,ntmps177;go_wp2
   go_loop [4] (fun i=>i=.int .i64 0) (fun _=>0)
   case atStart=>rfl
   case round=>
    subst hrel;go_wp2;go_ret;exact⟨_,rfl,Zb_.alloc Zl_ _,Or.inl ⟨_,_,rfl,rfl⟩⟩
 . obtain⟨b,off,cap,rfl,hm,hbw,hc⟩:=hv.full hL
   clear hv;have HM:Hd (L.length<=maxLen):=hm;unfold maxLen at hm
   have hmk:∀ u:World,(Instr.makeSlice 35 (.int .i64 (L.length:Int)) (.int .i64 (L.length:Int))).run prog u=.ok (.slice (some ⟨u.heap.size,0,none⟩) L.length L.length) (u.alloc (.cells (madeCells #[.int .i64 0] L.length) 3)):=
    fun u=>run_make_row' 35 3 (.int .i64 0) 8 underlying35 Tryz.info3 rfl .i64 .i64 L.length (by omega) (by omega) u
   go_enter func177,ntmps177;go_wp2;clear hmk
   go_loopw [4] (fun i wr=>∃ k:Nat,i=.int .i64 k/\k<=L.length/\Zw_ w wr/\Zdf wr w.heap.size L k) (fun i _=>L.length - (intOf i).toNat)
   case atStart=>exact⟨0,rfl,by omega,Zb_.alloc Zl_ _,World.rowIs_made w (.int .i64 0) L.length 3⟩
   case round=>
    obtain⟨k,rfl,hk,hb,hf⟩:=hrel
    by_cases hlt:k < L.length
    . have hck:wr.cell? ⟨b,off+k,none⟩=some (.int .i64 L[k]):=by rw [hb.cell (p:=⟨b,off+k,none⟩) hbw];exact hc k hlt
      have hold:wr.cell? ⟨w.heap.size,k,none⟩=some _:=World.rowIs.cell hf hlt;have hfz:wr.frozen? ⟨w.heap.size,k,none⟩=false:=World.rowIs.frozen hf k;go_wp2;go_roundw
      . exact⟨k+1,by go_num,by omega,hb.setCell Zl_ _,hf.step hlt⟩
      . simp [intOf];omega
    . go_wp2
      go_ret;exact⟨_,rfl,hb,Zdf.own hf (by omega) hL HM.o⟩
theorem ZmM (lo:Nat) (r:Ru) (vv:Value) (w:World) (hv:Zat lo w vv r.vb) (hn:r.vb.length<=1048576) :
 Calls prog 140 #[.agg #[vv,.string r.kd,.string r.tm,.string r.pf]] w
  fun e w'=>∃ v',e=.returned (.agg #[v',.string r.kd,.string r.tm,.string r.pf])/\Zw_ w w'/\Zav w.heap.size w'.heap.size w' v' r.vb:=by
 have HV:=Zab hv;obtain⟨a,cap,rfl⟩:=hv.form;clear hv;go_enter func140,ntmps140;go_wp2_with fail;refine (ZmL lo _ r.vb _ (HV.o.below ?_) hn).mono ?_
 . exact ((Zb_.alloc Zl_ _).alloc (by simp) _).alloc (by simp;omega) _
 rintro e w1 ⟨v',rfl,hb,hs⟩;obtain⟨a',cap',rfl⟩:=hs.form;have HS:Hd (Zav (w.heap.size+3) w1.heap.size w1 (.slice a' r.vb.length cap') r.vb):=hs.wide (by simp) Zl_;clear hs;have hz:w.heap.size+2 < w1.heap.size:=by have:=hb.size;simp at this;omega
 have hc:∀ b o,b < w.heap.size+3->w1.cell? ⟨b,o,none⟩=_:=fun b o h=>hb.cell (p:=⟨b,o,none⟩) (by simpa using h)
 have hf:∀ b o,b < w.heap.size+3->w1.frozen? ⟨b,o,none⟩=_:=fun b o h=>hb.frozen (p:=⟨b,o,none⟩) (by simpa using h)
 have HB:Hd (Zw_ w w1):=(((Zb_.alloc Zl_ _).alloc (by simp) _).alloc (by simp;omega) _).trans (hb.mono (by simp;omega));clear hb;go_wp2;refine bodyPost_ret (v:=.agg #[.slice a' r.vb.length cap',.string r.kd,.string r.tm,.string r.pf]) (by simp [results,results140,go_sem,hc]) rfl ⟨_,rfl,?_,?_⟩
 . repeat (refine Below.setCell ?_ (by simp only [];omega) _)
   exact HB.o
 . refine Zav.wide (lo:=w.heap.size+3) (hi:=w1.heap.size) ?_ (by omega) (by simp [World.setCell])
   repeat (refine Zav.setLow ?_ (by simp only [];omega) _)
   exact HS.o
theorem Zrk (lo:Nat) (x:Gr) (vv0:Value) (w:World) (hv0:Zat lo w vv0 x.vb) (hn:ZeF x) :
 Calls prog 90 #[.agg #[.int .i64 x.nu,.string x.tw,.string x.gb,vv0,.string x.kd,.string x.tm,.string x.pf]] w
  fun e w'=>∃ z0,e=.returned (.agg #[.int .i64 x.nu,.string x.tw,.string x.gb,z0,.string x.kd,.string x.tm,.string x.pf])/\Zw_ w w'/\Zav w.heap.size w'.heap.size w' z0 x.vb:=by
 have HV:=Zab hv0;obtain⟨a,cap,rfl⟩:=hv0.form;have hn':x.ru.vb.length<=1048576:=hn;clear hv0 hn;go_enter func90,ntmps90;go_wp2_with fail;refine (ZmM lo x.ru _ _ (HV.o.below ?_) hn').mono ?_
 . exact ((Zb_.alloc Zl_ _).alloc (by simp) _).alloc (by simp;omega) _
 rintro e w1 ⟨v',rfl,hb,hs⟩;obtain⟨a',cap',rfl⟩:=hs.form;have HS:Hd (Zav (w.heap.size+3) w1.heap.size w1 (.slice a' x.ru.vb.length cap') x.vb):=hs.wide (by simp) Zl_;clear hs;have hz:w.heap.size+2 < w1.heap.size:=by have:=hb.size;simp at this;omega
 have hc:∀ b o,b < w.heap.size+3->w1.cell? ⟨b,o,none⟩=_:=fun b o h=>hb.cell (p:=⟨b,o,none⟩) (by simpa using h)
 have hf:∀ b o,b < w.heap.size+3->w1.frozen? ⟨b,o,none⟩=_:=fun b o h=>hb.frozen (p:=⟨b,o,none⟩) (by simpa using h)
 have HB:Hd (Zw_ w w1):=(((Zb_.alloc Zl_ _).alloc (by simp) _).alloc (by simp;omega) _).trans (hb.mono (by simp;omega));clear hb;go_wp2;refine bodyPost_ret (v:=.agg #[.int .i64 x.nu,.string x.tw,.string x.gb,(.slice a' x.ru.vb.length cap'),.string x.kd,.string x.tm,.string x.pf]) (by simp [results,results90,go_sem,hc];exact⟨rfl,rfl,rfl⟩) rfl ⟨_,rfl,?_,?_⟩
 . repeat (refine Below.setCell ?_ (by simp only [];omega) _)
   exact HB.o
 . refine Zav.wide (lo:=w.heap.size+3) (hi:=w1.heap.size) ?_ (by omega) (by simp [World.setCell])
   repeat (refine Zav.setLow ?_ (by simp only [];omega) _)
   exact HS.o
def Za7 (wr:World) (B:Nat) (Xl:List Gr) (k:Nat) (c:Nat->Nat):Prop:=
 B < c 0/\(∀ i,i < k->c i<=c (i+1))/\c k<=wr.heap.size/\∃ f,wr.rowIs B 140 (Xl.length*7) f/\∀ i (h:i < Xl.length),i < k->ZeE Xl[i]/\∃ (vv0:Value),(c i)<=(c (i+1))/\f (i*7)=.int .i64 Xl[i].nu/\f (i*7+1)=.string Xl[i].tw/\f (i*7+2)=.string Xl[i].gb/\f (i*7+3)=vv0/\f (i*7+4)=.string Xl[i].kd/\f (i*7+5)=.string Xl[i].tm/\f (i*7+6)=.string Xl[i].pf/\Zav (c i) (c (i+1)) wr vv0 Xl[i].vb
theorem Za7.le {c:Nat->Nat} (h:Za7 wr B Xl k c) {i:Nat}:∀ {j:Nat},i<=j->j<=k->c i<=c j:=by
 intro j
 induction j with
 | zero=>intro hij _;have:i=0:=by omega
         subst this;exact Nat.le_refl _
 | succ j ih=>
  intro hij hjn
  by_cases e:i=j+1
  . subst e;exact Nat.le_refl _
  . exact Nat.le_trans (ih (by omega) (by omega)) (h.2.1 j (by omega))
theorem Za7.below {c:Nat->Nat} (h:Za7 wr B Xl k c) (hb:Below wr.heap.size wr w1):Za7 w1 B Xl k c:=by
 obtain⟨g1,g2,g3,f,hr,hall⟩:=h;refine⟨g1,g2,Nat.le_trans g3 hb.size,f,hr.of_block (hb.block B hr.lt),fun i hi hik=>?_⟩;obtain⟨hz,vv0,q0,h0,h1,h2,h3,h4,h5,h6,l0⟩:=hall i hi hik;exact⟨hz,vv0,q0,h0,h1,h2,h3,h4,h5,h6,l0.below hb⟩
theorem Za7.free {c:Nat->Nat} (h:Za7 wr B Xl k c) (i:Nat):wr.frozen? ⟨B,i,none⟩=false:=by
 obtain⟨_,_,_,f,hr,_⟩:=h;exact hr.frozen i
theorem Za7.there {c:Nat->Nat} (h:Za7 wr B Xl k c) (i:Nat) (hi:i < Xl.length*7):∃ v,wr.cell? ⟨B,i,none⟩=some v:=by
 obtain⟨_,_,_,f,hr,_⟩:=h;exact⟨_,hr.cell hi⟩
theorem Za7.step {c:Nat->Nat}{vv0:Value} (h:Za7 w1 B Xl k c) (hk:k < Xl.length) (hz:ZeE Xl[k]) (d:Nat) (hd0:c k<=d) (hd:d<=w1.heap.size) (r0:(c k)<=d) (e0:Zav (c k) d w1 vv0 Xl[k].vb) :
 Za7 (((((((w1.setCell ⟨B,k*7,none⟩ (.int .i64 Xl[k].nu)).setCell ⟨B,k*7+1,none⟩ (.string Xl[k].tw)).setCell ⟨B,k*7+2,none⟩ (.string Xl[k].gb)).setCell ⟨B,k*7+3,none⟩ (vv0)).setCell ⟨B,k*7+4,none⟩ (.string Xl[k].kd)).setCell ⟨B,k*7+5,none⟩ (.string Xl[k].tm)).setCell ⟨B,k*7+6,none⟩ (.string Xl[k].pf)) B Xl (k+1) (fun j=>if j<=k then c j else d):=by
 have hle:=fun i (hi:i<=k)=>h.le (i:=0) (j:=i) Zz_ hi
 have hle2:=fun i (hi:i < k)=>h.le (i:=i+1) (j:=k) (by omega) Zl_
 obtain⟨g1,g2,g3,f,hr,hall⟩:=h;have hts:Zag B (B+1) w1 (((((((w1.setCell ⟨B,k*7,none⟩ (.int .i64 Xl[k].nu)).setCell ⟨B,k*7+1,none⟩ (.string Xl[k].tw)).setCell ⟨B,k*7+2,none⟩ (.string Xl[k].gb)).setCell ⟨B,k*7+3,none⟩ (vv0)).setCell ⟨B,k*7+4,none⟩ (.string Xl[k].kd)).setCell ⟨B,k*7+5,none⟩ (.string Xl[k].tm)).setCell ⟨B,k*7+6,none⟩ (.string Xl[k].pf)):=((((((Zag.setB B _ _ _).trans (Zag.setB B _ _ _)).trans (Zag.setB B _ _ _)).trans (Zag.setB B _ _ _)).trans (Zag.setB B _ _ _)).trans (Zag.setB B _ _ _)).trans (Zag.setB B _ _ _);refine⟨by simpa using g1,fun i hi=>?_,?_,_,(((((((hr.set _ _).set _ _).set _ _).set _ _).set _ _).set _ _).set _ _),fun i hi hik=>?_⟩
 . dsimp only
   by_cases e:i=k
   . subst e;rw [if_pos Zl_,if_neg (by omega)];exact hd0
   . rw [if_pos (by omega),if_pos (by omega)];exact g2 i (by omega)
 . dsimp only;rw [if_neg (by omega)];exact Nat.le_trans hd hts.size
 by_cases e:i=k
 . subst e
   dsimp only;rw [if_pos Zl_,if_neg (by omega)];have hb0:=hle i Zl_;exact⟨hz,vv0,r0,by simp,by simp,by simp,by simp,by simp,by simp,by simp,e0.touch hts (by omega)⟩
 . dsimp only
   rw [if_pos (by omega),if_pos (by omega)];have hb0:=hle i (by omega);obtain⟨hz,vv0,q0,h0,h1,h2,h3,h4,h5,h6,l0⟩:=hall i hi (by omega);refine⟨hz,vv0,q0,?_,?_,?_,?_,?_,?_,?_,l0.touch hts (by omega)⟩
   . rw [if_neg (by omega),if_neg (by omega),if_neg (by omega),if_neg (by omega),if_neg (by omega),if_neg (by omega),if_neg (by omega)];exact h0
   . rw [if_neg (by omega),if_neg (by omega),if_neg (by omega),if_neg (by omega),if_neg (by omega),if_neg (by omega),if_neg (by omega)];exact h1
   . rw [if_neg (by omega),if_neg (by omega),if_neg (by omega),if_neg (by omega),if_neg (by omega),if_neg (by omega),if_neg (by omega)];exact h2
   . rw [if_neg (by omega),if_neg (by omega),if_neg (by omega),if_neg (by omega),if_neg (by omega),if_neg (by omega),if_neg (by omega)];exact h3
   . rw [if_neg (by omega),if_neg (by omega),if_neg (by omega),if_neg (by omega),if_neg (by omega),if_neg (by omega),if_neg (by omega)];exact h4
   . rw [if_neg (by omega),if_neg (by omega),if_neg (by omega),if_neg (by omega),if_neg (by omega),if_neg (by omega),if_neg (by omega)];exact h5
   . rw [if_neg (by omega),if_neg (by omega),if_neg (by omega),if_neg (by omega),if_neg (by omega),if_neg (by omega),if_neg (by omega)];exact h6
theorem Za7.own {c:Nat->Nat} (h:Za7 wr B Xl k c) (hk:k=Xl.length) (hne:Xl≠[]) (hm:Xl.length<=maxLen):Zb8 B wr.heap.size wr (.slice (some ⟨B,0,none⟩) Xl.length Xl.length) Xl:=by
 subst hk;have hle:=fun i (hi:i<=Xl.length)=>h.le (i:=0) (j:=i) Zz_ hi
 have hle2:=fun i (hi:i < Xl.length)=>h.le (i:=i+1) (j:=Xl.length) (by omega) Zl_
 have hle3:=fun i j (hi:i < j) (hj:j < Xl.length)=>h.le (i:=i+1) (j:=j) (by omega) (by omega)
 obtain⟨g1,g2,g3,f,hr,hall⟩:=h;have h0:0 < Xl.length:=List.length_pos_iff.2 hne
 refine Or.inr ⟨B,0,Xl.length,fun i=>(c i,c (i+1)),fun i=>if h:i < Xl.length then Xl[i] else Xl[0],rfl,hne,hm,Nat.le_refl _,fun i hi=>by simp [hi],hr.lt,Nat.le_refl _,hr.lt,fun i hi=>⟨by have:=hle i (by omega);simp only [];omega,by have:=hle2 i hi;simp only [];omega,Or.inl (by have:=hle i (by omega);simp only [];omega)⟩,hle3,fun i=>hr.frozen i,fun i hi=>?_⟩;obtain⟨hz,vv0,q0,h0,h1,h2,h3,h4,h5,h6,l0⟩:=hall i hi hi;simp only [hi,dif_pos];rw [Nat.zero_add];exact⟨hz,vv0,q0,⟨by rw [hr.cell (by omega),h0],by rw [hr.cell (by omega),h1],by rw [hr.cell (by omega),h2],by rw [hr.cell (by omega),h3],by rw [hr.cell (by omega),h4],by rw [hr.cell (by omega),h5],by rw [hr.cell (by omega),h6]⟩,l0⟩
theorem Za7.new (w:World) (Xl:List Gr) (z:Array Value):Za7 (w.alloc (.cells (madeCells z (Xl.length*7)) 140)) w.heap.size Xl 0 (fun _=>w.heap.size+1):=by
 refine⟨Nat.lt_succ_self _,fun i hi=>by omega,by simp,fun i=>(madeCells z (Xl.length*7)).getD i default,?_,fun i _ h=>by omega⟩;have:=World.rowIs_alloc w (madeCells z (Xl.length*7)) 140 (fun i=>(madeCells z (Xl.length*7)).getD i default) (fun i hi=>by simp [Array.getD,hi])
 rwa [size_madeCells] at this
theorem Zo5 (lo:Nat) (v:Value) (Xl:List Gr) (w:World) (hv:ZbX lo w v Xl) (hn:Ze3 Xl) :
 Calls prog 40 #[v] w fun e w'=>∃ v',e=.returned v'/\Zw_ w w'/\Zb8 w.heap.size w'.heap.size w' v' Xl:=by
 obtain⟨i0,hi,hz0,hz1,hz2⟩:=info_parts Tryz.info140;have HSM:=Zab hn.2;have hn1:=hn.1;clear hn
 by_cases hL:Xl=[]
 . subst hL
   obtain⟨a,cap,rfl⟩:=hv.form;clear hv
   have hmk:∀ u:World,(Instr.makeSlice 44 (.int .i64 0) (.int .i64 0)).run prog u=.ok (.slice (some ⟨u.heap.size,0,none⟩) 0 0) (u.alloc (.cells (madeCells (Value.cells (.agg #[.int .i64 0,.string ⟨#[]⟩,.string ⟨#[]⟩,.slice none 0 0,.string ⟨#[]⟩,.string ⟨#[]⟩,.string ⟨#[]⟩])) 0) 140)):=fun u=>by
    have h:=run_make (P:=prog) u 44 140 i0 _ underlying44 hi hz0 .i64 .i64 0 0 (by omega) (by omega) (by omega) (by omega)
    simpa [hz1] using h
   go_enter func40,ntmps40;go_wp2
   go_loop [4] (fun i=>i=.int .i64 0) (fun _=>0)
   case atStart=>rfl
   case round=>
    subst hrel;go_wp2;go_ret;exact⟨_,rfl,Zb_.alloc Zl_ _,Or.inl ⟨_,_,rfl,rfl⟩⟩
 . obtain⟨b,off,cap,rfl,hm,hbw,_,hc⟩:=hv.full hL
   clear hv;have HM:Hd (Xl.length<=maxLen):=hm;unfold maxLen at hm
   have hmk:∀ u:World,(Instr.makeSlice 44 (.int .i64 (Xl.length:Int)) (.int .i64 (Xl.length:Int))).run prog u=.ok (.slice (some ⟨u.heap.size,0,none⟩) Xl.length Xl.length) (u.alloc (.cells (madeCells (Value.cells (.agg #[.int .i64 0,.string ⟨#[]⟩,.string ⟨#[]⟩,.slice none 0 0,.string ⟨#[]⟩,.string ⟨#[]⟩,.string ⟨#[]⟩])) (Xl.length*7)) 140)):=fun u=>by
    have h:=run_make (P:=prog) u 44 140 i0 _ underlying44 hi hz0 .i64 .i64 Xl.length Xl.length (by omega) (by omega) (by rw [hz2];omega) (by omega);rw [hz1] at h
    simpa using h
   clear hi hz0 hz1 hz2;go_enter func40,ntmps40;go_wp2;clear hmk
   go_loopw [4] (fun i wr=>∃ (k:Nat) (c:Nat->Nat),i=.int .i64 k/\k<=Xl.length/\Zw_ w wr/\Za7 wr w.heap.size Xl k c) (fun i _=>Xl.length - (intOf i).toNat)
   case atStart=>exact⟨0,_,rfl,by omega,Zb_.alloc Zl_ _,Za7.new w Xl _⟩
   case round=>
    obtain⟨k,c,rfl,hk,hb,hf⟩:=hrel
    by_cases hlt:k < Xl.length
    . obtain⟨hs,vv0,hc,hv0⟩:=hc k hlt
      have HB:=Zab hb;have HF:=Zab hf;have HSZ:=Zab hs;obtain⟨x0,y0,rfl⟩:=hv0.form;obtain⟨c0,c1,c2,c3,c4,c5,c6⟩:=hc.below hb hbw;have HV0:=Zab (hv0.below hb);clear hv0;clear hc hb hf hs;go_wp2_with fail;refine (Zrk 0 Xl[k] _ _ (HV0.o.mono Zz_) (HSM.o k hlt)).mono ?_;rintro e w1 ⟨z0,rfl,hb1,hO0⟩;obtain⟨s0,t0,rfl⟩:=hO0.form;have hf1:=HF.o.below hb1;have hB:Hd (Zw_ w w1):=HB.o.trans (hb1.mono HB.o.size);have HST:=Zab (hf1.step hlt HSZ.o w1.heap.size (Nat.le_trans HF.o.2.2.1 hb1.size) Zl_ (Nat.le_trans HF.o.2.2.1 hb1.size) (hO0.wide HF.o.2.2.1 Zl_));have hfr:=hf1.free;obtain⟨o0,ho0⟩:=hf1.there (k*7) (by omega);obtain⟨o1,ho1⟩:=hf1.there (k*7+1) (by omega);obtain⟨o2,ho2⟩:=hf1.there (k*7+2) (by omega);obtain⟨o3,ho3⟩:=hf1.there (k*7+3) (by omega);obtain⟨o4,ho4⟩:=hf1.there (k*7+4) (by omega)
      obtain⟨o5,ho5⟩:=hf1.there (k*7+5) (by omega);obtain⟨o6,ho6⟩:=hf1.there (k*7+6) (by omega);clear hf1 hb1 HF HB c0 c1 c2 c3 c4 c5 c6;go_wp2;go_roundw
      . 
       exact⟨k+1,_,by go_num,by omega,(((((((hB.o.setCell Zl_ _).setCell Zl_ _).setCell Zl_ _).setCell Zl_ _).setCell Zl_ _).setCell Zl_ _).setCell Zl_ _),HST.o⟩
      . simp [intOf];omega
    . have e:k=Xl.length:=by omega
      go_wp2;go_ret;exact⟨_,rfl,hb,hf.own e hL HM.o⟩
end Go.Proofs.YtmappejlmapboaaGreat
