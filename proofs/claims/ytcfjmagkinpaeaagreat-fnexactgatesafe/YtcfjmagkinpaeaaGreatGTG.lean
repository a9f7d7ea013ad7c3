import Derived.Test.YtcfjmagkinpaeaaGreatGTE
import Derived.Test.YtcfjmagkinpaeaaGreatGTF
import Derived.Test.YtcfjmagkinpaeaaGreatGEE
set_option maxHeartbeats 16000000
set_option maxRecDepth 100000
open Go.Proofs.Tryz
namespace Go.Proofs.YtcfjmagkinpaeaaGreat
open Go.RowKit Go.Deep
def ZaB (Ts:List Tm) (r q:Ru) (v:Int):Bool:=ZeM q.vb v&&(q.kd.toList.isEmpty || q.kd.toList == r.kd.toList)&&(q.tm.toList.isEmpty || (!r.tm.toList.isEmpty&&ZaA Ts r.tm q.tm))&&Zbb r.pf q.pf
def Zbm (Ts:List Tm) (Rs:List Ru) (r:Ru) (v:Int):Bool:=Rs.any fun q=>ZaB Ts r q v
def ZeF (Ts:List Tm) (Rs:List Ru) (r:Ru):Int:=(r.vb.find? fun v=>!Zbm Ts Rs r v).getD 0
theorem Zrt {Ts:List Tm} {Rs:List Ru} {r:Ru} {k:Nat} (hk:k < r.vb.length) (h:Zbm Ts Rs r r.vb[k]=false) (hall:∀ j (hj:j < r.vb.length),j < k→Zbm Ts Rs r r.vb[j]=true):ZeF Ts Rs r=r.vb[k]:=by
 unfold ZeF
 have:r.vb.find? (fun v=>!Zbm Ts Rs r v)=some r.vb[k]:=by
  rw [List.find?_eq_some_iff_getElem];exact⟨by simp [h],k,hk,rfl,fun j hj=>by simp [hall j (by omega) hj]⟩
 rw [this];rfl
theorem Zru {Ts:List Tm} {Rs:List Ru} {r:Ru} (hall:∀ j (hj:j < r.vb.length),Zbm Ts Rs r r.vb[j]=true):ZeF Ts Rs r=0:=by
 unfold ZeF
 have:r.vb.find? (fun v=>!Zbm Ts Rs r v)=none:=by
  rw [List.find?_eq_none];intro x hx;obtain⟨j,hj,rfl⟩:=List.getElem_of_mem hx;simp [hall j hj]
 rw [this];rfl
theorem Zbv {Rs:List Ru} {p:Ru→Bool} {m:Nat} (h:m < Rs.length):(Rs.take (m+1)).any p=((Rs.take m).any p || p Rs[m]):=by
 rw [List.take_succ_eq_append_getElem h,List.any_append,List.any_cons,List.any_nil,Bool.or_false]
theorem Zkg (lo lr ls:Nat) (tv sv vv:Value) (Ts:List Tm) (Rs:List Ru) (r:Ru) (w:World) (hT:Zbd lo w tv Ts) (hR:Ze7 lr w sv Rs) (hv:Zap ls w vv r.vb) :
 Calls prog 38 #[tv,sv,.agg #[vv,.string r.kd,.string r.tm,.string r.pf]] w fun e w'=>e=.returned (.int .i64 (ZeF Ts Rs r))∧Zw_ w w':=by
 have HT:=Zab hT;have HR:=Zab hR;have HV:=Zab hv;have hm:=hv.max;have hmr:=hR.max;unfold maxLen at hm hmr;obtain⟨ta,tcap,rfl⟩:=hT.form;obtain⟨sa,scap,rfl⟩:=hR.form;obtain⟨a,cap,rfl⟩:=hv.form;clear hT hR hv;go_enter func38,ntmps38;go_wp2;generalize hWa:w.alloc _=Wa;have HBa:Hid (Zw_ w Wa):=by rw [← hWa];exact Zac _ _
 have FA:Hid (Box Wa w.heap.size #[.slice a r.vb.length cap,.string r.kd,.string r.tm,.string r.pf]):=by rw [← hWa];exact Box.new _ _ _ _ rfl
 clear hWa;have HTa:=Zab (HT.out.below HBa.out);have HRa:=Zab (HR.out.below HBa.out);have HVa:=Zab (HV.out.below HBa.out);clear HT HR HV
 go_loopw [7] (fun i wr=>∃ k:Nat,i=.int .i64 k∧k≤r.vb.length∧Below Wa.heap.size Wa wr∧∀ j (hj:j < r.vb.length),j < k→Zbm Ts Rs r r.vb[j]=true) (fun i _=>r.vb.length - (intOf i).toNat)
 case atStart=>exact⟨0,rfl,by omega,Below.refl _ _,fun j _ h=>by omega⟩
 case round=>
  obtain⟨k,rfl,hk,hb,hall⟩:=hrel;have HA:=Zab hall;have HB:=Zab hb;clear hall hb;have g0:wr.cell? ⟨w.heap.size,0,none⟩=some (.slice a r.vb.length cap):=(FA.out.on HB.out).cell 0
  by_cases hlt:k < r.vb.length
  · obtain⟨b,off,rfl,hbw,hc⟩:=HVa.out.full' (by omega)
    have HC:=Zab hc;clear hc;have hkI:(k:Int) < r.vb.length:=by omega
    go_wp2
    go_loopw [8,9] (fun f i u=>∃ m:Nat,f=.bool ((Rs.take m).any fun q=>ZaB Ts r q r.vb[k])∧i=.int .i64 m∧m≤Rs.length∧Below Wa.heap.size Wa u) (fun _ i _=>Rs.length - (intOf i).toNat)
    case atStart=>exact⟨0,rfl,rfl,by omega,HB.out⟩
    case round=>
     obtain⟨m,rfl,rfl,hmk,hu⟩:=hrel;have HU:=Zab hu;clear hu g0 HB;obtain⟨wu,rfl⟩:∃ wu:World,wu=wr:=⟨_,rfl⟩
     by_cases hlm:m < Rs.length
     · obtain⟨rb,ro,rfl,hrb,hrc⟩:=HRa.out.full' (by omega)
       obtain⟨hsz,qv,hcell,hqv⟩:=hrc m hlm;obtain⟨c0,c1,c2,c3⟩:=hcell.below HU.out hrb;have HQV0:=Zab (hqv.below HU.out);obtain⟨qa,qcap,rfl⟩:=hqv.form;clear hcell hqv hrc hsz;go_wp2;generalize hWq:wu.alloc _=Wq;have HBq:Hid (Below wu.heap.size wu Wq):=by rw [← hWq];exact Zac _ _
       have FQ:Hid (Box Wq wu.heap.size #[.slice qa Rs[m].vb.length qcap,.string Rs[m].kd,.string Rs[m].tm,.string Rs[m].pf]):=by rw [← hWq];exact Box.new _ _ _ _ rfl
       clear hWq c0 c1 c2 c3;have FAq:=Zab ((FA.out.on HU.out).on HBq.out);have HQV:=Zab (HQV0.out.below HBq.out);have HTq:=Zab ((HTa.out.below HU.out).below HBq.out);have HBW:Hid (b < Wq.heap.size):=Zk_ (Zk_ hbw HU.out.size) HBq.out.size
       have HCK:Hid (Wq.cell? ⟨b,off+k,none⟩=some (.int .i64 r.vb[k])):=by
        unfold Hid;rw [(bt HU.out HBq.out).cell (p:=⟨b,_,none⟩) hbw];exact HC.out k hlt
       clear HQV0;have HUq:Hid (Below Wa.heap.size Wa Wq):=bt HU.out HBq.out;generalize hbeta:wu.heap.size=β at*;have xn:Nonempty (In (Cls Wq w.heap.size #[.slice (some ⟨b,off,none⟩) r.vb.length cap,.string r.kd,.string r.tm,.string r.pf] β #[.slice qa Rs[m].vb.length qcap,.string Rs[m].kd,.string Rs[m].tm,.string Rs[m].pf])):=⟨⟨Wq,⟨Below.refl _ _,FAq.out,FQ.out⟩⟩⟩;have x1:∀ X:In (Cls Wq w.heap.size #[.slice (some ⟨b,off,none⟩) r.vb.length cap,.string r.kd,.string r.tm,.string r.pf] β #[.slice qa Rs[m].vb.length qcap,.string Rs[m].kd,.string Rs[m].tm,.string Rs[m].pf]),X.w.cell? ⟨b,off+k,none⟩=some (.int .i64 r.vb[k]):=fun X=>by rw [X.h.on.cell (p:=⟨b,_,none⟩) HBW.out];exact HCK.out
       have x2:=fun (X:In (Cls Wq w.heap.size #[.slice (some ⟨b,off,none⟩) r.vb.length cap,.string r.kd,.string r.tm,.string r.pf] β #[.slice qa Rs[m].vb.length qcap,.string Rs[m].kd,.string Rs[m].tm,.string Rs[m].pf]))=>Cls.c1 X
       have x3:=fun (X:In (Cls Wq w.heap.size #[.slice (some ⟨b,off,none⟩) r.vb.length cap,.string r.kd,.string r.tm,.string r.pf] β #[.slice qa Rs[m].vb.length qcap,.string Rs[m].kd,.string Rs[m].tm,.string Rs[m].pf]))=>Cls.c2 X
       have x4:=fun (X:In (Cls Wq w.heap.size #[.slice (some ⟨b,off,none⟩) r.vb.length cap,.string r.kd,.string r.tm,.string r.pf] β #[.slice qa Rs[m].vb.length qcap,.string Rs[m].kd,.string Rs[m].tm,.string Rs[m].pf]))=>ZcH X
       generalize hff:((Rs.take m).any fun q=>ZaB Ts r q r.vb[k])=ff at*
       cases h0:ZeM Rs[m].vb r.vb[k] with
       | false=>
        have HCV:Hid (ZaB Ts r Rs[m] r.vb[k]=false):=by unfold Hid ZaB;rw [h0];rfl
        have HNX:Hid (((Rs.take (m+1)).any fun q=>ZaB Ts r q r.vb[k])=ff):=by unfold Hid;rw [Zbv hlm,HCV.out];rw [Bool.or_false];exact hff
        refine Zae (Cls Wq w.heap.size #[.slice (some ⟨b,off,none⟩) r.vb.length cap,.string r.kd,.string r.tm,.string r.pf] β #[.slice qa Rs[m].vb.length qcap,.string Rs[m].kd,.string Rs[m].tm,.string Rs[m].pf]) (by kernel_rfl) (by kernel_rfl) ⟨Zb_.drew,FAq.out,FQ.out⟩ ?_
        repeat (go_big_quiet_step (
         first
         | (go_at_call 77;rename_i X;exact (Za5 lr _ _ _ _ (HQV.out.below X.h.on)).mono fun _ _ h=>⟨by rw [h.1,h0],Cls.next X h.2⟩)))
        refine wpQuiet_nil ?_;intro wn hw';obtain⟨X,hX⟩:=hw';have HWN:Hid (Below Wq.heap.size Wq wn):=by rw [hX];exact X.h.on
        clear hX X x1 x2 x3 x4 xn;go_wp2;go_roundw
        case rel=>first | exact⟨m+1,by rw [HNX.out],by go_num,by omega,bt HUq.out HWN.out⟩|((repeat apply Exists.intro);exact⟨⟨m+1,by rw [HNX.out],by go_num,by omega,bt HUq.out HWN.out⟩,rfl⟩)
        case measure=>simp [intOf];omega
       | true=>
        cases h1:Rs[m].kd.toList.isEmpty with
        | true=>
         cases h3:Rs[m].tm.toList.isEmpty with
         | true=>
          cases h6:Zbb r.pf Rs[m].pf with
          | false=>
           have HCV:Hid (ZaB Ts r Rs[m] r.vb[k]=false):=by unfold Hid ZaB;simp [h6]
           have HNX:Hid (((Rs.take (m+1)).any fun q=>ZaB Ts r q r.vb[k])=ff):=by unfold Hid;rw [Zbv hlm,HCV.out];rw [Bool.or_false];exact hff
           refine Zae (Cls Wq w.heap.size #[.slice (some ⟨b,off,none⟩) r.vb.length cap,.string r.kd,.string r.tm,.string r.pf] β #[.slice qa Rs[m].vb.length qcap,.string Rs[m].kd,.string Rs[m].tm,.string Rs[m].pf]) (by kernel_rfl) (by kernel_rfl) ⟨Zb_.drew,FAq.out,FQ.out⟩ ?_
           repeat (go_big_quiet_step (
            first
            | (go_at_call 77;rename_i X;exact (Za5 lr _ _ _ _ (HQV.out.below X.h.on)).mono fun _ _ h=>⟨by rw [h.1,h0],Cls.next X h.2⟩)
            | (go_at_call 79;rename_i X;exact (Zbt r.pf Rs[m].pf _).mono fun _ _ h=>⟨by rw [h.1,h6],X,h.2⟩)))
           refine wpQuiet_nil ?_;intro wn hw';obtain⟨X,hX⟩:=hw';have HWN:Hid (Below Wq.heap.size Wq wn):=by rw [hX];exact X.h.on
           clear hX X x1 x2 x3 x4 xn;go_wp2;go_roundw
           case rel=>first | exact⟨m+1,by rw [HNX.out],by go_num,by omega,bt HUq.out HWN.out⟩|((repeat apply Exists.intro);exact⟨⟨m+1,by rw [HNX.out],by go_num,by omega,bt HUq.out HWN.out⟩,rfl⟩)
           case measure=>simp [intOf];omega
          | true=>
           have HCV:Hid (ZaB Ts r Rs[m] r.vb[k]=true):=by unfold Hid ZaB;simp [h0,h1,h3,h6]
           have HNX:Hid (((Rs.take (m+1)).any fun q=>ZaB Ts r q r.vb[k])=true):=by unfold Hid;rw [Zbv hlm,HCV.out];rw [Bool.or_true]
           refine Zae (Cls Wq w.heap.size #[.slice (some ⟨b,off,none⟩) r.vb.length cap,.string r.kd,.string r.tm,.string r.pf] β #[.slice qa Rs[m].vb.length qcap,.string Rs[m].kd,.string Rs[m].tm,.string Rs[m].pf]) (by kernel_rfl) (by kernel_rfl) ⟨Zb_.drew,FAq.out,FQ.out⟩ ?_
           repeat (go_big_quiet_step (
            first
            | (go_at_call 77;rename_i X;exact (Za5 lr _ _ _ _ (HQV.out.below X.h.on)).mono fun _ _ h=>⟨by rw [h.1,h0],Cls.next X h.2⟩)
            | (go_at_call 79;rename_i X;exact (Zbt r.pf Rs[m].pf _).mono fun _ _ h=>⟨by rw [h.1,h6],X,h.2⟩)))
           refine wpQuiet_nil ?_;intro wn hw';obtain⟨X,hX⟩:=hw';have HWN:Hid (Below Wq.heap.size Wq wn):=by rw [hX];exact X.h.on
           clear hX X x1 x2 x3 x4 xn;go_wp2;go_roundw
           case rel=>first | exact⟨m+1,by rw [HNX.out],by go_num,by omega,bt HUq.out HWN.out⟩|((repeat apply Exists.intro);exact⟨⟨m+1,by rw [HNX.out],by go_num,by omega,bt HUq.out HWN.out⟩,rfl⟩)
           case measure=>simp [intOf];omega
         | false=>
          cases h5:r.tm.toList.isEmpty with
          | true=>
           have HCV:Hid (ZaB Ts r Rs[m] r.vb[k]=false):=by unfold Hid ZaB;simp [h3,h5]
           have HNX:Hid (((Rs.take (m+1)).any fun q=>ZaB Ts r q r.vb[k])=ff):=by unfold Hid;rw [Zbv hlm,HCV.out];rw [Bool.or_false];exact hff
           refine Zae (Cls Wq w.heap.size #[.slice (some ⟨b,off,none⟩) r.vb.length cap,.string r.kd,.string r.tm,.string r.pf] β #[.slice qa Rs[m].vb.length qcap,.string Rs[m].kd,.string Rs[m].tm,.string Rs[m].pf]) (by kernel_rfl) (by kernel_rfl) ⟨Zb_.drew,FAq.out,FQ.out⟩ ?_
           repeat (go_big_quiet_step (
            first
            | (go_at_call 77;rename_i X;exact (Za5 lr _ _ _ _ (HQV.out.below X.h.on)).mono fun _ _ h=>⟨by rw [h.1,h0],Cls.next X h.2⟩)))
           refine wpQuiet_nil ?_;intro wn hw';obtain⟨X,hX⟩:=hw';have HWN:Hid (Below Wq.heap.size Wq wn):=by rw [hX];exact X.h.on
           clear hX X x1 x2 x3 x4 xn;go_wp2;go_roundw
           case rel=>first | exact⟨m+1,by rw [HNX.out],by go_num,by omega,bt HUq.out HWN.out⟩|((repeat apply Exists.intro);exact⟨⟨m+1,by rw [HNX.out],by go_num,by omega,bt HUq.out HWN.out⟩,rfl⟩)
           case measure=>simp [intOf];omega
          | false=>
           cases h4:ZaA Ts r.tm Rs[m].tm with
           | false=>
            have HCV:Hid (ZaB Ts r Rs[m] r.vb[k]=false):=by unfold Hid ZaB;simp [h3,h4]
            have HNX:Hid (((Rs.take (m+1)).any fun q=>ZaB Ts r q r.vb[k])=ff):=by unfold Hid;rw [Zbv hlm,HCV.out];rw [Bool.or_false];exact hff
            refine Zae (Cls Wq w.heap.size #[.slice (some ⟨b,off,none⟩) r.vb.length cap,.string r.kd,.string r.tm,.string r.pf] β #[.slice qa Rs[m].vb.length qcap,.string Rs[m].kd,.string Rs[m].tm,.string Rs[m].pf]) (by kernel_rfl) (by kernel_rfl) ⟨Zb_.drew,FAq.out,FQ.out⟩ ?_
            repeat (go_big_quiet_step (
             first
             | (go_at_call 77;rename_i X;exact (Za5 lr _ _ _ _ (HQV.out.below X.h.on)).mono fun _ _ h=>⟨by rw [h.1,h0],Cls.next X h.2⟩)
             | (go_at_call 78;rename_i X;exact (ZbQ lo _ Ts r.tm Rs[m].tm _ (HTq.out.below X.h.on)).mono fun _ _ h=>⟨by rw [h.1,h4],Cls.next X h.2⟩)))
            refine wpQuiet_nil ?_;intro wn hw';obtain⟨X,hX⟩:=hw';have HWN:Hid (Below Wq.heap.size Wq wn):=by rw [hX];exact X.h.on
            clear hX X x1 x2 x3 x4 xn;go_wp2;go_roundw
            case rel=>first | exact⟨m+1,by rw [HNX.out],by go_num,by omega,bt HUq.out HWN.out⟩|((repeat apply Exists.intro);exact⟨⟨m+1,by rw [HNX.out],by go_num,by omega,bt HUq.out HWN.out⟩,rfl⟩)
            case measure=>simp [intOf];omega
           | true=>
            cases h6:Zbb r.pf Rs[m].pf with
            | false=>
             have HCV:Hid (ZaB Ts r Rs[m] r.vb[k]=false):=by unfold Hid ZaB;simp [h6]
             have HNX:Hid (((Rs.take (m+1)).any fun q=>ZaB Ts r q r.vb[k])=ff):=by unfold Hid;rw [Zbv hlm,HCV.out];rw [Bool.or_false];exact hff
             refine Zae (Cls Wq w.heap.size #[.slice (some ⟨b,off,none⟩) r.vb.length cap,.string r.kd,.string r.tm,.string r.pf] β #[.slice qa Rs[m].vb.length qcap,.string Rs[m].kd,.string Rs[m].tm,.string Rs[m].pf]) (by kernel_rfl) (by kernel_rfl) ⟨Zb_.drew,FAq.out,FQ.out⟩ ?_
             repeat (go_big_quiet_step (
              first
              | (go_at_call 77;rename_i X;exact (Za5 lr _ _ _ _ (HQV.out.below X.h.on)).mono fun _ _ h=>⟨by rw [h.1,h0],Cls.next X h.2⟩)
              | (go_at_call 78;rename_i X;exact (ZbQ lo _ Ts r.tm Rs[m].tm _ (HTq.out.below X.h.on)).mono fun _ _ h=>⟨by rw [h.1,h4],Cls.next X h.2⟩)
              | (go_at_call 79;rename_i X;exact (Zbt r.pf Rs[m].pf _).mono fun _ _ h=>⟨by rw [h.1,h6],X,h.2⟩)))
             refine wpQuiet_nil ?_;intro wn hw';obtain⟨X,hX⟩:=hw';have HWN:Hid (Below Wq.heap.size Wq wn):=by rw [hX];exact X.h.on
             clear hX X x1 x2 x3 x4 xn;go_wp2;go_roundw
             case rel=>first | exact⟨m+1,by rw [HNX.out],by go_num,by omega,bt HUq.out HWN.out⟩|((repeat apply Exists.intro);exact⟨⟨m+1,by rw [HNX.out],by go_num,by omega,bt HUq.out HWN.out⟩,rfl⟩)
             case measure=>simp [intOf];omega
            | true=>
             have HCV:Hid (ZaB Ts r Rs[m] r.vb[k]=true):=by unfold Hid ZaB;simp [h0,h1,h3,h5,h4,h6]
             have HNX:Hid (((Rs.take (m+1)).any fun q=>ZaB Ts r q r.vb[k])=true):=by unfold Hid;rw [Zbv hlm,HCV.out];rw [Bool.or_true]
             refine Zae (Cls Wq w.heap.size #[.slice (some ⟨b,off,none⟩) r.vb.length cap,.string r.kd,.string r.tm,.string r.pf] β #[.slice qa Rs[m].vb.length qcap,.string Rs[m].kd,.string Rs[m].tm,.string Rs[m].pf]) (by kernel_rfl) (by kernel_rfl) ⟨Zb_.drew,FAq.out,FQ.out⟩ ?_
             repeat (go_big_quiet_step (
              first
              | (go_at_call 77;rename_i X;exact (Za5 lr _ _ _ _ (HQV.out.below X.h.on)).mono fun _ _ h=>⟨by rw [h.1,h0],Cls.next X h.2⟩)
              | (go_at_call 78;rename_i X;exact (ZbQ lo _ Ts r.tm Rs[m].tm _ (HTq.out.below X.h.on)).mono fun _ _ h=>⟨by rw [h.1,h4],Cls.next X h.2⟩)
              | (go_at_call 79;rename_i X;exact (Zbt r.pf Rs[m].pf _).mono fun _ _ h=>⟨by rw [h.1,h6],X,h.2⟩)))
             refine wpQuiet_nil ?_;intro wn hw';obtain⟨X,hX⟩:=hw';have HWN:Hid (Below Wq.heap.size Wq wn):=by rw [hX];exact X.h.on
             clear hX X x1 x2 x3 x4 xn;go_wp2;go_roundw
             case rel=>first | exact⟨m+1,by rw [HNX.out],by go_num,by omega,bt HUq.out HWN.out⟩|((repeat apply Exists.intro);exact⟨⟨m+1,by rw [HNX.out],by go_num,by omega,bt HUq.out HWN.out⟩,rfl⟩)
             case measure=>simp [intOf];omega
        | false=>
         cases h2:(Rs[m].kd.toList == r.kd.toList) with
         | false=>
          have HCV:Hid (ZaB Ts r Rs[m] r.vb[k]=false):=by unfold Hid ZaB;rw [h1,h2];simp
          have HNX:Hid (((Rs.take (m+1)).any fun q=>ZaB Ts r q r.vb[k])=ff):=by unfold Hid;rw [Zbv hlm,HCV.out];rw [Bool.or_false];exact hff
          refine Zae (Cls Wq w.heap.size #[.slice (some ⟨b,off,none⟩) r.vb.length cap,.string r.kd,.string r.tm,.string r.pf] β #[.slice qa Rs[m].vb.length qcap,.string Rs[m].kd,.string Rs[m].tm,.string Rs[m].pf]) (by kernel_rfl) (by kernel_rfl) ⟨Zb_.drew,FAq.out,FQ.out⟩ ?_
          repeat (go_big_quiet_step (
           first
           | (go_at_call 77;rename_i X;exact (Za5 lr _ _ _ _ (HQV.out.below X.h.on)).mono fun _ _ h=>⟨by rw [h.1,h0],Cls.next X h.2⟩)))
          refine wpQuiet_nil ?_;intro wn hw';obtain⟨X,hX⟩:=hw';have HWN:Hid (Below Wq.heap.size Wq wn):=by rw [hX];exact X.h.on
          clear hX X x1 x2 x3 x4 xn;go_wp2;go_roundw
          case rel=>first | exact⟨m+1,by rw [HNX.out],by go_num,by omega,bt HUq.out HWN.out⟩|((repeat apply Exists.intro);exact⟨⟨m+1,by rw [HNX.out],by go_num,by omega,bt HUq.out HWN.out⟩,rfl⟩)
          case measure=>simp [intOf];omega
         | true=>
          cases h3:Rs[m].tm.toList.isEmpty with
          | true=>
           cases h6:Zbb r.pf Rs[m].pf with
           | false=>
            have HCV:Hid (ZaB Ts r Rs[m] r.vb[k]=false):=by unfold Hid ZaB;simp [h6]
            have HNX:Hid (((Rs.take (m+1)).any fun q=>ZaB Ts r q r.vb[k])=ff):=by unfold Hid;rw [Zbv hlm,HCV.out];rw [Bool.or_false];exact hff
            refine Zae (Cls Wq w.heap.size #[.slice (some ⟨b,off,none⟩) r.vb.length cap,.string r.kd,.string r.tm,.string r.pf] β #[.slice qa Rs[m].vb.length qcap,.string Rs[m].kd,.string Rs[m].tm,.string Rs[m].pf]) (by kernel_rfl) (by kernel_rfl) ⟨Zb_.drew,FAq.out,FQ.out⟩ ?_
            repeat (go_big_quiet_step (
             first
             | (go_at_call 77;rename_i X;exact (Za5 lr _ _ _ _ (HQV.out.below X.h.on)).mono fun _ _ h=>⟨by rw [h.1,h0],Cls.next X h.2⟩)
             | (go_at_call 79;rename_i X;exact (Zbt r.pf Rs[m].pf _).mono fun _ _ h=>⟨by rw [h.1,h6],X,h.2⟩)))
            refine wpQuiet_nil ?_;intro wn hw';obtain⟨X,hX⟩:=hw';have HWN:Hid (Below Wq.heap.size Wq wn):=by rw [hX];exact X.h.on
            clear hX X x1 x2 x3 x4 xn;go_wp2;go_roundw
            case rel=>first | exact⟨m+1,by rw [HNX.out],by go_num,by omega,bt HUq.out HWN.out⟩|((repeat apply Exists.intro);exact⟨⟨m+1,by rw [HNX.out],by go_num,by omega,bt HUq.out HWN.out⟩,rfl⟩)
            case measure=>simp [intOf];omega
           | true=>
            have HCV:Hid (ZaB Ts r Rs[m] r.vb[k]=true):=by unfold Hid ZaB;rw [h2];simp [h0,h1,h3,h6]
            have HNX:Hid (((Rs.take (m+1)).any fun q=>ZaB Ts r q r.vb[k])=true):=by unfold Hid;rw [Zbv hlm,HCV.out];rw [Bool.or_true]
            refine Zae (Cls Wq w.heap.size #[.slice (some ⟨b,off,none⟩) r.vb.length cap,.string r.kd,.string r.tm,.string r.pf] β #[.slice qa Rs[m].vb.length qcap,.string Rs[m].kd,.string Rs[m].tm,.string Rs[m].pf]) (by kernel_rfl) (by kernel_rfl) ⟨Zb_.drew,FAq.out,FQ.out⟩ ?_
            repeat (go_big_quiet_step (
             first
             | (go_at_call 77;rename_i X;exact (Za5 lr _ _ _ _ (HQV.out.below X.h.on)).mono fun _ _ h=>⟨by rw [h.1,h0],Cls.next X h.2⟩)
             | (go_at_call 79;rename_i X;exact (Zbt r.pf Rs[m].pf _).mono fun _ _ h=>⟨by rw [h.1,h6],X,h.2⟩)))
            refine wpQuiet_nil ?_;intro wn hw';obtain⟨X,hX⟩:=hw';have HWN:Hid (Below Wq.heap.size Wq wn):=by rw [hX];exact X.h.on
            clear hX X x1 x2 x3 x4 xn;go_wp2;go_roundw
            case rel=>first | exact⟨m+1,by rw [HNX.out],by go_num,by omega,bt HUq.out HWN.out⟩|((repeat apply Exists.intro);exact⟨⟨m+1,by rw [HNX.out],by go_num,by omega,bt HUq.out HWN.out⟩,rfl⟩)
            case measure=>simp [intOf];omega
          | false=>
           cases h5:r.tm.toList.isEmpty with
           | true=>
            have HCV:Hid (ZaB Ts r Rs[m] r.vb[k]=false):=by unfold Hid ZaB;simp [h3,h5]
            have HNX:Hid (((Rs.take (m+1)).any fun q=>ZaB Ts r q r.vb[k])=ff):=by unfold Hid;rw [Zbv hlm,HCV.out];rw [Bool.or_false];exact hff
            refine Zae (Cls Wq w.heap.size #[.slice (some ⟨b,off,none⟩) r.vb.length cap,.string r.kd,.string r.tm,.string r.pf] β #[.slice qa Rs[m].vb.length qcap,.string Rs[m].kd,.string Rs[m].tm,.string Rs[m].pf]) (by kernel_rfl) (by kernel_rfl) ⟨Zb_.drew,FAq.out,FQ.out⟩ ?_
            repeat (go_big_quiet_step (
             first
             | (go_at_call 77;rename_i X;exact (Za5 lr _ _ _ _ (HQV.out.below X.h.on)).mono fun _ _ h=>⟨by rw [h.1,h0],Cls.next X h.2⟩)))
            refine wpQuiet_nil ?_;intro wn hw';obtain⟨X,hX⟩:=hw';have HWN:Hid (Below Wq.heap.size Wq wn):=by rw [hX];exact X.h.on
            clear hX X x1 x2 x3 x4 xn;go_wp2;go_roundw
            case rel=>first | exact⟨m+1,by rw [HNX.out],by go_num,by omega,bt HUq.out HWN.out⟩|((repeat apply Exists.intro);exact⟨⟨m+1,by rw [HNX.out],by go_num,by omega,bt HUq.out HWN.out⟩,rfl⟩)
            case measure=>simp [intOf];omega
           | false=>
            cases h4:ZaA Ts r.tm Rs[m].tm with
            | false=>
             have HCV:Hid (ZaB Ts r Rs[m] r.vb[k]=false):=by unfold Hid ZaB;simp [h3,h4]
             have HNX:Hid (((Rs.take (m+1)).any fun q=>ZaB Ts r q r.vb[k])=ff):=by unfold Hid;rw [Zbv hlm,HCV.out];rw [Bool.or_false];exact hff
             refine Zae (Cls Wq w.heap.size #[.slice (some ⟨b,off,none⟩) r.vb.length cap,.string r.kd,.string r.tm,.string r.pf] β #[.slice qa Rs[m].vb.length qcap,.string Rs[m].kd,.string Rs[m].tm,.string Rs[m].pf]) (by kernel_rfl) (by kernel_rfl) ⟨Zb_.drew,FAq.out,FQ.out⟩ ?_
             repeat (go_big_quiet_step (
              first
              | (go_at_call 77;rename_i X;exact (Za5 lr _ _ _ _ (HQV.out.below X.h.on)).mono fun _ _ h=>⟨by rw [h.1,h0],Cls.next X h.2⟩)
              | (go_at_call 78;rename_i X;exact (ZbQ lo _ Ts r.tm Rs[m].tm _ (HTq.out.below X.h.on)).mono fun _ _ h=>⟨by rw [h.1,h4],Cls.next X h.2⟩)))
             refine wpQuiet_nil ?_;intro wn hw';obtain⟨X,hX⟩:=hw';have HWN:Hid (Below Wq.heap.size Wq wn):=by rw [hX];exact X.h.on
             clear hX X x1 x2 x3 x4 xn;go_wp2;go_roundw
             case rel=>first | exact⟨m+1,by rw [HNX.out],by go_num,by omega,bt HUq.out HWN.out⟩|((repeat apply Exists.intro);exact⟨⟨m+1,by rw [HNX.out],by go_num,by omega,bt HUq.out HWN.out⟩,rfl⟩)
             case measure=>simp [intOf];omega
            | true=>
             cases h6:Zbb r.pf Rs[m].pf with
             | false=>
              have HCV:Hid (ZaB Ts r Rs[m] r.vb[k]=false):=by unfold Hid ZaB;simp [h6]
              have HNX:Hid (((Rs.take (m+1)).any fun q=>ZaB Ts r q r.vb[k])=ff):=by unfold Hid;rw [Zbv hlm,HCV.out];rw [Bool.or_false];exact hff
              refine Zae (Cls Wq w.heap.size #[.slice (some ⟨b,off,none⟩) r.vb.length cap,.string r.kd,.string r.tm,.string r.pf] β #[.slice qa Rs[m].vb.length qcap,.string Rs[m].kd,.string Rs[m].tm,.string Rs[m].pf]) (by kernel_rfl) (by kernel_rfl) ⟨Zb_.drew,FAq.out,FQ.out⟩ ?_
              repeat (go_big_quiet_step (
               first
               | (go_at_call 77;rename_i X;exact (Za5 lr _ _ _ _ (HQV.out.below X.h.on)).mono fun _ _ h=>⟨by rw [h.1,h0],Cls.next X h.2⟩)
               | (go_at_call 78;rename_i X;exact (ZbQ lo _ Ts r.tm Rs[m].tm _ (HTq.out.below X.h.on)).mono fun _ _ h=>⟨by rw [h.1,h4],Cls.next X h.2⟩)
               | (go_at_call 79;rename_i X;exact (Zbt r.pf Rs[m].pf _).mono fun _ _ h=>⟨by rw [h.1,h6],X,h.2⟩)))
              refine wpQuiet_nil ?_;intro wn hw';obtain⟨X,hX⟩:=hw';have HWN:Hid (Below Wq.heap.size Wq wn):=by rw [hX];exact X.h.on
              clear hX X x1 x2 x3 x4 xn;go_wp2;go_roundw
              case rel=>first | exact⟨m+1,by rw [HNX.out],by go_num,by omega,bt HUq.out HWN.out⟩|((repeat apply Exists.intro);exact⟨⟨m+1,by rw [HNX.out],by go_num,by omega,bt HUq.out HWN.out⟩,rfl⟩)
              case measure=>simp [intOf];omega
             | true=>
              have HCV:Hid (ZaB Ts r Rs[m] r.vb[k]=true):=by unfold Hid ZaB;rw [h2];simp [h0,h1,h3,h5,h4,h6]
              have HNX:Hid (((Rs.take (m+1)).any fun q=>ZaB Ts r q r.vb[k])=true):=by unfold Hid;rw [Zbv hlm,HCV.out];rw [Bool.or_true]
              refine Zae (Cls Wq w.heap.size #[.slice (some ⟨b,off,none⟩) r.vb.length cap,.string r.kd,.string r.tm,.string r.pf] β #[.slice qa Rs[m].vb.length qcap,.string Rs[m].kd,.string Rs[m].tm,.string Rs[m].pf]) (by kernel_rfl) (by kernel_rfl) ⟨Zb_.drew,FAq.out,FQ.out⟩ ?_
              repeat (go_big_quiet_step (
               first
               | (go_at_call 77;rename_i X;exact (Za5 lr _ _ _ _ (HQV.out.below X.h.on)).mono fun _ _ h=>⟨by rw [h.1,h0],Cls.next X h.2⟩)
               | (go_at_call 78;rename_i X;exact (ZbQ lo _ Ts r.tm Rs[m].tm _ (HTq.out.below X.h.on)).mono fun _ _ h=>⟨by rw [h.1,h4],Cls.next X h.2⟩)
               | (go_at_call 79;rename_i X;exact (Zbt r.pf Rs[m].pf _).mono fun _ _ h=>⟨by rw [h.1,h6],X,h.2⟩)))
              refine wpQuiet_nil ?_;intro wn hw';obtain⟨X,hX⟩:=hw';have HWN:Hid (Below Wq.heap.size Wq wn):=by rw [hX];exact X.h.on
              clear hX X x1 x2 x3 x4 xn;go_wp2;go_roundw
              case rel=>first | exact⟨m+1,by rw [HNX.out],by go_num,by omega,bt HUq.out HWN.out⟩|((repeat apply Exists.intro);exact⟨⟨m+1,by rw [HNX.out],by go_num,by omega,bt HUq.out HWN.out⟩,rfl⟩)
              case measure=>simp [intOf];omega
     · have HCV:Hid (((Rs.take m).any fun q=>ZaB Ts r q r.vb[k])=Zbm Ts Rs r r.vb[k]):=by unfold Hid Zbm;rw [List.take_of_length_le (by omega)]
       rw [HCV.out];have g0:wu.cell? ⟨w.heap.size,0,none⟩=some (.slice (some ⟨b,off,none⟩) r.vb.length cap):=(FA.out.on HU.out).cell 0
       have ck:wu.cell? ⟨b,off+k,none⟩=some (.int .i64 r.vb[k]):=by
        rw [HU.out.cell (p:=⟨b,_,none⟩) hbw];exact HC.out k hlt
       cases hcv:Zbm Ts Rs r r.vb[k] with
       | true=>
        go_wp2;go_roundw
        case rel=>
         have hnx:∀ j (hj:j < r.vb.length),j < k+1→Zbm Ts Rs r r.vb[j]=true:=fun j hj h=>by
          by_cases e:j=k
          · subst e;exact hcv
          · exact HA.out j hj (by omega)
         first
          | exact⟨k+1,by go_num,by omega,HU.out,hnx⟩
          | ((repeat apply Exists.intro);exact⟨⟨k+1,by go_num,by omega,HU.out,hnx⟩,rfl⟩)
        case measure=>simp [intOf];omega
       | false=>
        have HL:Hid (ZeF Ts Rs r=r.vb[k]):=Zrt hlt hcv HA.out;go_wp2;go_ret;exact⟨Zaz HL.out.symm,bt HBa.out HU.out⟩
  · have HL:Hid (ZeF Ts Rs r=0):=Zru fun j hj=>HA.out j hj (by omega)
    go_wp2;go_ret;exact⟨Zaz HL.out.symm,bt HBa.out HB.out⟩
def ZcU (Ts:List Tm) (Rs:List Ru) (r:Ru) (v:Int):Bool:=ZeM r.vb v&&!(Rs.any fun q=>ZbH Ts q r.kd r.tm r.pf v)
theorem ZnI {Ts:List Tm} {Rs:List Ru} {r:Ru} {k:Nat} (h:k < Rs.length):bits .andNot .u8 (num (ZcU Ts (Rs.take k) r)) (num (ZbH Ts Rs[k] r.kd r.tm r.pf))=num (ZcU Ts (Rs.take (k+1)) r):=by
 rw [Zme];refine Zc8 fun v _ _=>?_
 unfold ZcU;rw [Zbv h,Bool.not_or,Bool.and_assoc]
theorem ZpH (Ts:List Tm) (r:Ru):num (ZcU Ts [] r)=num (ZeM r.vb):=Zc8 fun v _ _=>by unfold ZcU;simp
theorem Zoz {Ts:List Tm} (h:Za4 Ts=true) {i:Nat} (hi:i < Ts.length):Zaj Ts[i].nm=true:=by
 unfold Za4 at h;rw [Bool.and_eq_true] at h;have:=ZiD hi h.2;rw [Zax hi] at this;simp only [Bool.and_eq_true] at this;exact this.1.1.1
theorem ZpW {Ts:List Tm} (h:Za4 Ts=true) {s:Zy_} (hs:s.toList.isEmpty=true):ovB Ts s=⟨#[]⟩:=by
 refine ZqR fun i hi=>?_
 cases he:(Ts[i].nm.toList == s.toList) with
 | false=>rfl
 | true=>
  have:=Zjr (Zoz h hi);rw [beq_iff_eq] at he;rw [he,hs] at this
  cases this
theorem ZkM {Ts:List Tm} (h:Za4 Ts=true) {a b:Zy_} (ha:a.toList.isEmpty=true) (hb:b.toList.isEmpty=false):ZaA Ts a b=false:=by
 unfold ZaA
 have e1:(a.toList == b.toList)=false:=by
  cases he:(a.toList == b.toList) with
  | false=>rfl
  | true=>rw [beq_iff_eq] at he;rw [he,hb] at ha;cases ha
 rw [e1]
 show ZcM Ts b 4 a=false
 unfold ZcM;rw [ZpW h ha,if_pos Znj]
theorem Zpz {Ts:List Tm} (h:Za4 Ts=true) (r q:Ru) (v:Int):ZaB Ts r q v=ZbH Ts q r.kd r.tm r.pf v:=by
 unfold ZaB ZbH ZgI
 cases h3:q.tm.toList.isEmpty with
 | true=>cases ZeM q.vb v <;> simp
 | false=>
  cases h5:r.tm.toList.isEmpty with
  | true=>rw [ZkM h h5 h3];simp
  | false=>cases ZeM q.vb v <;> simp
theorem Zhw {Ts:List Tm} (h:Za4 Ts=true) (Rs:List Ru) (r:Ru) (v:Int):Zbm Ts Rs r v=Rs.any fun q=>ZbH Ts q r.kd r.tm r.pf v:=by
 unfold Zbm
 congr 1
 funext q
 exact Zpz h r q v
theorem ZpI (p:Int→Bool):(num p == 0)=true↔∀ v,1≤v→v≤5→p v=false:=by
 unfold num;rw [ZnJ]
 constructor
 · intro h v h1 h2
   simp only [Bool.and_eq_true,Bool.not_eq_true'] at h;have hc:v=1∨v=2∨v=3∨v=4∨v=5:=by omega
   rcases hc with rfl | rfl | rfl | rfl | rfl
   · exact h.1.1.1.1
   · exact h.1.1.1.2
   · exact h.1.1.2
   · exact h.1.2
   · exact h.2
 · intro h
   rw [h 1 (by omega) (by omega),h 2 (by omega) (by omega),h 3 (by omega) (by omega),h 4 (by omega) (by omega),h 5 (by omega) (by omega)]
   rfl
theorem ZnE {Ts:List Tm} {Rs:List Ru} {r:Ru} (ht:Za4 Ts=true) (hr:ZaS r=true):(ZeF Ts Rs r == 0)=(num (ZcU Ts Rs r) == 0):=by
 rw [Bool.eq_iff_iff,ZpI]
 constructor
 · intro h v _ _
   cases hm:ZcU Ts Rs r v with
   | false=>rfl
   | true=>
    exfalso
    unfold ZcU at hm;rw [Bool.and_eq_true,← Zhw ht] at hm
    have hf:∃ x,r.vb.find? (fun v=>!Zbm Ts Rs r v)=some x:=by
     cases hq:r.vb.find? (fun v=>!Zbm Ts Rs r v) with
     | some x=>exact⟨x,rfl⟩
     | none=>exact absurd hm.2 (List.find?_eq_none.1 hq v (Zfg.1 hm.1))
    obtain⟨x,hx⟩:=hf;have hl:ZeF Ts Rs r=x:=by unfold ZeF;rw [hx];rfl
    have hmem:=List.mem_of_find?_eq_some hx;have:=ZqX (Zln hr) (Zfg.2 hmem);rw [hl,beq_iff_eq] at h
    omega
 · intro h
   have:r.vb.find? (fun v=>!Zbm Ts Rs r v)=none:=by
    rw [List.find?_eq_none];intro x hx hc;have hb:=ZqX (Zln hr) (Zfg.2 hx);have:=h x hb.1 hb.2;unfold ZcU at this;rw [Zfg.2 hx,← Zhw ht] at this;rw [hc] at this
    cases this
   unfold ZeF;rw [this]
   rfl
theorem Zkr (lo lr ls:Nat) (tv sv vv:Value) (Ts:List Tm) (Rs:List Ru) (r:Ru) (w:World) (hT:Zbd lo w tv Ts) (hR:Ze7 lr w sv Rs) (hv:Zap ls w vv r.vb) :
 Calls prog 44 #[tv,sv,.agg #[vv,.string r.kd,.string r.tm,.string r.pf]] w fun e w'=>e=.returned (.int .u8 (num (ZcU Ts Rs r)))∧Zw_ w w':=by
 have HT:=Zab hT;have HR:=Zab hR;have HV:=Zab hv;have hmr:=hR.max;unfold maxLen at hmr;obtain⟨ta,tcap,rfl⟩:=hT.form;obtain⟨sa,scap,rfl⟩:=hR.form;obtain⟨a,cap,rfl⟩:=hv.form;clear hT hR hv;go_enter func44,ntmps44;go_wp2_with fail;generalize hWa:w.alloc _=Wa;have HBa:Hid (Zw_ w Wa):=by rw [← hWa];exact Zac _ _
 have FA:Hid (Box Wa w.heap.size #[.slice a r.vb.length cap,.string r.kd,.string r.tm,.string r.pf]):=by rw [← hWa];exact Box.new _ _ _ _ rfl
 clear hWa;have HRa:=Zab (HR.out.below HBa.out);have HTa:=Zab (HT.out.below HBa.out);refine (Zdf ls _ r.vb _ (HV.out.below HBa.out)).mono ?_;rintro e w1 ⟨rfl,rfl⟩;have HN0:Hid (num (ZeM r.vb)=num (ZcU Ts (Rs.take 0) r)):=(ZpH Ts r).symm;rw [HN0.out];generalize hn0:num (ZcU Ts (Rs.take 0) r)=n0;have HN0':=Zab hn0;clear hn0;go_wp2
 go_loopw [7,15] (fun x i wr=>∃ k:Nat,x=.int .u8 (num (ZcU Ts (Rs.take k) r))∧i=.int .i64 k∧k≤Rs.length∧Below w1.heap.size w1 wr) (fun _ i _=>Rs.length - (intOf i).toNat)
 case atStart=>exact⟨0,by rw [HN0'.out],rfl,by omega,Below.refl _ _⟩
 case round=>
  obtain⟨k,rfl,rfl,hk,hb⟩:=hrel;have HB:=Zab hb;clear hb
  by_cases hlt:k < Rs.length
  · obtain⟨rb,ro,rfl,hrb,hrc⟩:=HRa.out.full' (by omega)
    obtain⟨_,qv,hcell,hqv⟩:=hrc k hlt;obtain⟨c0,c1,c2,c3⟩:=hcell.below HB.out hrb;have HQV0:=Zab (hqv.below HB.out);obtain⟨qa,qcap,rfl⟩:=hqv.form;clear hcell hqv hrc;have HNX:Hid (bits .andNot .u8 (num (ZcU Ts (Rs.take k) r)) (num (ZbH Ts Rs[k] r.kd r.tm r.pf))=num (ZcU Ts (Rs.take (k+1)) r)):=ZnI hlt;generalize hmk:num (ZcU Ts (Rs.take k) r)=mk at*;generalize hgv:num (ZbH Ts Rs[k] r.kd r.tm r.pf)=gv at*;go_wp2;generalize hWq:wr.alloc _=Wq;have HBq:Hid (Below wr.heap.size wr Wq):=by rw [← hWq];exact Zac _ _
    have FQ:Hid (Box Wq wr.heap.size #[.slice qa Rs[k].vb.length qcap,.string Rs[k].kd,.string Rs[k].tm,.string Rs[k].pf]):=by rw [← hWq];exact Box.new _ _ _ _ rfl
    clear hWq c0 c1 c2 c3;have HUq:Hid (Below w1.heap.size w1 Wq):=bt HB.out HBq.out;have FAq:=Zab ((FA.out.on HB.out).on HBq.out);have HQV:=Zab (HQV0.out.below HBq.out);have HTq:=Zab (HTa.out.below HUq.out);clear HQV0 HBq;generalize hbeta:wr.heap.size=β at*;have xn:Nonempty (In (Cls Wq w.heap.size #[.slice a r.vb.length cap,.string r.kd,.string r.tm,.string r.pf] β #[.slice qa Rs[k].vb.length qcap,.string Rs[k].kd,.string Rs[k].tm,.string Rs[k].pf])):=⟨⟨Wq,⟨Below.refl _ _,FAq.out,FQ.out⟩⟩⟩;have x2:=fun (X:In (Cls Wq w.heap.size #[.slice a r.vb.length cap,.string r.kd,.string r.tm,.string r.pf] β #[.slice qa Rs[k].vb.length qcap,.string Rs[k].kd,.string Rs[k].tm,.string Rs[k].pf]))=>Cls.c1 X
    have x3:=fun (X:In (Cls Wq w.heap.size #[.slice a r.vb.length cap,.string r.kd,.string r.tm,.string r.pf] β #[.slice qa Rs[k].vb.length qcap,.string Rs[k].kd,.string Rs[k].tm,.string Rs[k].pf]))=>Cls.c2 X
    have x4:=fun (X:In (Cls Wq w.heap.size #[.slice a r.vb.length cap,.string r.kd,.string r.tm,.string r.pf] β #[.slice qa Rs[k].vb.length qcap,.string Rs[k].kd,.string Rs[k].tm,.string Rs[k].pf]))=>ZcH X
    refine Zae (Cls Wq w.heap.size #[.slice a r.vb.length cap,.string r.kd,.string r.tm,.string r.pf] β #[.slice qa Rs[k].vb.length qcap,.string Rs[k].kd,.string Rs[k].tm,.string Rs[k].pf]) (by kernel_rfl) (by kernel_rfl) ⟨Zb_.drew,FAq.out,FQ.out⟩ ?_
    repeat (go_big_quiet_step (
     first
     | (go_at_call 91;rename_i X;exact (Zkz _ _ Rs[k] _ _ _ _ _ rfl rfl _).mono fun _ _ h=>⟨h.1,Cls.next X h.2⟩)
     | (go_at_call 150;rename_i X;exact (Znv lo lr _ _ Ts Rs[k] r.kd r.tm r.pf _ (HTq.out.below X.h.on) (HQV.out.below X.h.on)).mono fun _ _ h=>⟨by rw [h.1,hgv],Cls.next X h.2⟩)))
    refine wpQuiet_nil ?_;intro wn hw';obtain⟨X,hX⟩:=hw';have HWN:Hid (Below Wq.heap.size Wq wn):=by rw [hX];exact X.h.on
    clear hX X x2 x3 x4 xn;go_wp2;go_roundw
    case rel=>exact⟨k+1,by rw [← HNX.out],by go_num,by omega,bt HUq.out HWN.out⟩
    case measure=>simp [intOf];omega
  · have HE:Hid (num (ZcU Ts (Rs.take k) r)=num (ZcU Ts Rs r)):=by unfold Hid;rw [List.take_of_length_le (by omega)]
    generalize hmk:num (ZcU Ts (Rs.take k) r)=mk at*;go_wp2;go_ret;exact⟨ZcK HE.out,bt HBa.out HB.out⟩
end Go.Proofs.YtcfjmagkinpaeaaGreat
