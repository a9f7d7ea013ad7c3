import Derived.Test.YtfohnageehneoaaGreatVOB
import Derived.Test.YtfohnageehneoaaGreatVBBL
set_option maxHeartbeats 16000000
set_option maxRecDepth 100000
open Go.Proofs.Tryz
namespace Go.Proofs.YtfohnageehneoaaGreat
open Go.RowKit Go.Deep
theorem Zlo (lo hi:Nat) (v:Value) (Xl:List Le) (k:Int) (w:World) (hv:ZaO lo hi w v (Zjt k Xl)) (hn:Zd4 Xl) (h0:0≤k) (hk:k≤2000000000000000000) :
 Calls prog 67 #[v,.int .i64 k] w fun e w'=>e=.returned (.int .i64 (k+(Zcz Xl Xl.length:Int)))∧Zw_ w w':=by
 have HA:=Zab hv.at;have HN:=Zab hn;have hlen:=hn.1;obtain⟨a,cap,hv'⟩:=hv.form;rw [ZbN] at hv';subst hv';clear hv hn;go_enter func67,ntmps67;go_wp2
 go_loopw [5,1] (fun i q wr=>∃ j:Nat,i=.int .i64 j∧q=.int .i64 (k+(Zcz Xl j:Int))∧j≤Xl.length∧Zw_ w wr) (fun i _ _=>Xl.length - (intOf i).toNat)
 case atStart=>exact⟨0,rfl,by simp [Zcz],by omega,Below.refl _ _⟩
 case round=>
  obtain⟨j,rfl,rfl,hj,hb⟩:=hrel;have HB0:=Zab hb;clear hb
  by_cases hlt:j < Xl.length
  · obtain⟨b,off,rfl,hbw,-,hc⟩:=HA.out.full' (by rw [ZbN];omega)
    have hcj:=hc j (by rw [ZbN];omega);rw [ZjV _ _ _ _ hlt] at hcj;have hpos:=Zja HN.out (i:=j) (by omega);have HP:=Zab (ZfR hlt);obtain⟨x,hx⟩:∃ x,x=Xl[j]:=⟨_,rfl⟩
    rw [← hx] at hcj;have HXX:=Zab hx;obtain⟨K,hK⟩:∃ K,K=k+(Zcz Xl j:Int):=⟨_,rfl⟩
    rw [← hK] at hcj;rw [← hK];have hK0:0≤K:=by omega
    have hK1:K≤2500000000000000000:=by omega
    have HK:=Zab hK;obtain⟨_,hcl⟩:=hcj;have HC:=Zab hcl;clear hc hcl hx hK hpos;have d0:wr.cell? ⟨b,off+j*4,none⟩=some (.string (mtB (K))):=(HC.out.below HB0.out hbw).c0;have d1:wr.cell? ⟨b,off+j*4+1,none⟩=some (.string (mtB (K+1))):=(HC.out.below HB0.out hbw).c1;have d2:wr.cell? ⟨b,off+j*4+2,none⟩=some (.int .i64 (K+1+1)):=(HC.out.below HB0.out hbw).c2;have d3:wr.cell? ⟨b,off+j*4+3,none⟩=some (.int .i64 (K+1+1+1)):=(HC.out.below HB0.out hbw).c3;have x0:∀ X:In (Upo wr),X.w.cell? ⟨b,off+j*4,none⟩=some (.string (mtB (K))):=fun X=>Upo.cell X d0
    have xn:Nonempty (In (Upo wr)):=⟨⟨wr,Below.refl _ _⟩⟩;have xs:=fun (X:In (Upo wr))=>ZbM X
    go_wp2;clear d0 d1 d2 d3;refine Zam (Upo wr) (by kernel_rfl) (by kernel_rfl) (Zb_.drew) ?_
    repeat (go_big_quiet_step (first|(go_at_call 121;rename_i X;exact (Zah _ _ (by omega)).mono fun _ _ h=>⟨h.1,Upo.next X h.2⟩)))
    refine wpQuiet_nil ?_;intro w1 hw;obtain⟨Y,hY⟩:=hw;have HB1:Hid (Zw_ w w1):=HB0.out.trans (Below.mono (show Below wr.heap.size wr w1 by rw [hY];exact Y.h) HB0.out.size);clear hY Y x0 xs xn HB0;have d0:w1.cell? ⟨b,off+j*4,none⟩=some (.string (mtB (K))):=(HC.out.below HB1.out hbw).c0;have d1:w1.cell? ⟨b,off+j*4+1,none⟩=some (.string (mtB (K+1))):=(HC.out.below HB1.out hbw).c1;have d2:w1.cell? ⟨b,off+j*4+2,none⟩=some (.int .i64 (K+1+1)):=(HC.out.below HB1.out hbw).c2;have d3:w1.cell? ⟨b,off+j*4+3,none⟩=some (.int .i64 (K+1+1+1)):=(HC.out.below HB1.out hbw).c3;have x0:∀ X:In (Upo w1),X.w.cell? ⟨b,off+j*4+1,none⟩=some (.string (mtB (K+1))):=fun X=>Upo.cell X d1
    have xn:Nonempty (In (Upo w1)):=⟨⟨w1,Below.refl _ _⟩⟩;have xs:=fun (X:In (Upo w1))=>ZbM X
    go_wp2;clear d0 d1 d2 d3;refine Zam (Upo w1) (by kernel_rfl) (by kernel_rfl) (Zb_.drew) ?_
    repeat (go_big_quiet_step (first|(go_at_call 121;rename_i X;exact (Zah _ _ (by omega)).mono fun _ _ h=>⟨h.1,Upo.next X h.2⟩)))
    refine wpQuiet_nil ?_;intro w2 hw;obtain⟨Y,hY⟩:=hw;have HB2:Hid (Zw_ w w2):=HB1.out.trans (Below.mono (show Below w1.heap.size w1 w2 by rw [hY];exact Y.h) HB1.out.size);clear hY Y x0 xs xn HB1;have d0:w2.cell? ⟨b,off+j*4,none⟩=some (.string (mtB (K))):=(HC.out.below HB2.out hbw).c0;have d1:w2.cell? ⟨b,off+j*4+1,none⟩=some (.string (mtB (K+1))):=(HC.out.below HB2.out hbw).c1;have d2:w2.cell? ⟨b,off+j*4+2,none⟩=some (.int .i64 (K+1+1)):=(HC.out.below HB2.out hbw).c2;have d3:w2.cell? ⟨b,off+j*4+3,none⟩=some (.int .i64 (K+1+1+1)):=(HC.out.below HB2.out hbw).c3;go_wp2;clear d0 d1 d2 d3;have HW:Hid (Zsl Xl[j]=4):=by unfold Hid;rw [← HXX.out];rfl
    have HQ:Hid ((K+1+1+1+1:Int)=k+(Zcz Xl (j+1):Int)):=by
     have h1:=HP.out;have h2:=HW.out;have h3:=HK.out;unfold Hid
     omega
    go_roundw
    case rel=>exact⟨j+1,by go_num,congrArg (Value.int .i64) HQ.out,by omega,HB2.out⟩
    case measure=>simp [intOf];omega
  · have e:j=Xl.length:=by omega
    subst e;go_wp2;go_ret;exact⟨rfl,HB0.out⟩
theorem Zlb (lo hi:Nat) (v:Value) (Xl:List Pu) (k:Int) (w:World) (hv:Za5 lo hi w v (ZjS k Xl)) (hn:ZdW Xl) (h0:0≤k) (hk:k≤2000000000000000000) :
 Calls prog 68 #[v,.int .i64 k] w fun e w'=>e=.returned (.int .i64 (k+(Zc4 Xl Xl.length:Int)))∧Zw_ w w':=by
 have HA:=Zab hv.at;have HN:=Zab hn;have hlen:=hn.1;obtain⟨a,cap,hv'⟩:=hv.form;rw [ZbP] at hv';subst hv';clear hv hn;go_enter func68,ntmps68;go_wp2
 go_loopw [5,1] (fun i q wr=>∃ j:Nat,i=.int .i64 j∧q=.int .i64 (k+(Zc4 Xl j:Int))∧j≤Xl.length∧Zw_ w wr) (fun i _ _=>Xl.length - (intOf i).toNat)
 case atStart=>exact⟨0,rfl,by simp [Zc4],by omega,Below.refl _ _⟩
 case round=>
  obtain⟨j,rfl,rfl,hj,hb⟩:=hrel;have HB0:=Zab hb;clear hb
  by_cases hlt:j < Xl.length
  · obtain⟨b,off,rfl,hbw,-,hc⟩:=HA.out.full' (by rw [ZbP];omega)
    have hcj:=hc j (by rw [ZbP];omega);rw [Zkk _ _ _ _ hlt] at hcj;have hpos:=ZiV HN.out (i:=j) (by omega);have HP:=Zab (ZfO hlt);obtain⟨x,hx⟩:∃ x,x=Xl[j]:=⟨_,rfl⟩
    rw [← hx] at hcj;have HXX:=Zab hx;obtain⟨K,hK⟩:∃ K,K=k+(Zc4 Xl j:Int):=⟨_,rfl⟩
    rw [← hK] at hcj;rw [← hK];have hK0:0≤K:=by omega
    have hK1:K≤2500000000000000000:=by omega
    have HK:=Zab hK;obtain⟨_,hcl⟩:=hcj;have HC:=Zab hcl;clear hc hcl hx hK hpos;have d0:wr.cell? ⟨b,off+j*5,none⟩=some (.string (mtB (K))):=(HC.out.below HB0.out hbw).c0;have d1:wr.cell? ⟨b,off+j*5+1,none⟩=some (.string (mtB (K+1))):=(HC.out.below HB0.out hbw).c1;have d2:wr.cell? ⟨b,off+j*5+2,none⟩=some (.string (mtB (K+1+1))):=(HC.out.below HB0.out hbw).c2;have d3:wr.cell? ⟨b,off+j*5+3,none⟩=some (.int .i64 (K+1+1+1)):=(HC.out.below HB0.out hbw).c3;have d4:wr.cell? ⟨b,off+j*5+4,none⟩=some (.int .i64 (K+1+1+1+1)):=(HC.out.below HB0.out hbw).c4;have x0:∀ X:In (Upo wr),X.w.cell? ⟨b,off+j*5,none⟩=some (.string (mtB (K))):=fun X=>Upo.cell X d0
    have xn:Nonempty (In (Upo wr)):=⟨⟨wr,Below.refl _ _⟩⟩;have xs:=fun (X:In (Upo wr))=>ZbM X
    go_wp2;clear d0 d1 d2 d3 d4;refine Zam (Upo wr) (by kernel_rfl) (by kernel_rfl) (Zb_.drew) ?_
    repeat (go_big_quiet_step (first|(go_at_call 121;rename_i X;exact (Zah _ _ (by omega)).mono fun _ _ h=>⟨h.1,Upo.next X h.2⟩)))
    refine wpQuiet_nil ?_;intro w1 hw;obtain⟨Y,hY⟩:=hw;have HB1:Hid (Zw_ w w1):=HB0.out.trans (Below.mono (show Below wr.heap.size wr w1 by rw [hY];exact Y.h) HB0.out.size);clear hY Y x0 xs xn HB0;have d0:w1.cell? ⟨b,off+j*5,none⟩=some (.string (mtB (K))):=(HC.out.below HB1.out hbw).c0;have d1:w1.cell? ⟨b,off+j*5+1,none⟩=some (.string (mtB (K+1))):=(HC.out.below HB1.out hbw).c1;have d2:w1.cell? ⟨b,off+j*5+2,none⟩=some (.string (mtB (K+1+1))):=(HC.out.below HB1.out hbw).c2;have d3:w1.cell? ⟨b,off+j*5+3,none⟩=some (.int .i64 (K+1+1+1)):=(HC.out.below HB1.out hbw).c3;have d4:w1.cell? ⟨b,off+j*5+4,none⟩=some (.int .i64 (K+1+1+1+1)):=(HC.out.below HB1.out hbw).c4;have x0:∀ X:In (Upo w1),X.w.cell? ⟨b,off+j*5+1,none⟩=some (.string (mtB (K+1))):=fun X=>Upo.cell X d1
    have xn:Nonempty (In (Upo w1)):=⟨⟨w1,Below.refl _ _⟩⟩;have xs:=fun (X:In (Upo w1))=>ZbM X
    go_wp2;clear d0 d1 d2 d3 d4;refine Zam (Upo w1) (by kernel_rfl) (by kernel_rfl) (Zb_.drew) ?_
    repeat (go_big_quiet_step (first|(go_at_call 121;rename_i X;exact (Zah _ _ (by omega)).mono fun _ _ h=>⟨h.1,Upo.next X h.2⟩)))
    refine wpQuiet_nil ?_;intro w2 hw;obtain⟨Y,hY⟩:=hw;have HB2:Hid (Zw_ w w2):=HB1.out.trans (Below.mono (show Below w1.heap.size w1 w2 by rw [hY];exact Y.h) HB1.out.size);clear hY Y x0 xs xn HB1;have d0:w2.cell? ⟨b,off+j*5,none⟩=some (.string (mtB (K))):=(HC.out.below HB2.out hbw).c0;have d1:w2.cell? ⟨b,off+j*5+1,none⟩=some (.string (mtB (K+1))):=(HC.out.below HB2.out hbw).c1;have d2:w2.cell? ⟨b,off+j*5+2,none⟩=some (.string (mtB (K+1+1))):=(HC.out.below HB2.out hbw).c2;have d3:w2.cell? ⟨b,off+j*5+3,none⟩=some (.int .i64 (K+1+1+1)):=(HC.out.below HB2.out hbw).c3;have d4:w2.cell? ⟨b,off+j*5+4,none⟩=some (.int .i64 (K+1+1+1+1)):=(HC.out.below HB2.out hbw).c4;have x0:∀ X:In (Upo w2),X.w.cell? ⟨b,off+j*5+2,none⟩=some (.string (mtB (K+1+1))):=fun X=>Upo.cell X d2
    have xn:Nonempty (In (Upo w2)):=⟨⟨w2,Below.refl _ _⟩⟩;have xs:=fun (X:In (Upo w2))=>ZbM X
    go_wp2;clear d0 d1 d2 d3 d4;refine Zam (Upo w2) (by kernel_rfl) (by kernel_rfl) (Zb_.drew) ?_
    repeat (go_big_quiet_step (first|(go_at_call 121;rename_i X;exact (Zah _ _ (by omega)).mono fun _ _ h=>⟨h.1,Upo.next X h.2⟩)))
    refine wpQuiet_nil ?_;intro w3 hw;obtain⟨Y,hY⟩:=hw;have HB3:Hid (Zw_ w w3):=HB2.out.trans (Below.mono (show Below w2.heap.size w2 w3 by rw [hY];exact Y.h) HB2.out.size);clear hY Y x0 xs xn HB2;have d0:w3.cell? ⟨b,off+j*5,none⟩=some (.string (mtB (K))):=(HC.out.below HB3.out hbw).c0;have d1:w3.cell? ⟨b,off+j*5+1,none⟩=some (.string (mtB (K+1))):=(HC.out.below HB3.out hbw).c1;have d2:w3.cell? ⟨b,off+j*5+2,none⟩=some (.string (mtB (K+1+1))):=(HC.out.below HB3.out hbw).c2;have d3:w3.cell? ⟨b,off+j*5+3,none⟩=some (.int .i64 (K+1+1+1)):=(HC.out.below HB3.out hbw).c3;have d4:w3.cell? ⟨b,off+j*5+4,none⟩=some (.int .i64 (K+1+1+1+1)):=(HC.out.below HB3.out hbw).c4;go_wp2;clear d0 d1 d2 d3 d4;have HW:Hid (Zsh Xl[j]=5):=by unfold Hid;rw [← HXX.out];rfl
    have HQ:Hid ((K+1+1+1+1+1:Int)=k+(Zc4 Xl (j+1):Int)):=by
     have h1:=HP.out;have h2:=HW.out;have h3:=HK.out;unfold Hid
     omega
    go_roundw
    case rel=>exact⟨j+1,by go_num,congrArg (Value.int .i64) HQ.out,by omega,HB3.out⟩
    case measure=>simp [intOf];omega
  · have e:j=Xl.length:=by omega
    subst e;go_wp2;go_ret;exact⟨rfl,HB0.out⟩
theorem Zll (lo hi:Nat) (v:Value) (Xl:List Gr) (k:Int) (w:World) (hv:Za8 lo hi w v (ZjM k Xl)) (hn:Zds Xl) (h0:0≤k) (hk:k≤2000000000000000000) :
 Calls prog 66 #[v,.int .i64 k] w fun e w'=>e=.returned (.int .i64 (k+(Zcm Xl Xl.length:Int)))∧Zw_ w w':=by
 have HA:=Zab hv.at;have HN:=Zab hn;have hlen:=hn.1;obtain⟨a,cap,hv'⟩:=hv.form;rw [ZbH] at hv';subst hv';clear hv hn;go_enter func66,ntmps66;go_wp2
 go_loopw [5,1] (fun i q wr=>∃ j:Nat,i=.int .i64 j∧q=.int .i64 (k+(Zcm Xl j:Int))∧j≤Xl.length∧Zw_ w wr) (fun i _ _=>Xl.length - (intOf i).toNat)
 case atStart=>exact⟨0,rfl,by simp [Zcm],by omega,Below.refl _ _⟩
 case round=>
  obtain⟨j,rfl,rfl,hj,hb⟩:=hrel;have HB0:=Zab hb;clear hb
  by_cases hlt:j < Xl.length
  · obtain⟨b,off,rfl,hbw,-,hc⟩:=HA.out.full' (by rw [ZbH];omega)
    have hcj:=hc j (by rw [ZbH];omega);rw [Zjw _ _ _ _ hlt] at hcj;have hpos:=Zi1 HN.out (i:=j) (by omega);have HP:=Zab (ZfQ hlt);obtain⟨x,hx⟩:∃ x,x=Xl[j]:=⟨_,rfl⟩
    rw [← hx] at hcj;have hs0:x.vb.length≤1048576:=by have:=HN.out.2 j hlt;rw [hx];unfold ZdC at this;omega
    have HXX:=Zab hx;obtain⟨K,hK⟩:∃ K,K=k+(Zcm Xl j:Int):=⟨_,rfl⟩
    rw [← hK] at hcj;rw [← hK];have hK0:0≤K:=by omega
    have hK1:K≤2500000000000000000:=by omega
    have HK:=Zab hK;obtain⟨_,vv0,hcl,g0⟩:=hcj;have HC:=Zab hcl;have HL0:Hid (Zau lo w vv0 (ZdM (K+1+1+1) x.vb.length)):=g0;obtain⟨va0,vc0,rfl⟩:=HL0.out.form;rw [ZbV] at HC HL0;clear hc hcl hx hK hpos;have d0:wr.cell? ⟨b,off+j*7,none⟩=some (.int .i64 (K)):=(HC.out.below HB0.out hbw).c0;have d1:wr.cell? ⟨b,off+j*7+1,none⟩=some (.string (mtB (K+1))):=(HC.out.below HB0.out hbw).c1;have d2:wr.cell? ⟨b,off+j*7+2,none⟩=some (.string (mtB (K+1+1))):=(HC.out.below HB0.out hbw).c2;have d3:wr.cell? ⟨b,off+j*7+3,none⟩=some (.slice va0 x.vb.length vc0):=(HC.out.below HB0.out hbw).c3;have d4:wr.cell? ⟨b,off+j*7+4,none⟩=some (.string (mtB (K+1+1+1+(x.vb.length:Int)))):=(HC.out.below HB0.out hbw).c4;have d5:wr.cell? ⟨b,off+j*7+5,none⟩=some (.string (mtB (K+1+1+1+(x.vb.length:Int)+1))):=(HC.out.below HB0.out hbw).c5
    have d6:wr.cell? ⟨b,off+j*7+6,none⟩=some (.string (mtB (K+1+1+1+(x.vb.length:Int)+1+1))):=(HC.out.below HB0.out hbw).c6;have x0:∀ X:In (Upo wr),X.w.cell? ⟨b,off+j*7+1,none⟩=some (.string (mtB (K+1))):=fun X=>Upo.cell X d1
    have xn:Nonempty (In (Upo wr)):=⟨⟨wr,Below.refl _ _⟩⟩;have xs:=fun (X:In (Upo wr))=>ZbM X
    go_wp2;clear d0 d1 d2 d3 d4 d5 d6;refine Zam (Upo wr) (by kernel_rfl) (by kernel_rfl) (Zb_.drew) ?_
    repeat (go_big_quiet_step (first|(go_at_call 121;rename_i X;exact (Zah _ _ (by omega)).mono fun _ _ h=>⟨h.1,Upo.next X h.2⟩)))
    refine wpQuiet_nil ?_;intro w1 hw;obtain⟨Y,hY⟩:=hw;have HB1:Hid (Zw_ w w1):=HB0.out.trans (Below.mono (show Below wr.heap.size wr w1 by rw [hY];exact Y.h) HB0.out.size);clear hY Y x0 xs xn HB0;have d0:w1.cell? ⟨b,off+j*7,none⟩=some (.int .i64 (K)):=(HC.out.below HB1.out hbw).c0;have d1:w1.cell? ⟨b,off+j*7+1,none⟩=some (.string (mtB (K+1))):=(HC.out.below HB1.out hbw).c1;have d2:w1.cell? ⟨b,off+j*7+2,none⟩=some (.string (mtB (K+1+1))):=(HC.out.below HB1.out hbw).c2;have d3:w1.cell? ⟨b,off+j*7+3,none⟩=some (.slice va0 x.vb.length vc0):=(HC.out.below HB1.out hbw).c3;have d4:w1.cell? ⟨b,off+j*7+4,none⟩=some (.string (mtB (K+1+1+1+(x.vb.length:Int)))):=(HC.out.below HB1.out hbw).c4;have d5:w1.cell? ⟨b,off+j*7+5,none⟩=some (.string (mtB (K+1+1+1+(x.vb.length:Int)+1))):=(HC.out.below HB1.out hbw).c5
    have d6:w1.cell? ⟨b,off+j*7+6,none⟩=some (.string (mtB (K+1+1+1+(x.vb.length:Int)+1+1))):=(HC.out.below HB1.out hbw).c6;have x0:∀ X:In (Upo w1),X.w.cell? ⟨b,off+j*7+2,none⟩=some (.string (mtB (K+1+1))):=fun X=>Upo.cell X d2
    have xn:Nonempty (In (Upo w1)):=⟨⟨w1,Below.refl _ _⟩⟩;have xs:=fun (X:In (Upo w1))=>ZbM X
    go_wp2;clear d0 d1 d2 d3 d4 d5 d6;refine Zam (Upo w1) (by kernel_rfl) (by kernel_rfl) (Zb_.drew) ?_
    repeat (go_big_quiet_step (first|(go_at_call 121;rename_i X;exact (Zah _ _ (by omega)).mono fun _ _ h=>⟨h.1,Upo.next X h.2⟩)))
    refine wpQuiet_nil ?_;intro w2 hw;obtain⟨Y,hY⟩:=hw;have HB2:Hid (Zw_ w w2):=HB1.out.trans (Below.mono (show Below w1.heap.size w1 w2 by rw [hY];exact Y.h) HB1.out.size);clear hY Y x0 xs xn HB1;have d0:w2.cell? ⟨b,off+j*7,none⟩=some (.int .i64 (K)):=(HC.out.below HB2.out hbw).c0;have d1:w2.cell? ⟨b,off+j*7+1,none⟩=some (.string (mtB (K+1))):=(HC.out.below HB2.out hbw).c1;have d2:w2.cell? ⟨b,off+j*7+2,none⟩=some (.string (mtB (K+1+1))):=(HC.out.below HB2.out hbw).c2;have d3:w2.cell? ⟨b,off+j*7+3,none⟩=some (.slice va0 x.vb.length vc0):=(HC.out.below HB2.out hbw).c3;have d4:w2.cell? ⟨b,off+j*7+4,none⟩=some (.string (mtB (K+1+1+1+(x.vb.length:Int)))):=(HC.out.below HB2.out hbw).c4;have d5:w2.cell? ⟨b,off+j*7+5,none⟩=some (.string (mtB (K+1+1+1+(x.vb.length:Int)+1))):=(HC.out.below HB2.out hbw).c5
    have d6:w2.cell? ⟨b,off+j*7+6,none⟩=some (.string (mtB (K+1+1+1+(x.vb.length:Int)+1+1))):=(HC.out.below HB2.out hbw).c6;go_wp2_with fail;clear d0 d1 d2 d3 d4 d5 d6;refine (Zjg lo _ x.vb.length _ _ (HL0.out.below HB2.out) (by omega) (by omega)).mono ?_;rintro e w3 ⟨rfl,hb⟩;have HB3:Hid (Zw_ w w3):=HB2.out.trans (hb.mono HB2.out.size);clear hb HB2;have hg3:decide (K+1+1+1+(x.vb.length:Int) < 0)=false:=by simp;omega
    have d0:w3.cell? ⟨b,off+j*7,none⟩=some (.int .i64 (K)):=(HC.out.below HB3.out hbw).c0;have d1:w3.cell? ⟨b,off+j*7+1,none⟩=some (.string (mtB (K+1))):=(HC.out.below HB3.out hbw).c1;have d2:w3.cell? ⟨b,off+j*7+2,none⟩=some (.string (mtB (K+1+1))):=(HC.out.below HB3.out hbw).c2;have d3:w3.cell? ⟨b,off+j*7+3,none⟩=some (.slice va0 x.vb.length vc0):=(HC.out.below HB3.out hbw).c3;have d4:w3.cell? ⟨b,off+j*7+4,none⟩=some (.string (mtB (K+1+1+1+(x.vb.length:Int)))):=(HC.out.below HB3.out hbw).c4;have d5:w3.cell? ⟨b,off+j*7+5,none⟩=some (.string (mtB (K+1+1+1+(x.vb.length:Int)+1))):=(HC.out.below HB3.out hbw).c5;have d6:w3.cell? ⟨b,off+j*7+6,none⟩=some (.string (mtB (K+1+1+1+(x.vb.length:Int)+1+1))):=(HC.out.below HB3.out hbw).c6;have x0:∀ X:In (Upo w3),X.w.cell? ⟨b,off+j*7+4,none⟩=some (.string (mtB (K+1+1+1+(x.vb.length:Int)))):=fun X=>Upo.cell X d4
    have xn:Nonempty (In (Upo w3)):=⟨⟨w3,Below.refl _ _⟩⟩;have xs:=fun (X:In (Upo w3))=>ZbM X
    go_wp2;clear d0 d1 d2 d3 d4 d5 d6;refine Zam (Upo w3) (by kernel_rfl) (by kernel_rfl) (Zb_.drew) ?_
    repeat (go_big_quiet_step (first|(go_at_call 121;rename_i X;exact (Zah _ _ (by omega)).mono fun _ _ h=>⟨h.1,Upo.next X h.2⟩)))
    refine wpQuiet_nil ?_;intro w4 hw;obtain⟨Y,hY⟩:=hw;have HB4:Hid (Zw_ w w4):=HB3.out.trans (Below.mono (show Below w3.heap.size w3 w4 by rw [hY];exact Y.h) HB3.out.size);clear hY Y x0 xs xn HB3;have d0:w4.cell? ⟨b,off+j*7,none⟩=some (.int .i64 (K)):=(HC.out.below HB4.out hbw).c0;have d1:w4.cell? ⟨b,off+j*7+1,none⟩=some (.string (mtB (K+1))):=(HC.out.below HB4.out hbw).c1;have d2:w4.cell? ⟨b,off+j*7+2,none⟩=some (.string (mtB (K+1+1))):=(HC.out.below HB4.out hbw).c2;have d3:w4.cell? ⟨b,off+j*7+3,none⟩=some (.slice va0 x.vb.length vc0):=(HC.out.below HB4.out hbw).c3;have d4:w4.cell? ⟨b,off+j*7+4,none⟩=some (.string (mtB (K+1+1+1+(x.vb.length:Int)))):=(HC.out.below HB4.out hbw).c4;have d5:w4.cell? ⟨b,off+j*7+5,none⟩=some (.string (mtB (K+1+1+1+(x.vb.length:Int)+1))):=(HC.out.below HB4.out hbw).c5
    have d6:w4.cell? ⟨b,off+j*7+6,none⟩=some (.string (mtB (K+1+1+1+(x.vb.length:Int)+1+1))):=(HC.out.below HB4.out hbw).c6;have x0:∀ X:In (Upo w4),X.w.cell? ⟨b,off+j*7+5,none⟩=some (.string (mtB (K+1+1+1+(x.vb.length:Int)+1))):=fun X=>Upo.cell X d5
    have xn:Nonempty (In (Upo w4)):=⟨⟨w4,Below.refl _ _⟩⟩;have xs:=fun (X:In (Upo w4))=>ZbM X
    go_wp2;clear d0 d1 d2 d3 d4 d5 d6;refine Zam (Upo w4) (by kernel_rfl) (by kernel_rfl) (Zb_.drew) ?_
    repeat (go_big_quiet_step (first|(go_at_call 121;rename_i X;exact (Zah _ _ (by omega)).mono fun _ _ h=>⟨h.1,Upo.next X h.2⟩)))
    refine wpQuiet_nil ?_;intro w5 hw;obtain⟨Y,hY⟩:=hw;have HB5:Hid (Zw_ w w5):=HB4.out.trans (Below.mono (show Below w4.heap.size w4 w5 by rw [hY];exact Y.h) HB4.out.size);clear hY Y x0 xs xn HB4;have d0:w5.cell? ⟨b,off+j*7,none⟩=some (.int .i64 (K)):=(HC.out.below HB5.out hbw).c0;have d1:w5.cell? ⟨b,off+j*7+1,none⟩=some (.string (mtB (K+1))):=(HC.out.below HB5.out hbw).c1;have d2:w5.cell? ⟨b,off+j*7+2,none⟩=some (.string (mtB (K+1+1))):=(HC.out.below HB5.out hbw).c2;have d3:w5.cell? ⟨b,off+j*7+3,none⟩=some (.slice va0 x.vb.length vc0):=(HC.out.below HB5.out hbw).c3;have d4:w5.cell? ⟨b,off+j*7+4,none⟩=some (.string (mtB (K+1+1+1+(x.vb.length:Int)))):=(HC.out.below HB5.out hbw).c4;have d5:w5.cell? ⟨b,off+j*7+5,none⟩=some (.string (mtB (K+1+1+1+(x.vb.length:Int)+1))):=(HC.out.below HB5.out hbw).c5
    have d6:w5.cell? ⟨b,off+j*7+6,none⟩=some (.string (mtB (K+1+1+1+(x.vb.length:Int)+1+1))):=(HC.out.below HB5.out hbw).c6;have x0:∀ X:In (Upo w5),X.w.cell? ⟨b,off+j*7+6,none⟩=some (.string (mtB (K+1+1+1+(x.vb.length:Int)+1+1))):=fun X=>Upo.cell X d6
    have xn:Nonempty (In (Upo w5)):=⟨⟨w5,Below.refl _ _⟩⟩;have xs:=fun (X:In (Upo w5))=>ZbM X
    go_wp2;clear d0 d1 d2 d3 d4 d5 d6;refine Zam (Upo w5) (by kernel_rfl) (by kernel_rfl) (Zb_.drew) ?_
    repeat (go_big_quiet_step (first|(go_at_call 121;rename_i X;exact (Zah _ _ (by omega)).mono fun _ _ h=>⟨h.1,Upo.next X h.2⟩)))
    refine wpQuiet_nil ?_;intro w6 hw;obtain⟨Y,hY⟩:=hw;have HB6:Hid (Zw_ w w6):=HB5.out.trans (Below.mono (show Below w5.heap.size w5 w6 by rw [hY];exact Y.h) HB5.out.size);clear hY Y x0 xs xn HB5;have d0:w6.cell? ⟨b,off+j*7,none⟩=some (.int .i64 (K)):=(HC.out.below HB6.out hbw).c0;have d1:w6.cell? ⟨b,off+j*7+1,none⟩=some (.string (mtB (K+1))):=(HC.out.below HB6.out hbw).c1;have d2:w6.cell? ⟨b,off+j*7+2,none⟩=some (.string (mtB (K+1+1))):=(HC.out.below HB6.out hbw).c2;have d3:w6.cell? ⟨b,off+j*7+3,none⟩=some (.slice va0 x.vb.length vc0):=(HC.out.below HB6.out hbw).c3;have d4:w6.cell? ⟨b,off+j*7+4,none⟩=some (.string (mtB (K+1+1+1+(x.vb.length:Int)))):=(HC.out.below HB6.out hbw).c4;have d5:w6.cell? ⟨b,off+j*7+5,none⟩=some (.string (mtB (K+1+1+1+(x.vb.length:Int)+1))):=(HC.out.below HB6.out hbw).c5
    have d6:w6.cell? ⟨b,off+j*7+6,none⟩=some (.string (mtB (K+1+1+1+(x.vb.length:Int)+1+1))):=(HC.out.below HB6.out hbw).c6;go_wp2;clear d0 d1 d2 d3 d4 d5 d6;have HW:Hid (Zso Xl[j]=6+x.vb.length):=by unfold Hid;rw [← HXX.out];rfl
    have HQ:Hid ((K+1+1+1+(x.vb.length:Int)+1+1+1:Int)=k+(Zcm Xl (j+1):Int)):=by
     have h1:=HP.out;have h2:=HW.out;have h3:=HK.out;unfold Hid
     omega
    go_roundw
    case rel=>exact⟨j+1,by go_num,congrArg (Value.int .i64) HQ.out,by omega,HB6.out⟩
    case measure=>simp [intOf];omega
  · have e:j=Xl.length:=by omega
    subst e;go_wp2;go_ret;exact⟨rfl,HB0.out⟩
theorem ZkT (lo hi:Nat) (v:Value) (Xl:List Ob) (k:Int) (w:World) (hv:Za2 lo hi w v (Zjq k Xl)) (hn:ZbD Xl) (h0:0≤k) (hk:k≤2000000000000000000) :
 Calls prog 65 #[v,.int .i64 k] w fun e w'=>e=.returned (.int .i64 (k+(Zb6 Xl Xl.length:Int)))∧Zw_ w w':=by
 have HA:=Zab hv.at;have HN:=Zab hn;have hlen:=hn.1;obtain⟨a,cap,hv'⟩:=hv.form;rw [ZbJ] at hv';subst hv';clear hv hn;go_enter func65,ntmps65;go_wp2
 go_loopw [5,1] (fun i q wr=>∃ j:Nat,i=.int .i64 j∧q=.int .i64 (k+(Zb6 Xl j:Int))∧j≤Xl.length∧Zw_ w wr) (fun i _ _=>Xl.length - (intOf i).toNat)
 case atStart=>exact⟨0,rfl,by simp [Zb6],by omega,Below.refl _ _⟩
 case round=>
  obtain⟨j,rfl,rfl,hj,hb⟩:=hrel;have HB0:=Zab hb;clear hb
  by_cases hlt:j < Xl.length
  · obtain⟨b,off,rfl,hbw,-,hc⟩:=HA.out.full' (by rw [ZbJ];omega)
    have hcj:=hc j (by rw [ZbJ];omega);rw [Zj6 _ _ _ _ hlt] at hcj;have hpos:=Zis HN.out (i:=j) (by omega);have HP:=Zab (Zf3 hlt);obtain⟨x,hx⟩:∃ x,x=Xl[j]:=⟨_,rfl⟩
    rw [← hx] at hcj;have hs0:x.vs.length≤1048576:=by have:=HN.out.2 j hlt;rw [hx];unfold ZdB at this;omega
    have hs1:x.hs.length≤1048576:=by have:=HN.out.2 j hlt;rw [hx];unfold ZdB at this;omega
    have HXX:=Zab hx;obtain⟨K,hK⟩:∃ K,K=k+(Zb6 Xl j:Int):=⟨_,rfl⟩
    rw [← hK] at hcj;rw [← hK];have hK0:0≤K:=by omega
    have hK1:K≤2500000000000000000:=by omega
    have HK:=Zab hK;obtain⟨_,vv0,vv1,hcl,g0,g1⟩:=hcj;have HC:=Zab hcl;have HL0:Hid (Zao lo w vv0 (Zec (K+1+1+1) x.vs.length)):=g0;have HL1:Hid (Zao lo w vv1 (Zec (K+1+1+1+(x.vs.length:Int)+1) x.hs.length)):=g1;obtain⟨va0,vc0,rfl⟩:=HL0.out.at.form';rw [Zcb] at HC HL0;obtain⟨va1,vc1,rfl⟩:=HL1.out.at.form';rw [Zcb] at HC HL1;clear hc hcl hx hK hpos;have d0:wr.cell? ⟨b,off+j*7,none⟩=some (.string (mtB (K))):=(HC.out.below HB0.out hbw).c0;have d1:wr.cell? ⟨b,off+j*7+1,none⟩=some (.string (mtB (K+1))):=(HC.out.below HB0.out hbw).c1;have d2:wr.cell? ⟨b,off+j*7+2,none⟩=some (.string (mtB (K+1+1))):=(HC.out.below HB0.out hbw).c2;have d3:wr.cell? ⟨b,off+j*7+3,none⟩=some (.slice va0 x.vs.length vc0):=(HC.out.below HB0.out hbw).c3;have d4:wr.cell? ⟨b,off+j*7+4,none⟩=some (.bool ((K+1+1+1+(x.vs.length:Int)) % 3 == 0)):=(HC.out.below HB0.out hbw).c4
    have d5:wr.cell? ⟨b,off+j*7+5,none⟩=some (.slice va1 x.hs.length vc1):=(HC.out.below HB0.out hbw).c5;have d6:wr.cell? ⟨b,off+j*7+6,none⟩=some (.int .i64 (K+1+1+1+(x.vs.length:Int)+1+(x.hs.length:Int))):=(HC.out.below HB0.out hbw).c6;have x0:∀ X:In (Upo wr),X.w.cell? ⟨b,off+j*7,none⟩=some (.string (mtB (K))):=fun X=>Upo.cell X d0
    have xn:Nonempty (In (Upo wr)):=⟨⟨wr,Below.refl _ _⟩⟩;have xs:=fun (X:In (Upo wr))=>ZbM X
    go_wp2;clear d0 d1 d2 d3 d4 d5 d6;refine Zam (Upo wr) (by kernel_rfl) (by kernel_rfl) (Zb_.drew) ?_
    repeat (go_big_quiet_step (first|(go_at_call 121;rename_i X;exact (Zah _ _ (by omega)).mono fun _ _ h=>⟨h.1,Upo.next X h.2⟩)))
    refine wpQuiet_nil ?_;intro w1 hw;obtain⟨Y,hY⟩:=hw;have HB1:Hid (Zw_ w w1):=HB0.out.trans (Below.mono (show Below wr.heap.size wr w1 by rw [hY];exact Y.h) HB0.out.size);clear hY Y x0 xs xn HB0;have d0:w1.cell? ⟨b,off+j*7,none⟩=some (.string (mtB (K))):=(HC.out.below HB1.out hbw).c0;have d1:w1.cell? ⟨b,off+j*7+1,none⟩=some (.string (mtB (K+1))):=(HC.out.below HB1.out hbw).c1;have d2:w1.cell? ⟨b,off+j*7+2,none⟩=some (.string (mtB (K+1+1))):=(HC.out.below HB1.out hbw).c2;have d3:w1.cell? ⟨b,off+j*7+3,none⟩=some (.slice va0 x.vs.length vc0):=(HC.out.below HB1.out hbw).c3;have d4:w1.cell? ⟨b,off+j*7+4,none⟩=some (.bool ((K+1+1+1+(x.vs.length:Int)) % 3 == 0)):=(HC.out.below HB1.out hbw).c4;have d5:w1.cell? ⟨b,off+j*7+5,none⟩=some (.slice va1 x.hs.length vc1):=(HC.out.below HB1.out hbw).c5
    have d6:w1.cell? ⟨b,off+j*7+6,none⟩=some (.int .i64 (K+1+1+1+(x.vs.length:Int)+1+(x.hs.length:Int))):=(HC.out.below HB1.out hbw).c6;have x0:∀ X:In (Upo w1),X.w.cell? ⟨b,off+j*7+1,none⟩=some (.string (mtB (K+1))):=fun X=>Upo.cell X d1
    have xn:Nonempty (In (Upo w1)):=⟨⟨w1,Below.refl _ _⟩⟩;have xs:=fun (X:In (Upo w1))=>ZbM X
    go_wp2;clear d0 d1 d2 d3 d4 d5 d6;refine Zam (Upo w1) (by kernel_rfl) (by kernel_rfl) (Zb_.drew) ?_
    repeat (go_big_quiet_step (first|(go_at_call 121;rename_i X;exact (Zah _ _ (by omega)).mono fun _ _ h=>⟨h.1,Upo.next X h.2⟩)))
    refine wpQuiet_nil ?_;intro w2 hw;obtain⟨Y,hY⟩:=hw;have HB2:Hid (Zw_ w w2):=HB1.out.trans (Below.mono (show Below w1.heap.size w1 w2 by rw [hY];exact Y.h) HB1.out.size);clear hY Y x0 xs xn HB1;have d0:w2.cell? ⟨b,off+j*7,none⟩=some (.string (mtB (K))):=(HC.out.below HB2.out hbw).c0;have d1:w2.cell? ⟨b,off+j*7+1,none⟩=some (.string (mtB (K+1))):=(HC.out.below HB2.out hbw).c1;have d2:w2.cell? ⟨b,off+j*7+2,none⟩=some (.string (mtB (K+1+1))):=(HC.out.below HB2.out hbw).c2;have d3:w2.cell? ⟨b,off+j*7+3,none⟩=some (.slice va0 x.vs.length vc0):=(HC.out.below HB2.out hbw).c3;have d4:w2.cell? ⟨b,off+j*7+4,none⟩=some (.bool ((K+1+1+1+(x.vs.length:Int)) % 3 == 0)):=(HC.out.below HB2.out hbw).c4;have d5:w2.cell? ⟨b,off+j*7+5,none⟩=some (.slice va1 x.hs.length vc1):=(HC.out.below HB2.out hbw).c5
    have d6:w2.cell? ⟨b,off+j*7+6,none⟩=some (.int .i64 (K+1+1+1+(x.vs.length:Int)+1+(x.hs.length:Int))):=(HC.out.below HB2.out hbw).c6;have x0:∀ X:In (Upo w2),X.w.cell? ⟨b,off+j*7+2,none⟩=some (.string (mtB (K+1+1))):=fun X=>Upo.cell X d2
    have xn:Nonempty (In (Upo w2)):=⟨⟨w2,Below.refl _ _⟩⟩;have xs:=fun (X:In (Upo w2))=>ZbM X
    go_wp2;clear d0 d1 d2 d3 d4 d5 d6;refine Zam (Upo w2) (by kernel_rfl) (by kernel_rfl) (Zb_.drew) ?_
    repeat (go_big_quiet_step (first|(go_at_call 121;rename_i X;exact (Zah _ _ (by omega)).mono fun _ _ h=>⟨h.1,Upo.next X h.2⟩)))
    refine wpQuiet_nil ?_;intro w3 hw;obtain⟨Y,hY⟩:=hw;have HB3:Hid (Zw_ w w3):=HB2.out.trans (Below.mono (show Below w2.heap.size w2 w3 by rw [hY];exact Y.h) HB2.out.size);clear hY Y x0 xs xn HB2;have d0:w3.cell? ⟨b,off+j*7,none⟩=some (.string (mtB (K))):=(HC.out.below HB3.out hbw).c0;have d1:w3.cell? ⟨b,off+j*7+1,none⟩=some (.string (mtB (K+1))):=(HC.out.below HB3.out hbw).c1;have d2:w3.cell? ⟨b,off+j*7+2,none⟩=some (.string (mtB (K+1+1))):=(HC.out.below HB3.out hbw).c2;have d3:w3.cell? ⟨b,off+j*7+3,none⟩=some (.slice va0 x.vs.length vc0):=(HC.out.below HB3.out hbw).c3;have d4:w3.cell? ⟨b,off+j*7+4,none⟩=some (.bool ((K+1+1+1+(x.vs.length:Int)) % 3 == 0)):=(HC.out.below HB3.out hbw).c4;have d5:w3.cell? ⟨b,off+j*7+5,none⟩=some (.slice va1 x.hs.length vc1):=(HC.out.below HB3.out hbw).c5
    have d6:w3.cell? ⟨b,off+j*7+6,none⟩=some (.int .i64 (K+1+1+1+(x.vs.length:Int)+1+(x.hs.length:Int))):=(HC.out.below HB3.out hbw).c6;go_wp2_with fail;clear d0 d1 d2 d3 d4 d5 d6;refine (Zgb _ x.vs.length _ _ (HL0.out.below HB3.out).at (by omega) (by omega)).mono ?_;rintro e w4 ⟨rfl,hb⟩;have HB4:Hid (Zw_ w w4):=HB3.out.trans (hb.mono HB3.out.size);clear hb HB3;have hg3:decide (K+1+1+1+(x.vs.length:Int) < 0)=false:=by simp;omega
    have d0:w4.cell? ⟨b,off+j*7,none⟩=some (.string (mtB (K))):=(HC.out.below HB4.out hbw).c0;have d1:w4.cell? ⟨b,off+j*7+1,none⟩=some (.string (mtB (K+1))):=(HC.out.below HB4.out hbw).c1;have d2:w4.cell? ⟨b,off+j*7+2,none⟩=some (.string (mtB (K+1+1))):=(HC.out.below HB4.out hbw).c2;have d3:w4.cell? ⟨b,off+j*7+3,none⟩=some (.slice va0 x.vs.length vc0):=(HC.out.below HB4.out hbw).c3;have d4:w4.cell? ⟨b,off+j*7+4,none⟩=some (.bool ((K+1+1+1+(x.vs.length:Int)) % 3 == 0)):=(HC.out.below HB4.out hbw).c4;have d5:w4.cell? ⟨b,off+j*7+5,none⟩=some (.slice va1 x.hs.length vc1):=(HC.out.below HB4.out hbw).c5;have d6:w4.cell? ⟨b,off+j*7+6,none⟩=some (.int .i64 (K+1+1+1+(x.vs.length:Int)+1+(x.hs.length:Int))):=(HC.out.below HB4.out hbw).c6;go_wp2_with fail;clear d0 d1 d2 d3 d4 d5 d6;refine (Zgb _ x.hs.length _ _ (HL1.out.below HB4.out).at (by omega) (by omega)).mono ?_
    rintro e w5 ⟨rfl,hb⟩;have HB5:Hid (Zw_ w w5):=HB4.out.trans (hb.mono HB4.out.size);clear hb HB4;have hg5:decide (K+1+1+1+(x.vs.length:Int)+1+(x.hs.length:Int) < 0)=false:=by simp;omega
    have d0:w5.cell? ⟨b,off+j*7,none⟩=some (.string (mtB (K))):=(HC.out.below HB5.out hbw).c0;have d1:w5.cell? ⟨b,off+j*7+1,none⟩=some (.string (mtB (K+1))):=(HC.out.below HB5.out hbw).c1;have d2:w5.cell? ⟨b,off+j*7+2,none⟩=some (.string (mtB (K+1+1))):=(HC.out.below HB5.out hbw).c2;have d3:w5.cell? ⟨b,off+j*7+3,none⟩=some (.slice va0 x.vs.length vc0):=(HC.out.below HB5.out hbw).c3;have d4:w5.cell? ⟨b,off+j*7+4,none⟩=some (.bool ((K+1+1+1+(x.vs.length:Int)) % 3 == 0)):=(HC.out.below HB5.out hbw).c4;have d5:w5.cell? ⟨b,off+j*7+5,none⟩=some (.slice va1 x.hs.length vc1):=(HC.out.below HB5.out hbw).c5;have d6:w5.cell? ⟨b,off+j*7+6,none⟩=some (.int .i64 (K+1+1+1+(x.vs.length:Int)+1+(x.hs.length:Int))):=(HC.out.below HB5.out hbw).c6;go_wp2;clear d0 d1 d2 d3 d4 d5 d6;have HW:Hid (Zsf Xl[j]=5+x.vs.length+x.hs.length):=by unfold Hid;rw [← HXX.out];rfl
    have HQ:Hid ((K+1+1+1+(x.vs.length:Int)+1+(x.hs.length:Int)+1:Int)=k+(Zb6 Xl (j+1):Int)):=by
     have h1:=HP.out;have h2:=HW.out;have h3:=HK.out;unfold Hid
     omega
    go_roundw
    case rel=>exact⟨j+1,by go_num,congrArg (Value.int .i64) HQ.out,by omega,HB5.out⟩
    case measure=>simp [intOf];omega
  · have e:j=Xl.length:=by omega
    subst e;go_wp2;go_ret;exact⟨rfl,HB0.out⟩
structure Zl1 (lo hi o0 o1 g0 g1 l0 l1 p0 p1:Nat):Prop where
 o:lo≤o0∧o1≤hi
 g:lo≤g0∧g1≤hi
 l:lo≤l0∧l1≤hi
 p:lo≤p0∧p1≤hi
 og:o1≤g0∨g1≤o0
 ol:o1≤l0∨l1≤o0
 op:o1≤p0∨p1≤o0
 gl:g1≤l0∨l1≤g0
 gp:g1≤p0∨p1≤g0
 lp:l1≤p0∨p1≤l0
def Zax (lo hi:Nat) (w:World) (ov gv lv pv:Value) (B:Bk):Prop:=
 ∃ o0 o1 g0 g1 l0 l1 p0 p1:Nat,Zl1 lo hi o0 o1 g0 g1 l0 l1 p0 p1∧Za2 o0 o1 w ov B.os∧Za8 g0 g1 w gv B.gs∧ZaO l0 l1 w lv B.ls∧Za5 p0 p1 w pv B.ps
theorem Zax.at {lo hi:Nat} {w:World} {ov gv lv pv:Value} {B:Bk} (h:Zax lo hi w ov gv lv pv B):ZaW lo w ov gv lv pv B:=by
 obtain⟨_,_,_,_,_,_,_,_,ha,h1,h2,h3,h4⟩:=h;exact⟨h1.at.mono ha.o.1,h2.at.mono ha.g.1,h3.at.mono ha.l.1,h4.at.mono ha.p.1⟩
theorem Zax.below {lo hi:Nat} {w w':World} {ov gv lv pv:Value} {B:Bk} (h:Zax lo hi w ov gv lv pv B) (hb:Zw_ w w'):Zax lo hi w' ov gv lv pv B:=by
 obtain⟨o0,o1,g0,g1,l0,l1,p0,p1,ha,h1,h2,h3,h4⟩:=h;exact⟨o0,o1,g0,g1,l0,l1,p0,p1,ha,h1.below hb,h2.below hb,h3.below hb,h4.below hb⟩
theorem Zax.touch {lo hi lo' hi':Nat} {w w':World} {ov gv lv pv:Value} {B:Bk} (h:Zax lo hi w ov gv lv pv B) (ht:Zad lo' hi' w w') (ho:hi≤lo'∨hi'≤lo):Zax lo hi w' ov gv lv pv B:=by
 obtain⟨o0,o1,g0,g1,l0,l1,p0,p1,ha,h1,h2,h3,h4⟩:=h;have:=ha.o;have:=ha.g;have:=ha.l;have:=ha.p;exact⟨o0,o1,g0,g1,l0,l1,p0,p1,ha,h1.touch ht (by omega),h2.touch ht (by omega),h3.touch ht (by omega),h4.touch ht (by omega)⟩
theorem Zax.wide {lo hi lo' hi':Nat} {w:World} {ov gv lv pv:Value} {B:Bk} (h:Zax lo hi w ov gv lv pv B) (h1:lo'≤lo) (h2:hi≤hi'):Zax lo' hi' w ov gv lv pv B:=by
 obtain⟨o0,o1,g0,g1,l0,l1,p0,p1,⟨q1,q2,q3,q4,r1,r2,r3,r4,r5,r6⟩,hh⟩:=h;exact⟨o0,o1,g0,g1,l0,l1,p0,p1,⟨by omega,by omega,by omega,by omega,r1,r2,r3,r4,r5,r6⟩,hh⟩
def Ztg (k:Int) (B:Bk):Bk:=⟨B.now,B.tick,B.given,Zjq k B.os,ZjM (k+(Zb6 B.os B.os.length:Int)) B.gs,Zjt (k+(Zb6 B.os B.os.length:Int)+(Zcm B.gs B.gs.length:Int)) B.ls,ZjS (k+(Zb6 B.os B.os.length:Int)+(Zcm B.gs B.gs.length:Int)+(Zcz B.ls B.ls.length:Int)) B.ps⟩
def ZmB (k:Int) (B:Bk):Int:=k+(Zb6 B.os B.os.length:Int)+(Zcm B.gs B.gs.length:Int)+(Zcz B.ls B.ls.length:Int)+(Zc4 B.ps B.ps.length:Int)
theorem Zmk {B:Bk} (hn:ZaA B):Zb6 B.os B.os.length≤4000000000000∧Zcm B.gs B.gs.length≤4000000000000∧Zcz B.ls B.ls.length≤4000000000000∧Zc4 B.ps B.ps.length≤4000000000000:=by
 obtain⟨h1,h2,h3,h4⟩:=hn;have:=Zis h1 (i:=B.os.length) Zl_;have:=Zi1 h2 (i:=B.gs.length) Zl_;have:=Zja h3 (i:=B.ls.length) Zl_;have:=ZiV h4 (i:=B.ps.length) Zl_;have:=h1.1;have:=h2.1;have:=h3.1;have:=h4.1
 omega
section
variable (lo hi:Nat) (ov gv lv pv:Value) (B:Bk) (w:World)
theorem Zgo (k:Int) (h:Zax lo hi w ov gv lv pv B) (hn:ZaA B) (h0:0≤k) (hk:k≤1900000000000000000) (hhi:hi≤w.heap.size) :
 Calls prog 16 #[.agg #[.int .i64 B.now,.int .i64 B.tick,.int .i64 B.given,ov,gv,lv,pv],.int .i64 k] w fun e w'=>e=.returned (.int .i64 (ZmB k B))∧Zad lo hi w w'∧Zax lo hi w' ov gv lv pv (Ztg k B):=by
 obtain⟨o0,o1,g0,g1,l0,l1,p0,p1,ha,h1,h2,h3,h4⟩:=h;obtain⟨z1,z2,z3,z4⟩:=Zmk hn;have HN:=Zab hn;have HP:=Zab ha;obtain⟨⟨y1,y2⟩,⟨y3,y4⟩,⟨y5,y6⟩,⟨y7,y8⟩,yog,yol,yop,ygl,ygp,ylp⟩:=ha;have H1:=Zab h1;have H2:=Zab h2;have H3:=Zab h3;have H4:=Zab h4;obtain⟨a0,k0,rfl⟩:=h1.form;obtain⟨a1,k1,rfl⟩:=h2.form;obtain⟨a2,k2,rfl⟩:=h3.form;obtain⟨a3,k3,rfl⟩:=h4.form;clear h1 h2 h3 h4 hn;go_enter func16,ntmps16;go_wp2_with fail;generalize hWa:w.alloc _=Wa;have hb:Zw_ w Wa:=by rw [← hWa];exact Zac w _
 have HX0:Hid (Box Wa w.heap.size #[.int .i64 B.now,.int .i64 B.tick,.int .i64 B.given,.slice a0 B.os.length k0,.slice a1 B.gs.length k1,.slice a2 B.ls.length k2,.slice a3 B.ps.length k3]):=by rw [← hWa];exact Box.new _ _ _ _ rfl
 have HT0:Hid (Zad lo hi w Wa):=Zad.below hb;replace H1:=Zab (H1.out.below hb);replace H2:=Zab (H2.out.below hb);replace H3:=Zab (H3.out.below hb);replace H4:=Zab (H4.out.below hb);clear hWa hb;refine (ZkU o0 o1 _ B.os _ _ H1.out HN.out.1 (by omega) (by omega)).mono ?_;rintro e w1 ⟨rfl,ht1,hq1⟩;have HX1:=Zab (HX0.out.touch ht1 (by omega));have HT1:Hid (Zad lo hi w w1):=HT0.out.trans (ht1.wide (by omega) (by omega));replace H1:=Zab hq1;replace H2:=Zab (H2.out.touch ht1 (by omega));replace H3:=Zab (H3.out.touch ht1 (by omega));replace H4:=Zab (H4.out.touch ht1 (by omega));clear ht1 hq1 HX0 HT0;have c1:=HX1.out.cell 4;simp at c1;go_wp2_with fail;clear c1;refine (ZkP g0 g1 _ B.gs _ _ H2.out HN.out.2.1 (by omega) (by omega)).mono ?_;rintro e w2 ⟨rfl,ht2,hq2⟩;have HX2:=Zab (HX1.out.touch ht2 (by omega))
 have HT2:Hid (Zad lo hi w w2):=HT1.out.trans (ht2.wide (by omega) (by omega));replace H1:=Zab (H1.out.touch ht2 (by omega));replace H2:=Zab hq2;replace H3:=Zab (H3.out.touch ht2 (by omega));replace H4:=Zab (H4.out.touch ht2 (by omega));clear ht2 hq2 HX1 HT1;have c2:=HX2.out.cell 5;simp at c2;go_wp2_with fail;clear c2;refine (Zli l0 l1 _ B.ls _ _ H3.out HN.out.2.2.1 (by omega) (by omega)).mono ?_;rintro e w3 ⟨rfl,ht3,hq3⟩;have HX3:=Zab (HX2.out.touch ht3 (by omega));have HT3:Hid (Zad lo hi w w3):=HT2.out.trans (ht3.wide (by omega) (by omega));replace H1:=Zab (H1.out.touch ht3 (by omega));replace H2:=Zab (H2.out.touch ht3 (by omega));replace H3:=Zab hq3;replace H4:=Zab (H4.out.touch ht3 (by omega));clear ht3 hq3 HX2 HT2;have c3:=HX3.out.cell 6;simp at c3;go_wp2_with fail;clear c3;refine (Zky p0 p1 _ B.ps _ _ H4.out HN.out.2.2.2 (by omega) (by omega)).mono ?_
 rintro e w4 ⟨rfl,ht4,hq4⟩;have HX4:=Zab (HX3.out.touch ht4 (by omega));have HT4:Hid (Zad lo hi w w4):=HT3.out.trans (ht4.wide (by omega) (by omega));replace H1:=Zab (H1.out.touch ht4 (by omega));replace H2:=Zab (H2.out.touch ht4 (by omega));replace H3:=Zab (H3.out.touch ht4 (by omega));replace H4:=Zab hq4;clear ht4 hq4 HX3 HT3;go_wp2;go_ret;exact⟨rfl,HT4.out,o0,o1,g0,g1,l0,l1,p0,p1,HP.out,H1.out,H2.out,H3.out,H4.out⟩
theorem Zgq (k:Int) (h:Zax lo hi w ov gv lv pv (Ztg k B)) (hn:ZaA B) (h0:0≤k) (hk:k≤1900000000000000000) :
 Calls prog 17 #[.agg #[.int .i64 B.now,.int .i64 B.tick,.int .i64 B.given,ov,gv,lv,pv],.int .i64 k] w fun e w'=>e=.returned (.int .i64 (ZmB k B))∧Zw_ w w':=by
 obtain⟨o0,o1,g0,g1,l0,l1,p0,p1,ha,h1,h2,h3,h4⟩:=h;obtain⟨z1,z2,z3,z4⟩:=Zmk hn;have HN:=Zab hn;clear ha;have H1:Hid (Za2 o0 o1 w ov (Zjq k B.os)):=h1;have H2:Hid (Za8 g0 g1 w gv (ZjM (k+(Zb6 B.os B.os.length:Int)) B.gs)):=h2;have H3:Hid (ZaO l0 l1 w lv (Zjt (k+(Zb6 B.os B.os.length:Int)+(Zcm B.gs B.gs.length:Int)) B.ls)):=h3;have H4:Hid (Za5 p0 p1 w pv (ZjS (k+(Zb6 B.os B.os.length:Int)+(Zcm B.gs B.gs.length:Int)+(Zcz B.ls B.ls.length:Int)) B.ps)):=h4;obtain⟨a0,k0,rfl⟩:=H1.out.form;obtain⟨a1,k1,rfl⟩:=H2.out.form;obtain⟨a2,k2,rfl⟩:=H3.out.form;obtain⟨a3,k3,rfl⟩:=H4.out.form;rw [ZbJ] at H1;rw [ZbH] at H2;rw [ZbN] at H3;rw [ZbP] at H4;rw [ZbJ,ZbH,ZbN,ZbP];clear h1 h2 h3 h4 hn;go_enter func17,ntmps17;go_wp2_with fail;generalize hWa:w.alloc _=Wa
 have HB0:Hid (Zw_ w Wa):=by rw [← hWa];exact Zac w _
 have HX0:Hid (Box Wa w.heap.size #[.int .i64 B.now,.int .i64 B.tick,.int .i64 B.given,.slice a0 B.os.length k0,.slice a1 B.gs.length k1,.slice a2 B.ls.length k2,.slice a3 B.ps.length k3]):=by rw [← hWa];exact Box.new _ _ _ _ rfl
 clear hWa;refine (ZkT o0 o1 _ B.os _ _ (H1.out.below HB0.out) HN.out.1 (by omega) (by omega)).mono ?_;rintro e w1 ⟨rfl,hb1⟩;have HX1:=Zab (HX0.out.on hb1);have HB1:Hid (Zw_ w w1):=HB0.out.trans (hb1.mono HB0.out.size);have hg1:decide (k+(Zb6 B.os B.os.length:Int) < 0)=false:=by simp;omega
 clear hb1 HX0 HB0;have c1:=HX1.out.cell 4;simp at c1;go_wp2_with fail;clear c1;refine (Zll g0 g1 _ B.gs _ _ (H2.out.below HB1.out) HN.out.2.1 (by omega) (by omega)).mono ?_;rintro e w2 ⟨rfl,hb2⟩;have HX2:=Zab (HX1.out.on hb2);have HB2:Hid (Zw_ w w2):=HB1.out.trans (hb2.mono HB1.out.size);have hg2:decide (k+(Zb6 B.os B.os.length:Int)+(Zcm B.gs B.gs.length:Int) < 0)=false:=by simp;omega
 clear hb2 HX1 HB1;have c2:=HX2.out.cell 5;simp at c2;go_wp2_with fail;clear c2;refine (Zlo l0 l1 _ B.ls _ _ (H3.out.below HB2.out) HN.out.2.2.1 (by omega) (by omega)).mono ?_;rintro e w3 ⟨rfl,hb3⟩;have HX3:=Zab (HX2.out.on hb3);have HB3:Hid (Zw_ w w3):=HB2.out.trans (hb3.mono HB2.out.size);have hg3:decide (k+(Zb6 B.os B.os.length:Int)+(Zcm B.gs B.gs.length:Int)+(Zcz B.ls B.ls.length:Int) < 0)=false:=by simp;omega
 clear hb3 HX2 HB2;have c3:=HX3.out.cell 6;simp at c3;go_wp2_with fail;clear c3;refine (Zlb p0 p1 _ B.ps _ _ (H4.out.below HB3.out) HN.out.2.2.2 (by omega) (by omega)).mono ?_;rintro e w4 ⟨rfl,hb4⟩;have HX4:=Zab (HX3.out.on hb4);have HB4:Hid (Zw_ w w4):=HB3.out.trans (hb4.mono HB3.out.size);have hg4:decide (k+(Zb6 B.os B.os.length:Int)+(Zcm B.gs B.gs.length:Int)+(Zcz B.ls B.ls.length:Int)+(Zc4 B.ps B.ps.length:Int) < 0)=false:=by simp;omega
 clear hb4 HX3 HB3;go_wp2;go_ret;exact⟨rfl,HB4.out⟩
end
end Go.Proofs.YtfohnageehneoaaGreat
