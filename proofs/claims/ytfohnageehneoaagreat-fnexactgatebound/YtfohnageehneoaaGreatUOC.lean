import Derived.Test.YtfohnageehneoaaGreatUOA
import Derived.Test.YtfohnageehneoaaGreatUGG
set_option maxHeartbeats 16000000
set_option maxRecDepth 100000
open Go.Proofs.Tryz
namespace Go.Proofs.YtfohnageehneoaaGreat
open Go.RowKit Go.Deep
variable {w' wr w1:World} {lo' hi' k:Nat} {Xl:List Le} {vv0:Value} {L:List Int}
theorem Zk9 (lo hi:Nat) (v:Value) (Xl:List Le) (k:Int) (w:World) (hv:ZaJ lo hi w v (Zko k Xl)) (hn:Zd7 Xl) (h0:0<=k) (hk:k<=2000000000000000000) :
 Calls prog 67 #[v,.int .i64 k] w fun e w'=>e=.returned (.int .i64 (k+(ZcG Xl Xl.length:Int)))/\Zw_ w w':=by
 have HA:=Zab hv.at;have HN:=Zab hn;have hlen:=hn.1;obtain⟨a,cap,hv'⟩:=hv.form;rw [ZbN] at hv';subst hv';clear hv hn;go_enter func67,ntmps67;go_wp2
 go_loopw [5,1] (fun i q wr=>∃ j:Nat,i=.int .i64 j/\q=.int .i64 (k+(ZcG Xl j:Int))/\j<=Xl.length/\Zw_ w wr) (fun i _ _=>Xl.length - (intOf i).toNat)
 case atStart=>exact⟨0,rfl,by simp [ZcG],by omega,Below.refl _ _⟩
 case round=>
  obtain⟨j,rfl,rfl,hj,hb⟩:=hrel;have HB0:=Zab hb;clear hb
  by_cases hlt:j < Xl.length
  . obtain⟨b,off,rfl,hbw,-,hc⟩:=HA.o.full' (by rw [ZbN];omega)
    have hcj:=hc j (by rw [ZbN];omega);rw [Zjx _ _ _ _ hlt] at hcj;have hpos:=Zi2 HN.o (i:=j) (by omega);have HP:=Zab (ZfY hlt);obtain⟨x,hx⟩:∃ x,x=Xl[j]:=⟨_,rfl⟩
    rw [<- hx] at hcj;have HXX:=Zab hx;obtain⟨K,hK⟩:∃ K,K=k+(ZcG Xl j:Int):=⟨_,rfl⟩
    rw [<- hK] at hcj;rw [<- hK];have hK0:0<=K:=by omega
    have hK1:K<=2500000000000000000:=by omega
    have HK:=Zab hK;obtain⟨_,hcl⟩:=hcj;have HC:=Zab hcl;clear hc hcl hx hK hpos;have d0:wr.cell? ⟨b,off+j*4,none⟩=some (.string (mtB (K))):=(HC.o.below HB0.o hbw).c0;have d1:wr.cell? ⟨b,off+j*4+1,none⟩=some (.string (mtB (K+1))):=(HC.o.below HB0.o hbw).c1;have d2:wr.cell? ⟨b,off+j*4+2,none⟩=some (.int .i64 (K+1+1)):=(HC.o.below HB0.o hbw).c2;have d3:wr.cell? ⟨b,off+j*4+3,none⟩=some (.int .i64 (K+1+1+1)):=(HC.o.below HB0.o hbw).c3;have x0:∀ X:In (Upo wr),X.w.cell? ⟨b,off+j*4,none⟩=some (.string (mtB (K))):=fun X=>Upo.cell X d0
    have xn:Nonempty (In (Upo wr)):=⟨⟨wr,Below.refl _ _⟩⟩;have xs:=fun (X:In (Upo wr))=>ZbJ X
    go_wp2;clear d0 d1 d2 d3;refine Zam (Upo wr) (by kernel_rfl) (by kernel_rfl) (Zb_.drew) ?_
    repeat (go_big_quiet_step (first|(go_at_call 121;rename_i X;exact (Zah _ _ (by omega)).mono fun _ _ h=>⟨h.1,Upo.next X h.2⟩)))
    refine wpQuiet_nil ?_;intro w1 hw;obtain⟨Y,hY⟩:=hw;have HB1:Hd (Zw_ w w1):=HB0.o.trans (Below.mono (show Below wr.heap.size wr w1 by rw [hY];exact Y.h) HB0.o.size);clear hY Y x0 xs xn HB0;have d0:w1.cell? ⟨b,off+j*4,none⟩=some (.string (mtB (K))):=(HC.o.below HB1.o hbw).c0;have d1:w1.cell? ⟨b,off+j*4+1,none⟩=some (.string (mtB (K+1))):=(HC.o.below HB1.o hbw).c1;have d2:w1.cell? ⟨b,off+j*4+2,none⟩=some (.int .i64 (K+1+1)):=(HC.o.below HB1.o hbw).c2;have d3:w1.cell? ⟨b,off+j*4+3,none⟩=some (.int .i64 (K+1+1+1)):=(HC.o.below HB1.o hbw).c3;have x0:∀ X:In (Upo w1),X.w.cell? ⟨b,off+j*4+1,none⟩=some (.string (mtB (K+1))):=fun X=>Upo.cell X d1
    have xn:Nonempty (In (Upo w1)):=⟨⟨w1,Below.refl _ _⟩⟩;have xs:=fun (X:In (Upo w1))=>ZbJ X
    go_wp2;clear d0 d1 d2 d3;refine Zam (Upo w1) (by kernel_rfl) (by kernel_rfl) (Zb_.drew) ?_
    repeat (go_big_quiet_step (first|(go_at_call 121;rename_i X;exact (Zah _ _ (by omega)).mono fun _ _ h=>⟨h.1,Upo.next X h.2⟩)))
    refine wpQuiet_nil ?_;intro w2 hw;obtain⟨Y,hY⟩:=hw;have HB2:Hd (Zw_ w w2):=HB1.o.trans (Below.mono (show Below w1.heap.size w1 w2 by rw [hY];exact Y.h) HB1.o.size);clear hY Y x0 xs xn HB1;have d0:w2.cell? ⟨b,off+j*4,none⟩=some (.string (mtB (K))):=(HC.o.below HB2.o hbw).c0;have d1:w2.cell? ⟨b,off+j*4+1,none⟩=some (.string (mtB (K+1))):=(HC.o.below HB2.o hbw).c1;have d2:w2.cell? ⟨b,off+j*4+2,none⟩=some (.int .i64 (K+1+1)):=(HC.o.below HB2.o hbw).c2;have d3:w2.cell? ⟨b,off+j*4+3,none⟩=some (.int .i64 (K+1+1+1)):=(HC.o.below HB2.o hbw).c3;go_wp2;clear d0 d1 d2 d3;have HW:Hd (Zsn Xl[j]=4):=by unfold Hd;rw [<- HXX.o];rfl
    have HQ:Hd ((K+1+1+1+1:Int)=k+(ZcG Xl (j+1):Int)):=by
     have h1:=HP.o;have h2:=HW.o;have h3:=HK.o;unfold Hd
     omega
    go_roundw
    . exact⟨j+1,by go_num,congrArg (Value.int .i64) HQ.o,by omega,HB2.o⟩
    . simp [intOf];omega
  . have e:j=Xl.length:=by omega
    subst e;go_wp2;go_ret;exact⟨rfl,HB0.o⟩
theorem ZkL (lo hi:Nat) (v:Value) (Xl:List Pu) (k:Int) (w:World) (hv:Zbx lo hi w v (ZjY k Xl)) (hn:ZdV Xl) (h0:0<=k) (hk:k<=2000000000000000000) :
 Calls prog 68 #[v,.int .i64 k] w fun e w'=>e=.returned (.int .i64 (k+(Zc3 Xl Xl.length:Int)))/\Zw_ w w':=by
 have HA:=Zab hv.at;have HN:=Zab hn;have hlen:=hn.1;obtain⟨a,cap,hv'⟩:=hv.form;rw [ZbT] at hv';subst hv';clear hv hn;go_enter func68,ntmps68;go_wp2
 go_loopw [5,1] (fun i q wr=>∃ j:Nat,i=.int .i64 j/\q=.int .i64 (k+(Zc3 Xl j:Int))/\j<=Xl.length/\Zw_ w wr) (fun i _ _=>Xl.length - (intOf i).toNat)
 case atStart=>exact⟨0,rfl,by simp [Zc3],by omega,Below.refl _ _⟩
 case round=>
  obtain⟨j,rfl,rfl,hj,hb⟩:=hrel;have HB0:=Zab hb;clear hb
  by_cases hlt:j < Xl.length
  . obtain⟨b,off,rfl,hbw,-,hc⟩:=HA.o.full' (by rw [ZbT];omega)
    have hcj:=hc j (by rw [ZbT];omega);rw [ZjE _ _ _ _ hlt] at hcj;have hpos:=ZiG HN.o (i:=j) (by omega);have HP:=Zab (ZfT hlt);obtain⟨x,hx⟩:∃ x,x=Xl[j]:=⟨_,rfl⟩
    rw [<- hx] at hcj;have HXX:=Zab hx;obtain⟨K,hK⟩:∃ K,K=k+(Zc3 Xl j:Int):=⟨_,rfl⟩
    rw [<- hK] at hcj;rw [<- hK];have hK0:0<=K:=by omega
    have hK1:K<=2500000000000000000:=by omega
    have HK:=Zab hK;obtain⟨_,hcl⟩:=hcj;have HC:=Zab hcl;clear hc hcl hx hK hpos;have d0:wr.cell? ⟨b,off+j*5,none⟩=some (.string (mtB (K))):=(HC.o.below HB0.o hbw).c0;have d1:wr.cell? ⟨b,off+j*5+1,none⟩=some (.string (mtB (K+1))):=(HC.o.below HB0.o hbw).c1;have d2:wr.cell? ⟨b,off+j*5+2,none⟩=some (.string (mtB (K+1+1))):=(HC.o.below HB0.o hbw).c2;have d3:wr.cell? ⟨b,off+j*5+3,none⟩=some (.int .i64 (K+1+1+1)):=(HC.o.below HB0.o hbw).c3;have d4:wr.cell? ⟨b,off+j*5+4,none⟩=some (.int .i64 (K+1+1+1+1)):=(HC.o.below HB0.o hbw).c4;have x0:∀ X:In (Upo wr),X.w.cell? ⟨b,off+j*5,none⟩=some (.string (mtB (K))):=fun X=>Upo.cell X d0
    have xn:Nonempty (In (Upo wr)):=⟨⟨wr,Below.refl _ _⟩⟩;have xs:=fun (X:In (Upo wr))=>ZbJ X
    go_wp2;clear d0 d1 d2 d3 d4;refine Zam (Upo wr) (by kernel_rfl) (by kernel_rfl) (Zb_.drew) ?_
    repeat (go_big_quiet_step (first|(go_at_call 121;rename_i X;exact (Zah _ _ (by omega)).mono fun _ _ h=>⟨h.1,Upo.next X h.2⟩)))
    refine wpQuiet_nil ?_;intro w1 hw;obtain⟨Y,hY⟩:=hw;have HB1:Hd (Zw_ w w1):=HB0.o.trans (Below.mono (show Below wr.heap.size wr w1 by rw [hY];exact Y.h) HB0.o.size);clear hY Y x0 xs xn HB0;have d0:w1.cell? ⟨b,off+j*5,none⟩=some (.string (mtB (K))):=(HC.o.below HB1.o hbw).c0;have d1:w1.cell? ⟨b,off+j*5+1,none⟩=some (.string (mtB (K+1))):=(HC.o.below HB1.o hbw).c1;have d2:w1.cell? ⟨b,off+j*5+2,none⟩=some (.string (mtB (K+1+1))):=(HC.o.below HB1.o hbw).c2;have d3:w1.cell? ⟨b,off+j*5+3,none⟩=some (.int .i64 (K+1+1+1)):=(HC.o.below HB1.o hbw).c3;have d4:w1.cell? ⟨b,off+j*5+4,none⟩=some (.int .i64 (K+1+1+1+1)):=(HC.o.below HB1.o hbw).c4;have x0:∀ X:In (Upo w1),X.w.cell? ⟨b,off+j*5+1,none⟩=some (.string (mtB (K+1))):=fun X=>Upo.cell X d1
    have xn:Nonempty (In (Upo w1)):=⟨⟨w1,Below.refl _ _⟩⟩;have xs:=fun (X:In (Upo w1))=>ZbJ X
    go_wp2;clear d0 d1 d2 d3 d4;refine Zam (Upo w1) (by kernel_rfl) (by kernel_rfl) (Zb_.drew) ?_
    repeat (go_big_quiet_step (first|(go_at_call 121;rename_i X;exact (Zah _ _ (by omega)).mono fun _ _ h=>⟨h.1,Upo.next X h.2⟩)))
    refine wpQuiet_nil ?_;intro w2 hw;obtain⟨Y,hY⟩:=hw;have HB2:Hd (Zw_ w w2):=HB1.o.trans (Below.mono (show Below w1.heap.size w1 w2 by rw [hY];exact Y.h) HB1.o.size);clear hY Y x0 xs xn HB1;have d0:w2.cell? ⟨b,off+j*5,none⟩=some (.string (mtB (K))):=(HC.o.below HB2.o hbw).c0;have d1:w2.cell? ⟨b,off+j*5+1,none⟩=some (.string (mtB (K+1))):=(HC.o.below HB2.o hbw).c1;have d2:w2.cell? ⟨b,off+j*5+2,none⟩=some (.string (mtB (K+1+1))):=(HC.o.below HB2.o hbw).c2;have d3:w2.cell? ⟨b,off+j*5+3,none⟩=some (.int .i64 (K+1+1+1)):=(HC.o.below HB2.o hbw).c3;have d4:w2.cell? ⟨b,off+j*5+4,none⟩=some (.int .i64 (K+1+1+1+1)):=(HC.o.below HB2.o hbw).c4;have x0:∀ X:In (Upo w2),X.w.cell? ⟨b,off+j*5+2,none⟩=some (.string (mtB (K+1+1))):=fun X=>Upo.cell X d2
    have xn:Nonempty (In (Upo w2)):=⟨⟨w2,Below.refl _ _⟩⟩;have xs:=fun (X:In (Upo w2))=>ZbJ X
    go_wp2;clear d0 d1 d2 d3 d4;refine Zam (Upo w2) (by kernel_rfl) (by kernel_rfl) (Zb_.drew) ?_
    repeat (go_big_quiet_step (first|(go_at_call 121;rename_i X;exact (Zah _ _ (by omega)).mono fun _ _ h=>⟨h.1,Upo.next X h.2⟩)))
    refine wpQuiet_nil ?_;intro w3 hw;obtain⟨Y,hY⟩:=hw;have HB3:Hd (Zw_ w w3):=HB2.o.trans (Below.mono (show Below w2.heap.size w2 w3 by rw [hY];exact Y.h) HB2.o.size);clear hY Y x0 xs xn HB2;have d0:w3.cell? ⟨b,off+j*5,none⟩=some (.string (mtB (K))):=(HC.o.below HB3.o hbw).c0;have d1:w3.cell? ⟨b,off+j*5+1,none⟩=some (.string (mtB (K+1))):=(HC.o.below HB3.o hbw).c1;have d2:w3.cell? ⟨b,off+j*5+2,none⟩=some (.string (mtB (K+1+1))):=(HC.o.below HB3.o hbw).c2;have d3:w3.cell? ⟨b,off+j*5+3,none⟩=some (.int .i64 (K+1+1+1)):=(HC.o.below HB3.o hbw).c3;have d4:w3.cell? ⟨b,off+j*5+4,none⟩=some (.int .i64 (K+1+1+1+1)):=(HC.o.below HB3.o hbw).c4;go_wp2;clear d0 d1 d2 d3 d4;have HW:Hd (Zsc Xl[j]=5):=by unfold Hd;rw [<- HXX.o];rfl
    have HQ:Hd ((K+1+1+1+1+1:Int)=k+(Zc3 Xl (j+1):Int)):=by
     have h1:=HP.o;have h2:=HW.o;have h3:=HK.o;unfold Hd
     omega
    go_roundw
    . exact⟨j+1,by go_num,congrArg (Value.int .i64) HQ.o,by omega,HB3.o⟩
    . simp [intOf];omega
  . have e:j=Xl.length:=by omega
    subst e;go_wp2;go_ret;exact⟨rfl,HB0.o⟩
theorem Zk7 (lo hi:Nat) (v:Value) (Xl:List Gr) (k:Int) (w:World) (hv:Zbe lo hi w v (ZjD k Xl)) (hn:Zdu Xl) (h0:0<=k) (hk:k<=2000000000000000000) :
 Calls prog 66 #[v,.int .i64 k] w fun e w'=>e=.returned (.int .i64 (k+(Zcr Xl Xl.length:Int)))/\Zw_ w w':=by
 have HA:=Zab hv.at;have HN:=Zab hn;have hlen:=hn.1;obtain⟨a,cap,hv'⟩:=hv.form;rw [ZbP] at hv';subst hv';clear hv hn;go_enter func66,ntmps66;go_wp2
 go_loopw [5,1] (fun i q wr=>∃ j:Nat,i=.int .i64 j/\q=.int .i64 (k+(Zcr Xl j:Int))/\j<=Xl.length/\Zw_ w wr) (fun i _ _=>Xl.length - (intOf i).toNat)
 case atStart=>exact⟨0,rfl,by simp [Zcr],by omega,Below.refl _ _⟩
 case round=>
  obtain⟨j,rfl,rfl,hj,hb⟩:=hrel;have HB0:=Zab hb;clear hb
  by_cases hlt:j < Xl.length
  . obtain⟨b,off,rfl,hbw,-,hc⟩:=HA.o.full' (by rw [ZbP];omega)
    have hcj:=hc j (by rw [ZbP];omega);rw [ZjH _ _ _ _ hlt] at hcj;have hpos:=ZiP HN.o (i:=j) (by omega);have HP:=Zab (Zf2 hlt);obtain⟨x,hx⟩:∃ x,x=Xl[j]:=⟨_,rfl⟩
    rw [<- hx] at hcj;have hs0:x.vb.length<=1048576:=by have:=HN.o.2 j hlt;rw [hx];unfold Zdy at this;omega
    have HXX:=Zab hx;obtain⟨K,hK⟩:∃ K,K=k+(Zcr Xl j:Int):=⟨_,rfl⟩
    rw [<- hK] at hcj;rw [<- hK];have hK0:0<=K:=by omega
    have hK1:K<=2500000000000000000:=by omega
    have HK:=Zab hK;obtain⟨_,vv0,hcl,g0⟩:=hcj;have HC:=Zab hcl;have HL0:Hd (Zau lo w vv0 (ZdS (K+1+1+1) x.vb.length)):=g0;obtain⟨va0,vc0,rfl⟩:=HL0.o.form;rw [Zb2] at HC HL0;clear hc hcl hx hK hpos;have d0:wr.cell? ⟨b,off+j*7,none⟩=some (.int .i64 (K)):=(HC.o.below HB0.o hbw).c0;have d1:wr.cell? ⟨b,off+j*7+1,none⟩=some (.string (mtB (K+1))):=(HC.o.below HB0.o hbw).c1;have d2:wr.cell? ⟨b,off+j*7+2,none⟩=some (.string (mtB (K+1+1))):=(HC.o.below HB0.o hbw).c2;have d3:wr.cell? ⟨b,off+j*7+3,none⟩=some (.slice va0 x.vb.length vc0):=(HC.o.below HB0.o hbw).c3;have d4:wr.cell? ⟨b,off+j*7+4,none⟩=some (.string (mtB (K+1+1+1+(x.vb.length:Int)))):=(HC.o.below HB0.o hbw).c4;have d5:wr.cell? ⟨b,off+j*7+5,none⟩=some (.string (mtB (K+1+1+1+(x.vb.length:Int)+1))):=(HC.o.below HB0.o hbw).c5
    have d6:wr.cell? ⟨b,off+j*7+6,none⟩=some (.string (mtB (K+1+1+1+(x.vb.length:Int)+1+1))):=(HC.o.below HB0.o hbw).c6;have x0:∀ X:In (Upo wr),X.w.cell? ⟨b,off+j*7+1,none⟩=some (.string (mtB (K+1))):=fun X=>Upo.cell X d1
    have xn:Nonempty (In (Upo wr)):=⟨⟨wr,Below.refl _ _⟩⟩;have xs:=fun (X:In (Upo wr))=>ZbJ X
    go_wp2;clear d0 d1 d2 d3 d4 d5 d6;refine Zam (Upo wr) (by kernel_rfl) (by kernel_rfl) (Zb_.drew) ?_
    repeat (go_big_quiet_step (first|(go_at_call 121;rename_i X;exact (Zah _ _ (by omega)).mono fun _ _ h=>⟨h.1,Upo.next X h.2⟩)))
    refine wpQuiet_nil ?_;intro w1 hw;obtain⟨Y,hY⟩:=hw;have HB1:Hd (Zw_ w w1):=HB0.o.trans (Below.mono (show Below wr.heap.size wr w1 by rw [hY];exact Y.h) HB0.o.size);clear hY Y x0 xs xn HB0;have d0:w1.cell? ⟨b,off+j*7,none⟩=some (.int .i64 (K)):=(HC.o.below HB1.o hbw).c0;have d1:w1.cell? ⟨b,off+j*7+1,none⟩=some (.string (mtB (K+1))):=(HC.o.below HB1.o hbw).c1;have d2:w1.cell? ⟨b,off+j*7+2,none⟩=some (.string (mtB (K+1+1))):=(HC.o.below HB1.o hbw).c2;have d3:w1.cell? ⟨b,off+j*7+3,none⟩=some (.slice va0 x.vb.length vc0):=(HC.o.below HB1.o hbw).c3;have d4:w1.cell? ⟨b,off+j*7+4,none⟩=some (.string (mtB (K+1+1+1+(x.vb.length:Int)))):=(HC.o.below HB1.o hbw).c4;have d5:w1.cell? ⟨b,off+j*7+5,none⟩=some (.string (mtB (K+1+1+1+(x.vb.length:Int)+1))):=(HC.o.below HB1.o hbw).c5
    have d6:w1.cell? ⟨b,off+j*7+6,none⟩=some (.string (mtB (K+1+1+1+(x.vb.length:Int)+1+1))):=(HC.o.below HB1.o hbw).c6;have x0:∀ X:In (Upo w1),X.w.cell? ⟨b,off+j*7+2,none⟩=some (.string (mtB (K+1+1))):=fun X=>Upo.cell X d2
    have xn:Nonempty (In (Upo w1)):=⟨⟨w1,Below.refl _ _⟩⟩;have xs:=fun (X:In (Upo w1))=>ZbJ X
    go_wp2;clear d0 d1 d2 d3 d4 d5 d6;refine Zam (Upo w1) (by kernel_rfl) (by kernel_rfl) (Zb_.drew) ?_
    repeat (go_big_quiet_step (first|(go_at_call 121;rename_i X;exact (Zah _ _ (by omega)).mono fun _ _ h=>⟨h.1,Upo.next X h.2⟩)))
    refine wpQuiet_nil ?_;intro w2 hw;obtain⟨Y,hY⟩:=hw;have HB2:Hd (Zw_ w w2):=HB1.o.trans (Below.mono (show Below w1.heap.size w1 w2 by rw [hY];exact Y.h) HB1.o.size);clear hY Y x0 xs xn HB1;have d0:w2.cell? ⟨b,off+j*7,none⟩=some (.int .i64 (K)):=(HC.o.below HB2.o hbw).c0;have d1:w2.cell? ⟨b,off+j*7+1,none⟩=some (.string (mtB (K+1))):=(HC.o.below HB2.o hbw).c1;have d2:w2.cell? ⟨b,off+j*7+2,none⟩=some (.string (mtB (K+1+1))):=(HC.o.below HB2.o hbw).c2;have d3:w2.cell? ⟨b,off+j*7+3,none⟩=some (.slice va0 x.vb.length vc0):=(HC.o.below HB2.o hbw).c3;have d4:w2.cell? ⟨b,off+j*7+4,none⟩=some (.string (mtB (K+1+1+1+(x.vb.length:Int)))):=(HC.o.below HB2.o hbw).c4;have d5:w2.cell? ⟨b,off+j*7+5,none⟩=some (.string (mtB (K+1+1+1+(x.vb.length:Int)+1))):=(HC.o.below HB2.o hbw).c5
    have d6:w2.cell? ⟨b,off+j*7+6,none⟩=some (.string (mtB (K+1+1+1+(x.vb.length:Int)+1+1))):=(HC.o.below HB2.o hbw).c6;go_wp2_with fail;clear d0 d1 d2 d3 d4 d5 d6;refine (Zjm lo _ x.vb.length _ _ (HL0.o.below HB2.o) (by omega) (by omega)).mono ?_;rintro e w3 ⟨rfl,hb⟩;have HB3:Hd (Zw_ w w3):=HB2.o.trans (hb.mono HB2.o.size);clear hb HB2;have hg3:decide (K+1+1+1+(x.vb.length:Int) < 0)=false:=by simp;omega
    have d0:w3.cell? ⟨b,off+j*7,none⟩=some (.int .i64 (K)):=(HC.o.below HB3.o hbw).c0;have d1:w3.cell? ⟨b,off+j*7+1,none⟩=some (.string (mtB (K+1))):=(HC.o.below HB3.o hbw).c1;have d2:w3.cell? ⟨b,off+j*7+2,none⟩=some (.string (mtB (K+1+1))):=(HC.o.below HB3.o hbw).c2;have d3:w3.cell? ⟨b,off+j*7+3,none⟩=some (.slice va0 x.vb.length vc0):=(HC.o.below HB3.o hbw).c3;have d4:w3.cell? ⟨b,off+j*7+4,none⟩=some (.string (mtB (K+1+1+1+(x.vb.length:Int)))):=(HC.o.below HB3.o hbw).c4;have d5:w3.cell? ⟨b,off+j*7+5,none⟩=some (.string (mtB (K+1+1+1+(x.vb.length:Int)+1))):=(HC.o.below HB3.o hbw).c5;have d6:w3.cell? ⟨b,off+j*7+6,none⟩=some (.string (mtB (K+1+1+1+(x.vb.length:Int)+1+1))):=(HC.o.below HB3.o hbw).c6;have x0:∀ X:In (Upo w3),X.w.cell? ⟨b,off+j*7+4,none⟩=some (.string (mtB (K+1+1+1+(x.vb.length:Int)))):=fun X=>Upo.cell X d4
    have xn:Nonempty (In (Upo w3)):=⟨⟨w3,Below.refl _ _⟩⟩;have xs:=fun (X:In (Upo w3))=>ZbJ X
    go_wp2;clear d0 d1 d2 d3 d4 d5 d6;refine Zam (Upo w3) (by kernel_rfl) (by kernel_rfl) (Zb_.drew) ?_
    repeat (go_big_quiet_step (first|(go_at_call 121;rename_i X;exact (Zah _ _ (by omega)).mono fun _ _ h=>⟨h.1,Upo.next X h.2⟩)))
    refine wpQuiet_nil ?_;intro w4 hw;obtain⟨Y,hY⟩:=hw;have HB4:Hd (Zw_ w w4):=HB3.o.trans (Below.mono (show Below w3.heap.size w3 w4 by rw [hY];exact Y.h) HB3.o.size);clear hY Y x0 xs xn HB3;have d0:w4.cell? ⟨b,off+j*7,none⟩=some (.int .i64 (K)):=(HC.o.below HB4.o hbw).c0;have d1:w4.cell? ⟨b,off+j*7+1,none⟩=some (.string (mtB (K+1))):=(HC.o.below HB4.o hbw).c1;have d2:w4.cell? ⟨b,off+j*7+2,none⟩=some (.string (mtB (K+1+1))):=(HC.o.below HB4.o hbw).c2;have d3:w4.cell? ⟨b,off+j*7+3,none⟩=some (.slice va0 x.vb.length vc0):=(HC.o.below HB4.o hbw).c3;have d4:w4.cell? ⟨b,off+j*7+4,none⟩=some (.string (mtB (K+1+1+1+(x.vb.length:Int)))):=(HC.o.below HB4.o hbw).c4;have d5:w4.cell? ⟨b,off+j*7+5,none⟩=some (.string (mtB (K+1+1+1+(x.vb.length:Int)+1))):=(HC.o.below HB4.o hbw).c5
    have d6:w4.cell? ⟨b,off+j*7+6,none⟩=some (.string (mtB (K+1+1+1+(x.vb.length:Int)+1+1))):=(HC.o.below HB4.o hbw).c6;have x0:∀ X:In (Upo w4),X.w.cell? ⟨b,off+j*7+5,none⟩=some (.string (mtB (K+1+1+1+(x.vb.length:Int)+1))):=fun X=>Upo.cell X d5
    have xn:Nonempty (In (Upo w4)):=⟨⟨w4,Below.refl _ _⟩⟩;have xs:=fun (X:In (Upo w4))=>ZbJ X
    go_wp2;clear d0 d1 d2 d3 d4 d5 d6;refine Zam (Upo w4) (by kernel_rfl) (by kernel_rfl) (Zb_.drew) ?_
    repeat (go_big_quiet_step (first|(go_at_call 121;rename_i X;exact (Zah _ _ (by omega)).mono fun _ _ h=>⟨h.1,Upo.next X h.2⟩)))
    refine wpQuiet_nil ?_;intro w5 hw;obtain⟨Y,hY⟩:=hw;have HB5:Hd (Zw_ w w5):=HB4.o.trans (Below.mono (show Below w4.heap.size w4 w5 by rw [hY];exact Y.h) HB4.o.size);clear hY Y x0 xs xn HB4;have d0:w5.cell? ⟨b,off+j*7,none⟩=some (.int .i64 (K)):=(HC.o.below HB5.o hbw).c0;have d1:w5.cell? ⟨b,off+j*7+1,none⟩=some (.string (mtB (K+1))):=(HC.o.below HB5.o hbw).c1;have d2:w5.cell? ⟨b,off+j*7+2,none⟩=some (.string (mtB (K+1+1))):=(HC.o.below HB5.o hbw).c2;have d3:w5.cell? ⟨b,off+j*7+3,none⟩=some (.slice va0 x.vb.length vc0):=(HC.o.below HB5.o hbw).c3;have d4:w5.cell? ⟨b,off+j*7+4,none⟩=some (.string (mtB (K+1+1+1+(x.vb.length:Int)))):=(HC.o.below HB5.o hbw).c4;have d5:w5.cell? ⟨b,off+j*7+5,none⟩=some (.string (mtB (K+1+1+1+(x.vb.length:Int)+1))):=(HC.o.below HB5.o hbw).c5
    have d6:w5.cell? ⟨b,off+j*7+6,none⟩=some (.string (mtB (K+1+1+1+(x.vb.length:Int)+1+1))):=(HC.o.below HB5.o hbw).c6;have x0:∀ X:In (Upo w5),X.w.cell? ⟨b,off+j*7+6,none⟩=some (.string (mtB (K+1+1+1+(x.vb.length:Int)+1+1))):=fun X=>Upo.cell X d6
    have xn:Nonempty (In (Upo w5)):=⟨⟨w5,Below.refl _ _⟩⟩;have xs:=fun (X:In (Upo w5))=>ZbJ X
    go_wp2;clear d0 d1 d2 d3 d4 d5 d6;refine Zam (Upo w5) (by kernel_rfl) (by kernel_rfl) (Zb_.drew) ?_
    repeat (go_big_quiet_step (first|(go_at_call 121;rename_i X;exact (Zah _ _ (by omega)).mono fun _ _ h=>⟨h.1,Upo.next X h.2⟩)))
    refine wpQuiet_nil ?_;intro w6 hw;obtain⟨Y,hY⟩:=hw;have HB6:Hd (Zw_ w w6):=HB5.o.trans (Below.mono (show Below w5.heap.size w5 w6 by rw [hY];exact Y.h) HB5.o.size);clear hY Y x0 xs xn HB5;have d0:w6.cell? ⟨b,off+j*7,none⟩=some (.int .i64 (K)):=(HC.o.below HB6.o hbw).c0;have d1:w6.cell? ⟨b,off+j*7+1,none⟩=some (.string (mtB (K+1))):=(HC.o.below HB6.o hbw).c1;have d2:w6.cell? ⟨b,off+j*7+2,none⟩=some (.string (mtB (K+1+1))):=(HC.o.below HB6.o hbw).c2;have d3:w6.cell? ⟨b,off+j*7+3,none⟩=some (.slice va0 x.vb.length vc0):=(HC.o.below HB6.o hbw).c3;have d4:w6.cell? ⟨b,off+j*7+4,none⟩=some (.string (mtB (K+1+1+1+(x.vb.length:Int)))):=(HC.o.below HB6.o hbw).c4;have d5:w6.cell? ⟨b,off+j*7+5,none⟩=some (.string (mtB (K+1+1+1+(x.vb.length:Int)+1))):=(HC.o.below HB6.o hbw).c5
    have d6:w6.cell? ⟨b,off+j*7+6,none⟩=some (.string (mtB (K+1+1+1+(x.vb.length:Int)+1+1))):=(HC.o.below HB6.o hbw).c6;go_wp2;clear d0 d1 d2 d3 d4 d5 d6;have HW:Hd (Zsm Xl[j]=6+x.vb.length):=by unfold Hd;rw [<- HXX.o];rfl
    have HQ:Hd ((K+1+1+1+(x.vb.length:Int)+1+1+1:Int)=k+(Zcr Xl (j+1):Int)):=by
     have h1:=HP.o;have h2:=HW.o;have h3:=HK.o;unfold Hd
     omega
    go_roundw
    . exact⟨j+1,by go_num,congrArg (Value.int .i64) HQ.o,by omega,HB6.o⟩
    . simp [intOf];omega
  . have e:j=Xl.length:=by omega
    subst e;go_wp2;go_ret;exact⟨rfl,HB0.o⟩
theorem Zla (lo hi:Nat) (v:Value) (Xl:List Ob) (k:Int) (w:World) (hv:Za6 lo hi w v (Zj9 k Xl)) (hn:Zbp Xl) (h0:0<=k) (hk:k<=2000000000000000000) :
 Calls prog 65 #[v,.int .i64 k] w fun e w'=>e=.returned (.int .i64 (k+(Zcd Xl Xl.length:Int)))/\Zw_ w w':=by
 have HA:=Zab hv.at;have HN:=Zab hn;have hlen:=hn.1;obtain⟨a,cap,hv'⟩:=hv.form;rw [ZbK] at hv';subst hv';clear hv hn;go_enter func65,ntmps65;go_wp2
 go_loopw [5,1] (fun i q wr=>∃ j:Nat,i=.int .i64 j/\q=.int .i64 (k+(Zcd Xl j:Int))/\j<=Xl.length/\Zw_ w wr) (fun i _ _=>Xl.length - (intOf i).toNat)
 case atStart=>exact⟨0,rfl,by simp [Zcd],by omega,Below.refl _ _⟩
 case round=>
  obtain⟨j,rfl,rfl,hj,hb⟩:=hrel;have HB0:=Zab hb;clear hb
  by_cases hlt:j < Xl.length
  . obtain⟨b,off,rfl,hbw,-,hc⟩:=HA.o.full' (by rw [ZbK];omega)
    have hcj:=hc j (by rw [ZbK];omega);rw [ZjW _ _ _ _ hlt] at hcj;have hpos:=ZiZ HN.o (i:=j) (by omega);have HP:=Zab (ZfS hlt);obtain⟨x,hx⟩:∃ x,x=Xl[j]:=⟨_,rfl⟩
    rw [<- hx] at hcj;have hs0:x.vs.length<=1048576:=by have:=HN.o.2 j hlt;rw [hx];unfold Zdx at this;omega
    have hs1:x.hs.length<=1048576:=by have:=HN.o.2 j hlt;rw [hx];unfold Zdx at this;omega
    have HXX:=Zab hx;obtain⟨K,hK⟩:∃ K,K=k+(Zcd Xl j:Int):=⟨_,rfl⟩
    rw [<- hK] at hcj;rw [<- hK];have hK0:0<=K:=by omega
    have hK1:K<=2500000000000000000:=by omega
    have HK:=Zab hK;obtain⟨_,vv0,vv1,hcl,g0,g1⟩:=hcj;have HC:=Zab hcl;have HL0:Hd (Zaq lo w vv0 (Zeo (K+1+1+1) x.vs.length)):=g0;have HL1:Hd (Zaq lo w vv1 (Zeo (K+1+1+1+(x.vs.length:Int)+1) x.hs.length)):=g1;obtain⟨va0,vc0,rfl⟩:=HL0.o.at.form';rw [Zci] at HC HL0;obtain⟨va1,vc1,rfl⟩:=HL1.o.at.form';rw [Zci] at HC HL1;clear hc hcl hx hK hpos;have d0:wr.cell? ⟨b,off+j*7,none⟩=some (.string (mtB (K))):=(HC.o.below HB0.o hbw).c0;have d1:wr.cell? ⟨b,off+j*7+1,none⟩=some (.string (mtB (K+1))):=(HC.o.below HB0.o hbw).c1;have d2:wr.cell? ⟨b,off+j*7+2,none⟩=some (.string (mtB (K+1+1))):=(HC.o.below HB0.o hbw).c2;have d3:wr.cell? ⟨b,off+j*7+3,none⟩=some (.slice va0 x.vs.length vc0):=(HC.o.below HB0.o hbw).c3;have d4:wr.cell? ⟨b,off+j*7+4,none⟩=some (.bool ((K+1+1+1+(x.vs.length:Int)) % 3 == 0)):=(HC.o.below HB0.o hbw).c4
    have d5:wr.cell? ⟨b,off+j*7+5,none⟩=some (.slice va1 x.hs.length vc1):=(HC.o.below HB0.o hbw).c5;have d6:wr.cell? ⟨b,off+j*7+6,none⟩=some (.int .i64 (K+1+1+1+(x.vs.length:Int)+1+(x.hs.length:Int))):=(HC.o.below HB0.o hbw).c6;have x0:∀ X:In (Upo wr),X.w.cell? ⟨b,off+j*7,none⟩=some (.string (mtB (K))):=fun X=>Upo.cell X d0
    have xn:Nonempty (In (Upo wr)):=⟨⟨wr,Below.refl _ _⟩⟩;have xs:=fun (X:In (Upo wr))=>ZbJ X
    go_wp2;clear d0 d1 d2 d3 d4 d5 d6;refine Zam (Upo wr) (by kernel_rfl) (by kernel_rfl) (Zb_.drew) ?_
    repeat (go_big_quiet_step (first|(go_at_call 121;rename_i X;exact (Zah _ _ (by omega)).mono fun _ _ h=>⟨h.1,Upo.next X h.2⟩)))
    refine wpQuiet_nil ?_;intro w1 hw;obtain⟨Y,hY⟩:=hw;have HB1:Hd (Zw_ w w1):=HB0.o.trans (Below.mono (show Below wr.heap.size wr w1 by rw [hY];exact Y.h) HB0.o.size);clear hY Y x0 xs xn HB0;have d0:w1.cell? ⟨b,off+j*7,none⟩=some (.string (mtB (K))):=(HC.o.below HB1.o hbw).c0;have d1:w1.cell? ⟨b,off+j*7+1,none⟩=some (.string (mtB (K+1))):=(HC.o.below HB1.o hbw).c1;have d2:w1.cell? ⟨b,off+j*7+2,none⟩=some (.string (mtB (K+1+1))):=(HC.o.below HB1.o hbw).c2;have d3:w1.cell? ⟨b,off+j*7+3,none⟩=some (.slice va0 x.vs.length vc0):=(HC.o.below HB1.o hbw).c3;have d4:w1.cell? ⟨b,off+j*7+4,none⟩=some (.bool ((K+1+1+1+(x.vs.length:Int)) % 3 == 0)):=(HC.o.below HB1.o hbw).c4;have d5:w1.cell? ⟨b,off+j*7+5,none⟩=some (.slice va1 x.hs.length vc1):=(HC.o.below HB1.o hbw).c5
    have d6:w1.cell? ⟨b,off+j*7+6,none⟩=some (.int .i64 (K+1+1+1+(x.vs.length:Int)+1+(x.hs.length:Int))):=(HC.o.below HB1.o hbw).c6;have x0:∀ X:In (Upo w1),X.w.cell? ⟨b,off+j*7+1,none⟩=some (.string (mtB (K+1))):=fun X=>Upo.cell X d1
    have xn:Nonempty (In (Upo w1)):=⟨⟨w1,Below.refl _ _⟩⟩;have xs:=fun (X:In (Upo w1))=>ZbJ X
    go_wp2;clear d0 d1 d2 d3 d4 d5 d6;refine Zam (Upo w1) (by kernel_rfl) (by kernel_rfl) (Zb_.drew) ?_
    repeat (go_big_quiet_step (first|(go_at_call 121;rename_i X;exact (Zah _ _ (by omega)).mono fun _ _ h=>⟨h.1,Upo.next X h.2⟩)))
    refine wpQuiet_nil ?_;intro w2 hw;obtain⟨Y,hY⟩:=hw;have HB2:Hd (Zw_ w w2):=HB1.o.trans (Below.mono (show Below w1.heap.size w1 w2 by rw [hY];exact Y.h) HB1.o.size);clear hY Y x0 xs xn HB1;have d0:w2.cell? ⟨b,off+j*7,none⟩=some (.string (mtB (K))):=(HC.o.below HB2.o hbw).c0;have d1:w2.cell? ⟨b,off+j*7+1,none⟩=some (.string (mtB (K+1))):=(HC.o.below HB2.o hbw).c1;have d2:w2.cell? ⟨b,off+j*7+2,none⟩=some (.string (mtB (K+1+1))):=(HC.o.below HB2.o hbw).c2;have d3:w2.cell? ⟨b,off+j*7+3,none⟩=some (.slice va0 x.vs.length vc0):=(HC.o.below HB2.o hbw).c3;have d4:w2.cell? ⟨b,off+j*7+4,none⟩=some (.bool ((K+1+1+1+(x.vs.length:Int)) % 3 == 0)):=(HC.o.below HB2.o hbw).c4;have d5:w2.cell? ⟨b,off+j*7+5,none⟩=some (.slice va1 x.hs.length vc1):=(HC.o.below HB2.o hbw).c5
    have d6:w2.cell? ⟨b,off+j*7+6,none⟩=some (.int .i64 (K+1+1+1+(x.vs.length:Int)+1+(x.hs.length:Int))):=(HC.o.below HB2.o hbw).c6;have x0:∀ X:In (Upo w2),X.w.cell? ⟨b,off+j*7+2,none⟩=some (.string (mtB (K+1+1))):=fun X=>Upo.cell X d2
    have xn:Nonempty (In (Upo w2)):=⟨⟨w2,Below.refl _ _⟩⟩;have xs:=fun (X:In (Upo w2))=>ZbJ X
    go_wp2;clear d0 d1 d2 d3 d4 d5 d6;refine Zam (Upo w2) (by kernel_rfl) (by kernel_rfl) (Zb_.drew) ?_
    repeat (go_big_quiet_step (first|(go_at_call 121;rename_i X;exact (Zah _ _ (by omega)).mono fun _ _ h=>⟨h.1,Upo.next X h.2⟩)))
    refine wpQuiet_nil ?_;intro w3 hw;obtain⟨Y,hY⟩:=hw;have HB3:Hd (Zw_ w w3):=HB2.o.trans (Below.mono (show Below w2.heap.size w2 w3 by rw [hY];exact Y.h) HB2.o.size);clear hY Y x0 xs xn HB2;have d0:w3.cell? ⟨b,off+j*7,none⟩=some (.string (mtB (K))):=(HC.o.below HB3.o hbw).c0;have d1:w3.cell? ⟨b,off+j*7+1,none⟩=some (.string (mtB (K+1))):=(HC.o.below HB3.o hbw).c1;have d2:w3.cell? ⟨b,off+j*7+2,none⟩=some (.string (mtB (K+1+1))):=(HC.o.below HB3.o hbw).c2;have d3:w3.cell? ⟨b,off+j*7+3,none⟩=some (.slice va0 x.vs.length vc0):=(HC.o.below HB3.o hbw).c3;have d4:w3.cell? ⟨b,off+j*7+4,none⟩=some (.bool ((K+1+1+1+(x.vs.length:Int)) % 3 == 0)):=(HC.o.below HB3.o hbw).c4;have d5:w3.cell? ⟨b,off+j*7+5,none⟩=some (.slice va1 x.hs.length vc1):=(HC.o.below HB3.o hbw).c5
    have d6:w3.cell? ⟨b,off+j*7+6,none⟩=some (.int .i64 (K+1+1+1+(x.vs.length:Int)+1+(x.hs.length:Int))):=(HC.o.below HB3.o hbw).c6;go_wp2_with fail;clear d0 d1 d2 d3 d4 d5 d6;refine (Zgo _ x.vs.length _ _ (HL0.o.below HB3.o).at (by omega) (by omega)).mono ?_;rintro e w4 ⟨rfl,hb⟩;have HB4:Hd (Zw_ w w4):=HB3.o.trans (hb.mono HB3.o.size);clear hb HB3;have hg3:decide (K+1+1+1+(x.vs.length:Int) < 0)=false:=by simp;omega
    have d0:w4.cell? ⟨b,off+j*7,none⟩=some (.string (mtB (K))):=(HC.o.below HB4.o hbw).c0;have d1:w4.cell? ⟨b,off+j*7+1,none⟩=some (.string (mtB (K+1))):=(HC.o.below HB4.o hbw).c1;have d2:w4.cell? ⟨b,off+j*7+2,none⟩=some (.string (mtB (K+1+1))):=(HC.o.below HB4.o hbw).c2;have d3:w4.cell? ⟨b,off+j*7+3,none⟩=some (.slice va0 x.vs.length vc0):=(HC.o.below HB4.o hbw).c3;have d4:w4.cell? ⟨b,off+j*7+4,none⟩=some (.bool ((K+1+1+1+(x.vs.length:Int)) % 3 == 0)):=(HC.o.below HB4.o hbw).c4;have d5:w4.cell? ⟨b,off+j*7+5,none⟩=some (.slice va1 x.hs.length vc1):=(HC.o.below HB4.o hbw).c5;have d6:w4.cell? ⟨b,off+j*7+6,none⟩=some (.int .i64 (K+1+1+1+(x.vs.length:Int)+1+(x.hs.length:Int))):=(HC.o.below HB4.o hbw).c6;go_wp2_with fail;clear d0 d1 d2 d3 d4 d5 d6;refine (Zgo _ x.hs.length _ _ (HL1.o.below HB4.o).at (by omega) (by omega)).mono ?_
    rintro e w5 ⟨rfl,hb⟩;have HB5:Hd (Zw_ w w5):=HB4.o.trans (hb.mono HB4.o.size);clear hb HB4;have hg5:decide (K+1+1+1+(x.vs.length:Int)+1+(x.hs.length:Int) < 0)=false:=by simp;omega
    have d0:w5.cell? ⟨b,off+j*7,none⟩=some (.string (mtB (K))):=(HC.o.below HB5.o hbw).c0;have d1:w5.cell? ⟨b,off+j*7+1,none⟩=some (.string (mtB (K+1))):=(HC.o.below HB5.o hbw).c1;have d2:w5.cell? ⟨b,off+j*7+2,none⟩=some (.string (mtB (K+1+1))):=(HC.o.below HB5.o hbw).c2;have d3:w5.cell? ⟨b,off+j*7+3,none⟩=some (.slice va0 x.vs.length vc0):=(HC.o.below HB5.o hbw).c3;have d4:w5.cell? ⟨b,off+j*7+4,none⟩=some (.bool ((K+1+1+1+(x.vs.length:Int)) % 3 == 0)):=(HC.o.below HB5.o hbw).c4;have d5:w5.cell? ⟨b,off+j*7+5,none⟩=some (.slice va1 x.hs.length vc1):=(HC.o.below HB5.o hbw).c5;have d6:w5.cell? ⟨b,off+j*7+6,none⟩=some (.int .i64 (K+1+1+1+(x.vs.length:Int)+1+(x.hs.length:Int))):=(HC.o.below HB5.o hbw).c6;go_wp2;clear d0 d1 d2 d3 d4 d5 d6;have HW:Hd (Zsi Xl[j]=5+x.vs.length+x.hs.length):=by unfold Hd;rw [<- HXX.o];rfl
    have HQ:Hd ((K+1+1+1+(x.vs.length:Int)+1+(x.hs.length:Int)+1:Int)=k+(Zcd Xl (j+1):Int)):=by
     have h1:=HP.o;have h2:=HW.o;have h3:=HK.o;unfold Hd
     omega
    go_roundw
    . exact⟨j+1,by go_num,congrArg (Value.int .i64) HQ.o,by omega,HB5.o⟩
    . simp [intOf];omega
  . have e:j=Xl.length:=by omega
    subst e;go_wp2;go_ret;exact⟨rfl,HB0.o⟩
structure Zq9 (lo hi o0 o1 g0 g1 l0 l1 p0 p1:Nat):Prop where
 o:lo<=o0/\o1<=hi
 g:lo<=g0/\g1<=hi
 l:lo<=l0/\l1<=hi
 p:lo<=p0/\p1<=hi
 og:o1<=g0\/g1<=o0
 ol:o1<=l0\/l1<=o0
 op:o1<=p0\/p1<=o0
 gl:g1<=l0\/l1<=g0
 gp:g1<=p0\/p1<=g0
 lp:l1<=p0\/p1<=l0
def Zax (lo hi:Nat) (w:World) (ov gv lv pv:Value) (B:Bk):Prop:=
 ∃ o0 o1 g0 g1 l0 l1 p0 p1:Nat,Zq9 lo hi o0 o1 g0 g1 l0 l1 p0 p1/\Za6 o0 o1 w ov B.os/\Zbe g0 g1 w gv B.gs/\ZaJ l0 l1 w lv B.ls/\Zbx p0 p1 w pv B.ps
theorem Zax.at {lo hi:Nat}{w:World}{ov gv lv pv:Value}{B:Bk} (h:Zax lo hi w ov gv lv pv B):ZaY lo w ov gv lv pv B:=by
 obtain⟨_,_,_,_,_,_,_,_,ha,h1,h2,h3,h4⟩:=h;exact⟨h1.at.mono ha.o.1,h2.at.mono ha.g.1,h3.at.mono ha.l.1,h4.at.mono ha.p.1⟩
theorem Zax.below {lo hi:Nat}{w:World}{ov gv lv pv:Value}{B:Bk} (h:Zax lo hi w ov gv lv pv B) (hb:Zw_ w w'):Zax lo hi w' ov gv lv pv B:=by
 obtain⟨o0,o1,g0,g1,l0,l1,p0,p1,ha,h1,h2,h3,h4⟩:=h;exact⟨o0,o1,g0,g1,l0,l1,p0,p1,ha,h1.below hb,h2.below hb,h3.below hb,h4.below hb⟩
theorem Zax.touch {lo hi:Nat}{w:World}{ov gv lv pv:Value}{B:Bk} (h:Zax lo hi w ov gv lv pv B) (ht:Zad lo' hi' w w') (ho:hi<=lo'\/hi'<=lo):Zax lo hi w' ov gv lv pv B:=by
 obtain⟨o0,o1,g0,g1,l0,l1,p0,p1,ha,h1,h2,h3,h4⟩:=h;have:=ha.o;have:=ha.g;have:=ha.l;have:=ha.p;exact⟨o0,o1,g0,g1,l0,l1,p0,p1,ha,h1.touch ht (by omega),h2.touch ht (by omega),h3.touch ht (by omega),h4.touch ht (by omega)⟩
theorem Zax.wide {lo hi:Nat}{w:World}{ov gv lv pv:Value}{B:Bk} (h:Zax lo hi w ov gv lv pv B) (h1:lo'<=lo) (h2:hi<=hi'):Zax lo' hi' w ov gv lv pv B:=by
 obtain⟨o0,o1,g0,g1,l0,l1,p0,p1,⟨q1,q2,q3,q4,r1,r2,r3,r4,r5,r6⟩,hh⟩:=h;exact⟨o0,o1,g0,g1,l0,l1,p0,p1,⟨by omega,by omega,by omega,by omega,r1,r2,r3,r4,r5,r6⟩,hh⟩
def Zth (k:Int) (B:Bk):Bk:=⟨B.now,B.tick,B.given,Zj9 k B.os,ZjD (k+(Zcd B.os B.os.length:Int)) B.gs,Zko (k+(Zcd B.os B.os.length:Int)+(Zcr B.gs B.gs.length:Int)) B.ls,ZjY (k+(Zcd B.os B.os.length:Int)+(Zcr B.gs B.gs.length:Int)+(ZcG B.ls B.ls.length:Int)) B.ps⟩
def Zny (k:Int) (B:Bk):Int:=k+(Zcd B.os B.os.length:Int)+(Zcr B.gs B.gs.length:Int)+(ZcG B.ls B.ls.length:Int)+(Zc3 B.ps B.ps.length:Int)
theorem Zl8 {B:Bk} (hn:ZaE B):Zcd B.os B.os.length<=4000000000000/\Zcr B.gs B.gs.length<=4000000000000/\ZcG B.ls B.ls.length<=4000000000000/\Zc3 B.ps B.ps.length<=4000000000000:=by
 obtain⟨h1,h2,h3,h4⟩:=hn;have:=ZiZ h1 (i:=B.os.length) Zl_;have:=ZiP h2 (i:=B.gs.length) Zl_;have:=Zi2 h3 (i:=B.ls.length) Zl_;have:=ZiG h4 (i:=B.ps.length) Zl_;have:=h1.1;have:=h2.1;have:=h3.1;have:=h4.1
 omega
section
variable (lo hi:Nat) (ov gv lv pv:Value) (B:Bk) (w:World)
theorem Zgj (k:Int) (h:Zax lo hi w ov gv lv pv B) (hn:ZaE B) (h0:0<=k) (hk:k<=1900000000000000000) (hhi:hi<=w.heap.size) :
 Calls prog 16 #[.agg #[.int .i64 B.now,.int .i64 B.tick,.int .i64 B.given,ov,gv,lv,pv],.int .i64 k] w fun e w'=>e=.returned (.int .i64 (Zny k B))/\Zad lo hi w w'/\Zax lo hi w' ov gv lv pv (Zth k B):=by
 obtain⟨o0,o1,g0,g1,l0,l1,p0,p1,ha,h1,h2,h3,h4⟩:=h;obtain⟨z1,z2,z3,z4⟩:=Zl8 hn;have HN:=Zab hn;have HP:=Zab ha;obtain⟨⟨y1,y2⟩,⟨y3,y4⟩,⟨y5,y6⟩,⟨y7,y8⟩,yog,yol,yop,ygl,ygp,ylp⟩:=ha;have H1:=Zab h1;have H2:=Zab h2;have H3:=Zab h3;have H4:=Zab h4;obtain⟨a0,k0,rfl⟩:=h1.form;obtain⟨a1,k1,rfl⟩:=h2.form;obtain⟨a2,k2,rfl⟩:=h3.form;obtain⟨a3,k3,rfl⟩:=h4.form;clear h1 h2 h3 h4 hn;go_enter func16,ntmps16;go_wp2_with fail;generalize hWa:w.alloc _=Wa;have hb:Zw_ w Wa:=by rw [<- hWa];exact Zac w _
 have HX0:Hd (Box Wa w.heap.size #[.int .i64 B.now,.int .i64 B.tick,.int .i64 B.given,.slice a0 B.os.length k0,.slice a1 B.gs.length k1,.slice a2 B.ls.length k2,.slice a3 B.ps.length k3]):=by rw [<- hWa];exact Box.new _ _ _ _ rfl
 have HT0:Hd (Zad lo hi w Wa):=Zad.below hb;replace H1:=Zab (H1.o.below hb);replace H2:=Zab (H2.o.below hb);replace H3:=Zab (H3.o.below hb);replace H4:=Zab (H4.o.below hb);clear hWa hb;refine (Zlt o0 o1 _ B.os _ _ H1.o HN.o.1 (by omega) (by omega)).mono ?_;rintro e w1 ⟨rfl,ht1,hq1⟩;have HX1:=Zab (HX0.o.touch ht1 (by omega));have HT1:Hd (Zad lo hi w w1):=HT0.o.trans (ht1.wide (by omega) (by omega));replace H1:=Zab hq1;replace H2:=Zab (H2.o.touch ht1 (by omega));replace H3:=Zab (H3.o.touch ht1 (by omega));replace H4:=Zab (H4.o.touch ht1 (by omega));clear ht1 hq1 HX0 HT0;have c1:=HX1.o.cell 4;simp at c1;go_wp2_with fail;clear c1;refine (Zk4 g0 g1 _ B.gs _ _ H2.o HN.o.2.1 (by omega) (by omega)).mono ?_;rintro e w2 ⟨rfl,ht2,hq2⟩;have HX2:=Zab (HX1.o.touch ht2 (by omega))
 have HT2:Hd (Zad lo hi w w2):=HT1.o.trans (ht2.wide (by omega) (by omega));replace H1:=Zab (H1.o.touch ht2 (by omega));replace H2:=Zab hq2;replace H3:=Zab (H3.o.touch ht2 (by omega));replace H4:=Zab (H4.o.touch ht2 (by omega));clear ht2 hq2 HX1 HT1;have c2:=HX2.o.cell 5;simp at c2;go_wp2_with fail;clear c2;refine (Zlk l0 l1 _ B.ls _ _ H3.o HN.o.2.2.1 (by omega) (by omega)).mono ?_;rintro e w3 ⟨rfl,ht3,hq3⟩;have HX3:=Zab (HX2.o.touch ht3 (by omega));have HT3:Hd (Zad lo hi w w3):=HT2.o.trans (ht3.wide (by omega) (by omega));replace H1:=Zab (H1.o.touch ht3 (by omega));replace H2:=Zab (H2.o.touch ht3 (by omega));replace H3:=Zab hq3;replace H4:=Zab (H4.o.touch ht3 (by omega));clear ht3 hq3 HX2 HT2;have c3:=HX3.o.cell 6;simp at c3;go_wp2_with fail;clear c3;refine (ZkK p0 p1 _ B.ps _ _ H4.o HN.o.2.2.2 (by omega) (by omega)).mono ?_
 rintro e w4 ⟨rfl,ht4,hq4⟩;have HX4:=Zab (HX3.o.touch ht4 (by omega));have HT4:Hd (Zad lo hi w w4):=HT3.o.trans (ht4.wide (by omega) (by omega));replace H1:=Zab (H1.o.touch ht4 (by omega));replace H2:=Zab (H2.o.touch ht4 (by omega));replace H3:=Zab (H3.o.touch ht4 (by omega));replace H4:=Zab hq4;clear ht4 hq4 HX3 HT3;go_wp2;go_ret;exact⟨rfl,HT4.o,o0,o1,g0,g1,l0,l1,p0,p1,HP.o,H1.o,H2.o,H3.o,H4.o⟩
theorem Zgi (k:Int) (h:Zax lo hi w ov gv lv pv (Zth k B)) (hn:ZaE B) (h0:0<=k) (hk:k<=1900000000000000000) :
 Calls prog 17 #[.agg #[.int .i64 B.now,.int .i64 B.tick,.int .i64 B.given,ov,gv,lv,pv],.int .i64 k] w fun e w'=>e=.returned (.int .i64 (Zny k B))/\Zw_ w w':=by
 obtain⟨o0,o1,g0,g1,l0,l1,p0,p1,ha,h1,h2,h3,h4⟩:=h;obtain⟨z1,z2,z3,z4⟩:=Zl8 hn;have HN:=Zab hn;clear ha;have H1:Hd (Za6 o0 o1 w ov (Zj9 k B.os)):=h1;have H2:Hd (Zbe g0 g1 w gv (ZjD (k+(Zcd B.os B.os.length:Int)) B.gs)):=h2;have H3:Hd (ZaJ l0 l1 w lv (Zko (k+(Zcd B.os B.os.length:Int)+(Zcr B.gs B.gs.length:Int)) B.ls)):=h3;have H4:Hd (Zbx p0 p1 w pv (ZjY (k+(Zcd B.os B.os.length:Int)+(Zcr B.gs B.gs.length:Int)+(ZcG B.ls B.ls.length:Int)) B.ps)):=h4;obtain⟨a0,k0,rfl⟩:=H1.o.form;obtain⟨a1,k1,rfl⟩:=H2.o.form;obtain⟨a2,k2,rfl⟩:=H3.o.form;obtain⟨a3,k3,rfl⟩:=H4.o.form;rw [ZbK] at H1;rw [ZbP] at H2;rw [ZbN] at H3;rw [ZbT] at H4;rw [ZbK,ZbP,ZbN,ZbT];clear h1 h2 h3 h4 hn;go_enter func17,ntmps17;go_wp2_with fail;generalize hWa:w.alloc _=Wa
 have HB0:Hd (Zw_ w Wa):=by rw [<- hWa];exact Zac w _
 have HX0:Hd (Box Wa w.heap.size #[.int .i64 B.now,.int .i64 B.tick,.int .i64 B.given,.slice a0 B.os.length k0,.slice a1 B.gs.length k1,.slice a2 B.ls.length k2,.slice a3 B.ps.length k3]):=by rw [<- hWa];exact Box.new _ _ _ _ rfl
 clear hWa;refine (Zla o0 o1 _ B.os _ _ (H1.o.below HB0.o) HN.o.1 (by omega) (by omega)).mono ?_;rintro e w1 ⟨rfl,hb1⟩;have HX1:=Zab (HX0.o.on hb1);have HB1:Hd (Zw_ w w1):=HB0.o.trans (hb1.mono HB0.o.size);have hg1:decide (k+(Zcd B.os B.os.length:Int) < 0)=false:=by simp;omega
 clear hb1 HX0 HB0;have c1:=HX1.o.cell 4;simp at c1;go_wp2_with fail;clear c1;refine (Zk7 g0 g1 _ B.gs _ _ (H2.o.below HB1.o) HN.o.2.1 (by omega) (by omega)).mono ?_;rintro e w2 ⟨rfl,hb2⟩;have HX2:=Zab (HX1.o.on hb2);have HB2:Hd (Zw_ w w2):=HB1.o.trans (hb2.mono HB1.o.size);have hg2:decide (k+(Zcd B.os B.os.length:Int)+(Zcr B.gs B.gs.length:Int) < 0)=false:=by simp;omega
 clear hb2 HX1 HB1;have c2:=HX2.o.cell 5;simp at c2;go_wp2_with fail;clear c2;refine (Zk9 l0 l1 _ B.ls _ _ (H3.o.below HB2.o) HN.o.2.2.1 (by omega) (by omega)).mono ?_;rintro e w3 ⟨rfl,hb3⟩;have HX3:=Zab (HX2.o.on hb3);have HB3:Hd (Zw_ w w3):=HB2.o.trans (hb3.mono HB2.o.size);have hg3:decide (k+(Zcd B.os B.os.length:Int)+(Zcr B.gs B.gs.length:Int)+(ZcG B.ls B.ls.length:Int) < 0)=false:=by simp;omega
 clear hb3 HX2 HB2;have c3:=HX3.o.cell 6;simp at c3;go_wp2_with fail;clear c3;refine (ZkL p0 p1 _ B.ps _ _ (H4.o.below HB3.o) HN.o.2.2.2 (by omega) (by omega)).mono ?_;rintro e w4 ⟨rfl,hb4⟩;have HX4:=Zab (HX3.o.on hb4);have HB4:Hd (Zw_ w w4):=HB3.o.trans (hb4.mono HB3.o.size);have hg4:decide (k+(Zcd B.os B.os.length:Int)+(Zcr B.gs B.gs.length:Int)+(ZcG B.ls B.ls.length:Int)+(Zc3 B.ps B.ps.length:Int) < 0)=false:=by simp;omega
 clear hb4 HX3 HB3;go_wp2;go_ret;exact⟨rfl,HB4.o⟩
end
def Zbc (wr:World) (B:Nat) (Xl:List Le) (k:Nat) (c:Nat->Nat):Prop:=
 B < c 0/\(∀ i,i < k->c i<=c (i+1))/\c k<=wr.heap.size/\∃ f,wr.rowIs B 92 (Xl.length*4) f/\∀ i (h:i < Xl.length),i < k->Zco Xl[i]/\f (i*4)=.string Xl[i].tm/\f (i*4+1)=.string Xl[i].re/\f (i*4+2)=.int .i64 Xl[i].mo/\f (i*4+3)=.int .i64 Xl[i].fr
theorem Zbc.le {B:Nat}{c:Nat->Nat} (h:Zbc wr B Xl k c) {i:Nat}:∀ {j:Nat},i<=j->j<=k->c i<=c j:=by
 intro j
 induction j with
 | zero=>intro hij _;have:i=0:=by omega
         subst this;exact Nat.le_refl _
 | succ j ih=>
  intro hij hjn
  by_cases e:i=j+1
  . subst e;exact Nat.le_refl _
  . exact Nat.le_trans (ih (by omega) (by omega)) (h.2.1 j (by omega))
theorem Zbc.below {B:Nat}{c:Nat->Nat} (h:Zbc wr B Xl k c) (hb:Below wr.heap.size wr w1):Zbc w1 B Xl k c:=by
 obtain⟨g1,g2,g3,f,hr,hall⟩:=h;refine⟨g1,g2,Nat.le_trans g3 hb.size,f,hr.of_block (hb.block B hr.lt),fun i hi hik=>?_⟩;obtain⟨hz,h0,h1,h2,h3⟩:=hall i hi hik;exact⟨hz,h0,h1,h2,h3⟩
theorem Zbc.free {B:Nat}{c:Nat->Nat} (h:Zbc wr B Xl k c) (i:Nat):wr.frozen? ⟨B,i,none⟩=false:=by
 obtain⟨_,_,_,f,hr,_⟩:=h;exact hr.frozen i
theorem Zbc.there {B:Nat}{c:Nat->Nat} (h:Zbc wr B Xl k c) (i:Nat) (hi:i < Xl.length*4):∃ v,wr.cell? ⟨B,i,none⟩=some v:=by
 obtain⟨_,_,_,f,hr,_⟩:=h;exact⟨_,hr.cell hi⟩
theorem Zbc.step {B:Nat}{c:Nat->Nat} (h:Zbc w1 B Xl k c) (hk:k < Xl.length) (hz:Zco Xl[k]) (d:Nat) (hd0:c k<=d) (hd:d<=w1.heap.size) :
 Zbc ((((w1.setCell ⟨B,k*4,none⟩ (.string Xl[k].tm)).setCell ⟨B,k*4+1,none⟩ (.string Xl[k].re)).setCell ⟨B,k*4+2,none⟩ (.int .i64 Xl[k].mo)).setCell ⟨B,k*4+3,none⟩ (.int .i64 Xl[k].fr)) B Xl (k+1) (fun j=>if j<=k then c j else d):=by
 have hle:=fun i (hi:i<=k)=>h.le (i:=0) (j:=i) Zz_ hi
 have hle2:=fun i (hi:i < k)=>h.le (i:=i+1) (j:=k) (by omega) Zl_
 obtain⟨g1,g2,g3,f,hr,hall⟩:=h;have hts:Zad B (B+1) w1 ((((w1.setCell ⟨B,k*4,none⟩ (.string Xl[k].tm)).setCell ⟨B,k*4+1,none⟩ (.string Xl[k].re)).setCell ⟨B,k*4+2,none⟩ (.int .i64 Xl[k].mo)).setCell ⟨B,k*4+3,none⟩ (.int .i64 Xl[k].fr)):=(((Zad.setB B _ _ _).trans (Zad.setB B _ _ _)).trans (Zad.setB B _ _ _)).trans (Zad.setB B _ _ _);refine⟨by simpa using g1,fun i hi=>?_,?_,_,((((hr.set _ _).set _ _).set _ _).set _ _),fun i hi hik=>?_⟩
 . dsimp only
   by_cases e:i=k
   . subst e;rw [if_pos Zl_,if_neg (by omega)];exact hd0
   . rw [if_pos (by omega),if_pos (by omega)];exact g2 i (by omega)
 . dsimp only;rw [if_neg (by omega)];exact Nat.le_trans hd hts.size
 by_cases e:i=k
 . subst e
   have hb0:=hle i Zl_;exact⟨hz,by simp,by simp,by simp,by simp⟩
 . have hb0:=hle i (by omega)
   obtain⟨hz,h0,h1,h2,h3⟩:=hall i hi (by omega);refine⟨hz,?_,?_,?_,?_⟩
   . rw [if_neg (by omega),if_neg (by omega),if_neg (by omega),if_neg (by omega)];exact h0
   . rw [if_neg (by omega),if_neg (by omega),if_neg (by omega),if_neg (by omega)];exact h1
   . rw [if_neg (by omega),if_neg (by omega),if_neg (by omega),if_neg (by omega)];exact h2
   . rw [if_neg (by omega),if_neg (by omega),if_neg (by omega),if_neg (by omega)];exact h3
theorem Zbc.own {B:Nat}{c:Nat->Nat} (h:Zbc wr B Xl k c) (hk:k=Xl.length) (hne:Xl≠[]) (hm:Xl.length<=maxLen):ZaJ B wr.heap.size wr (.slice (some ⟨B,0,none⟩) Xl.length Xl.length) Xl:=by
 subst hk;obtain⟨g1,g2,g3,f,hr,hall⟩:=h;have h0:0 < Xl.length:=List.length_pos_iff.2 hne
 refine Or.inr ⟨B,0,Xl.length,c,fun i=>if h:i < Xl.length then Xl[i] else Xl[0],rfl,hne,hm,Nat.le_refl _,fun i hi=>by simp [hi],hr.lt,Nat.le_refl _,g1,hr.lt,g2,g3,fun i=>hr.frozen i,fun i hi=>?_⟩;obtain⟨hz,h0,h1,h2,h3⟩:=hall i hi hi;simp only [hi,dif_pos];rw [Nat.zero_add];exact⟨hz,⟨by rw [hr.cell (by omega),h0],by rw [hr.cell (by omega),h1],by rw [hr.cell (by omega),h2],by rw [hr.cell (by omega),h3]⟩⟩
theorem Zbc.new (w:World) (Xl:List Le) (z:Array Value):Zbc (w.alloc (.cells (madeCells z (Xl.length*4)) 92)) w.heap.size Xl 0 (fun _=>w.heap.size+1):=by
 refine⟨Nat.lt_succ_self _,fun i hi=>by omega,by simp,fun i=>(madeCells z (Xl.length*4)).getD i default,?_,fun i _ h=>by omega⟩;have:=World.rowIs_alloc w (madeCells z (Xl.length*4)) 92 (fun i=>(madeCells z (Xl.length*4)).getD i default) (fun i hi=>by simp [Array.getD,hi])
 rwa [size_madeCells] at this
theorem ZmO (lo:Nat) (v:Value) (Xl:List Le) (w:World) (hv:ZbG lo w v Xl) (hn:Zd7 Xl) :
 Calls prog 46 #[v] w fun e w'=>∃ v',e=.returned v'/\Zw_ w w'/\ZaJ w.heap.size w'.heap.size w' v' Xl:=by
 obtain⟨i0,hi,hz0,hz1,hz2⟩:=info_parts Tryz.info92;have HSM:=Zab hn.2;have hn1:=hn.1;clear hn
 by_cases hL:Xl=[]
 . subst hL
   obtain⟨a,cap,rfl⟩:=hv.form;clear hv
   have hmk:∀ u:World,(Instr.makeSlice 37 (.int .i64 0) (.int .i64 0)).run prog u=.ok (.slice (some ⟨u.heap.size,0,none⟩) 0 0) (u.alloc (.cells (madeCells (Value.cells (.agg #[.string ⟨#[]⟩,.string ⟨#[]⟩,.int .i64 0,.int .i64 0])) 0) 92)):=fun u=>by
    have h:=run_make (P:=prog) u 37 92 i0 _ underlying37 hi hz0 .i64 .i64 0 0 (by omega) (by omega) (by omega) (by omega)
    simpa [hz1] using h
   go_enter func46,ntmps46;go_wp2
   go_loop [4] (fun i=>i=.int .i64 0) (fun _=>0)
   case atStart=>rfl
   case round=>
    subst hrel;go_wp2;go_ret;exact⟨_,rfl,Zb_.alloc Zl_ _,Or.inl ⟨_,_,rfl,rfl⟩⟩
 . obtain⟨b,off,cap,rfl,hm,hbw,_,hc⟩:=hv.full hL
   clear hv;have HM:Hd (Xl.length<=maxLen):=hm;unfold maxLen at hm
   have hmk:∀ u:World,(Instr.makeSlice 37 (.int .i64 (Xl.length:Int)) (.int .i64 (Xl.length:Int))).run prog u=.ok (.slice (some ⟨u.heap.size,0,none⟩) Xl.length Xl.length) (u.alloc (.cells (madeCells (Value.cells (.agg #[.string ⟨#[]⟩,.string ⟨#[]⟩,.int .i64 0,.int .i64 0])) (Xl.length*4)) 92)):=fun u=>by
    have h:=run_make (P:=prog) u 37 92 i0 _ underlying37 hi hz0 .i64 .i64 Xl.length Xl.length (by omega) (by omega) (by rw [hz2];omega) (by omega);rw [hz1] at h
    simpa using h
   clear hi hz0 hz1 hz2;go_enter func46,ntmps46;go_wp2;clear hmk
   go_loopw [4] (fun i wr=>∃ (k:Nat) (c:Nat->Nat),i=.int .i64 k/\k<=Xl.length/\Zw_ w wr/\Zbc wr w.heap.size Xl k c) (fun i _=>Xl.length - (intOf i).toNat)
   case atStart=>exact⟨0,_,rfl,by omega,Zb_.alloc Zl_ _,Zbc.new w Xl _⟩
   case round=>
    obtain⟨k,c,rfl,hk,hb,hf⟩:=hrel
    by_cases hlt:k < Xl.length
    . obtain⟨hs,hc⟩:=hc k hlt
      have HB:=Zab hb;have HF:=Zab hf;have HSZ:=Zab hs;obtain⟨c0,c1,c2,c3⟩:=hc.below hb hbw;clear hc hb hf hs;go_wp2_with fail;refine (ZlV _ _).mono ?_;rintro e w1 ⟨rfl,hb1⟩;have hf1:=HF.o.below hb1;have hB:Hd (Zw_ w w1):=HB.o.trans (hb1.mono HB.o.size);have HST:=Zab (hf1.step hlt HSZ.o w1.heap.size (Nat.le_trans HF.o.2.2.1 hb1.size) Zl_);have hfr:=hf1.free;obtain⟨o0,ho0⟩:=hf1.there (k*4) (by omega);obtain⟨o1,ho1⟩:=hf1.there (k*4+1) (by omega);obtain⟨o2,ho2⟩:=hf1.there (k*4+2) (by omega);obtain⟨o3,ho3⟩:=hf1.there (k*4+3) (by omega);clear hf1 hb1 HF HB c0 c1 c2 c3;go_wp2;go_roundw
      . 
       exact⟨k+1,_,by go_num,by omega,((((hB.o.setCell Zl_ _).setCell Zl_ _).setCell Zl_ _).setCell Zl_ _),HST.o⟩
      . simp [intOf];omega
    . have e:k=Xl.length:=by omega
      go_wp2;go_ret;exact⟨_,rfl,hb,hf.own e hL HM.o⟩
def Zbb (wr:World) (B:Nat) (Xl:List Pu) (k:Nat) (c:Nat->Nat):Prop:=
 B < c 0/\(∀ i,i < k->c i<=c (i+1))/\c k<=wr.heap.size/\∃ f,wr.rowIs B 94 (Xl.length*5) f/\∀ i (h:i < Xl.length),i < k->Zds Xl[i]/\f (i*5)=.string Xl[i].dr/\f (i*5+1)=.string Xl[i].tm/\f (i*5+2)=.string Xl[i].re/\f (i*5+3)=.int .i64 Xl[i].am/\f (i*5+4)=.int .i64 Xl[i].un
theorem Zbb.le {B:Nat}{Xl:List Pu}{c:Nat->Nat} (h:Zbb wr B Xl k c) {i:Nat}:∀ {j:Nat},i<=j->j<=k->c i<=c j:=by
 intro j
 induction j with
 | zero=>intro hij _;have:i=0:=by omega
         subst this;exact Nat.le_refl _
 | succ j ih=>
  intro hij hjn
  by_cases e:i=j+1
  . subst e;exact Nat.le_refl _
  . exact Nat.le_trans (ih (by omega) (by omega)) (h.2.1 j (by omega))
theorem Zbb.below {B:Nat}{Xl:List Pu}{c:Nat->Nat} (h:Zbb wr B Xl k c) (hb:Below wr.heap.size wr w1):Zbb w1 B Xl k c:=by
 obtain⟨g1,g2,g3,f,hr,hall⟩:=h;refine⟨g1,g2,Nat.le_trans g3 hb.size,f,hr.of_block (hb.block B hr.lt),fun i hi hik=>?_⟩;obtain⟨hz,h0,h1,h2,h3,h4⟩:=hall i hi hik;exact⟨hz,h0,h1,h2,h3,h4⟩
theorem Zbb.free {B:Nat}{Xl:List Pu}{c:Nat->Nat} (h:Zbb wr B Xl k c) (i:Nat):wr.frozen? ⟨B,i,none⟩=false:=by
 obtain⟨_,_,_,f,hr,_⟩:=h;exact hr.frozen i
theorem Zbb.there {B:Nat}{Xl:List Pu}{c:Nat->Nat} (h:Zbb wr B Xl k c) (i:Nat) (hi:i < Xl.length*5):∃ v,wr.cell? ⟨B,i,none⟩=some v:=by
 obtain⟨_,_,_,f,hr,_⟩:=h;exact⟨_,hr.cell hi⟩
theorem Zbb.step {B:Nat}{Xl:List Pu}{c:Nat->Nat} (h:Zbb w1 B Xl k c) (hk:k < Xl.length) (hz:Zds Xl[k]) (d:Nat) (hd0:c k<=d) (hd:d<=w1.heap.size) :
 Zbb (((((w1.setCell ⟨B,k*5,none⟩ (.string Xl[k].dr)).setCell ⟨B,k*5+1,none⟩ (.string Xl[k].tm)).setCell ⟨B,k*5+2,none⟩ (.string Xl[k].re)).setCell ⟨B,k*5+3,none⟩ (.int .i64 Xl[k].am)).setCell ⟨B,k*5+4,none⟩ (.int .i64 Xl[k].un)) B Xl (k+1) (fun j=>if j<=k then c j else d):=by
 have hle:=fun i (hi:i<=k)=>h.le (i:=0) (j:=i) Zz_ hi
 have hle2:=fun i (hi:i < k)=>h.le (i:=i+1) (j:=k) (by omega) Zl_
 obtain⟨g1,g2,g3,f,hr,hall⟩:=h;have hts:Zad B (B+1) w1 (((((w1.setCell ⟨B,k*5,none⟩ (.string Xl[k].dr)).setCell ⟨B,k*5+1,none⟩ (.string Xl[k].tm)).setCell ⟨B,k*5+2,none⟩ (.string Xl[k].re)).setCell ⟨B,k*5+3,none⟩ (.int .i64 Xl[k].am)).setCell ⟨B,k*5+4,none⟩ (.int .i64 Xl[k].un)):=((((Zad.setB B _ _ _).trans (Zad.setB B _ _ _)).trans (Zad.setB B _ _ _)).trans (Zad.setB B _ _ _)).trans (Zad.setB B _ _ _);refine⟨by simpa using g1,fun i hi=>?_,?_,_,(((((hr.set _ _).set _ _).set _ _).set _ _).set _ _),fun i hi hik=>?_⟩
 . dsimp only
   by_cases e:i=k
   . subst e;rw [if_pos Zl_,if_neg (by omega)];exact hd0
   . rw [if_pos (by omega),if_pos (by omega)];exact g2 i (by omega)
 . dsimp only;rw [if_neg (by omega)];exact Nat.le_trans hd hts.size
 by_cases e:i=k
 . subst e
   have hb0:=hle i Zl_;exact⟨hz,by simp,by simp,by simp,by simp,by simp⟩
 . have hb0:=hle i (by omega)
   obtain⟨hz,h0,h1,h2,h3,h4⟩:=hall i hi (by omega);refine⟨hz,?_,?_,?_,?_,?_⟩
   . rw [if_neg (by omega),if_neg (by omega),if_neg (by omega),if_neg (by omega),if_neg (by omega)];exact h0
   . rw [if_neg (by omega),if_neg (by omega),if_neg (by omega),if_neg (by omega),if_neg (by omega)];exact h1
   . rw [if_neg (by omega),if_neg (by omega),if_neg (by omega),if_neg (by omega),if_neg (by omega)];exact h2
   . rw [if_neg (by omega),if_neg (by omega),if_neg (by omega),if_neg (by omega),if_neg (by omega)];exact h3
   . rw [if_neg (by omega),if_neg (by omega),if_neg (by omega),if_neg (by omega),if_neg (by omega)];exact h4
theorem Zbb.own {B:Nat}{Xl:List Pu}{c:Nat->Nat} (h:Zbb wr B Xl k c) (hk:k=Xl.length) (hne:Xl≠[]) (hm:Xl.length<=maxLen):Zbx B wr.heap.size wr (.slice (some ⟨B,0,none⟩) Xl.length Xl.length) Xl:=by
 subst hk;obtain⟨g1,g2,g3,f,hr,hall⟩:=h;have h0:0 < Xl.length:=List.length_pos_iff.2 hne
 refine Or.inr ⟨B,0,Xl.length,c,fun i=>if h:i < Xl.length then Xl[i] else Xl[0],rfl,hne,hm,Nat.le_refl _,fun i hi=>by simp [hi],hr.lt,Nat.le_refl _,g1,hr.lt,g2,g3,fun i=>hr.frozen i,fun i hi=>?_⟩;obtain⟨hz,h0,h1,h2,h3,h4⟩:=hall i hi hi;simp only [hi,dif_pos];rw [Nat.zero_add];exact⟨hz,⟨by rw [hr.cell (by omega),h0],by rw [hr.cell (by omega),h1],by rw [hr.cell (by omega),h2],by rw [hr.cell (by omega),h3],by rw [hr.cell (by omega),h4]⟩⟩
theorem Zbb.new (w:World) (Xl:List Pu) (z:Array Value):Zbb (w.alloc (.cells (madeCells z (Xl.length*5)) 94)) w.heap.size Xl 0 (fun _=>w.heap.size+1):=by
 refine⟨Nat.lt_succ_self _,fun i hi=>by omega,by simp,fun i=>(madeCells z (Xl.length*5)).getD i default,?_,fun i _ h=>by omega⟩;have:=World.rowIs_alloc w (madeCells z (Xl.length*5)) 94 (fun i=>(madeCells z (Xl.length*5)).getD i default) (fun i hi=>by simp [Array.getD,hi])
 rwa [size_madeCells] at this
theorem Zm3 (lo:Nat) (v:Value) (Xl:List Pu) (w:World) (hv:ZbW lo w v Xl) (hn:ZdV Xl) :
 Calls prog 47 #[v] w fun e w'=>∃ v',e=.returned v'/\Zw_ w w'/\Zbx w.heap.size w'.heap.size w' v' Xl:=by
 obtain⟨i0,hi,hz0,hz1,hz2⟩:=info_parts Tryz.info94;have HSM:=Zab hn.2;have hn1:=hn.1;clear hn
 by_cases hL:Xl=[]
 . subst hL
   obtain⟨a,cap,rfl⟩:=hv.form;clear hv
   have hmk:∀ u:World,(Instr.makeSlice 38 (.int .i64 0) (.int .i64 0)).run prog u=.ok (.slice (some ⟨u.heap.size,0,none⟩) 0 0) (u.alloc (.cells (madeCells (Value.cells (.agg #[.string ⟨#[]⟩,.string ⟨#[]⟩,.string ⟨#[]⟩,.int .i64 0,.int .i64 0])) 0) 94)):=fun u=>by
    have h:=run_make (P:=prog) u 38 94 i0 _ underlying38 hi hz0 .i64 .i64 0 0 (by omega) (by omega) (by omega) (by omega)
    simpa [hz1] using h
   go_enter func47,ntmps47;go_wp2
   go_loop [4] (fun i=>i=.int .i64 0) (fun _=>0)
   case atStart=>rfl
   case round=>
    subst hrel;go_wp2;go_ret;exact⟨_,rfl,Zb_.alloc Zl_ _,Or.inl ⟨_,_,rfl,rfl⟩⟩
 . obtain⟨b,off,cap,rfl,hm,hbw,_,hc⟩:=hv.full hL
   clear hv;have HM:Hd (Xl.length<=maxLen):=hm;unfold maxLen at hm
   have hmk:∀ u:World,(Instr.makeSlice 38 (.int .i64 (Xl.length:Int)) (.int .i64 (Xl.length:Int))).run prog u=.ok (.slice (some ⟨u.heap.size,0,none⟩) Xl.length Xl.length) (u.alloc (.cells (madeCells (Value.cells (.agg #[.string ⟨#[]⟩,.string ⟨#[]⟩,.string ⟨#[]⟩,.int .i64 0,.int .i64 0])) (Xl.length*5)) 94)):=fun u=>by
    have h:=run_make (P:=prog) u 38 94 i0 _ underlying38 hi hz0 .i64 .i64 Xl.length Xl.length (by omega) (by omega) (by rw [hz2];omega) (by omega);rw [hz1] at h
    simpa using h
   clear hi hz0 hz1 hz2;go_enter func47,ntmps47;go_wp2;clear hmk
   go_loopw [4] (fun i wr=>∃ (k:Nat) (c:Nat->Nat),i=.int .i64 k/\k<=Xl.length/\Zw_ w wr/\Zbb wr w.heap.size Xl k c) (fun i _=>Xl.length - (intOf i).toNat)
   case atStart=>exact⟨0,_,rfl,by omega,Zb_.alloc Zl_ _,Zbb.new w Xl _⟩
   case round=>
    obtain⟨k,c,rfl,hk,hb,hf⟩:=hrel
    by_cases hlt:k < Xl.length
    . obtain⟨hs,hc⟩:=hc k hlt
      have HB:=Zab hb;have HF:=Zab hf;have HSZ:=Zab hs;obtain⟨c0,c1,c2,c3,c4⟩:=hc.below hb hbw;clear hc hb hf hs;go_wp2_with fail;refine (ZlJ _ _).mono ?_;rintro e w1 ⟨rfl,hb1⟩;have hf1:=HF.o.below hb1;have hB:Hd (Zw_ w w1):=HB.o.trans (hb1.mono HB.o.size);have HST:=Zab (hf1.step hlt HSZ.o w1.heap.size (Nat.le_trans HF.o.2.2.1 hb1.size) Zl_);have hfr:=hf1.free;obtain⟨o0,ho0⟩:=hf1.there (k*5) (by omega);obtain⟨o1,ho1⟩:=hf1.there (k*5+1) (by omega);obtain⟨o2,ho2⟩:=hf1.there (k*5+2) (by omega);obtain⟨o3,ho3⟩:=hf1.there (k*5+3) (by omega);obtain⟨o4,ho4⟩:=hf1.there (k*5+4) (by omega);clear hf1 hb1 HF HB c0 c1 c2 c3 c4;go_wp2;go_roundw
      . 
       exact⟨k+1,_,by go_num,by omega,(((((hB.o.setCell Zl_ _).setCell Zl_ _).setCell Zl_ _).setCell Zl_ _).setCell Zl_ _),HST.o⟩
      . simp [intOf];omega
    . have e:k=Xl.length:=by omega
      go_wp2;go_ret;exact⟨_,rfl,hb,hf.own e hL HM.o⟩
def Za5 (wr:World) (B:Nat) (Xl:List Ob) (k:Nat) (c:Nat->Nat):Prop:=
 B < c 0/\(∀ i,i < k->c i<=c (i+1))/\c k<=wr.heap.size/\∃ f,wr.rowIs B 155 (Xl.length*7) f/\∀ i (h:i < Xl.length),i < k->ZcN Xl[i]/\∃ (vv0 vv1:Value) (m1:Nat),(c i)<=m1/\m1<=(c (i+1))/\f (i*7)=.string Xl[i].kd/\f (i*7+1)=.string Xl[i].nm/\f (i*7+2)=.string Xl[i].tm/\f (i*7+3)=vv0/\f (i*7+4)=.bool Xl[i].en/\f (i*7+5)=vv1/\f (i*7+6)=.int .i64 Xl[i].ver/\Zae (c i) m1 wr vv0 Xl[i].vs/\Zae m1 (c (i+1)) wr vv1 Xl[i].hs
theorem Za5.le {B:Nat}{Xl:List Ob}{c:Nat->Nat} (h:Za5 wr B Xl k c) {i:Nat}:∀ {j:Nat},i<=j->j<=k->c i<=c j:=by
 intro j
 induction j with
 | zero=>intro hij _;have:i=0:=by omega
         subst this;exact Nat.le_refl _
 | succ j ih=>
  intro hij hjn
  by_cases e:i=j+1
  . subst e;exact Nat.le_refl _
  . exact Nat.le_trans (ih (by omega) (by omega)) (h.2.1 j (by omega))
theorem Za5.below {B:Nat}{Xl:List Ob}{c:Nat->Nat} (h:Za5 wr B Xl k c) (hb:Below wr.heap.size wr w1):Za5 w1 B Xl k c:=by
 obtain⟨g1,g2,g3,f,hr,hall⟩:=h;refine⟨g1,g2,Nat.le_trans g3 hb.size,f,hr.of_block (hb.block B hr.lt),fun i hi hik=>?_⟩;obtain⟨hz,vv0,vv1,m1,q0,q1,h0,h1,h2,h3,h4,h5,h6,l0,l1⟩:=hall i hi hik;exact⟨hz,vv0,vv1,m1,q0,q1,h0,h1,h2,h3,h4,h5,h6,l0.below hb,l1.below hb⟩
theorem Za5.free {B:Nat}{Xl:List Ob}{c:Nat->Nat} (h:Za5 wr B Xl k c) (i:Nat):wr.frozen? ⟨B,i,none⟩=false:=by
 obtain⟨_,_,_,f,hr,_⟩:=h;exact hr.frozen i
theorem Za5.there {B:Nat}{Xl:List Ob}{c:Nat->Nat} (h:Za5 wr B Xl k c) (i:Nat) (hi:i < Xl.length*7):∃ v,wr.cell? ⟨B,i,none⟩=some v:=by
 obtain⟨_,_,_,f,hr,_⟩:=h;exact⟨_,hr.cell hi⟩
theorem Za5.step {B:Nat}{Xl:List Ob}{c:Nat->Nat}{vv1:Value}{m1:Nat} (h:Za5 w1 B Xl k c) (hk:k < Xl.length) (hz:ZcN Xl[k]) (d:Nat) (hd0:c k<=d) (hd:d<=w1.heap.size) (r0:(c k)<=m1) (r1:m1<=d) (e0:Zae (c k) m1 w1 vv0 Xl[k].vs) (e1:Zae m1 d w1 vv1 Xl[k].hs) :
 Za5 (((((((w1.setCell ⟨B,k*7,none⟩ (.string Xl[k].kd)).setCell ⟨B,k*7+1,none⟩ (.string Xl[k].nm)).setCell ⟨B,k*7+2,none⟩ (.string Xl[k].tm)).setCell ⟨B,k*7+3,none⟩ (vv0)).setCell ⟨B,k*7+4,none⟩ (.bool Xl[k].en)).setCell ⟨B,k*7+5,none⟩ (vv1)).setCell ⟨B,k*7+6,none⟩ (.int .i64 Xl[k].ver)) B Xl (k+1) (fun j=>if j<=k then c j else d):=by
 have hle:=fun i (hi:i<=k)=>h.le (i:=0) (j:=i) Zz_ hi
 have hle2:=fun i (hi:i < k)=>h.le (i:=i+1) (j:=k) (by omega) Zl_
 obtain⟨g1,g2,g3,f,hr,hall⟩:=h;have hts:Zad B (B+1) w1 (((((((w1.setCell ⟨B,k*7,none⟩ (.string Xl[k].kd)).setCell ⟨B,k*7+1,none⟩ (.string Xl[k].nm)).setCell ⟨B,k*7+2,none⟩ (.string Xl[k].tm)).setCell ⟨B,k*7+3,none⟩ (vv0)).setCell ⟨B,k*7+4,none⟩ (.bool Xl[k].en)).setCell ⟨B,k*7+5,none⟩ (vv1)).setCell ⟨B,k*7+6,none⟩ (.int .i64 Xl[k].ver)):=((((((Zad.setB B _ _ _).trans (Zad.setB B _ _ _)).trans (Zad.setB B _ _ _)).trans (Zad.setB B _ _ _)).trans (Zad.setB B _ _ _)).trans (Zad.setB B _ _ _)).trans (Zad.setB B _ _ _);refine⟨by simpa using g1,fun i hi=>?_,?_,_,(((((((hr.set _ _).set _ _).set _ _).set _ _).set _ _).set _ _).set _ _),fun i hi hik=>?_⟩
 . dsimp only
   by_cases e:i=k
   . subst e;rw [if_pos Zl_,if_neg (by omega)];exact hd0
   . rw [if_pos (by omega),if_pos (by omega)];exact g2 i (by omega)
 . dsimp only;rw [if_neg (by omega)];exact Nat.le_trans hd hts.size
 by_cases e:i=k
 . subst e
   dsimp only;rw [if_pos Zl_,if_neg (by omega)];have hb0:=hle i Zl_;exact⟨hz,vv0,vv1,m1,r0,r1,by simp,by simp,by simp,by simp,by simp,by simp,by simp,e0.touch hts (by omega),e1.touch hts (by omega)⟩
 . dsimp only
   rw [if_pos (by omega),if_pos (by omega)];have hb0:=hle i (by omega);obtain⟨hz,vv0,vv1,m1,q0,q1,h0,h1,h2,h3,h4,h5,h6,l0,l1⟩:=hall i hi (by omega);refine⟨hz,vv0,vv1,m1,q0,q1,?_,?_,?_,?_,?_,?_,?_,l0.touch hts (by omega),l1.touch hts (by omega)⟩
   . rw [if_neg (by omega),if_neg (by omega),if_neg (by omega),if_neg (by omega),if_neg (by omega),if_neg (by omega),if_neg (by omega)];exact h0
   . rw [if_neg (by omega),if_neg (by omega),if_neg (by omega),if_neg (by omega),if_neg (by omega),if_neg (by omega),if_neg (by omega)];exact h1
   . rw [if_neg (by omega),if_neg (by omega),if_neg (by omega),if_neg (by omega),if_neg (by omega),if_neg (by omega),if_neg (by omega)];exact h2
   . rw [if_neg (by omega),if_neg (by omega),if_neg (by omega),if_neg (by omega),if_neg (by omega),if_neg (by omega),if_neg (by omega)];exact h3
   . rw [if_neg (by omega),if_neg (by omega),if_neg (by omega),if_neg (by omega),if_neg (by omega),if_neg (by omega),if_neg (by omega)];exact h4
   . rw [if_neg (by omega),if_neg (by omega),if_neg (by omega),if_neg (by omega),if_neg (by omega),if_neg (by omega),if_neg (by omega)];exact h5
   . rw [if_neg (by omega),if_neg (by omega),if_neg (by omega),if_neg (by omega),if_neg (by omega),if_neg (by omega),if_neg (by omega)];exact h6
theorem Za5.own {B:Nat}{Xl:List Ob}{c:Nat->Nat} (h:Za5 wr B Xl k c) (hk:k=Xl.length) (hne:Xl≠[]) (hm:Xl.length<=maxLen):Za6 B wr.heap.size wr (.slice (some ⟨B,0,none⟩) Xl.length Xl.length) Xl:=by
 subst hk;have hle:=fun i (hi:i<=Xl.length)=>h.le (i:=0) (j:=i) Zz_ hi
 have hle2:=fun i (hi:i < Xl.length)=>h.le (i:=i+1) (j:=Xl.length) (by omega) Zl_
 have hle3:=fun i j (hi:i < j) (hj:j < Xl.length)=>h.le (i:=i+1) (j:=j) (by omega) (by omega)
 obtain⟨g1,g2,g3,f,hr,hall⟩:=h;have h0:0 < Xl.length:=List.length_pos_iff.2 hne
 refine Or.inr ⟨B,0,Xl.length,fun i=>(c i,c (i+1)),fun i=>if h:i < Xl.length then Xl[i] else Xl[0],rfl,hne,hm,Nat.le_refl _,fun i hi=>by simp [hi],hr.lt,Nat.le_refl _,hr.lt,fun i hi=>⟨by have:=hle i (by omega);simp only [];omega,by have:=hle2 i hi;simp only [];omega,Or.inl (by have:=hle i (by omega);simp only [];omega)⟩,hle3,fun i=>hr.frozen i,fun i hi=>?_⟩;obtain⟨hz,vv0,vv1,m1,q0,q1,h0,h1,h2,h3,h4,h5,h6,l0,l1⟩:=hall i hi hi;simp only [hi,dif_pos];rw [Nat.zero_add];exact⟨hz,vv0,vv1,m1,q0,q1,⟨by rw [hr.cell (by omega),h0],by rw [hr.cell (by omega),h1],by rw [hr.cell (by omega),h2],by rw [hr.cell (by omega),h3],by rw [hr.cell (by omega),h4],by rw [hr.cell (by omega),h5],by rw [hr.cell (by omega),h6]⟩,l0,l1⟩
theorem Za5.new (w:World) (Xl:List Ob) (z:Array Value):Za5 (w.alloc (.cells (madeCells z (Xl.length*7)) 155)) w.heap.size Xl 0 (fun _=>w.heap.size+1):=by
 refine⟨Nat.lt_succ_self _,fun i hi=>by omega,by simp,fun i=>(madeCells z (Xl.length*7)).getD i default,?_,fun i _ h=>by omega⟩;have:=World.rowIs_alloc w (madeCells z (Xl.length*7)) 155 (fun i=>(madeCells z (Xl.length*7)).getD i default) (fun i hi=>by simp [Array.getD,hi])
 rwa [size_madeCells] at this
theorem ZnI (lo:Nat) (v:Value) (Xl:List Ob) (w:World) (hv:Zbu lo w v Xl) (hn:Zbp Xl) :
 Calls prog 44 #[v] w fun e w'=>∃ v',e=.returned v'/\Zw_ w w'/\Za6 w.heap.size w'.heap.size w' v' Xl:=by
 obtain⟨i0,hi,hz0,hz1,hz2⟩:=info_parts Tryz.info155;have HSM:=Zab hn.2;have hn1:=hn.1;clear hn
 by_cases hL:Xl=[]
 . subst hL
   obtain⟨a,cap,rfl⟩:=hv.form;clear hv
   have hmk:∀ u:World,(Instr.makeSlice 35 (.int .i64 0) (.int .i64 0)).run prog u=.ok (.slice (some ⟨u.heap.size,0,none⟩) 0 0) (u.alloc (.cells (madeCells (Value.cells (.agg #[.string ⟨#[]⟩,.string ⟨#[]⟩,.string ⟨#[]⟩,.slice none 0 0,.bool false,.slice none 0 0,.int .i64 0])) 0) 155)):=fun u=>by
    have h:=run_make (P:=prog) u 35 155 i0 _ underlying35 hi hz0 .i64 .i64 0 0 (by omega) (by omega) (by omega) (by omega)
    simpa [hz1] using h
   go_enter func44,ntmps44;go_wp2
   go_loop [4] (fun i=>i=.int .i64 0) (fun _=>0)
   case atStart=>rfl
   case round=>
    subst hrel;go_wp2;go_ret;exact⟨_,rfl,Zb_.alloc Zl_ _,Or.inl ⟨_,_,rfl,rfl⟩⟩
 . obtain⟨b,off,cap,rfl,hm,hbw,_,hc⟩:=hv.full hL
   clear hv;have HM:Hd (Xl.length<=maxLen):=hm;unfold maxLen at hm
   have hmk:∀ u:World,(Instr.makeSlice 35 (.int .i64 (Xl.length:Int)) (.int .i64 (Xl.length:Int))).run prog u=.ok (.slice (some ⟨u.heap.size,0,none⟩) Xl.length Xl.length) (u.alloc (.cells (madeCells (Value.cells (.agg #[.string ⟨#[]⟩,.string ⟨#[]⟩,.string ⟨#[]⟩,.slice none 0 0,.bool false,.slice none 0 0,.int .i64 0])) (Xl.length*7)) 155)):=fun u=>by
    have h:=run_make (P:=prog) u 35 155 i0 _ underlying35 hi hz0 .i64 .i64 Xl.length Xl.length (by omega) (by omega) (by rw [hz2];omega) (by omega);rw [hz1] at h
    simpa using h
   clear hi hz0 hz1 hz2;go_enter func44,ntmps44;go_wp2;clear hmk
   go_loopw [4] (fun i wr=>∃ (k:Nat) (c:Nat->Nat),i=.int .i64 k/\k<=Xl.length/\Zw_ w wr/\Za5 wr w.heap.size Xl k c) (fun i _=>Xl.length - (intOf i).toNat)
   case atStart=>exact⟨0,_,rfl,by omega,Zb_.alloc Zl_ _,Za5.new w Xl _⟩
   case round=>
    obtain⟨k,c,rfl,hk,hb,hf⟩:=hrel
    by_cases hlt:k < Xl.length
    . obtain⟨hs,vv0,vv1,hc,hv0,hv1⟩:=hc k hlt
      have HB:=Zab hb;have HF:=Zab hf;have HSZ:=Zab hs;obtain⟨x0,y0,rfl⟩:=hv0.at.form';obtain⟨x1,y1,rfl⟩:=hv1.at.form';obtain⟨c0,c1,c2,c3,c4,c5,c6⟩:=hc.below hb hbw;have HV0:=Zab (hv0.below hb);clear hv0;have HV1:=Zab (hv1.below hb);clear hv1;clear hc hb hf hs;go_wp2_with fail;refine (ZnF _ _ _ _ _ _ _ Xl[k].vs Xl[k].hs _ HV0.o.at HV1.o.at (HSM.o k hlt).1 (HSM.o k hlt).2).mono ?_;rintro e w1 ⟨z0,z1,rfl,hb1,mid,hmid,hmw,hO0,hO1⟩;obtain⟨s0,t0,rfl⟩:=hO0.at.form';obtain⟨s1,t1,rfl⟩:=hO1.at.form';have hf1:=HF.o.below hb1;have hB:Hd (Zw_ w w1):=HB.o.trans (hb1.mono HB.o.size);have HST:=Zab (hf1.step hlt HSZ.o w1.heap.size (Nat.le_trans HF.o.2.2.1 hb1.size) Zl_ (Nat.le_trans HF.o.2.2.1 hmid) hmw (hO0.wide HF.o.2.2.1 Zl_) hO1);have hfr:=hf1.free;obtain⟨o0,ho0⟩:=hf1.there (k*7) (by omega)
      obtain⟨o1,ho1⟩:=hf1.there (k*7+1) (by omega);obtain⟨o2,ho2⟩:=hf1.there (k*7+2) (by omega);obtain⟨o3,ho3⟩:=hf1.there (k*7+3) (by omega);obtain⟨o4,ho4⟩:=hf1.there (k*7+4) (by omega);obtain⟨o5,ho5⟩:=hf1.there (k*7+5) (by omega);obtain⟨o6,ho6⟩:=hf1.there (k*7+6) (by omega);clear hf1 hb1 HF HB c0 c1 c2 c3 c4 c5 c6;go_wp2;go_roundw
      . 
       exact⟨k+1,_,by go_num,by omega,(((((((hB.o.setCell Zl_ _).setCell Zl_ _).setCell Zl_ _).setCell Zl_ _).setCell Zl_ _).setCell Zl_ _).setCell Zl_ _),HST.o⟩
      . simp [intOf];omega
    . have e:k=Xl.length:=by omega
      go_wp2;go_ret;exact⟨_,rfl,hb,hf.own e hL HM.o⟩
theorem Zat.setLow {lo hi:Nat}{w:World}{v:Value} (h:Zat lo hi w v L) {p:Addr} (hp:p.block < lo) (u:Value):Zat lo hi (w.setCell p u) v L:=by
 rcases h with h | ⟨b,off,cap,h1,h2,h3,h4,h5,h7,h8,h9⟩
 . exact Or.inl h
 . exact Or.inr ⟨b,off,cap,h1,h2,h3,by simpa [World.setCell] using h4,fun i hi'=>by rw [Zas _ _ _ _ (by show b≠p.block;omega)];exact h5 i hi',h7,h8,fun i=>by rw [World.frozen?_setCell];exact h9 i⟩
theorem Zdj.own {B:Nat} (h:Zdj wr B L k) (hk:L.length<=k) (hne:L≠[]) (hm:L.length<=maxLen):Zat B wr.heap.size wr (.slice (some ⟨B,0,none⟩) L.length L.length) L:=by
 refine Or.inr ⟨B,0,L.length,rfl,hne,hm,World.rowIs.lt h,fun i hi=>?_,Nat.le_refl _,World.rowIs.lt h,fun i=>by rw [Nat.zero_add];exact World.rowIs.frozen h i⟩;rw [Nat.zero_add,World.rowIs.cell h hi];unfold Zqa;rw [if_pos (by omega),List.getD_eq_getElem?_getD,List.getElem?_eq_getElem hi];rfl
theorem Zlj (lo:Nat) (v:Value) (L:List Int) (w:World) (hv:Zau lo w v L) (hn:L.length<=1048576) :
 Calls prog 191 #[v] w fun e w'=>∃ v',e=.returned v'/\Zw_ w w'/\Zat w.heap.size w'.heap.size w' v' L:=by
 by_cases hL:L=[]
 . subst hL
   obtain⟨a,cap,rfl⟩:=hv.form;clear hv
   have hmk:∀ u:World,(Instr.makeSlice 60 (.int .i64 0) (.int .i64 0)).run prog u=.ok (.slice (some ⟨u.heap.size,0,none⟩) 0 0) (u.alloc (.cells (madeCells #[.int .i64 0] 0) 3)):=
    fun u=>run_make_row' 60 3 (.int .i64 0) 8 underlying60 Tryz.info3 rfl .i64 .i64 0 (by omega) (by omega) u
   go_enter func191,ntmps191;go_wp2
   go_loop [4] (fun i=>i=.int .i64 0) (fun _=>0)
   case atStart=>rfl
   case round=>
    subst hrel;go_wp2;go_ret;exact⟨_,rfl,Zb_.alloc Zl_ _,Or.inl ⟨_,_,rfl,rfl⟩⟩
 . obtain⟨b,off,cap,rfl,hm,hbw,hc⟩:=hv.full hL
   clear hv;have HM:Hd (L.length<=maxLen):=hm;unfold maxLen at hm
   have hmk:∀ u:World,(Instr.makeSlice 60 (.int .i64 (L.length:Int)) (.int .i64 (L.length:Int))).run prog u=.ok (.slice (some ⟨u.heap.size,0,none⟩) L.length L.length) (u.alloc (.cells (madeCells #[.int .i64 0] L.length) 3)):=
    fun u=>run_make_row' 60 3 (.int .i64 0) 8 underlying60 Tryz.info3 rfl .i64 .i64 L.length (by omega) (by omega) u
   go_enter func191,ntmps191;go_wp2;clear hmk
   go_loopw [4] (fun i wr=>∃ k:Nat,i=.int .i64 k/\k<=L.length/\Zw_ w wr/\Zdj wr w.heap.size L k) (fun i _=>L.length - (intOf i).toNat)
   case atStart=>exact⟨0,rfl,by omega,Zb_.alloc Zl_ _,World.rowIs_made w (.int .i64 0) L.length 3⟩
   case round=>
    obtain⟨k,rfl,hk,hb,hf⟩:=hrel
    by_cases hlt:k < L.length
    . have hck:wr.cell? ⟨b,off+k,none⟩=some (.int .i64 L[k]):=by rw [hb.cell (p:=⟨b,off+k,none⟩) hbw];exact hc k hlt
      have hold:wr.cell? ⟨w.heap.size,k,none⟩=some _:=World.rowIs.cell hf hlt;have hfz:wr.frozen? ⟨w.heap.size,k,none⟩=false:=World.rowIs.frozen hf k;go_wp2;go_roundw
      . exact⟨k+1,by go_num,by omega,hb.setCell Zl_ _,hf.step hlt⟩
      . simp [intOf];omega
    . go_wp2
      go_ret;exact⟨_,rfl,hb,Zdj.own hf (by omega) hL HM.o⟩
theorem ZlH (lo:Nat) (r:Ru) (vv:Value) (w:World) (hv:Zau lo w vv r.vb) (hn:r.vb.length<=1048576) :
 Calls prog 143 #[.agg #[vv,.string r.kd,.string r.tm,.string r.pf]] w
  fun e w'=>∃ v',e=.returned (.agg #[v',.string r.kd,.string r.tm,.string r.pf])/\Zw_ w w'/\Zat w.heap.size w'.heap.size w' v' r.vb:=by
 have HV:=Zab hv;obtain⟨a,cap,rfl⟩:=hv.form;clear hv;go_enter func143,ntmps143;go_wp2_with fail;refine (Zlj lo _ r.vb _ (HV.o.below ?_) hn).mono ?_
 . exact ((Zb_.alloc Zl_ _).alloc (by simp) _).alloc (by simp;omega) _
 rintro e w1 ⟨v',rfl,hb,hs⟩;obtain⟨a',cap',rfl⟩:=hs.form;have HS:Hd (Zat (w.heap.size+3) w1.heap.size w1 (.slice a' r.vb.length cap') r.vb):=hs.wide (by simp) Zl_;clear hs;have hz:w.heap.size+2 < w1.heap.size:=by have:=hb.size;simp at this;omega
 have hc:∀ b o,b < w.heap.size+3->w1.cell? ⟨b,o,none⟩=_:=fun b o h=>hb.cell (p:=⟨b,o,none⟩) (by simpa using h)
 have hf:∀ b o,b < w.heap.size+3->w1.frozen? ⟨b,o,none⟩=_:=fun b o h=>hb.frozen (p:=⟨b,o,none⟩) (by simpa using h)
 have HB:Hd (Zw_ w w1):=(((Zb_.alloc Zl_ _).alloc (by simp) _).alloc (by simp;omega) _).trans (hb.mono (by simp;omega));clear hb;go_wp2;refine bodyPost_ret (v:=.agg #[.slice a' r.vb.length cap',.string r.kd,.string r.tm,.string r.pf]) (by simp [results,results143,go_sem,hc]) rfl ⟨_,rfl,?_,?_⟩
 . repeat (refine Below.setCell ?_ (by dsimp;omega) _)
   exact HB.o
 . refine Zat.wide (lo:=w.heap.size+3) (hi:=w1.heap.size) ?_ (by omega) (by simp [World.setCell])
   repeat (refine Zat.setLow ?_ (by dsimp;omega) _)
   exact HS.o
theorem ZnX (lo:Nat) (x:Gr) (vv0:Value) (w:World) (hv0:Zau lo w vv0 x.vb) (hn:Zdy x) :
 Calls prog 104 #[.agg #[.int .i64 x.nu,.string x.tw,.string x.gb,vv0,.string x.kd,.string x.tm,.string x.pf]] w
  fun e w'=>∃ z0,e=.returned (.agg #[.int .i64 x.nu,.string x.tw,.string x.gb,z0,.string x.kd,.string x.tm,.string x.pf])/\Zw_ w w'/\Zat w.heap.size w'.heap.size w' z0 x.vb:=by
 have HV:=Zab hv0;obtain⟨a,cap,rfl⟩:=hv0.form;have hn':x.ru.vb.length<=1048576:=hn;clear hv0 hn;go_enter func104,ntmps104;go_wp2_with fail;refine (ZlH lo x.ru _ _ (HV.o.below ?_) hn').mono ?_
 . exact ((Zb_.alloc Zl_ _).alloc (by simp) _).alloc (by simp;omega) _
 rintro e w1 ⟨v',rfl,hb,hs⟩;obtain⟨a',cap',rfl⟩:=hs.form;have HS:Hd (Zat (w.heap.size+3) w1.heap.size w1 (.slice a' x.ru.vb.length cap') x.vb):=hs.wide (by simp) Zl_;clear hs;have hz:w.heap.size+2 < w1.heap.size:=by have:=hb.size;simp at this;omega
 have hc:∀ b o,b < w.heap.size+3->w1.cell? ⟨b,o,none⟩=_:=fun b o h=>hb.cell (p:=⟨b,o,none⟩) (by simpa using h)
 have hf:∀ b o,b < w.heap.size+3->w1.frozen? ⟨b,o,none⟩=_:=fun b o h=>hb.frozen (p:=⟨b,o,none⟩) (by simpa using h)
 have HB:Hd (Zw_ w w1):=(((Zb_.alloc Zl_ _).alloc (by simp) _).alloc (by simp;omega) _).trans (hb.mono (by simp;omega));clear hb;go_wp2;refine bodyPost_ret (v:=.agg #[.int .i64 x.nu,.string x.tw,.string x.gb,(.slice a' x.ru.vb.length cap'),.string x.kd,.string x.tm,.string x.pf]) (by simp [results,results104,go_sem,hc];exact⟨rfl,rfl,rfl⟩) rfl ⟨_,rfl,?_,?_⟩
 . repeat (refine Below.setCell ?_ (by dsimp;omega) _)
   exact HB.o
 . refine Zat.wide (lo:=w.heap.size+3) (hi:=w1.heap.size) ?_ (by omega) (by simp [World.setCell])
   repeat (refine Zat.setLow ?_ (by dsimp;omega) _)
   exact HS.o
def Za4 (wr:World) (B:Nat) (Xl:List Gr) (k:Nat) (c:Nat->Nat):Prop:=
 B < c 0/\(∀ i,i < k->c i<=c (i+1))/\c k<=wr.heap.size/\∃ f,wr.rowIs B 158 (Xl.length*7) f/\∀ i (h:i < Xl.length),i < k->ZdD Xl[i]/\∃ (vv0:Value),(c i)<=(c (i+1))/\f (i*7)=.int .i64 Xl[i].nu/\f (i*7+1)=.string Xl[i].tw/\f (i*7+2)=.string Xl[i].gb/\f (i*7+3)=vv0/\f (i*7+4)=.string Xl[i].kd/\f (i*7+5)=.string Xl[i].tm/\f (i*7+6)=.string Xl[i].pf/\Zat (c i) (c (i+1)) wr vv0 Xl[i].vb
theorem Za4.le {B:Nat}{Xl:List Gr}{c:Nat->Nat} (h:Za4 wr B Xl k c) {i:Nat}:∀ {j:Nat},i<=j->j<=k->c i<=c j:=by
 intro j
 induction j with
 | zero=>intro hij _;have:i=0:=by omega
         subst this;exact Nat.le_refl _
 | succ j ih=>
  intro hij hjn
  by_cases e:i=j+1
  . subst e;exact Nat.le_refl _
  . exact Nat.le_trans (ih (by omega) (by omega)) (h.2.1 j (by omega))
theorem Za4.below {B:Nat}{Xl:List Gr}{c:Nat->Nat} (h:Za4 wr B Xl k c) (hb:Below wr.heap.size wr w1):Za4 w1 B Xl k c:=by
 obtain⟨g1,g2,g3,f,hr,hall⟩:=h;refine⟨g1,g2,Nat.le_trans g3 hb.size,f,hr.of_block (hb.block B hr.lt),fun i hi hik=>?_⟩;obtain⟨hz,vv0,q0,h0,h1,h2,h3,h4,h5,h6,l0⟩:=hall i hi hik;exact⟨hz,vv0,q0,h0,h1,h2,h3,h4,h5,h6,l0.below hb⟩
theorem Za4.free {B:Nat}{Xl:List Gr}{c:Nat->Nat} (h:Za4 wr B Xl k c) (i:Nat):wr.frozen? ⟨B,i,none⟩=false:=by
 obtain⟨_,_,_,f,hr,_⟩:=h;exact hr.frozen i
theorem Za4.there {B:Nat}{Xl:List Gr}{c:Nat->Nat} (h:Za4 wr B Xl k c) (i:Nat) (hi:i < Xl.length*7):∃ v,wr.cell? ⟨B,i,none⟩=some v:=by
 obtain⟨_,_,_,f,hr,_⟩:=h;exact⟨_,hr.cell hi⟩
theorem Za4.step {B:Nat}{Xl:List Gr}{c:Nat->Nat} (h:Za4 w1 B Xl k c) (hk:k < Xl.length) (hz:ZdD Xl[k]) (d:Nat) (hd0:c k<=d) (hd:d<=w1.heap.size) (r0:(c k)<=d) (e0:Zat (c k) d w1 vv0 Xl[k].vb) :
 Za4 (((((((w1.setCell ⟨B,k*7,none⟩ (.int .i64 Xl[k].nu)).setCell ⟨B,k*7+1,none⟩ (.string Xl[k].tw)).setCell ⟨B,k*7+2,none⟩ (.string Xl[k].gb)).setCell ⟨B,k*7+3,none⟩ (vv0)).setCell ⟨B,k*7+4,none⟩ (.string Xl[k].kd)).setCell ⟨B,k*7+5,none⟩ (.string Xl[k].tm)).setCell ⟨B,k*7+6,none⟩ (.string Xl[k].pf)) B Xl (k+1) (fun j=>if j<=k then c j else d):=by
 have hle:=fun i (hi:i<=k)=>h.le (i:=0) (j:=i) Zz_ hi
 have hle2:=fun i (hi:i < k)=>h.le (i:=i+1) (j:=k) (by omega) Zl_
 obtain⟨g1,g2,g3,f,hr,hall⟩:=h;have hts:Zad B (B+1) w1 (((((((w1.setCell ⟨B,k*7,none⟩ (.int .i64 Xl[k].nu)).setCell ⟨B,k*7+1,none⟩ (.string Xl[k].tw)).setCell ⟨B,k*7+2,none⟩ (.string Xl[k].gb)).setCell ⟨B,k*7+3,none⟩ (vv0)).setCell ⟨B,k*7+4,none⟩ (.string Xl[k].kd)).setCell ⟨B,k*7+5,none⟩ (.string Xl[k].tm)).setCell ⟨B,k*7+6,none⟩ (.string Xl[k].pf)):=((((((Zad.setB B _ _ _).trans (Zad.setB B _ _ _)).trans (Zad.setB B _ _ _)).trans (Zad.setB B _ _ _)).trans (Zad.setB B _ _ _)).trans (Zad.setB B _ _ _)).trans (Zad.setB B _ _ _);refine⟨by simpa using g1,fun i hi=>?_,?_,_,(((((((hr.set _ _).set _ _).set _ _).set _ _).set _ _).set _ _).set _ _),fun i hi hik=>?_⟩
 . dsimp only
   by_cases e:i=k
   . subst e;rw [if_pos Zl_,if_neg (by omega)];exact hd0
   . rw [if_pos (by omega),if_pos (by omega)];exact g2 i (by omega)
 . dsimp only;rw [if_neg (by omega)];exact Nat.le_trans hd hts.size
 by_cases e:i=k
 . subst e
   dsimp only;rw [if_pos Zl_,if_neg (by omega)];have hb0:=hle i Zl_;exact⟨hz,vv0,r0,by simp,by simp,by simp,by simp,by simp,by simp,by simp,e0.touch hts (by omega)⟩
 . dsimp only
   rw [if_pos (by omega),if_pos (by omega)];have hb0:=hle i (by omega);obtain⟨hz,vv0,q0,h0,h1,h2,h3,h4,h5,h6,l0⟩:=hall i hi (by omega);refine⟨hz,vv0,q0,?_,?_,?_,?_,?_,?_,?_,l0.touch hts (by omega)⟩
   . rw [if_neg (by omega),if_neg (by omega),if_neg (by omega),if_neg (by omega),if_neg (by omega),if_neg (by omega),if_neg (by omega)];exact h0
   . rw [if_neg (by omega),if_neg (by omega),if_neg (by omega),if_neg (by omega),if_neg (by omega),if_neg (by omega),if_neg (by omega)];exact h1
   . rw [if_neg (by omega),if_neg (by omega),if_neg (by omega),if_neg (by omega),if_neg (by omega),if_neg (by omega),if_neg (by omega)];exact h2
   . rw [if_neg (by omega),if_neg (by omega),if_neg (by omega),if_neg (by omega),if_neg (by omega),if_neg (by omega),if_neg (by omega)];exact h3
   . rw [if_neg (by omega),if_neg (by omega),if_neg (by omega),if_neg (by omega),if_neg (by omega),if_neg (by omega),if_neg (by omega)];exact h4
   . rw [if_neg (by omega),if_neg (by omega),if_neg (by omega),if_neg (by omega),if_neg (by omega),if_neg (by omega),if_neg (by omega)];exact h5
   . rw [if_neg (by omega),if_neg (by omega),if_neg (by omega),if_neg (by omega),if_neg (by omega),if_neg (by omega),if_neg (by omega)];exact h6
theorem Za4.own {B:Nat}{Xl:List Gr}{c:Nat->Nat} (h:Za4 wr B Xl k c) (hk:k=Xl.length) (hne:Xl≠[]) (hm:Xl.length<=maxLen):Zbe B wr.heap.size wr (.slice (some ⟨B,0,none⟩) Xl.length Xl.length) Xl:=by
 subst hk;have hle:=fun i (hi:i<=Xl.length)=>h.le (i:=0) (j:=i) Zz_ hi
 have hle2:=fun i (hi:i < Xl.length)=>h.le (i:=i+1) (j:=Xl.length) (by omega) Zl_
 have hle3:=fun i j (hi:i < j) (hj:j < Xl.length)=>h.le (i:=i+1) (j:=j) (by omega) (by omega)
 obtain⟨g1,g2,g3,f,hr,hall⟩:=h;have h0:0 < Xl.length:=List.length_pos_iff.2 hne
 refine Or.inr ⟨B,0,Xl.length,fun i=>(c i,c (i+1)),fun i=>if h:i < Xl.length then Xl[i] else Xl[0],rfl,hne,hm,Nat.le_refl _,fun i hi=>by simp [hi],hr.lt,Nat.le_refl _,hr.lt,fun i hi=>⟨by have:=hle i (by omega);simp only [];omega,by have:=hle2 i hi;simp only [];omega,Or.inl (by have:=hle i (by omega);simp only [];omega)⟩,hle3,fun i=>hr.frozen i,fun i hi=>?_⟩;obtain⟨hz,vv0,q0,h0,h1,h2,h3,h4,h5,h6,l0⟩:=hall i hi hi;simp only [hi,dif_pos];rw [Nat.zero_add];exact⟨hz,vv0,q0,⟨by rw [hr.cell (by omega),h0],by rw [hr.cell (by omega),h1],by rw [hr.cell (by omega),h2],by rw [hr.cell (by omega),h3],by rw [hr.cell (by omega),h4],by rw [hr.cell (by omega),h5],by rw [hr.cell (by omega),h6]⟩,l0⟩
theorem Za4.new (w:World) (Xl:List Gr) (z:Array Value):Za4 (w.alloc (.cells (madeCells z (Xl.length*7)) 158)) w.heap.size Xl 0 (fun _=>w.heap.size+1):=by
 refine⟨Nat.lt_succ_self _,fun i hi=>by omega,by simp,fun i=>(madeCells z (Xl.length*7)).getD i default,?_,fun i _ h=>by omega⟩;have:=World.rowIs_alloc w (madeCells z (Xl.length*7)) 158 (fun i=>(madeCells z (Xl.length*7)).getD i default) (fun i hi=>by simp [Array.getD,hi])
 rwa [size_madeCells] at this
theorem ZnC (lo:Nat) (v:Value) (Xl:List Gr) (w:World) (hv:Zb4 lo w v Xl) (hn:Zdu Xl) :
 Calls prog 45 #[v] w fun e w'=>∃ v',e=.returned v'/\Zw_ w w'/\Zbe w.heap.size w'.heap.size w' v' Xl:=by
 obtain⟨i0,hi,hz0,hz1,hz2⟩:=info_parts Tryz.info158;have HSM:=Zab hn.2;have hn1:=hn.1;clear hn
 by_cases hL:Xl=[]
 . subst hL
   obtain⟨a,cap,rfl⟩:=hv.form;clear hv
   have hmk:∀ u:World,(Instr.makeSlice 36 (.int .i64 0) (.int .i64 0)).run prog u=.ok (.slice (some ⟨u.heap.size,0,none⟩) 0 0) (u.alloc (.cells (madeCells (Value.cells (.agg #[.int .i64 0,.string ⟨#[]⟩,.string ⟨#[]⟩,.slice none 0 0,.string ⟨#[]⟩,.string ⟨#[]⟩,.string ⟨#[]⟩])) 0) 158)):=fun u=>by
    have h:=run_make (P:=prog) u 36 158 i0 _ underlying36 hi hz0 .i64 .i64 0 0 (by omega) (by omega) (by omega) (by omega)
    simpa [hz1] using h
   go_enter func45,ntmps45;go_wp2
   go_loop [4] (fun i=>i=.int .i64 0) (fun _=>0)
   case atStart=>rfl
   case round=>
    subst hrel;go_wp2;go_ret;exact⟨_,rfl,Zb_.alloc Zl_ _,Or.inl ⟨_,_,rfl,rfl⟩⟩
 . obtain⟨b,off,cap,rfl,hm,hbw,_,hc⟩:=hv.full hL
   clear hv;have HM:Hd (Xl.length<=maxLen):=hm;unfold maxLen at hm
   have hmk:∀ u:World,(Instr.makeSlice 36 (.int .i64 (Xl.length:Int)) (.int .i64 (Xl.length:Int))).run prog u=.ok (.slice (some ⟨u.heap.size,0,none⟩) Xl.length Xl.length) (u.alloc (.cells (madeCells (Value.cells (.agg #[.int .i64 0,.string ⟨#[]⟩,.string ⟨#[]⟩,.slice none 0 0,.string ⟨#[]⟩,.string ⟨#[]⟩,.string ⟨#[]⟩])) (Xl.length*7)) 158)):=fun u=>by
    have h:=run_make (P:=prog) u 36 158 i0 _ underlying36 hi hz0 .i64 .i64 Xl.length Xl.length (by omega) (by omega) (by rw [hz2];omega) (by omega);rw [hz1] at h
    simpa using h
   clear hi hz0 hz1 hz2;go_enter func45,ntmps45;go_wp2;clear hmk
   go_loopw [4] (fun i wr=>∃ (k:Nat) (c:Nat->Nat),i=.int .i64 k/\k<=Xl.length/\Zw_ w wr/\Za4 wr w.heap.size Xl k c) (fun i _=>Xl.length - (intOf i).toNat)
   case atStart=>exact⟨0,_,rfl,by omega,Zb_.alloc Zl_ _,Za4.new w Xl _⟩
   case round=>
    obtain⟨k,c,rfl,hk,hb,hf⟩:=hrel
    by_cases hlt:k < Xl.length
    . obtain⟨hs,vv0,hc,hv0⟩:=hc k hlt
      have HB:=Zab hb;have HF:=Zab hf;have HSZ:=Zab hs;obtain⟨x0,y0,rfl⟩:=hv0.form;obtain⟨c0,c1,c2,c3,c4,c5,c6⟩:=hc.below hb hbw;have HV0:=Zab (hv0.below hb);clear hv0;clear hc hb hf hs;go_wp2_with fail;refine (ZnX 0 Xl[k] _ _ (HV0.o.mono Zz_) (HSM.o k hlt)).mono ?_;rintro e w1 ⟨z0,rfl,hb1,hO0⟩;obtain⟨s0,t0,rfl⟩:=hO0.form;have hf1:=HF.o.below hb1;have hB:Hd (Zw_ w w1):=HB.o.trans (hb1.mono HB.o.size);have HST:=Zab (hf1.step hlt HSZ.o w1.heap.size (Nat.le_trans HF.o.2.2.1 hb1.size) Zl_ (Nat.le_trans HF.o.2.2.1 hb1.size) (hO0.wide HF.o.2.2.1 Zl_));have hfr:=hf1.free;obtain⟨o0,ho0⟩:=hf1.there (k*7) (by omega);obtain⟨o1,ho1⟩:=hf1.there (k*7+1) (by omega);obtain⟨o2,ho2⟩:=hf1.there (k*7+2) (by omega);obtain⟨o3,ho3⟩:=hf1.there (k*7+3) (by omega);obtain⟨o4,ho4⟩:=hf1.there (k*7+4) (by omega)
      obtain⟨o5,ho5⟩:=hf1.there (k*7+5) (by omega);obtain⟨o6,ho6⟩:=hf1.there (k*7+6) (by omega);clear hf1 hb1 HF HB c0 c1 c2 c3 c4 c5 c6;go_wp2;go_roundw
      . 
       exact⟨k+1,_,by go_num,by omega,(((((((hB.o.setCell Zl_ _).setCell Zl_ _).setCell Zl_ _).setCell Zl_ _).setCell Zl_ _).setCell Zl_ _).setCell Zl_ _),HST.o⟩
      . simp [intOf];omega
    . have e:k=Xl.length:=by omega
      go_wp2;go_ret;exact⟨_,rfl,hb,hf.own e hL HM.o⟩
def Zbd (wr:World) (B:Nat) (Xl:List Tm) (k:Nat) (c:Nat->Nat):Prop:=
 B < c 0/\(∀ i,i < k->c i<=c (i+1))/\c k<=wr.heap.size/\∃ f,wr.rowIs B 168 (Xl.length*2) f/\∀ i (h:i < Xl.length),i < k->ZeZ Xl[i]/\f (i*2)=.string Xl[i].nm/\f (i*2+1)=.string Xl[i].ov
theorem Zbd.le {B:Nat}{Xl:List Tm}{c:Nat->Nat} (h:Zbd wr B Xl k c) {i:Nat}:∀ {j:Nat},i<=j->j<=k->c i<=c j:=by
 intro j
 induction j with
 | zero=>intro hij _;have:i=0:=by omega
         subst this;exact Nat.le_refl _
 | succ j ih=>
  intro hij hjn
  by_cases e:i=j+1
  . subst e;exact Nat.le_refl _
  . exact Nat.le_trans (ih (by omega) (by omega)) (h.2.1 j (by omega))
theorem Zbd.below {B:Nat}{Xl:List Tm}{c:Nat->Nat} (h:Zbd wr B Xl k c) (hb:Below wr.heap.size wr w1):Zbd w1 B Xl k c:=by
 obtain⟨g1,g2,g3,f,hr,hall⟩:=h;refine⟨g1,g2,Nat.le_trans g3 hb.size,f,hr.of_block (hb.block B hr.lt),fun i hi hik=>?_⟩;obtain⟨hz,h0,h1⟩:=hall i hi hik;exact⟨hz,h0,h1⟩
theorem Zbd.free {B:Nat}{Xl:List Tm}{c:Nat->Nat} (h:Zbd wr B Xl k c) (i:Nat):wr.frozen? ⟨B,i,none⟩=false:=by
 obtain⟨_,_,_,f,hr,_⟩:=h;exact hr.frozen i
theorem Zbd.there {B:Nat}{Xl:List Tm}{c:Nat->Nat} (h:Zbd wr B Xl k c) (i:Nat) (hi:i < Xl.length*2):∃ v,wr.cell? ⟨B,i,none⟩=some v:=by
 obtain⟨_,_,_,f,hr,_⟩:=h;exact⟨_,hr.cell hi⟩
theorem Zbd.step {B:Nat}{Xl:List Tm}{c:Nat->Nat} (h:Zbd w1 B Xl k c) (hk:k < Xl.length) (hz:ZeZ Xl[k]) (d:Nat) (hd0:c k<=d) (hd:d<=w1.heap.size) :
 Zbd ((w1.setCell ⟨B,k*2,none⟩ (.string Xl[k].nm)).setCell ⟨B,k*2+1,none⟩ (.string Xl[k].ov)) B Xl (k+1) (fun j=>if j<=k then c j else d):=by
 have hle:=fun i (hi:i<=k)=>h.le (i:=0) (j:=i) Zz_ hi
 have hle2:=fun i (hi:i < k)=>h.le (i:=i+1) (j:=k) (by omega) Zl_
 obtain⟨g1,g2,g3,f,hr,hall⟩:=h;have hts:Zad B (B+1) w1 ((w1.setCell ⟨B,k*2,none⟩ (.string Xl[k].nm)).setCell ⟨B,k*2+1,none⟩ (.string Xl[k].ov)):=(Zad.setB B _ _ _).trans (Zad.setB B _ _ _);refine⟨by simpa using g1,fun i hi=>?_,?_,_,((hr.set _ _).set _ _),fun i hi hik=>?_⟩
 . dsimp only
   by_cases e:i=k
   . subst e;rw [if_pos Zl_,if_neg (by omega)];exact hd0
   . rw [if_pos (by omega),if_pos (by omega)];exact g2 i (by omega)
 . dsimp only;rw [if_neg (by omega)];exact Nat.le_trans hd hts.size
 by_cases e:i=k
 . subst e
   have hb0:=hle i Zl_;exact⟨hz,by simp,by simp⟩
 . have hb0:=hle i (by omega)
   obtain⟨hz,h0,h1⟩:=hall i hi (by omega);refine⟨hz,?_,?_⟩
   . rw [if_neg (by omega),if_neg (by omega)];exact h0
   . rw [if_neg (by omega),if_neg (by omega)];exact h1
theorem Zbd.own {B:Nat}{Xl:List Tm}{c:Nat->Nat} (h:Zbd wr B Xl k c) (hk:k=Xl.length) (hne:Xl≠[]) (hm:Xl.length<=maxLen):Zcq B wr.heap.size wr (.slice (some ⟨B,0,none⟩) Xl.length Xl.length) Xl:=by
 subst hk;obtain⟨g1,g2,g3,f,hr,hall⟩:=h;have h0:0 < Xl.length:=List.length_pos_iff.2 hne
 refine Or.inr ⟨B,0,Xl.length,c,fun i=>if h:i < Xl.length then Xl[i] else Xl[0],rfl,hne,hm,Nat.le_refl _,fun i hi=>by simp [hi],hr.lt,Nat.le_refl _,g1,hr.lt,g2,g3,fun i=>hr.frozen i,fun i hi=>?_⟩;obtain⟨hz,h0,h1⟩:=hall i hi hi;simp only [hi,dif_pos];rw [Nat.zero_add];exact⟨hz,⟨by rw [hr.cell (by omega),h0],by rw [hr.cell (by omega),h1]⟩⟩
theorem Zbd.new (w:World) (Xl:List Tm) (z:Array Value):Zbd (w.alloc (.cells (madeCells z (Xl.length*2)) 168)) w.heap.size Xl 0 (fun _=>w.heap.size+1):=by
 refine⟨Nat.lt_succ_self _,fun i hi=>by omega,by simp,fun i=>(madeCells z (Xl.length*2)).getD i default,?_,fun i _ h=>by omega⟩;have:=World.rowIs_alloc w (madeCells z (Xl.length*2)) 168 (fun i=>(madeCells z (Xl.length*2)).getD i default) (fun i hi=>by simp [Array.getD,hi])
 rwa [size_madeCells] at this
theorem Znk (lo:Nat) (v:Value) (Xl:List Tm) (w:World) (hv:Zbn lo w v Xl) (hn:Zdr Xl) :
 Calls prog 43 #[v] w fun e w'=>∃ v',e=.returned v'/\Zw_ w w'/\Zcq w.heap.size w'.heap.size w' v' Xl:=by
 obtain⟨i0,hi,hz0,hz1,hz2⟩:=info_parts Tryz.info168;have HSM:=Zab hn.2;have hn1:=hn.1;clear hn
 by_cases hL:Xl=[]
 . subst hL
   obtain⟨a,cap,rfl⟩:=hv.form;clear hv
   have hmk:∀ u:World,(Instr.makeSlice 45 (.int .i64 0) (.int .i64 0)).run prog u=.ok (.slice (some ⟨u.heap.size,0,none⟩) 0 0) (u.alloc (.cells (madeCells (Value.cells (.agg #[.string ⟨#[]⟩,.string ⟨#[]⟩])) 0) 168)):=fun u=>by
    have h:=run_make (P:=prog) u 45 168 i0 _ underlying45 hi hz0 .i64 .i64 0 0 (by omega) (by omega) (by omega) (by omega)
    simpa [hz1] using h
   go_enter func43,ntmps43;go_wp2
   go_loop [4] (fun i=>i=.int .i64 0) (fun _=>0)
   case atStart=>rfl
   case round=>
    subst hrel;go_wp2;go_ret;exact⟨_,rfl,Zb_.alloc Zl_ _,Or.inl ⟨_,_,rfl,rfl⟩⟩
 . obtain⟨b,off,cap,rfl,hm,hbw,_,hc⟩:=hv.full hL
   clear hv;have HM:Hd (Xl.length<=maxLen):=hm;unfold maxLen at hm
   have hmk:∀ u:World,(Instr.makeSlice 45 (.int .i64 (Xl.length:Int)) (.int .i64 (Xl.length:Int))).run prog u=.ok (.slice (some ⟨u.heap.size,0,none⟩) Xl.length Xl.length) (u.alloc (.cells (madeCells (Value.cells (.agg #[.string ⟨#[]⟩,.string ⟨#[]⟩])) (Xl.length*2)) 168)):=fun u=>by
    have h:=run_make (P:=prog) u 45 168 i0 _ underlying45 hi hz0 .i64 .i64 Xl.length Xl.length (by omega) (by omega) (by rw [hz2];omega) (by omega);rw [hz1] at h
    simpa using h
   clear hi hz0 hz1 hz2;go_enter func43,ntmps43;go_wp2;clear hmk
   go_loopw [4] (fun i wr=>∃ (k:Nat) (c:Nat->Nat),i=.int .i64 k/\k<=Xl.length/\Zw_ w wr/\Zbd wr w.heap.size Xl k c) (fun i _=>Xl.length - (intOf i).toNat)
   case atStart=>exact⟨0,_,rfl,by omega,Zb_.alloc Zl_ _,Zbd.new w Xl _⟩
   case round=>
    obtain⟨k,c,rfl,hk,hb,hf⟩:=hrel
    by_cases hlt:k < Xl.length
    . obtain⟨hs,hc⟩:=hc k hlt
      have HB:=Zab hb;have HF:=Zab hf;have HSZ:=Zab hs;obtain⟨c0,c1⟩:=hc.below hb hbw;clear hc hb hf hs;go_wp2_with fail;refine (Zig _ _ _).mono ?_;rintro e w1 ⟨rfl,hb1⟩;have hf1:=HF.o.below hb1;have hB:Hd (Zw_ w w1):=HB.o.trans (hb1.mono HB.o.size);have HST:=Zab (hf1.step hlt HSZ.o w1.heap.size (Nat.le_trans HF.o.2.2.1 hb1.size) Zl_);have hfr:=hf1.free;obtain⟨o0,ho0⟩:=hf1.there (k*2) (by omega);obtain⟨o1,ho1⟩:=hf1.there (k*2+1) (by omega);clear hf1 hb1 HF HB c0 c1;go_wp2;go_roundw
      . 
       exact⟨k+1,_,by go_num,by omega,((hB.o.setCell Zl_ _).setCell Zl_ _),HST.o⟩
      . simp [intOf];omega
    . have e:k=Xl.length:=by omega
      go_wp2;go_ret;exact⟨_,rfl,hb,hf.own e hL HM.o⟩
end Go.Proofs.YtfohnageehneoaaGreat
