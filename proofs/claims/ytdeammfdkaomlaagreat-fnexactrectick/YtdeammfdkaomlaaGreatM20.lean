import Derived.Test.YtdeammfdkaomlaaGreatM07
import Derived.Test.YtdeammfdkaomlaaGreatM09
set_option maxHeartbeats 16000000
set_option maxRecDepth 100000
open Go.Proofs.Tryz
namespace Go.Proofs.YtdeammfdkaomlaaGreat
open Go.RowKit Go.Deep
section
variable {w w':World} {b off n:Nat} {v:Value} {Xl:List Rm}
structure Zcy (S:Nat->Prop) (w:World) (b off n:Nat) (c:Nat->Nat×Nat) (X:Nat->Rm):Prop where
 lt:b < w.heap.size
 sb:S b
 seg:∀ i,i < n->(∀ k,(c i).1<=k->k < (c i).2->S k)/\(b < (c i).1\/(c i).2<=b)
 ap:∀ i j,i < n->j < n->i≠j->(c i).2<=(c j).1\/(c j).2<=(c i).1
 frz:∀ i,w.frozen? ⟨b,i,none⟩=false
 row:∀ i,i < n->Zc4 b (off+i*8) (c i).1 (c i).2 w (X i)
theorem Zcy.near {S:Nat->Prop}{c:Nat->Nat×Nat}{X:Nat->Rm} (h:Zcy S w b off n c X) {j:Nat} (hj:j < n) (hn:Zb8 b (off+j*8) 8 (c j).1 (c j).2 w w') {x:Rm} (hx:Zc4 b (off+j*8) (c j).1 (c j).2 w' x):Zcy S w' b off n c (fun i=>if i=j then x else X i):=by
 refine⟨Zk_ h.lt hn.size,h.sb,h.seg,h.ap,fun i=>(hn.frz i).trans (h.frz i),fun i hi'=>?_⟩
 by_cases e:i=j
 . subst e;rw [if_pos rfl];exact hx
 . rw [if_neg e]
   refine (h.row i hi').near hn (by omega) ?_ (h.seg i hi').2;exact h.ap i j hi' hj e
theorem Zcy.to {S:Nat->Prop}{c:Nat->Nat×Nat}{X Y:Nat->Rm} (h:Zcy S w b off n c X) (e:∀ i,i < n->X i=Y i):Zcy S w b off n c Y:=
 ⟨h.lt,h.sb,h.seg,h.ap,h.frz,fun i hi'=>e i hi' ▸ h.row i hi'⟩
theorem Zcy.kept {K S:Nat->Prop}{c:Nat->Nat×Nat}{X:Nat->Rm} (h:Zcy S w b off n c X) (hk:Zag K w w') (ho:∀ k,S k->K k):Zcy S w' b off n c X:=by
 have hb:K b:=ho b h.sb;refine⟨Zk_ h.lt hk.size,h.sb,h.seg,h.ap,fun i=>(hk.frozen (p:=⟨b,i,none⟩) hb).trans (h.frz i),fun i hi'=>?_⟩;obtain⟨hs,vv0,q0,hc,l0⟩:=h.row i hi';refine⟨hs,vv0,q0,?_,l0.kept hk (fun k h1 h2=>ho k ((h.seg i hi').1 k h1 h2))⟩;obtain⟨h0,h1,h2,h3,h4,h5,h6,h7⟩:=hc;exact⟨(hk.cell (p:=⟨b,_,none⟩) hb).trans h0,(hk.cell (p:=⟨b,_,none⟩) hb).trans h1,(hk.cell (p:=⟨b,_,none⟩) hb).trans h2,(hk.cell (p:=⟨b,_,none⟩) hb).trans h3,(hk.cell (p:=⟨b,_,none⟩) hb).trans h4,(hk.cell (p:=⟨b,_,none⟩) hb).trans h5,(hk.cell (p:=⟨b,_,none⟩) hb).trans h6,(hk.cell (p:=⟨b,_,none⟩) hb).trans h7⟩
def Za9 (S:Nat->Prop) (w:World) (v:Value) (Xl:List Rm):Prop:=
 (∃ (a:Option Addr) (cap:Nat),v=.slice a 0 cap/\Xl=[])\/
 ∃ (b off cap:Nat) (c:Nat->Nat×Nat) (X:Nat->Rm),v=.slice (some ⟨b,off,none⟩) Xl.length cap/\Xl≠[]/\Xl.length<=maxLen/\Xl.length<=cap/\(∀ i (h:i < Xl.length),X i=Xl[i])/\Zcy S w b off Xl.length c X
theorem Za9.kept {K S:Nat->Prop} (h:Za9 S w v Xl) (hk:Zag K w w') (ho:∀ k,S k->K k):Za9 S w' v Xl:=by
 rcases h with h | ⟨b,off,cap,c,X,h1,h2,h3,h4,h5,h6⟩
 . exact Or.inl h
 . exact Or.inr ⟨b,off,cap,c,X,h1,h2,h3,h4,h5,h6.kept hk ho⟩
theorem Za9.form {S:Nat->Prop} (h:Za9 S w v Xl):∃ a cap,v=.slice a Xl.length cap:=by
 rcases h with ⟨a,cap,h,rfl⟩ | ⟨b,off,cap,c,X,h1,_⟩
 . exact⟨a,cap,h⟩
 . exact⟨_,cap,h1⟩
theorem Za9.at {S:Nat->Prop}{lo:Nat} (h:Za9 S w v Xl) (hS:∀ k,S k->lo<=k):Zbd lo w v Xl:=by
 rcases h with h | ⟨b,off,cap,c,X,h1,h2,h3,h4,h5,h6⟩
 . exact Or.inl h
 . refine Or.inr ⟨b,off,cap,h1,h2,h3,h6.lt,hS b h6.sb,h4,fun i hi'=>?_⟩
   have hr:=h6.row i hi';rw [h5 i hi'] at hr;obtain⟨hs,vv0,q0,hc,l0⟩:=hr;obtain⟨a0,k0,rfl⟩:=l0.form;exact⟨_,hc.rng,a0,k0,rfl,l0.at_ge (fun k h1 h2=>hS k ((h6.seg i hi').1 k h1 h2)),hs.s0⟩
theorem ZdJ (S:Nat->Prop) (v:Value) (Xl:List Rm) (k:Int) (w:World) (hv:Za9 S w v Xl) (hn:ZbJ Xl) (h0:0<=k) (hk:k<=1900000000000000000) :
 Calls prog 21 #[v,.int .i64 k] w fun e w'=>e=.returned (.int .i64 (k+(ZbX Xl Xl.length:Int)))/\Zaj S w w'/\Za9 S w' v (Zfs k Xl):=by
 rcases hv with ⟨a,cap,rfl,rfl⟩ | ⟨b,off,cap,c,X,rfl,hne,hm,hcap,hX,hR⟩
 . go_enter func21,ntmps21
   go_wp2
   go_loop [5,1] (fun i q=>i=.int .i64 0/\q=.int .i64 k) (fun _ _=>0)
   case atStart=>exact⟨rfl,rfl⟩
   case round=>
    obtain⟨rfl,rfl⟩:=hrel;go_wp2;go_ret;exact⟨by simp [ZbX],Zaj.refl _ _,Or.inl ⟨_,_,rfl,rfl⟩⟩
 . have hlen:=hn.1
   have HN:=Zaa hn;have HX:=Zaa hX;have HR0:=Zaa hR;have HM:=Zaa hm;have HC:=Zaa hcap;have HNE:=Zaa hne;clear hn hX hR hm hcap hne;go_enter func21,ntmps21;go_wp2
   go_loopw [5,1] (fun i q wr=>∃ j:Nat,i=.int .i64 j/\q=.int .i64 (k+(ZbX Xl j:Int))/\j<=Xl.length/\Zaj S w wr/\Zcy S wr b off Xl.length c (fun i=>if i < j then ZkB (k+(ZbX Xl i:Int)) (X i) else X i)) (fun i _ _=>Xl.length - (intOf i).toNat)
   case atStart=>exact⟨0,rfl,by simp [ZbX],by omega,Zaj.refl _ _,HR0.o.to (fun i _=>by simp)⟩
   case round=>
    obtain⟨j,rfl,rfl,hj,ht,hr⟩:=hrel;have HT:=Zaa ht;have HR:=Zaa hr;clear ht hr HR0
    by_cases hlt:j < Xl.length
    . have hpos:=ZdV HN.o (i:=j) (by omega)
      have HP:=Zaa (Zdv hlt)
      have hone:Zc4 b (off+j*8) (c j).1 (c j).2 wr (X j):=by
       have:=HR.o.row j hlt;simp only [Nat.lt_irrefl,if_false] at this;exact this
      have hxj:X j=Xl[j]:=HX.o j hlt;obtain⟨x,hx⟩:∃ x,x=X j:=⟨_,rfl⟩
      rw [<- hx] at hone;obtain⟨hs,vv0,q0,hc,l0⟩:=hone;have hs0:Zbn x.sl:=by rw [hx,hxj];exact HN.o.2 j hlt
      have hs0n:=hs0.1;have HXJ:=Zaa hxj;have HXX:=Zaa hx;obtain⟨K,hK⟩:∃ K,K=k+(ZbX Xl j:Int):=⟨_,rfl⟩
      rw [<- hK];have hK0:0<=K:=by omega
      have hK1:K<=1950000000000000000:=by omega
      have HK:=Zaa hK;have HBC:Hd (b < (c j).1\/(c j).2<=b):=(HR.o.seg j hlt).2;have HS:Hd (ZcS wr b (off+j*8) (c j).1 (c j).2 vv0 wr x):=⟨Zb8.refl _ _ _ _ _ _,HBC.o,q0,hc,l0,HR.o.frz,HR.o.lt⟩;clear hpos hxj hx hs hc l0 q0 hK;obtain⟨d0,d1,d2,d3,d4,d5,d6,d7⟩:=HS.o.cells;have fz:=HS.o.frz;go_wp2_with fail;clear d0 d1 d2 d3 d4 d5 d6 d7 fz;obtain⟨v1,hv1,HS1⟩:∃ v',v'=((((((wr.setCell ⟨b,off+j*8,none⟩ (.int .i64 (K))).setCell ⟨b,off+j*8+1,none⟩ (.int .i64 (K+1))).setCell ⟨b,off+j*8+2,none⟩ (.int .i64 (K+1+1))).setCell ⟨b,off+j*8+3,none⟩ (.int .i64 (K+1+1+1))).setCell ⟨b,off+j*8+4,none⟩ (.int .i64 (K+1+1+1+1))).setCell ⟨b,off+j*8+5,none⟩ (.int .i64 (K+1+1+1+1+1)))/\Hd (ZcS wr b (off+j*8) (c j).1 (c j).2 vv0 v' ⟨K,K+1,K+1+1,K+1+1+1,K+1+1+1+1,K+1+1+1+1+1,x.tx,x.sl⟩):=⟨_,rfl,((((((HS.o.s0 (K)).s1 (K+1)).s2 (K+1+1)).s3 (K+1+1+1)).s4 (K+1+1+1+1)).s5 (K+1+1+1+1+1))⟩
      rw [<- hv1];clear hv1 HS;refine (ZbE _ _ (by omega)).mono ?_;rintro e v2 ⟨rfl,hb⟩;have HS2:=Zaa (HS1.o.below hb);clear hb HS1;obtain⟨d0,d1,d2,d3,d4,d5,d6,d7⟩:=HS2.o.cells;have fz:=HS2.o.frz;go_wp2_with fail;clear d0 d1 d2 d3 d4 d5 d6 d7 fz;obtain⟨v3,hv3,HS3⟩:∃ v',v'=(v2.setCell ⟨b,off+j*8+6,none⟩ (.string (mtB (K+1+1+1+1+1+1))))/\Hd (ZcS wr b (off+j*8) (c j).1 (c j).2 vv0 v' ⟨K,K+1,K+1+1,K+1+1+1,K+1+1+1+1,K+1+1+1+1+1,mtB (K+1+1+1+1+1+1),x.sl⟩):=⟨_,rfl,(HS2.o.s6 (mtB (K+1+1+1+1+1+1)))⟩
      rw [<- hv3];clear hv3 HS2;refine (Zf3 _ _ _ x.sl _ _ HS3.o.l0 hs0 (by omega) (by omega)).mono ?_;rintro e v4 ⟨rfl,ht,hl⟩;have HS4:Hd (ZcS wr b (off+j*8) (c j).1 (c j).2 vv0 v4 ⟨K,K+1,K+1+1,K+1+1+1,K+1+1+1+1,K+1+1+1+1+1,mtB (K+1+1+1+1+1+1),Zcr (K+1+1+1+1+1+1+1) x.sl⟩):=HS3.o.m0' ht hl;clear ht hl HS3;obtain⟨d0,d1,d2,d3,d4,d5,d6,d7⟩:=HS4.o.cells;have fz:=HS4.o.frz;go_wp2;clear d0 d1 d2 d3 d4 d5 d6 d7 fz;have HW:Hd (ZkG Xl[j]=7+2*x.sl.length):=by unfold Hd;rw [<- HXJ.o,<- HXX.o];rfl
      have HQ:Hd ((K+1+1+1+1+1+1+1+2*(x.sl.length:Int):Int)=k+(ZbX Xl (j+1):Int)):=by
       have h1:=HP.o;have h2:=HW.o;have h3:=HK.o;unfold Hd
       omega
      have HRN:=Zaa (HR.o.near hlt HS4.o.near (show Zc4 b (off+j*8) (c j).1 (c j).2 v4 (ZkB K x) from ⟨⟨Zf6 _ (by omega)⟩,_,HS4.o.q0,HS4.o.cells,HS4.o.l0⟩));have HTN:=Zaa (HS4.o.near.toS HR.o.lt HR.o.sb (HR.o.seg j hlt).1);go_roundw
      . 
       refine⟨j+1,by go_num,congrArg (Value.int .i64) HQ.o,by omega,HT.o.trans HTN.o,HRN.o.to (fun i hi'=>?_)⟩
       by_cases e:i=j
       . subst e
         rw [if_pos rfl,if_pos (by omega),<- HK.o,HXX.o]
       . rw [if_neg e]
         by_cases e2:i < j
         . rw [if_pos e2,if_pos (by omega)]
         . rw [if_neg e2,if_neg (by omega)]
      . simp [intOf];omega
    . have e:j=Xl.length:=by omega
      subst e;go_wp2;go_ret;refine⟨rfl,HT.o,Or.inr ⟨b,off,cap,c,fun i=>ZkB (k+(ZbX Xl i:Int)) (X i),by rw [Zbi],?_,by rw [Zbi];exact HM.o,by rw [Zbi];exact HC.o,fun i h=>?_,?_⟩⟩
      . intro e
        have:=congrArg List.length e;rw [Zbi] at this;exact HNE.o (List.length_eq_zero_iff.1 (by simpa using this))
      . have h':i < Xl.length:=by rw [Zbi] at h;exact h
        rw [Zft _ _ _ _ h',<- HX.o i h']
      . rw [Zbi]
        exact HR.o.to (fun i hi'=>by rw [if_pos hi'])
theorem Za9.fullO {S:Nat->Prop}{a:Option Addr}{cap:Nat} (h:Za9 S w (.slice a n cap) Xl) (hL:0 < Xl.length) :
 ∃ b off,a=some ⟨b,off,none⟩/\b < w.heap.size/\∀ i (h:i < Xl.length),∃ l0 u0 vv0,Zco w b (off+i*8) Xl[i] vv0/\Zap l0 u0 w vv0 Xl[i].sl:=by
 rcases h with ⟨a',cap',h,rfl⟩ | ⟨b,off,cap',c,X,h1,h2,h3,h4,h5,h6⟩
 . simp at hL
 . injection h1 with e1 e2 e3
   refine⟨b,off,e1,h6.lt,fun i hi'=>?_⟩;have hr:=h6.row i hi';rw [h5 i hi'] at hr;obtain⟨hs,vv0,q0,hc,l0⟩:=hr;exact⟨_,_,vv0,hc,l0⟩
theorem ZcC (S:Nat->Prop) (v:Value) (Xl:List Rm) (k:Int) (w:World) (hv:Za9 S w v (Zfs k Xl)) (hn:ZbJ Xl) (h0:0<=k) (hk:k<=1900000000000000000) :
 Calls prog 23 #[v,.int .i64 k] w fun e w'=>e=.returned (.int .i64 (k+(ZbX Xl Xl.length:Int)))/\Zw_ w w':=by
 have HA:=Zaa hv;have HN:=Zaa hn;have hlen:=hn.1;obtain⟨a,cap,hv'⟩:=hv.form;rw [Zbi] at hv';subst hv';clear hv hn;go_enter func23,ntmps23;go_wp2
 go_loopw [5,1] (fun i q wr=>∃ j:Nat,i=.int .i64 j/\q=.int .i64 (k+(ZbX Xl j:Int))/\j<=Xl.length/\Zw_ w wr) (fun i _ _=>Xl.length - (intOf i).toNat)
 case atStart=>exact⟨0,rfl,by simp [ZbX],by omega,Below.refl _ _⟩
 case round=>
  obtain⟨j,rfl,rfl,hj,hb⟩:=hrel;have HB0:=Zaa hb;clear hb
  by_cases hlt:j < Xl.length
  . obtain⟨b,off,rfl,hbw,hc⟩:=HA.o.fullO (by rw [Zbi];omega)
    have hcj:=hc j (by rw [Zbi];omega);rw [Zft _ _ _ _ hlt] at hcj;have hpos:=ZdV HN.o (i:=j) (by omega);have HP:=Zaa (Zdv hlt);obtain⟨x,hx⟩:∃ x,x=Xl[j]:=⟨_,rfl⟩
    rw [<- hx] at hcj;have hs0:Zbn x.sl:=by rw [hx];exact HN.o.2 j hlt
    have hs0n:=hs0.1;have HXX:=Zaa hx;obtain⟨K,hK⟩:∃ K,K=k+(ZbX Xl j:Int):=⟨_,rfl⟩
    rw [<- hK] at hcj;rw [<- hK];have hK0:0<=K:=by omega
    have hK1:K<=1950000000000000000:=by omega
    have HK:=Zaa hK;obtain⟨l0,u0,vv0,hcl,g0⟩:=hcj;have HC:=Zaa hcl;have HL0:Hd (Zap l0 u0 w vv0 (Zcr (K+1+1+1+1+1+1+1) x.sl)):=g0;obtain⟨va0,vc0,rfl⟩:=HL0.o.form;rw [ZaP] at HC HL0;clear hc hcl hx hK hpos;have d0:wr.cell? ⟨b,off+j*8,none⟩=some (.int .i64 (K)):=(HC.o.below HB0.o hbw).c0;have d1:wr.cell? ⟨b,off+j*8+1,none⟩=some (.int .i64 (K+1)):=(HC.o.below HB0.o hbw).c1;have d2:wr.cell? ⟨b,off+j*8+2,none⟩=some (.int .i64 (K+1+1)):=(HC.o.below HB0.o hbw).c2;have d3:wr.cell? ⟨b,off+j*8+3,none⟩=some (.int .i64 (K+1+1+1)):=(HC.o.below HB0.o hbw).c3;have d4:wr.cell? ⟨b,off+j*8+4,none⟩=some (.int .i64 (K+1+1+1+1)):=(HC.o.below HB0.o hbw).c4;have d5:wr.cell? ⟨b,off+j*8+5,none⟩=some (.int .i64 (K+1+1+1+1+1)):=(HC.o.below HB0.o hbw).c5;have d6:wr.cell? ⟨b,off+j*8+6,none⟩=some (.string (mtB (K+1+1+1+1+1+1))):=(HC.o.below HB0.o hbw).c6
    have d7:wr.cell? ⟨b,off+j*8+7,none⟩=some (.slice va0 x.sl.length vc0):=(HC.o.below HB0.o hbw).c7;have x0:∀ X:In (Up wr),X.w.cell? ⟨b,off+j*8+6,none⟩=some (.string (mtB (K+1+1+1+1+1+1))):=fun X=>Up.cell X d6
    have xn:Nonempty (In (Up wr)):=⟨⟨wr,Below.refl _ _⟩⟩;have xs:=fun (X:In (Up wr))=>Zbc X
    go_wp2;clear d0 d1 d2 d3 d4 d5 d6 d7;refine Zaf (Up wr) (by kernel_rfl) (by kernel_rfl) (Zb_.drew) ?_
    repeat (go_big_quiet_step (first|(go_at_call 84;rename_i X;exact (ZbE _ _ (by omega)).mono fun _ _ h=>⟨h.1,Up.next X h.2⟩)))
    refine wpQuiet_nil ?_;intro w1 hw;obtain⟨Y,hY⟩:=hw;have HB1:Hd (Zw_ w w1):=HB0.o.trans (Below.mono (show Below wr.heap.size wr w1 by rw [hY];exact Y.h) HB0.o.size);clear hY Y x0 xs xn HB0;have d0:w1.cell? ⟨b,off+j*8,none⟩=some (.int .i64 (K)):=(HC.o.below HB1.o hbw).c0;have d1:w1.cell? ⟨b,off+j*8+1,none⟩=some (.int .i64 (K+1)):=(HC.o.below HB1.o hbw).c1;have d2:w1.cell? ⟨b,off+j*8+2,none⟩=some (.int .i64 (K+1+1)):=(HC.o.below HB1.o hbw).c2;have d3:w1.cell? ⟨b,off+j*8+3,none⟩=some (.int .i64 (K+1+1+1)):=(HC.o.below HB1.o hbw).c3;have d4:w1.cell? ⟨b,off+j*8+4,none⟩=some (.int .i64 (K+1+1+1+1)):=(HC.o.below HB1.o hbw).c4;have d5:w1.cell? ⟨b,off+j*8+5,none⟩=some (.int .i64 (K+1+1+1+1+1)):=(HC.o.below HB1.o hbw).c5;have d6:w1.cell? ⟨b,off+j*8+6,none⟩=some (.string (mtB (K+1+1+1+1+1+1))):=(HC.o.below HB1.o hbw).c6
    have d7:w1.cell? ⟨b,off+j*8+7,none⟩=some (.slice va0 x.sl.length vc0):=(HC.o.below HB1.o hbw).c7;go_wp2_with fail;clear d0 d1 d2 d3 d4 d5 d6 d7;refine (ZfY _ _ _ x.sl _ _ (HL0.o.below HB1.o) hs0 (by omega) (by omega)).mono ?_;rintro e w2 ⟨rfl,hb⟩;have HB2:Hd (Zw_ w w2):=HB1.o.trans (hb.mono HB1.o.size);clear hb HB1;have hg7:decide (K+1+1+1+1+1+1+1+2*(x.sl.length:Int) < 0)=false:=by simp;omega
    have d0:w2.cell? ⟨b,off+j*8,none⟩=some (.int .i64 (K)):=(HC.o.below HB2.o hbw).c0;have d1:w2.cell? ⟨b,off+j*8+1,none⟩=some (.int .i64 (K+1)):=(HC.o.below HB2.o hbw).c1;have d2:w2.cell? ⟨b,off+j*8+2,none⟩=some (.int .i64 (K+1+1)):=(HC.o.below HB2.o hbw).c2;have d3:w2.cell? ⟨b,off+j*8+3,none⟩=some (.int .i64 (K+1+1+1)):=(HC.o.below HB2.o hbw).c3;have d4:w2.cell? ⟨b,off+j*8+4,none⟩=some (.int .i64 (K+1+1+1+1)):=(HC.o.below HB2.o hbw).c4;have d5:w2.cell? ⟨b,off+j*8+5,none⟩=some (.int .i64 (K+1+1+1+1+1)):=(HC.o.below HB2.o hbw).c5;have d6:w2.cell? ⟨b,off+j*8+6,none⟩=some (.string (mtB (K+1+1+1+1+1+1))):=(HC.o.below HB2.o hbw).c6;have d7:w2.cell? ⟨b,off+j*8+7,none⟩=some (.slice va0 x.sl.length vc0):=(HC.o.below HB2.o hbw).c7;go_wp2;clear d0 d1 d2 d3 d4 d5 d6 d7;have HW:Hd (ZkG Xl[j]=7+2*x.sl.length):=by unfold Hd;rw [<- HXX.o];rfl
    have HQ:Hd ((K+1+1+1+1+1+1+1+2*(x.sl.length:Int):Int)=k+(ZbX Xl (j+1):Int)):=by
     have h1:=HP.o;have h2:=HW.o;have h3:=HK.o;unfold Hd
     omega
    go_roundw
    . exact⟨j+1,by go_num,congrArg (Value.int .i64) HQ.o,by omega,HB2.o⟩
    . simp [intOf];omega
  . have e:j=Xl.length:=by omega
    subst e;go_wp2;go_ret;exact⟨rfl,HB0.o⟩
end
variable {w w':World} {b off n:Nat} {v:Value} {Xl:List Ra}
structure Zcw (S:Nat->Prop) (w:World) (b off n:Nat) (c:Nat->Nat×Nat) (X:Nat->Ra):Prop where
 lt:b < w.heap.size
 sb:S b
 seg:∀ i,i < n->(∀ k,(c i).1<=k->k < (c i).2->S k)/\(b < (c i).1\/(c i).2<=b)
 ap:∀ i j,i < n->j < n->i≠j->(c i).2<=(c j).1\/(c j).2<=(c i).1
 frz:∀ i,w.frozen? ⟨b,i,none⟩=false
 row:∀ i,i < n->ZdZ b (off+i*2) (c i).1 (c i).2 w (X i)
theorem Zcw.near {S:Nat->Prop}{c:Nat->Nat×Nat}{X:Nat->Ra} (h:Zcw S w b off n c X) {j:Nat} (hj:j < n) (hn:Zb8 b (off+j*2) 2 (c j).1 (c j).2 w w') {x:Ra} (hx:ZdZ b (off+j*2) (c j).1 (c j).2 w' x):Zcw S w' b off n c (fun i=>if i=j then x else X i):=by
 refine⟨Zk_ h.lt hn.size,h.sb,h.seg,h.ap,fun i=>(hn.frz i).trans (h.frz i),fun i hi'=>?_⟩
 by_cases e:i=j
 . subst e;rw [if_pos rfl];exact hx
 . rw [if_neg e]
   refine (h.row i hi').near hn (by omega) ?_ (h.seg i hi').2;exact h.ap i j hi' hj e
theorem Zcw.to {S:Nat->Prop}{c:Nat->Nat×Nat}{X Y:Nat->Ra} (h:Zcw S w b off n c X) (e:∀ i,i < n->X i=Y i):Zcw S w b off n c Y:=
 ⟨h.lt,h.sb,h.seg,h.ap,h.frz,fun i hi'=>e i hi' ▸ h.row i hi'⟩
theorem Zcw.kept {K S:Nat->Prop}{c:Nat->Nat×Nat}{X:Nat->Ra} (h:Zcw S w b off n c X) (hk:Zag K w w') (ho:∀ k,S k->K k):Zcw S w' b off n c X:=by
 have hb:K b:=ho b h.sb;refine⟨Zk_ h.lt hk.size,h.sb,h.seg,h.ap,fun i=>(hk.frozen (p:=⟨b,i,none⟩) hb).trans (h.frz i),fun i hi'=>?_⟩;obtain⟨hs,vv0,q0,hc,l0⟩:=h.row i hi';refine⟨hs,vv0,q0,?_,l0.kept hk (fun k h1 h2=>ho k ((h.seg i hi').1 k h1 h2))⟩;obtain⟨h0,h1⟩:=hc;exact⟨(hk.cell (p:=⟨b,_,none⟩) hb).trans h0,(hk.cell (p:=⟨b,_,none⟩) hb).trans h1⟩
def Zbx (S:Nat->Prop) (w:World) (v:Value) (Xl:List Ra):Prop:=
 (∃ (a:Option Addr) (cap:Nat),v=.slice a 0 cap/\Xl=[])\/
 ∃ (b off cap:Nat) (c:Nat->Nat×Nat) (X:Nat->Ra),v=.slice (some ⟨b,off,none⟩) Xl.length cap/\Xl≠[]/\Xl.length<=maxLen/\Xl.length<=cap/\(∀ i (h:i < Xl.length),X i=Xl[i])/\Zcw S w b off Xl.length c X
theorem Zbx.kept {K S:Nat->Prop} (h:Zbx S w v Xl) (hk:Zag K w w') (ho:∀ k,S k->K k):Zbx S w' v Xl:=by
 rcases h with h | ⟨b,off,cap,c,X,h1,h2,h3,h4,h5,h6⟩
 . exact Or.inl h
 . exact Or.inr ⟨b,off,cap,c,X,h1,h2,h3,h4,h5,h6.kept hk ho⟩
theorem Zbx.form {S:Nat->Prop} (h:Zbx S w v Xl):∃ a cap,v=.slice a Xl.length cap:=by
 rcases h with ⟨a,cap,h,rfl⟩ | ⟨b,off,cap,c,X,h1,_⟩
 . exact⟨a,cap,h⟩
 . exact⟨_,cap,h1⟩
theorem Zbx.at {S:Nat->Prop}{lo:Nat} (h:Zbx S w v Xl) (hS:∀ k,S k->lo<=k):ZbA lo w v Xl:=by
 rcases h with h | ⟨b,off,cap,c,X,h1,h2,h3,h4,h5,h6⟩
 . exact Or.inl h
 . refine Or.inr ⟨b,off,cap,h1,h2,h3,h6.lt,hS b h6.sb,h4,fun i hi'=>?_⟩
   have hr:=h6.row i hi';rw [h5 i hi'] at hr;obtain⟨hs,vv0,q0,hc,l0⟩:=hr;obtain⟨a0,k0,rfl⟩:=l0.form;exact⟨_,hc.rng,a0,k0,rfl,⟨l0.at_ge (fun k h1 h2=>hS k ((h6.seg i hi').1 k h1 h2))⟩⟩
theorem Zfo (S:Nat->Prop) (v:Value) (Xl:List Ra) (k:Int) (w:World) (hv:Zbx S w v Xl) (hn:Zb9 Xl) (h0:0<=k) (hk:k<=2000000000000000000) :
 Calls prog 83 #[v,.int .i64 k] w fun e w'=>e=.returned (.int .i64 (k+(Zb0 Xl Xl.length:Int)))/\Zaj S w w'/\Zbx S w' v (Zfq k Xl):=by
 rcases hv with ⟨a,cap,rfl,rfl⟩ | ⟨b,off,cap,c,X,rfl,hne,hm,hcap,hX,hR⟩
 . go_enter func83,ntmps83
   go_wp2
   go_loop [5,1] (fun i q=>i=.int .i64 0/\q=.int .i64 k) (fun _ _=>0)
   case atStart=>exact⟨rfl,rfl⟩
   case round=>
    obtain⟨rfl,rfl⟩:=hrel;go_wp2;go_ret;exact⟨by simp [Zb0],Zaj.refl _ _,Or.inl ⟨_,_,rfl,rfl⟩⟩
 . have hlen:=hn.1
   have HN:=Zaa hn;have HX:=Zaa hX;have HR0:=Zaa hR;have HM:=Zaa hm;have HC:=Zaa hcap;have HNE:=Zaa hne;clear hn hX hR hm hcap hne;go_enter func83,ntmps83;go_wp2
   go_loopw [5,1] (fun i q wr=>∃ j:Nat,i=.int .i64 j/\q=.int .i64 (k+(Zb0 Xl j:Int))/\j<=Xl.length/\Zaj S w wr/\Zcw S wr b off Xl.length c (fun i=>if i < j then ZkA (k+(Zb0 Xl i:Int)) (X i) else X i)) (fun i _ _=>Xl.length - (intOf i).toNat)
   case atStart=>exact⟨0,rfl,by simp [Zb0],by omega,Zaj.refl _ _,HR0.o.to (fun i _=>by simp)⟩
   case round=>
    obtain⟨j,rfl,rfl,hj,ht,hr⟩:=hrel;have HT:=Zaa ht;have HR:=Zaa hr;clear ht hr HR0
    by_cases hlt:j < Xl.length
    . have hpos:=Ze4 HN.o (i:=j) (by omega)
      have HP:=Zaa (Zdu hlt)
      have hone:ZdZ b (off+j*2) (c j).1 (c j).2 wr (X j):=by
       have:=HR.o.row j hlt;simp only [Nat.lt_irrefl,if_false] at this;exact this
      have hxj:X j=Xl[j]:=HX.o j hlt;obtain⟨x,hx⟩:∃ x,x=X j:=⟨_,rfl⟩
      rw [<- hx] at hone;obtain⟨hs,vv0,q0,hc,l0⟩:=hone;have hs0:x.fr.length<=1048576:=by have:=HN.o.2 j hlt;rw [hx,hxj];unfold Zcn ZaS at this;omega
      have HXJ:=Zaa hxj;have HXX:=Zaa hx;obtain⟨K,hK⟩:∃ K,K=k+(Zb0 Xl j:Int):=⟨_,rfl⟩
      rw [<- hK];have hK0:0<=K:=by omega
      have hK1:K<=2500000000000000000:=by omega
      have HK:=Zaa hK;have HBC:Hd (b < (c j).1\/(c j).2<=b):=(HR.o.seg j hlt).2;have HS:Hd (Zi4 wr b (off+j*2) (c j).1 (c j).2 vv0 wr x):=⟨Zb8.refl _ _ _ _ _ _,HBC.o,q0,hc,l0,HR.o.frz,HR.o.lt⟩;clear hpos hxj hx hs hc l0 q0 hK;obtain⟨d0,d1⟩:=HS.o.cells;have fz:=HS.o.frz;go_wp2_with fail;clear d0 d1 fz;obtain⟨v1,hv1,HS1⟩:∃ v',v'=(wr.setCell ⟨b,off+j*2,none⟩ (.int .i64 (K)))/\Hd (Zi4 wr b (off+j*2) (c j).1 (c j).2 vv0 v' ⟨K,x.fr⟩):=⟨_,rfl,(HS.o.s0 (K))⟩
      rw [<- hv1];clear hv1 HS;refine (Zeh _ _ _ x.fr _ _ HS1.o.l0 (by omega) (by omega)).mono ?_;rintro e v2 ⟨rfl,ht,hl⟩;have HS2:Hd (Zi4 wr b (off+j*2) (c j).1 (c j).2 vv0 v2 ⟨K,Zct (K+1) x.fr.length⟩):=HS1.o.m0' ht hl;clear ht hl HS1;obtain⟨d0,d1⟩:=HS2.o.cells;have fz:=HS2.o.frz;go_wp2;clear d0 d1 fz;have HW:Hd (ZkF Xl[j]=1+x.fr.length):=by unfold Hd;rw [<- HXJ.o,<- HXX.o];rfl
      have HQ:Hd ((K+1+(x.fr.length:Int):Int)=k+(Zb0 Xl (j+1):Int)):=by
       have h1:=HP.o;have h2:=HW.o;have h3:=HK.o;unfold Hd
       omega
      have HRN:=Zaa (HR.o.near hlt HS2.o.near (show ZdZ b (off+j*2) (c j).1 (c j).2 v2 (ZkA K x) from ⟨rfl,_,HS2.o.q0,HS2.o.cells,HS2.o.l0⟩));have HTN:=Zaa (HS2.o.near.toS HR.o.lt HR.o.sb (HR.o.seg j hlt).1);go_roundw
      . 
       refine⟨j+1,by go_num,congrArg (Value.int .i64) HQ.o,by omega,HT.o.trans HTN.o,HRN.o.to (fun i hi'=>?_)⟩
       by_cases e:i=j
       . subst e
         rw [if_pos rfl,if_pos (by omega),<- HK.o,HXX.o]
       . rw [if_neg e]
         by_cases e2:i < j
         . rw [if_pos e2,if_pos (by omega)]
         . rw [if_neg e2,if_neg (by omega)]
      . simp [intOf];omega
    . have e:j=Xl.length:=by omega
      subst e;go_wp2;go_ret;refine⟨rfl,HT.o,Or.inr ⟨b,off,cap,c,fun i=>ZkA (k+(Zb0 Xl i:Int)) (X i),by rw [Zbh],?_,by rw [Zbh];exact HM.o,by rw [Zbh];exact HC.o,fun i h=>?_,?_⟩⟩
      . intro e
        have:=congrArg List.length e;rw [Zbh] at this;exact HNE.o (List.length_eq_zero_iff.1 (by simpa using this))
      . have h':i < Xl.length:=by rw [Zbh] at h;exact h
        rw [Zfr _ _ _ _ h',<- HX.o i h']
      . rw [Zbh]
        exact HR.o.to (fun i hi'=>by rw [if_pos hi'])
theorem Zbx.fullO {S:Nat->Prop}{a:Option Addr}{cap:Nat} (h:Zbx S w (.slice a n cap) Xl) (hL:0 < Xl.length) :
 ∃ b off,a=some ⟨b,off,none⟩/\b < w.heap.size/\∀ i (h:i < Xl.length),∃ vv0,Zcm w b (off+i*2) Xl[i] vv0/\ZaR 0 w vv0 Xl[i].fr:=by
 rcases h with ⟨a',cap',h,rfl⟩ | ⟨b,off,cap',c,X,h1,h2,h3,h4,h5,h6⟩
 . simp at hL
 . injection h1 with e1 e2 e3
   refine⟨b,off,e1,h6.lt,fun i hi'=>?_⟩;have hr:=h6.row i hi';rw [h5 i hi'] at hr;obtain⟨hs,vv0,q0,hc,l0⟩:=hr;exact⟨vv0,hc,l0.at_ge (fun k _ _=>Nat.zero_le k)⟩
theorem Zfj (S:Nat->Prop) (v:Value) (Xl:List Ra) (k:Int) (w:World) (hv:Zbx S w v (Zfq k Xl)) (hn:Zb9 Xl) (h0:0<=k) (hk:k<=2000000000000000000) :
 Calls prog 89 #[v,.int .i64 k] w fun e w'=>e=.returned (.int .i64 (k+(Zb0 Xl Xl.length:Int)))/\Zw_ w w':=by
 have HA:=Zaa hv;have HN:=Zaa hn;have hlen:=hn.1;obtain⟨a,cap,hv'⟩:=hv.form;rw [Zbh] at hv';subst hv';clear hv hn;go_enter func89,ntmps89;go_wp2
 go_loopw [5,1] (fun i q wr=>∃ j:Nat,i=.int .i64 j/\q=.int .i64 (k+(Zb0 Xl j:Int))/\j<=Xl.length/\Zw_ w wr) (fun i _ _=>Xl.length - (intOf i).toNat)
 case atStart=>exact⟨0,rfl,by simp [Zb0],by omega,Below.refl _ _⟩
 case round=>
  obtain⟨j,rfl,rfl,hj,hb⟩:=hrel;have HB0:=Zaa hb;clear hb
  by_cases hlt:j < Xl.length
  . obtain⟨b,off,rfl,hbw,hc⟩:=HA.o.fullO (by rw [Zbh];omega)
    have hcj:=hc j (by rw [Zbh];omega);rw [Zfr _ _ _ _ hlt] at hcj;have hpos:=Ze4 HN.o (i:=j) (by omega);have HP:=Zaa (Zdu hlt);obtain⟨x,hx⟩:∃ x,x=Xl[j]:=⟨_,rfl⟩
    rw [<- hx] at hcj;have hs0:x.fr.length<=1048576:=by have:=HN.o.2 j hlt;rw [hx];unfold Zcn ZaS at this;omega
    have HXX:=Zaa hx;obtain⟨K,hK⟩:∃ K,K=k+(Zb0 Xl j:Int):=⟨_,rfl⟩
    rw [<- hK] at hcj;rw [<- hK];have hK0:0<=K:=by omega
    have hK1:K<=2500000000000000000:=by omega
    have HK:=Zaa hK;obtain⟨vv0,hcl,g0⟩:=hcj;have HC:=Zaa hcl;have HL0:Hd (ZaR 0 w vv0 (Zct (K+1) x.fr.length)):=g0;obtain⟨va0,vc0,rfl⟩:=HL0.o.form;rw [ZaZ] at HC HL0;clear hc hcl hx hK hpos;have d0:wr.cell? ⟨b,off+j*2,none⟩=some (.int .i64 (K)):=(HC.o.below HB0.o hbw).c0;have d1:wr.cell? ⟨b,off+j*2+1,none⟩=some (.slice va0 x.fr.length vc0):=(HC.o.below HB0.o hbw).c1;go_wp2_with fail;clear d0 d1;refine (Zea 0 _ x.fr.length _ _ (HL0.o.below HB0.o) (by omega) (by omega)).mono ?_;rintro e w1 ⟨rfl,hb⟩;have HB1:Hd (Zw_ w w1):=HB0.o.trans (hb.mono HB0.o.size);clear hb HB0;have hg1:decide (K+1+(x.fr.length:Int) < 0)=false:=by simp;omega
    have d0:w1.cell? ⟨b,off+j*2,none⟩=some (.int .i64 (K)):=(HC.o.below HB1.o hbw).c0;have d1:w1.cell? ⟨b,off+j*2+1,none⟩=some (.slice va0 x.fr.length vc0):=(HC.o.below HB1.o hbw).c1;go_wp2;clear d0 d1;have HW:Hd (ZkF Xl[j]=1+x.fr.length):=by unfold Hd;rw [<- HXX.o];rfl
    have HQ:Hd ((K+1+(x.fr.length:Int):Int)=k+(Zb0 Xl (j+1):Int)):=by
     have h1:=HP.o;have h2:=HW.o;have h3:=HK.o;unfold Hd
     omega
    go_roundw
    . exact⟨j+1,by go_num,congrArg (Value.int .i64) HQ.o,by omega,HB1.o⟩
    . simp [intOf];omega
  . have e:j=Xl.length:=by omega
    subst e;go_wp2;go_ret;exact⟨rfl,HB0.o⟩
end Go.Proofs.YtdeammfdkaomlaaGreat
