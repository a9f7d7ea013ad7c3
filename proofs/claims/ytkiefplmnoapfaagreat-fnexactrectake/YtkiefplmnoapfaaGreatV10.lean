import Derived.Test.YtkiefplmnoapfaaGreatV08
set_option maxHeartbeats 16000000
set_option maxRecDepth 100000
open Go.Proofs.Tryz
namespace Go.Proofs.YtkiefplmnoapfaaGreat
open Go.RowKit Go.Deep
theorem ZfS (lo:Nat) (cs:List Value) (U:Rm) (w:World) (h:RmC lo w cs U) (hn:Zcz U) :
 Calls prog 9 #[.agg cs.toArray] w
  fun e w'=>∃ b0 m0,e=.returned (.agg (rmL U b0 m0).toArray)/\Zw_ w w'/\Zap w.heap.size w'.heap.size w' (.slice b0 U.sl.length m0) U.sl:=by
 obtain⟨a0,k0,rfl,h⟩:=h
 show Calls prog 9 #[.agg #[.int .i64 U.kd,.int .i64 U.fr,.int .i64 U.tt,.int .i64 U.ba,.int .i64 U.ix,.int .i64 U.kn,.string U.tx,.slice a0 U.sl.length k0]] w _
 have HL:=Zaa h;have hn0:=hn;clear h;go_enter func9,ntmps9;go_wp2_with fail
 obtain⟨wz,hwz,FX,FR,FO,HB⟩:∃ wz,wz=((w.alloc (.cells #[.int .i64 U.kd,.int .i64 U.fr,.int .i64 U.tt,.int .i64 U.ba,.int .i64 U.ix,.int .i64 U.kn,.string U.tx,.slice a0 U.sl.length k0] 32)).alloc (.cells #[.int .i64 0,.int .i64 0,.int .i64 0,.int .i64 0,.int .i64 0,.int .i64 0,.string ⟨#[]⟩,.slice none 0 0] 45)).alloc (.cells #[.int .i64 U.kd,.int .i64 U.fr,.int .i64 U.tt,.int .i64 U.ba,.int .i64 U.ix,.int .i64 U.kn,.string U.tx,.slice none 0 0] 45)/\
  Hd (Box wz w.heap.size #[.int .i64 U.kd,.int .i64 U.fr,.int .i64 U.tt,.int .i64 U.ba,.int .i64 U.ix,.int .i64 U.kn,.string U.tx,.slice a0 U.sl.length k0])/\Hd (Box wz (w.heap.size+1) #[.int .i64 0,.int .i64 0,.int .i64 0,.int .i64 0,.int .i64 0,.int .i64 0,.string ⟨#[]⟩,.slice none 0 0])/\Hd (Box wz (w.heap.size+1+1) #[.int .i64 U.kd,.int .i64 U.fr,.int .i64 U.tt,.int .i64 U.ba,.int .i64 U.ix,.int .i64 U.kn,.string U.tx,.slice none 0 0])/\Hd (Zw_ w wz):=
  ⟨_,rfl,((Box.new w _ _ _ rfl).on (Zab _ _)).on (Zab _ _),(Box.new _ _ _ _ (by simp)).on (Zab _ _),Box.new _ _ _ _ (by simp),((Zab _ _).trans ((Zab _ _).mono (by simp))).trans ((Zab _ _).mono (by simp;omega))⟩
 rw [<- hwz];clear hwz;generalize wz=v0 at*;have hz0:w.heap.size+3<=v0.heap.size:=by have:=FO.o.lt;omega
 refine (ZdJ lo _ U.sl _ ((HL.o.below HB.o).l0) hn0).mono ?_;rintro e x0 ⟨u,rfl,hb,hs⟩;obtain⟨b0,m0,rfl⟩:=hs.form;have N0:=Zaa (hs.wide hz0 Zl_);replace FX:=Zaa (FX.o.on hb);replace FR:=Zaa (FR.o.on hb);replace FO:=Zaa (FO.o.on hb);replace HB:=Zaa (bt HB.o hb);clear hb hs hz0;have g0:=FO.o.cell;have g1:=FO.o.free;have g2:=FR.o.cell;have g3:=FR.o.free;have g4:=FX.o.cell;go_wp2;refine bodyPost_ret (v:=.agg #[.int .i64 U.kd,.int .i64 U.fr,.int .i64 U.tt,.int .i64 U.ba,.int .i64 U.ix,.int .i64 U.kn,.string U.tx,.slice b0 U.sl.length m0]) (by simp [results,results9,go_sem,g2]) rfl ⟨b0,m0,rfl,?_,?_⟩
 . repeat (refine Below.setCell ?_ (by simp only [];omega) _)
   exact HB.o
 . refine Zap.wide (lo:=w.heap.size+3) (hi:=x0.heap.size) ?_ (by omega) (by simp [World.setCell])
   repeat (refine Zap.set ?_ (by simp only [];omega) _)
   exact N0.o
theorem Zde (lo hi:Nat) (v:Value) (Xl:List Rs) (k:Int) (w:World) (hv:Zap lo hi w v Xl) (hn:Zbe Xl) (h0:0<=k) (hk:k<=2000000000000000000) :
 Calls prog 50 #[v,.int .i64 k] w fun e w'=>e=.returned (.int .i64 (k+2*(Xl.length:Int)))/\Zad lo hi w w'/\Zap lo hi w' v (Zct k Xl):=by
 have:=ZcD lo hi v Xl k w hv hn h0 hk;rw [ZeK] at this
 simpa using this
theorem Zgd (lo hi:Nat) (v:Value) (Xl:List Rm) (k:Int) (w:World) (hv:Zbs lo hi w v Xl) (hn:ZbQ Xl) (h0:0<=k) (hk:k<=1900000000000000000) :
 Calls prog 19 #[v,.int .i64 k] w fun e w'=>e=.returned (.int .i64 (k+(ZbC Xl Xl.length:Int)))/\Zad lo hi w w'/\Zbs lo hi w' v (Ze5 k Xl):=by
 rcases hv with ⟨a,cap,rfl,rfl⟩ | ⟨b,off,cap,c,X,rfl,hne,hm,hcap,hX,hR⟩
 . go_enter func19,ntmps19
   go_wp2
   go_loop [5,1] (fun i q=>i=.int .i64 0/\q=.int .i64 k) (fun _ _=>0)
   case atStart=>exact⟨rfl,rfl⟩
   case round=>
    obtain⟨rfl,rfl⟩:=hrel;go_wp2;go_ret;exact⟨by simp [ZbC],Zad.refl _ _ _,Or.inl ⟨_,_,rfl,rfl⟩⟩
 . have hlen:=hn.1
   have HN:=Zaa hn;have HX:=Zaa hX;have HR0:=Zaa hR;have HM:=Zaa hm;have HC:=Zaa hcap;have HNE:=Zaa hne;clear hn hX hR hm hcap hne;go_enter func19,ntmps19;go_wp2
   go_loopw [5,1] (fun i q wr=>∃ j:Nat,i=.int .i64 j/\q=.int .i64 (k+(ZbC Xl j:Int))/\j<=Xl.length/\Zad lo hi w wr/\Zdl lo hi wr b off Xl.length c (fun i=>if i < j then Zjt (k+(ZbC Xl i:Int)) (X i) else X i)) (fun i _ _=>Xl.length - (intOf i).toNat)
   case atStart=>exact⟨0,rfl,by simp [ZbC],by omega,Zad.refl _ _ _,HR0.o.to (fun i _=>by simp)⟩
   case round=>
    obtain⟨j,rfl,rfl,hj,ht,hr⟩:=hrel;have HT:=Zaa ht;have HR:=Zaa hr;clear ht hr HR0
    by_cases hlt:j < Xl.length
    . have hpos:=ZdZ HN.o (i:=j) (by omega)
      have HP:=Zaa (Zc0 hlt)
      have hone:ZcN b (off+j*8) (c j).1 (c j).2 wr (X j):=by
       have:=HR.o.row j hlt;simp only [Nat.lt_irrefl,if_false] at this;exact this
      have hxj:X j=Xl[j]:=HX.o j hlt;obtain⟨x,hx⟩:∃ x,x=X j:=⟨_,rfl⟩
      rw [<- hx] at hone;obtain⟨hs,vv0,q0,hc,l0⟩:=hone;have hs0:Zbe x.sl:=by rw [hx,hxj];exact HN.o.2 j hlt
      have hs0n:=hs0.1;have HXJ:=Zaa hxj;have HXX:=Zaa hx;obtain⟨K,hK⟩:∃ K,K=k+(ZbC Xl j:Int):=⟨_,rfl⟩
      rw [<- hK];have hK0:0<=K:=by omega
      have hK1:K<=1950000000000000000:=by omega
      have HK:=Zaa hK;have HBC:Hd (b < (c j).1\/(c j).2<=b):=(HR.o.seg j hlt).2.2;have HS:Hd (ZcP wr b (off+j*8) (c j).1 (c j).2 vv0 wr x):=⟨Zcc.refl _ _ _ _ _ _,HBC.o,q0,hc,l0,HR.o.frz,HR.o.lt⟩;clear hpos hxj hx hs hc l0 q0 hK;obtain⟨d0,d1,d2,d3,d4,d5,d6,d7⟩:=HS.o.cells;have fz:=HS.o.frz;go_wp2_with fail;clear d0 d1 d2 d3 d4 d5 d6 d7 fz;obtain⟨v1,hv1,HS1⟩:∃ v',v'=((((((wr.setCell ⟨b,off+j*8,none⟩ (.int .i64 (K))).setCell ⟨b,off+j*8+1,none⟩ (.int .i64 (K+1))).setCell ⟨b,off+j*8+2,none⟩ (.int .i64 (K+1+1))).setCell ⟨b,off+j*8+3,none⟩ (.int .i64 (K+1+1+1))).setCell ⟨b,off+j*8+4,none⟩ (.int .i64 (K+1+1+1+1))).setCell ⟨b,off+j*8+5,none⟩ (.int .i64 (K+1+1+1+1+1)))/\Hd (ZcP wr b (off+j*8) (c j).1 (c j).2 vv0 v' ⟨K,K+1,K+1+1,K+1+1+1,K+1+1+1+1,K+1+1+1+1+1,x.tx,x.sl⟩):=⟨_,rfl,((((((HS.o.s0 (K)).s1 (K+1)).s2 (K+1+1)).s3 (K+1+1+1)).s4 (K+1+1+1+1)).s5 (K+1+1+1+1+1))⟩
      rw [<- hv1];clear hv1 HS;refine (Zby _ _ (by omega)).mono ?_;rintro e v2 ⟨rfl,hb⟩;have HS2:=Zaa (HS1.o.below hb);clear hb HS1;obtain⟨d0,d1,d2,d3,d4,d5,d6,d7⟩:=HS2.o.cells;have fz:=HS2.o.frz;go_wp2_with fail;clear d0 d1 d2 d3 d4 d5 d6 d7 fz;obtain⟨v3,hv3,HS3⟩:∃ v',v'=(v2.setCell ⟨b,off+j*8+6,none⟩ (.string (mtB (K+1+1+1+1+1+1))))/\Hd (ZcP wr b (off+j*8) (c j).1 (c j).2 vv0 v' ⟨K,K+1,K+1+1,K+1+1+1,K+1+1+1+1,K+1+1+1+1+1,mtB (K+1+1+1+1+1+1),x.sl⟩):=⟨_,rfl,(HS2.o.s6 (mtB (K+1+1+1+1+1+1)))⟩
      rw [<- hv3];clear hv3 HS2;refine (Zde _ _ _ x.sl _ _ HS3.o.l0 hs0 (by omega) (by omega)).mono ?_;rintro e v4 ⟨rfl,ht,hl⟩;have HS4:Hd (ZcP wr b (off+j*8) (c j).1 (c j).2 vv0 v4 ⟨K,K+1,K+1+1,K+1+1+1,K+1+1+1+1,K+1+1+1+1+1,mtB (K+1+1+1+1+1+1),Zct (K+1+1+1+1+1+1+1) x.sl⟩):=HS3.o.m0' ht hl;clear ht hl HS3;obtain⟨d0,d1,d2,d3,d4,d5,d6,d7⟩:=HS4.o.cells;have fz:=HS4.o.frz;go_wp2;clear d0 d1 d2 d3 d4 d5 d6 d7 fz;have HW:Hd (Zkt Xl[j]=7+2*x.sl.length):=by unfold Hd;rw [<- HXJ.o,<- HXX.o];rfl
      have HQ:Hd ((K+1+1+1+1+1+1+1+2*(x.sl.length:Int):Int)=k+(ZbC Xl (j+1):Int)):=by
       have h1:=HP.o;have h2:=HW.o;have h3:=HK.o;unfold Hd
       omega
      have HRN:=Zaa (HR.o.near hlt HS4.o.near (show ZcN b (off+j*8) (c j).1 (c j).2 v4 (Zjt K x) from ⟨⟨Ze6 _ (by omega)⟩,_,HS4.o.q0,HS4.o.cells,HS4.o.l0⟩));have HTN:=Zaa (HS4.o.near.wide HR.o.lt (lo':=lo) (hi':=hi) (HR.o.seg j hlt).1 (HR.o.seg j hlt).2.1 ⟨HR.o.low,HR.o.bh⟩);go_roundw
      . 
       refine⟨j+1,by go_num,congrArg (Value.int .i64) HQ.o,by omega,HT.o.trans HTN.o,HRN.o.to (fun i hi'=>?_)⟩
       by_cases e:i=j
       . subst e
         rw [if_pos rfl,if_pos (by omega),<- HK.o,HXX.o]
       . rw [if_neg e]
         by_cases e2:i < j
         . rw [if_pos e2,if_pos (by omega)]
         . rw [if_neg e2,if_neg (by omega)]
      . simp [intOf];omega
    . have e:j=Xl.length:=by omega
      subst e;go_wp2;go_ret;refine⟨rfl,HT.o,Or.inr ⟨b,off,cap,c,fun i=>Zjt (k+(ZbC Xl i:Int)) (X i),by rw [ZaQ],?_,by rw [ZaQ];exact HM.o,by rw [ZaQ];exact HC.o,fun i h=>?_,?_⟩⟩
      . intro e
        have:=congrArg List.length e;rw [ZaQ] at this;exact HNE.o (List.length_eq_zero_iff.1 (by simpa using this))
      . have h':i < Xl.length:=by rw [ZaQ] at h;exact h
        rw [Zek _ _ _ _ h',<- HX.o i h']
      . rw [ZaQ]
        exact HR.o.to (fun i hi'=>by rw [if_pos hi'])
end Go.Proofs.YtkiefplmnoapfaaGreat
