import Derived.Test.YtmappejlmapboaaGreatV43
set_option maxHeartbeats 16000000
set_option maxRecDepth 100000
open Go.Proofs.Tryz
namespace Go.Proofs.YtmappejlmapboaaGreat
section
open Go.RowKit Go.Deep
theorem Zkq (lo hi:Nat) (v:Value) (Xl:List Le) (k:Int) (w:World) (hv:Zb5 lo hi w v Xl) (hn:Zej Xl) (h0:0<=k) (hk:k<=2000000000000000000) :
 Calls prog 57 #[v,.int .i64 k] w fun e w'=>e=.returned (.int .i64 (k+(ZdF Xl Xl.length:Int)))/\Zag lo hi w w'/\Zb5 lo hi w' v (Zmh k Xl):=by
 rcases hv with ⟨a,cap,rfl,rfl⟩ | ⟨b,off,cap,c,X,rfl,hne,hm,hcap,hX,hR⟩
 . go_enter func57,ntmps57
   go_wp2
   go_loop [5,1] (fun i q=>i=.int .i64 0/\q=.int .i64 k) (fun _ _=>0)
   case atStart=>exact⟨rfl,rfl⟩
   case round=>
    obtain⟨rfl,rfl⟩:=hrel;go_wp2;go_ret;exact⟨by simp [ZdF],Zag.refl _ _ _,Or.inl ⟨_,_,rfl,rfl⟩⟩
 . have hlen:=hn.1
   have HN:=Zab hn;have HX:=Zab hX;have HR0:=Zab hR;have HM:=Zab hm;have HC:=Zab hcap;have HNE:=Zab hne;clear hn hX hR hm hcap hne;go_enter func57,ntmps57;go_wp2
   go_loopw [5,1] (fun i q wr=>∃ j:Nat,i=.int .i64 j/\q=.int .i64 (k+(ZdF Xl j:Int))/\j<=Xl.length/\Zag lo hi w wr/\Zew lo hi wr b off Xl.length c (fun i=>if i < j then Zrr (k+(ZdF Xl i:Int)) (X i) else X i)) (fun i _ _=>Xl.length - (intOf i).toNat)
   case atStart=>exact⟨0,rfl,by simp [ZdF],by omega,Zag.refl _ _ _,HR0.o.to (fun i _=>by simp)⟩
   case round=>
    obtain⟨j,rfl,rfl,hj,ht,hr⟩:=hrel;have HT:=Zab ht;have HR:=Zab hr;clear ht hr HR0
    by_cases hlt:j < Xl.length
    . have hpos:=Zle HN.o (i:=j) (by omega)
      have HP:=Zab (ZhT hlt)
      have hone:Zfy b (off+j*4) (c j) (c (j+1)) wr (X j):=by
       have:=HR.o.row j hlt;simp only [Nat.lt_irrefl,if_false] at this;exact this
      have hxj:X j=Xl[j]:=HX.o j hlt;obtain⟨x,hx⟩:∃ x,x=X j:=⟨_,rfl⟩
      rw [<- hx] at hone;obtain⟨hs,hc⟩:=hone;have HXJ:=Zab hxj;have HXX:=Zab hx;obtain⟨K,hK⟩:∃ K,K=k+(ZdF Xl j:Int):=⟨_,rfl⟩
      rw [<- hK];have hK0:0<=K:=by omega
      have hK1:K<=2500000000000000000:=by omega
      have HK:=Zab hK;have HBC:Hd (b < c j):=Zk_ HR.o.bc (HR.o.le Zz_ (by omega));have HS:Hd (ZiU wr b (off+j*4) (c j) (c (j+1)) wr x):=⟨ZbI.refl _ _ _ _ _ _,HBC.o,hc,HR.o.frz,HR.o.lt⟩;clear hpos hxj hx hs hc hK;obtain⟨d0,d1,d2,d3⟩:=HS.o.cells;have fz:=HS.o.frz;go_wp2_with fail;clear d0 d1 d2 d3 fz;refine (Zal _ _ (by omega)).mono ?_;rintro e v1 ⟨rfl,hb⟩;have HS1:=Zab (HS.o.below hb);clear hb HS;obtain⟨d0,d1,d2,d3⟩:=HS1.o.cells;have fz:=HS1.o.frz;go_wp2_with fail;clear d0 d1 d2 d3 fz;obtain⟨v2,hv2,HS2⟩:∃ v',v'=(v1.setCell ⟨b,off+j*4,none⟩ (.string (mtB (K))))/\Hd (ZiU wr b (off+j*4) (c j) (c (j+1)) v' ⟨mtB (K),x.re,x.mo,x.fr⟩):=⟨_,rfl,(HS1.o.s0 (mtB (K)))⟩
      rw [<- hv2];clear hv2 HS1;refine (Zal _ _ (by omega)).mono ?_;rintro e v3 ⟨rfl,hb⟩;have HS3:=Zab (HS2.o.below hb);clear hb HS2;obtain⟨d0,d1,d2,d3⟩:=HS3.o.cells;have fz:=HS3.o.frz;go_wp2;clear d0 d1 d2 d3 fz;obtain⟨v4,hv4,HS4⟩:∃ v',v'=(((v3.setCell ⟨b,off+j*4+1,none⟩ (.string (mtB (K+1)))).setCell ⟨b,off+j*4+2,none⟩ (.int .i64 (K+1+1))).setCell ⟨b,off+j*4+3,none⟩ (.int .i64 (K+1+1+1)))/\Hd (ZiU wr b (off+j*4) (c j) (c (j+1)) v' ⟨mtB (K),mtB (K+1),K+1+1,K+1+1+1⟩):=⟨_,rfl,(((HS3.o.s1 (mtB (K+1))).s2 (K+1+1)).s3 (K+1+1+1))⟩
      rw [<- hv4];clear hv4 HS3;have HW:Hd (ZrV Xl[j]=4):=by unfold Hd;rw [<- HXJ.o,<- HXX.o];rfl
      have HQ:Hd ((K+1+1+1+1:Int)=k+(ZdF Xl (j+1):Int)):=by
       have h1:=HP.o;have h2:=HW.o;have h3:=HK.o;unfold Hd
       omega
      have HRN:=Zab (HR.o.near hlt HS4.o.near (show Zfy b (off+j*4) (c j) (c (j+1)) v4 (Zrr K x) from ⟨⟨ZbR _ (by omega),ZbR _ (by omega)⟩,HS4.o.cells⟩));have HTN:=Zab (HS4.o.near.wide HR.o.lt (lo':=lo) (hi':=hi) (by have:=HBC.o;have:=HR.o.low;omega) (Nat.le_trans (HR.o.le (by omega) Zl_) HR.o.top) ⟨HR.o.low,HR.o.bh⟩);go_roundw
      . 
       refine⟨j+1,by go_num,congrArg (Value.int .i64) HQ.o,by omega,HT.o.trans HTN.o,HRN.o.to (fun i hi'=>?_)⟩
       by_cases e:i=j
       . subst e
         rw [if_pos rfl,if_pos (by omega),<- HK.o,HXX.o]
       . rw [if_neg e]
         by_cases e2:i < j
         . rw [if_pos e2,if_pos (by omega)]
         . rw [if_neg e2,if_neg (by omega)]
      . simp [intOf];omega
    . have e:j=Xl.length:=by omega
      subst e;go_wp2;go_ret;refine⟨rfl,HT.o,Or.inr ⟨b,off,cap,c,fun i=>Zrr (k+(ZdF Xl i:Int)) (X i),by rw [Zdm],?_,by rw [Zdm];exact HM.o,by rw [Zdm];exact HC.o,fun i h=>?_,?_⟩⟩
      . intro e
        have:=congrArg List.length e;rw [Zdm] at this;exact HNE.o (List.length_eq_zero_iff.1 (by simpa using this))
      . have h':i < Xl.length:=by rw [Zdm] at h;exact h
        rw [ZnV _ _ _ _ h',<- HX.o i h']
      . rw [Zdm]
        exact HR.o.to (fun i hi'=>by rw [if_pos hi'])
end
section
open Go.RowKit Go.Deep
structure Zrv (lo hi o0 o1 g0 g1 l0 l1 p0 p1:Nat):Prop where
 o:lo<=o0/\o1<=hi
 g:lo<=g0/\g1<=hi
 l:lo<=l0/\l1<=hi
 p:lo<=p0/\p1<=hi
 og:o1<=g0\/g1<=o0
 ol:o1<=l0\/l1<=o0
 op:o1<=p0\/p1<=o0
 gl:g1<=l0\/l1<=g0
 gp:g1<=p0\/p1<=g0
 lp:l1<=p0\/p1<=l0
def ZcM (lo hi:Nat) (w:World) (ov gv lv pv:Value) (B:Bk):Prop:=
 ∃ o0 o1 g0 g1 l0 l1 p0 p1:Nat,Zrv lo hi o0 o1 g0 g1 l0 l1 p0 p1/\ZbJ o0 o1 w ov B.os/\ZbU g0 g1 w gv B.gs/\Zb5 l0 l1 w lv B.ls/\Zcc p0 p1 w pv B.ps
theorem ZcM.at {lo hi:Nat} {w:World} {ov gv lv pv:Value} {B:Bk} (h:ZcM lo hi w ov gv lv pv B):ZaX lo w ov gv lv pv B:=by
 obtain⟨_,_,_,_,_,_,_,_,ha,h1,h2,h3,h4⟩:=h;exact⟨h1.at.mono ha.o.1,h2.at.mono ha.g.1,h3.at.mono ha.l.1,h4.at.mono ha.p.1⟩
theorem ZcM.below {lo hi:Nat} {w w':World} {ov gv lv pv:Value} {B:Bk} (h:ZcM lo hi w ov gv lv pv B) (hb:Zw_ w w'):ZcM lo hi w' ov gv lv pv B:=by
 obtain⟨o0,o1,g0,g1,l0,l1,p0,p1,ha,h1,h2,h3,h4⟩:=h;exact⟨o0,o1,g0,g1,l0,l1,p0,p1,ha,h1.below hb,h2.below hb,h3.below hb,h4.below hb⟩
theorem ZcM.touch {lo hi lo' hi':Nat} {w w':World} {ov gv lv pv:Value} {B:Bk} (h:ZcM lo hi w ov gv lv pv B) (ht:Zag lo' hi' w w') (ho:hi<=lo'\/hi'<=lo):ZcM lo hi w' ov gv lv pv B:=by
 obtain⟨o0,o1,g0,g1,l0,l1,p0,p1,ha,h1,h2,h3,h4⟩:=h;have:=ha.o;have:=ha.g;have:=ha.l;have:=ha.p;exact⟨o0,o1,g0,g1,l0,l1,p0,p1,ha,h1.touch ht (by omega),h2.touch ht (by omega),h3.touch ht (by omega),h4.touch ht (by omega)⟩
def Zso (k:Int) (B:Bk):Bk:=⟨B.now,B.tick,B.given,Zmi k B.os,Zmg (k+(Zde B.os B.os.length:Int)) B.gs,Zmh (k+(Zde B.os B.os.length:Int)+(Zds B.gs B.gs.length:Int)) B.ls,Zmj (k+(Zde B.os B.os.length:Int)+(Zds B.gs B.gs.length:Int)+(ZdF B.ls B.ls.length:Int)) B.ps⟩
def Zo7 (k:Int) (B:Bk):Int:=k+(Zde B.os B.os.length:Int)+(Zds B.gs B.gs.length:Int)+(ZdF B.ls B.ls.length:Int)+(ZdR B.ps B.ps.length:Int)
theorem ZpU {B:Bk} (hn:Zbj B):Zde B.os B.os.length<=4000000000000/\Zds B.gs B.gs.length<=4000000000000/\ZdF B.ls B.ls.length<=4000000000000/\ZdR B.ps B.ps.length<=4000000000000:=by
 obtain⟨h1,h2,h3,h4⟩:=hn;have:=Zlf h1 (i:=B.os.length) Zl_;have:=Zld h2 (i:=B.gs.length) Zl_;have:=Zle h3 (i:=B.ls.length) Zl_;have:=Zlg h4 (i:=B.ps.length) Zl_;have:=h1.1;have:=h2.1;have:=h3.1;have:=h4.1
 omega
section
variable (lo hi:Nat) (ov gv lv pv:Value) (B:Bk) (w:World)
theorem Zjs (k:Int) (h:ZcM lo hi w ov gv lv pv B) (hn:Zbj B) (h0:0<=k) (hk:k<=1900000000000000000) (hhi:hi<=w.heap.size) :
 Calls prog 17 #[.agg #[.int .i64 B.now,.int .i64 B.tick,.int .i64 B.given,ov,gv,lv,pv],.int .i64 k] w fun e w'=>e=.returned (.int .i64 (Zo7 k B))/\Zag lo hi w w'/\ZcM lo hi w' ov gv lv pv (Zso k B):=by
 obtain⟨o0,o1,g0,g1,l0,l1,p0,p1,ha,h1,h2,h3,h4⟩:=h;obtain⟨z1,z2,z3,z4⟩:=ZpU hn;have HN:=Zab hn;have HP:=Zab ha;obtain⟨⟨y1,y2⟩,⟨y3,y4⟩,⟨y5,y6⟩,⟨y7,y8⟩,yog,yol,yop,ygl,ygp,ylp⟩:=ha;have H1:=Zab h1;have H2:=Zab h2;have H3:=Zab h3;have H4:=Zab h4;obtain⟨a0,k0,rfl⟩:=h1.form;obtain⟨a1,k1,rfl⟩:=h2.form;obtain⟨a2,k2,rfl⟩:=h3.form;obtain⟨a3,k3,rfl⟩:=h4.form;clear h1 h2 h3 h4 hn;go_enter func17,ntmps17;go_wp2_with fail;generalize hWa:w.alloc _=Wa;have hb:Zw_ w Wa:=by rw [<- hWa];exact Zac w _
 have HX0:Hd (Box Wa w.heap.size #[.int .i64 B.now,.int .i64 B.tick,.int .i64 B.given,.slice a0 B.os.length k0,.slice a1 B.gs.length k1,.slice a2 B.ls.length k2,.slice a3 B.ps.length k3]):=by rw [<- hWa];exact Box.new _ _ _ _ rfl
 have HT0:Hd (Zag lo hi w Wa):=Zag.below hb;replace H1:=Zab (H1.o.below hb);replace H2:=Zab (H2.o.below hb);replace H3:=Zab (H3.o.below hb);replace H4:=Zab (H4.o.below hb);clear hWa hb;refine (Zks o0 o1 _ B.os _ _ H1.o HN.o.1 (by omega) (by omega)).mono ?_;rintro e w1 ⟨rfl,ht1,hq1⟩;have HX1:=Zab (HX0.o.touch ht1 (by omega));have HT1:Hd (Zag lo hi w w1):=HT0.o.trans (ht1.wide (by omega) (by omega));replace H1:=Zab hq1;replace H2:=Zab (H2.o.touch ht1 (by omega));replace H3:=Zab (H3.o.touch ht1 (by omega));replace H4:=Zab (H4.o.touch ht1 (by omega));clear ht1 hq1 HX0 HT0;have c1:=HX1.o.cell 4;simp at c1;go_wp2_with fail;clear c1;refine (Zko g0 g1 _ B.gs _ _ H2.o HN.o.2.1 (by omega) (by omega)).mono ?_;rintro e w2 ⟨rfl,ht2,hq2⟩;have HX2:=Zab (HX1.o.touch ht2 (by omega))
 have HT2:Hd (Zag lo hi w w2):=HT1.o.trans (ht2.wide (by omega) (by omega));replace H1:=Zab (H1.o.touch ht2 (by omega));replace H2:=Zab hq2;replace H3:=Zab (H3.o.touch ht2 (by omega));replace H4:=Zab (H4.o.touch ht2 (by omega));clear ht2 hq2 HX1 HT1;have c2:=HX2.o.cell 5;simp at c2;go_wp2_with fail;clear c2;refine (Zkq l0 l1 _ B.ls _ _ H3.o HN.o.2.2.1 (by omega) (by omega)).mono ?_;rintro e w3 ⟨rfl,ht3,hq3⟩;have HX3:=Zab (HX2.o.touch ht3 (by omega));have HT3:Hd (Zag lo hi w w3):=HT2.o.trans (ht3.wide (by omega) (by omega));replace H1:=Zab (H1.o.touch ht3 (by omega));replace H2:=Zab (H2.o.touch ht3 (by omega));replace H3:=Zab hq3;replace H4:=Zab (H4.o.touch ht3 (by omega));clear ht3 hq3 HX2 HT2;have c3:=HX3.o.cell 6;simp at c3;go_wp2_with fail;clear c3;refine (Zkt p0 p1 _ B.ps _ _ H4.o HN.o.2.2.2 (by omega) (by omega)).mono ?_
 rintro e w4 ⟨rfl,ht4,hq4⟩;have HX4:=Zab (HX3.o.touch ht4 (by omega));have HT4:Hd (Zag lo hi w w4):=HT3.o.trans (ht4.wide (by omega) (by omega));replace H1:=Zab (H1.o.touch ht4 (by omega));replace H2:=Zab (H2.o.touch ht4 (by omega));replace H3:=Zab (H3.o.touch ht4 (by omega));replace H4:=Zab hq4;clear ht4 hq4 HX3 HT3;go_wp2;go_ret;exact⟨rfl,HT4.o,o0,o1,g0,g1,l0,l1,p0,p1,HP.o,H1.o,H2.o,H3.o,H4.o⟩
end
end
open Go.RowKit Go.Deep
variable {wr w1:World} {B k:Nat} {Xl:List Tm}
def Za5 (wr:World) (B:Nat) (Xl:List Tm) (k:Nat) (c:Nat->Nat):Prop:=
 B < c 0/\(∀ i,i < k->c i<=c (i+1))/\c k<=wr.heap.size/\∃ f,wr.rowIs B 135 (Xl.length*2) f/\∀ i (h:i < Xl.length),i < k->ZeG Xl[i]/\f (i*2)=.string Xl[i].nm/\f (i*2+1)=.string Xl[i].ov
theorem Za5.le {c:Nat->Nat} (h:Za5 wr B Xl k c) {i:Nat}:∀ {j:Nat},i<=j->j<=k->c i<=c j:=by
 intro j
 induction j with
 | zero=>intro hij _;have:i=0:=by omega
         subst this;exact Nat.le_refl _
 | succ j ih=>
  intro hij hjn
  by_cases e:i=j+1
  . subst e;exact Nat.le_refl _
  . exact Nat.le_trans (ih (by omega) (by omega)) (h.2.1 j (by omega))
theorem Za5.below {c:Nat->Nat} (h:Za5 wr B Xl k c) (hb:Below wr.heap.size wr w1):Za5 w1 B Xl k c:=by
 obtain⟨g1,g2,g3,f,hr,hall⟩:=h;refine⟨g1,g2,Nat.le_trans g3 hb.size,f,hr.of_block (hb.block B hr.lt),fun i hi hik=>?_⟩;obtain⟨hz,h0,h1⟩:=hall i hi hik;exact⟨hz,h0,h1⟩
theorem Za5.free {c:Nat->Nat} (h:Za5 wr B Xl k c) (i:Nat):wr.frozen? ⟨B,i,none⟩=false:=by
 obtain⟨_,_,_,f,hr,_⟩:=h;exact hr.frozen i
theorem Za5.there {c:Nat->Nat} (h:Za5 wr B Xl k c) (i:Nat) (hi:i < Xl.length*2):∃ v,wr.cell? ⟨B,i,none⟩=some v:=by
 obtain⟨_,_,_,f,hr,_⟩:=h;exact⟨_,hr.cell hi⟩
theorem Za5.step {c:Nat->Nat} (h:Za5 w1 B Xl k c) (hk:k < Xl.length) (hz:ZeG Xl[k]) (d:Nat) (hd0:c k<=d) (hd:d<=w1.heap.size) :
 Za5 ((w1.setCell ⟨B,k*2,none⟩ (.string Xl[k].nm)).setCell ⟨B,k*2+1,none⟩ (.string Xl[k].ov)) B Xl (k+1) (fun j=>if j<=k then c j else d):=by
 have hle:=fun i (hi:i<=k)=>h.le (i:=0) (j:=i) Zz_ hi
 have hle2:=fun i (hi:i < k)=>h.le (i:=i+1) (j:=k) (by omega) Zl_
 obtain⟨g1,g2,g3,f,hr,hall⟩:=h;have hts:Zag B (B+1) w1 ((w1.setCell ⟨B,k*2,none⟩ (.string Xl[k].nm)).setCell ⟨B,k*2+1,none⟩ (.string Xl[k].ov)):=(Zag.setB B _ _ _).trans (Zag.setB B _ _ _);refine⟨by simpa using g1,fun i hi=>?_,?_,_,((hr.set _ _).set _ _),fun i hi hik=>?_⟩
 . dsimp only
   by_cases e:i=k
   . subst e;rw [if_pos Zl_,if_neg (by omega)];exact hd0
   . rw [if_pos (by omega),if_pos (by omega)];exact g2 i (by omega)
 . dsimp only;rw [if_neg (by omega)];exact Nat.le_trans hd hts.size
 by_cases e:i=k
 . subst e
   have hb0:=hle i Zl_;exact⟨hz,by simp,by simp⟩
 . have hb0:=hle i (by omega)
   obtain⟨hz,h0,h1⟩:=hall i hi (by omega);refine⟨hz,?_,?_⟩
   . rw [if_neg (by omega),if_neg (by omega)];exact h0
   . rw [if_neg (by omega),if_neg (by omega)];exact h1
theorem Za5.own {c:Nat->Nat} (h:Za5 wr B Xl k c) (hk:k=Xl.length) (hne:Xl≠[]) (hm:Xl.length<=maxLen):Zb6 B wr.heap.size wr (.slice (some ⟨B,0,none⟩) Xl.length Xl.length) Xl:=by
 subst hk;obtain⟨g1,g2,g3,f,hr,hall⟩:=h;have h0:0 < Xl.length:=List.length_pos_iff.2 hne
 refine Or.inr ⟨B,0,Xl.length,c,fun i=>if h:i < Xl.length then Xl[i] else Xl[0],rfl,hne,hm,Nat.le_refl _,fun i hi=>by simp [hi],hr.lt,Nat.le_refl _,g1,hr.lt,g2,g3,fun i=>hr.frozen i,fun i hi=>?_⟩;obtain⟨hz,h0,h1⟩:=hall i hi hi;simp only [hi,dif_pos];rw [Nat.zero_add];exact⟨hz,⟨by rw [hr.cell (by omega),h0],by rw [hr.cell (by omega),h1]⟩⟩
theorem Za5.new (w:World) (Xl:List Tm) (z:Array Value):Za5 (w.alloc (.cells (madeCells z (Xl.length*2)) 135)) w.heap.size Xl 0 (fun _=>w.heap.size+1):=by
 refine⟨Nat.lt_succ_self _,fun i hi=>by omega,by simp,fun i=>(madeCells z (Xl.length*2)).getD i default,?_,fun i _ h=>by omega⟩;have:=World.rowIs_alloc w (madeCells z (Xl.length*2)) 135 (fun i=>(madeCells z (Xl.length*2)).getD i default) (fun i hi=>by simp [Array.getD,hi])
 rwa [size_madeCells] at this
theorem ZmV (lo:Nat) (v:Value) (Xl:List Tm) (w:World) (hv:Zbh lo w v Xl) (hn:Zc4 Xl) :
 Calls prog 38 #[v] w fun e w'=>∃ v',e=.returned v'/\Zw_ w w'/\Zb6 w.heap.size w'.heap.size w' v' Xl:=by
 obtain⟨i0,hi,hz0,hz1,hz2⟩:=info_parts Tryz.info135;have HSM:=Zab hn.2;have hn1:=hn.1;clear hn
 by_cases hL:Xl=[]
 . subst hL
   obtain⟨a,cap,rfl⟩:=hv.form;clear hv
   have hmk:∀ u:World,(Instr.makeSlice 39 (.int .i64 0) (.int .i64 0)).run prog u=.ok (.slice (some ⟨u.heap.size,0,none⟩) 0 0) (u.alloc (.cells (madeCells (Value.cells (.agg #[.string ⟨#[]⟩,.string ⟨#[]⟩])) 0) 135)):=fun u=>by
    have h:=run_make (P:=prog) u 39 135 i0 _ underlying39 hi hz0 .i64 .i64 0 0 (by omega) (by omega) (by omega) (by omega)
    simpa [hz1] using h
   go_enter func38,ntmps38;go_wp2
   go_loop [4] (fun i=>i=.int .i64 0) (fun _=>0)
   case atStart=>rfl
   case round=>
    subst hrel;go_wp2;go_ret;exact⟨_,rfl,Zb_.alloc Zl_ _,Or.inl ⟨_,_,rfl,rfl⟩⟩
 . obtain⟨b,off,cap,rfl,hm,hbw,_,hc⟩:=hv.full hL
   clear hv;have HM:Hd (Xl.length<=maxLen):=hm;unfold maxLen at hm
   have hmk:∀ u:World,(Instr.makeSlice 39 (.int .i64 (Xl.length:Int)) (.int .i64 (Xl.length:Int))).run prog u=.ok (.slice (some ⟨u.heap.size,0,none⟩) Xl.length Xl.length) (u.alloc (.cells (madeCells (Value.cells (.agg #[.string ⟨#[]⟩,.string ⟨#[]⟩])) (Xl.length*2)) 135)):=fun u=>by
    have h:=run_make (P:=prog) u 39 135 i0 _ underlying39 hi hz0 .i64 .i64 Xl.length Xl.length (by omega) (by omega) (by rw [hz2];omega) (by omega);rw [hz1] at h
    simpa using h
   clear hi hz0 hz1 hz2;go_enter func38,ntmps38;go_wp2;clear hmk
   go_loopw [4] (fun i wr=>∃ (k:Nat) (c:Nat->Nat),i=.int .i64 k/\k<=Xl.length/\Zw_ w wr/\Za5 wr w.heap.size Xl k c) (fun i _=>Xl.length - (intOf i).toNat)
   case atStart=>exact⟨0,_,rfl,by omega,Zb_.alloc Zl_ _,Za5.new w Xl _⟩
   case round=>
    obtain⟨k,c,rfl,hk,hb,hf⟩:=hrel
    by_cases hlt:k < Xl.length
    . obtain⟨hs,hc⟩:=hc k hlt
      have HB:=Zab hb;have HF:=Zab hf;have HSZ:=Zab hs;obtain⟨c0,c1⟩:=hc.below hb hbw;clear hc hb hf hs;go_wp2_with fail;refine (Zh3 _ _ _).mono ?_;rintro e w1 ⟨rfl,hb1⟩;have hf1:=HF.o.below hb1;have hB:Hd (Zw_ w w1):=HB.o.trans (hb1.mono HB.o.size);have HST:=Zab (hf1.step hlt HSZ.o w1.heap.size (Nat.le_trans HF.o.2.2.1 hb1.size) Zl_);have hfr:=hf1.free;obtain⟨o0,ho0⟩:=hf1.there (k*2) (by omega);obtain⟨o1,ho1⟩:=hf1.there (k*2+1) (by omega);clear hf1 hb1 HF HB c0 c1;go_wp2;go_roundw
      . 
       exact⟨k+1,_,by go_num,by omega,((hB.o.setCell Zl_ _).setCell Zl_ _),HST.o⟩
      . simp [intOf];omega
    . have e:k=Xl.length:=by omega
      go_wp2;go_ret;exact⟨_,rfl,hb,hf.own e hL HM.o⟩
end Go.Proofs.YtmappejlmapboaaGreat
