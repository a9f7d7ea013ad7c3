import Derived.Test.YtmappejlmapboaaGreatD08
import Derived.Test.YtmappejlmapboaaGreatD10
set_option maxHeartbeats 16000000
set_option maxRecDepth 100000
open Go.Proofs.Tryz
namespace Go.Proofs.YtmappejlmapboaaGreat
open Go.RowKit Go.Deep
section
theorem ZaI.set' {lo:Nat}{w:World}{v:Value}{Ss:List Sh} (h:ZaI lo w v Ss) {p:Addr} (hp:p.block < lo) (u:Value):ZaI lo (w.setCell p u) v Ss:=by
 rcases h with h | ⟨b,off,cap,h1,h2,h3,h4,h5,h7⟩
 . exact Or.inl h
 . refine Or.inr ⟨b,off,cap,h1,h2,h3,by simpa [World.setCell] using h4,h5,fun i hi=>?_⟩
   obtain⟨hs,fv,c0,c1,hF⟩:=h7 i hi;exact⟨hs,fv,by rw [Zar _ _ _ _ (by simp only [];omega)];exact c0,by rw [Zar _ _ _ _ (by simp only [];omega)];exact c1,hF.setCell hp u⟩
structure ZbH (lo:Nat) (w:World) (sv mv tv:Value) (Ss:List Sh) (Ms:List Md) (Ts:List Tm):Prop where
 shs:ZaI lo w sv Ss
 mds:Zbe lo w mv Ms
 tms:Zbn lo w tv Ts
theorem ZbH.below {lo:Nat}{w w':World}{sv mv tv:Value}{Ss:List Sh}{Ms:List Md}{Ts:List Tm} (h:ZbH lo w sv mv tv Ss Ms Ts) (hb:Zw_ w w'):ZbH lo w' sv mv tv Ss Ms Ts:=
 ⟨h.shs.below hb,h.mds.below hb,h.tms.below hb⟩
theorem ZbH.mono {lo lo':Nat}{w:World}{sv mv tv:Value}{Ss:List Sh}{Ms:List Md}{Ts:List Tm} (h:ZbH lo w sv mv tv Ss Ms Ts) (hl:lo'<=lo):ZbH lo' w sv mv tv Ss Ms Ts:=
 ⟨h.shs.mono hl,h.mds.mono hl,h.tms.mono hl⟩
def ZfU (Ss:List Sh) (Ms:List Md) (Ts:List Tm):Prop:=ZfY Ss/\Ms.length<=1048576/\Ts.length<=1048576
section
variable (lo:Nat) (sv mv tv:Value) (Ss:List Sh) (Ms:List Md) (Ts:List Tm) (w:World)
theorem Zq6 (left:Int) (h0:0<=left) (h1:left<=1048576) (h:ZbH lo w sv mv tv Ss Ms Ts) :
 Calls prog 7 #[.agg #[sv,mv,tv],.int .i64 left] w
  fun e w'=>∃ r:Int,e=.returned (.int .i64 r)/\Zw_ w w'/\-1<=r/\r<=left/\(0<=r->ZfU Ss Ms Ts):=by
 have HL:=Zab h;obtain⟨a,cap,rfl⟩:=h.shs.form;obtain⟨a1,cap1,rfl⟩:=h.mds.form;obtain⟨a2,cap2,rfl⟩:=h.tms.form;clear h;go_enter func7,ntmps7;go_wp2_with fail;have hX:=Box.new w #[.slice a Ss.length cap,.slice a1 Ms.length cap1,.slice a2 Ts.length cap2] 26 _ rfl;have hB0:=Zac w (.cells #[.slice a Ss.length cap,.slice a1 Ms.length cap1,.slice a2 Ts.length cap2] 26);refine (Zrc lo _ Ss _ _ (by omega) (by omega) (HL.o.below hB0).shs).mono ?_;rintro e w1 ⟨r,rfl,hb1,q0,q1,q2⟩;have hX1:=Zab (hX.on hb1);have HB1:=Zab (hB0.trans (hb1.mono hB0.size));have c1:=hX1.o.cell 1;have c2:=hX1.o.cell 2;simp at c1 c2;clear hb1 hB0 hX;have Q:=Zab q2;clear q2
 by_cases hr:r < 0
 . go_wp2
   go_ret;exact⟨-1,rfl,HB1.o,by omega,by omega,fun h=>by omega⟩
 go_wp2_with fail;refine (Zq8 lo _ Ms _ _ (by omega) (by omega) (HL.o.below HB1.o).mds).mono ?_;rintro e w2 ⟨r2,rfl,hb2,p0,p1,p2⟩;have hX2:=Zab (hX1.o.on hb2);have HB2:=Zab (HB1.o.trans (hb2.mono HB1.o.size));have d2:=hX2.o.cell 2;simp at d2;clear hb2 HB1 hX1 c1 c2;have Q2:=Zab p2;clear p2
 by_cases hr2:r2 < 0
 . go_wp2
   go_ret;exact⟨-1,rfl,HB2.o,by omega,by omega,fun h=>by omega⟩
 go_wp2_with fail;refine (Zrd lo _ Ts _ _ (by omega) (by omega) (HL.o.below HB2.o).tms).mono ?_;rintro e w3 ⟨r3,rfl,hb3,s0,s1,s2⟩;have HB3:=Zab (HB2.o.trans (hb3.mono HB2.o.size));have Q3:=Zab s2;clear hb3 s2
 by_cases hr3:r3 < 0
 . go_wp2
   go_ret;exact⟨-1,rfl,HB3.o,by omega,by omega,fun h=>by omega⟩
 go_wp2;go_ret;exact⟨_,rfl,HB3.o,by omega,by omega,fun h=>⟨Q.o (by omega),by have:=Q2.o (by omega);omega,by have:=Q3.o (by omega);omega⟩⟩
theorem Zn3 (lo':Nat) (sv' mv' tv':Value) (h:ZbH lo w sv mv tv Ss Ms Ts) (h':ZbH lo' w sv' mv' tv' Ss Ms Ts) :
 Calls prog 14 #[.agg #[sv,mv,tv],.agg #[sv',mv',tv']] w fun e w'=>e=.returned (.bool true)/\Zw_ w w':=by
 have HL:=Zab h;have HR:=Zab h';obtain⟨a,cap,rfl⟩:=h.shs.form;obtain⟨a1,cap1,rfl⟩:=h.mds.form;obtain⟨a2,cap2,rfl⟩:=h.tms.form;obtain⟨a',cap',rfl⟩:=h'.shs.form;obtain⟨a1',cap1',rfl⟩:=h'.mds.form;obtain⟨a2',cap2',rfl⟩:=h'.tms.form;clear h h';go_enter func14,ntmps14;go_wp2_with fail;have hX:=Box.new w #[.slice a Ss.length cap,.slice a1 Ms.length cap1,.slice a2 Ts.length cap2] 41 _ rfl;have hB0:=Zac w (.cells #[.slice a Ss.length cap,.slice a1 Ms.length cap1,.slice a2 Ts.length cap2] 41);have hsz:(w.alloc (.cells #[.slice a Ss.length cap,.slice a1 Ms.length cap1,.slice a2 Ts.length cap2] 41)).heap.size=w.heap.size+1:=by simp
 generalize w.alloc (.cells #[.slice a Ss.length cap,.slice a1 Ms.length cap1,.slice a2 Ts.length cap2] 41)=wx at hX hB0 hsz |-;have hY:=Box.new wx #[.slice a' Ss.length cap',.slice a1' Ms.length cap1',.slice a2' Ts.length cap2'] 41 _ hsz;have hB1:=Zac wx (.cells #[.slice a' Ss.length cap',.slice a1' Ms.length cap1',.slice a2' Ts.length cap2'] 41);have hX1:=hX.on hB1;have HB:=Zab (hB0.trans (hB1.mono hB0.size));generalize wx.alloc (.cells #[.slice a' Ss.length cap',.slice a1' Ms.length cap1',.slice a2' Ts.length cap2'] 41)=wy at hY hX1 HB |-;clear hX hB0 hB1 hsz;refine (Zn9 lo lo' _ _ Ss _ (HL.o.below HB.o).shs (HR.o.below HB.o).shs).mono ?_;rintro e w1 ⟨rfl,hb1⟩;have HX:=Zab (hX1.on hb1);have HY:=Zab (hY.on hb1);have HB1:=Zab (HB.o.trans (hb1.mono HB.o.size));clear hb1 hX1 hY HB;have c1:=HX.o.cell 1;have d1:=HY.o.cell 1;simp at c1 d1;go_wp2_with fail
 clear c1 d1;refine (Zn5 lo lo' _ _ Ms _ (HL.o.below HB1.o).mds (HR.o.below HB1.o).mds).mono ?_;rintro e w2 ⟨rfl,hb2⟩;have HX:=Zab (HX.o.on hb2);have HY:=Zab (HY.o.on hb2);have HB2:=Zab (HB1.o.trans (hb2.mono HB1.o.size));clear hb2 HB1;have c1:=HX.o.cell 2;have d1:=HY.o.cell 2;simp at c1 d1;go_wp2_with fail;clear c1 d1;refine (Zoa lo lo' _ _ Ts _ (HL.o.below HB2.o).tms (HR.o.below HB2.o).tms).mono ?_;rintro e w3 ⟨rfl,hb3⟩;have HB3:=Zab (HB2.o.trans (hb3.mono HB2.o.size));clear hb3 HB2;go_wp2;go_ret;exact⟨rfl,HB3.o⟩
theorem Zii (h:ZbH lo w sv mv tv Ss Ms Ts) (hn:ZfU Ss Ms Ts) :
 Calls prog 10 #[.agg #[sv,mv,tv]] w
  fun e w'=>∃ a cap a1 cap1 a2 cap2,e=.returned (.agg #[.slice a Ss.length cap,.slice a1 Ms.length cap1,.slice a2 Ts.length cap2])/\Zw_ w w'/\
   ZbH w.heap.size w' (.slice a Ss.length cap) (.slice a1 Ms.length cap1) (.slice a2 Ts.length cap2) Ss Ms Ts:=by
 have HL:=Zab h;obtain⟨a,cap,rfl⟩:=h.shs.form;obtain⟨a1,cap1,rfl⟩:=h.mds.form;obtain⟨a2,cap2,rfl⟩:=h.tms.form;clear h;go_enter func10,ntmps10;go_wp2_with fail
 obtain⟨wz,hwz,HX,HR,HO,HB⟩:∃ wz,wz=((w.alloc (.cells #[.slice a Ss.length cap,.slice a1 Ms.length cap1,.slice a2 Ts.length cap2] 26)).alloc (.cells #[.slice none 0 0,.slice none 0 0,.slice none 0 0] 41)).alloc (.cells #[.slice none 0 0,.slice none 0 0,.slice none 0 0] 41)/\
  Hd (Box wz w.heap.size #[.slice a Ss.length cap,.slice a1 Ms.length cap1,.slice a2 Ts.length cap2])/\Hd (Box wz (w.heap.size+1) #[.slice none 0 0,.slice none 0 0,.slice none 0 0])/\
  Hd (Box wz (w.heap.size+1+1) #[.slice none 0 0,.slice none 0 0,.slice none 0 0])/\Hd (Zw_ w wz):=
  ⟨_,rfl,((Box.new w _ _ _ rfl).on (Zac _ _)).on (Zac _ _),(Box.new _ _ _ _ (by simp)).on (Zac _ _),Box.new _ _ _ _ (by simp),((Zac _ _).trans ((Zac _ _).mono (by simp))).trans ((Zac _ _).mono (by simp;omega))⟩
 rw [<- hwz];clear hwz;have hz0:w.heap.size+3<=wz.heap.size:=by have:=HO.o.lt;omega
 refine (Zrq lo _ Ss _ (HL.o.below HB.o).shs hn.1).mono ?_;rintro e w1 ⟨v1,rfl,hb1,hs1⟩;obtain⟨b1,k1,rfl⟩:=hs1.form;have HX1:=Zab (HX.o.on hb1);have HR1:=Zab (HR.o.on hb1);have HO1:=Zab (HO.o.on hb1);have HB1:=Zab (HB.o.trans (hb1.mono HB.o.size));have HS1:Hd (ZaI (w.heap.size+3) w1 (.slice b1 Ss.length k1) Ss):=hs1.mono hz0;clear hb1 hs1 HX HR HO HB hz0;have o0:=HO1.o.cell 0;have f0:=HO1.o.free 0;have x1:=HX1.o.cell 1;simp at o0 f0 x1;go_wp2_with fail;clear o0 f0 x1
 obtain⟨wq,hwq,HX,HR,HO,HB,HS⟩:∃ wq,wq=w1.setCell ⟨w.heap.size+1+1,0,none⟩ (.slice b1 Ss.length k1)/\
  Hd (Box wq w.heap.size #[.slice a Ss.length cap,.slice a1 Ms.length cap1,.slice a2 Ts.length cap2])/\Hd (Box wq (w.heap.size+1) #[.slice none 0 0,.slice none 0 0,.slice none 0 0])/\
  Hd (Box wq (w.heap.size+1+1) #[.slice b1 Ss.length k1,.slice none 0 0,.slice none 0 0])/\Hd (Zw_ w wq)/\Hd (ZaI (w.heap.size+3) wq (.slice b1 Ss.length k1) Ss):=
  ⟨_,rfl,HX1.o.setFar (by simp only [];omega) _,HR1.o.setFar (by simp only [];omega) _,HO1.o.set (k:=0) (.slice b1 Ss.length k1) (by simp),HB1.o.setCell (by simp only [];omega) _,HS1.o.set' (by simp only [];omega) _⟩
 rw [<- hwq];clear hwq HX1 HR1 HO1 HB1 HS1;have hz0:w.heap.size+3<=wq.heap.size:=by have:=HO.o.lt;omega
 refine (Zjq lo _ Ms _ (HL.o.below HB.o).mds hn.2.1).mono ?_;rintro e w2 ⟨v2,rfl,hb2,hs2,-⟩;obtain⟨b2,k2,rfl⟩:=hs2.form;have HX2:=Zab (HX.o.on hb2);have HR2:=Zab (HR.o.on hb2);have HO2:=Zab (HO.o.on hb2);have HB2:=Zab (HB.o.trans (hb2.mono HB.o.size));have HS2:=Zab (HS.o.below hb2);have HM2:Hd (Zbe (w.heap.size+3) w2 (.slice b2 Ms.length k2) Ms):=hs2.mono hz0;clear hb2 hs2 HX HR HO HB hz0 HS;have o0:=HO2.o.cell 1;have f0:=HO2.o.free 1;have x1:=HX2.o.cell 2;simp at o0 f0 x1;go_wp2_with fail;clear o0 f0 x1
 obtain⟨wq,hwq,HR,HO,HB,HS,HM⟩:∃ wq,wq=w2.setCell ⟨w.heap.size+1+1,1,none⟩ (.slice b2 Ms.length k2)/\
  Hd (Box wq (w.heap.size+1) #[.slice none 0 0,.slice none 0 0,.slice none 0 0])/\
  Hd (Box wq (w.heap.size+1+1) #[.slice b1 Ss.length k1,.slice b2 Ms.length k2,.slice none 0 0])/\Hd (Zw_ w wq)/\Hd (ZaI (w.heap.size+3) wq (.slice b1 Ss.length k1) Ss)/\Hd (Zbe (w.heap.size+3) wq (.slice b2 Ms.length k2) Ms):=
  ⟨_,rfl,HR2.o.setFar (by simp only [];omega) _,HO2.o.set (k:=1) (.slice b2 Ms.length k2) (by simp),HB2.o.setCell (by simp only [];omega) _,HS2.o.set' (by simp only [];omega) _,HM2.o.setCell (by simp only [];omega) _⟩
 rw [<- hwq];clear hwq HX2 HR2 HO2 HB2 HS2 HM2;have hz0:w.heap.size+3<=wq.heap.size:=by have:=HO.o.lt;omega
 refine (Zrr lo _ Ts _ (HL.o.below HB.o).tms hn.2.2).mono ?_;rintro e w3 ⟨v3,rfl,hb3,hs3⟩;obtain⟨b3,k3,rfl⟩:=hs3.form;have HR3:=Zab (HR.o.on hb3);have HO3:=Zab (HO.o.on hb3);have HB3:=Zab (HB.o.trans (hb3.mono HB.o.size));have HS3:=Zab (HS.o.below hb3);have HM3:=Zab (HM.o.below hb3);have HT3:Hd (Zbn (w.heap.size+3) w3 (.slice b3 Ts.length k3) Ts):=hs3.mono hz0;clear hb3 hs3 HR HO HB hz0 HS HM;have o0:=HO3.o.cell 0;have o1:=HO3.o.cell 1;have o2:=HO3.o.cell 2;have f2:=HO3.o.free 2;have r0:=HR3.o.cell 0;have r1:=HR3.o.cell 1;have r2:=HR3.o.cell 2;have g0:=HR3.o.free 0;have g1:=HR3.o.free 1;have g2:=HR3.o.free 2;simp at o0 o1 o2 r0 r1 r2;go_wp2;refine bodyPost_ret (v:=.agg #[.slice b1 Ss.length k1,.slice b2 Ms.length k2,.slice b3 Ts.length k3]) (by simp [results,results10,go_sem,r0,r1,r2]) rfl ⟨_,_,_,_,_,_,rfl,?_,?_,?_,?_⟩
 . repeat (refine Below.setCell ?_ (by simp only [];omega) _)
   exact HB3.o
 . refine ZaI.mono (lo:=w.heap.size+3) ?_ (by omega)
   repeat (refine ZaI.set' ?_ (by simp only [];omega) _)
   exact HS3.o
 . refine Zbe.mono (lo:=w.heap.size+3) ?_ (by omega)
   repeat (refine Zbe.setCell ?_ (by simp only [];omega) _)
   exact HM3.o
 . refine Zbn.mono (lo:=w.heap.size+3) ?_ (by omega)
   repeat (refine Zbn.setCell ?_ (by simp only [];omega) _)
   exact HT3.o
end
end
section
variable {lo B k:Nat} {w wr:World} {v:Value} {L:List Int}
structure Ru where
 vb:List Int
 kd:Zy_
 tm:Zy_
 pf:Zy_
def Zat (lo:Nat) (w:World) (v:Value) (L:List Int):Prop:=
 (∃ (a:Option Addr) (cap:Nat),v=.slice a 0 cap/\L=[])\/
 ∃ (b off cap:Nat),v=.slice (some ⟨b,off,none⟩) L.length cap/\L≠[]/\L.length<=maxLen/\b < w.heap.size/\lo<=b/\
  ∀ i (h:i < L.length),w.cell? ⟨b,off+i,none⟩=some (.int .i64 L[i])
theorem Zat.below {w':World} (h:Zat lo w v L) (hb:Zw_ w w'):Zat lo w' v L:=by
 rcases h with h | ⟨b,off,cap,h1,h2,h3,h4,h5,h6⟩
 . exact Or.inl h
 . exact Or.inr ⟨b,off,cap,h1,h2,h3,Zk_ h4 hb.size,h5,fun i hi=>by rw [hb.cell (p:=⟨b,_,none⟩) h4];exact h6 i hi⟩
theorem Zat.mono {lo':Nat} (h:Zat lo w v L) (hl:lo'<=lo):Zat lo' w v L:=by
 rcases h with h | ⟨b,off,cap,h1,h2,h3,h4,h5,h6⟩
 . exact Or.inl h
 . exact Or.inr ⟨b,off,cap,h1,h2,h3,h4,Nat.le_trans hl h5,h6⟩
theorem Zat.form (h:Zat lo w v L):∃ a cap,v=.slice a L.length cap:=by
 rcases h with ⟨a,cap,h,rfl⟩ | ⟨b,off,cap,h,_⟩
 . exact⟨a,cap,h⟩
 . exact⟨_,cap,h⟩
theorem Zat.max (h:Zat lo w v L):L.length<=maxLen:=by
 rcases h with ⟨a,cap,h,rfl⟩ | ⟨b,off,cap,h,_,h3,_⟩
 . exact Nat.zero_le _
 . exact h3
theorem Zat.full (h:Zat lo w v L) (hne:L≠[]):∃ (b off cap:Nat),v=.slice (some ⟨b,off,none⟩) L.length cap/\L.length<=maxLen/\b < w.heap.size/\
 ∀ i (h:i < L.length),w.cell? ⟨b,off+i,none⟩=some (.int .i64 L[i]):=by
 rcases h with ⟨_,_,_,h⟩ | ⟨b,off,cap,h1,_,h3,h4,_,h6⟩
 . exact absurd h hne
 . exact⟨b,off,cap,h1,h3,h4,h6⟩
theorem Zat.full' {a:Option Addr}{n cap:Nat} (h:Zat lo w (.slice a n cap) L) (hL:0 < L.length) :
 ∃ b off,a=some ⟨b,off,none⟩/\b < w.heap.size/\∀ i (h:i < L.length),w.cell? ⟨b,off+i,none⟩=some (.int .i64 L[i]):=by
 rcases h with ⟨a',cap',h,rfl⟩ | ⟨b',off',cap',h1,h2,h3,h4,h5,h6⟩
 . simp at hL
 . injection h1 with e1 e2 e3
   exact⟨b',off',e1,h4,h6⟩
theorem Zat.setCell (h:Zat lo w v L) {p:Addr} (hp:p.block < lo) (u:Value):Zat lo (w.setCell p u) v L:=by
 rcases h with h | ⟨b,off,cap,h1,h2,h3,h4,h5,h6⟩
 . exact Or.inl h
 . refine Or.inr ⟨b,off,cap,h1,h2,h3,by simpa [World.setCell] using h4,h5,fun i hi=>?_⟩
   rw [Zar _ _ _ _ (by show b≠p.block;omega)];exact h6 i hi
theorem Zo0 (lo:Nat) (v:Value) (L:List Int) (left:Int) (w:World) (h0:0<=left) (h1:left<=1048576) (hv:Zat lo w v L) :
 Calls prog 165 #[v,.int .i64 left] w fun e w'=>∃ r:Int,e=.returned (.int .i64 r)/\w'=w/\Ztz L.length left r:=by
 have hm:=hv.max;unfold maxLen at hm;obtain⟨a,cap,rfl⟩:=hv.form
 by_cases hle:(L.length:Int)<=left
 . go_enter func165,ntmps165
   go_wp2;go_ret;exact⟨_,rfl,rfl,by omega,by omega,fun _=>hle⟩
 . go_enter func165,ntmps165
   go_wp2;go_ret;exact⟨-1,rfl,rfl,by omega,by omega,fun h=>by omega⟩
theorem Zec (lo lo':Nat) (v v':Value) (L:List Int) (w:World) (hv:Zat lo w v L) (hv':Zat lo' w v' L) :
 Calls prog 13 #[v,v'] w fun e w'=>e=.returned (.bool true)/\Zw_ w w':=by
 by_cases hL:L=[]
 . subst hL
   obtain⟨a,cap,rfl⟩:=hv.form;obtain⟨a',cap',rfl⟩:=hv'.form;clear hv hv';go_enter func13,ntmps13;go_wp2
   go_loop [5] (fun i=>i=.int .i64 0) (fun _=>0)
   case atStart=>rfl
   case round=>
    subst hrel;go_wp2;go_ret;exact⟨rfl,Below.refl _ _⟩
 . obtain⟨b,off,cap,rfl,hm,hbw,hc⟩:=hv.full hL
   obtain⟨b',off',cap',rfl,_,hbw',hc'⟩:=hv'.full hL;clear hv hv';unfold maxLen at hm;go_enter func13,ntmps13;go_wp2
   go_loopw [5] (fun i wr=>∃ k:Nat,i=.int .i64 k/\k<=L.length/\Zw_ w wr) (fun i _=>L.length - (intOf i).toNat)
   case atStart=>exact⟨0,rfl,by omega,Below.refl _ _⟩
   case round=>
    obtain⟨k,rfl,hk,hb⟩:=hrel
    by_cases hlt:k < L.length
    . have c0:wr.cell? ⟨b,off+k,none⟩=some (.int .i64 L[k]):=by rw [hb.cell (p:=⟨b,_,none⟩) hbw];exact hc k hlt
      have d0:wr.cell? ⟨b',off'+k,none⟩=some (.int .i64 L[k]):=by rw [hb.cell (p:=⟨b',_,none⟩) hbw'];exact hc' k hlt
      have HB:=Zab hb;clear hb;go_wp2
      try go_quiet (fail)
      try go_wp2
      go_roundw
      . exact⟨k+1,by go_num,by omega,by first | exact HB.o | exact below_drewN HB.o _⟩
      . simp [intOf];omega
    . go_wp2
      go_ret;exact⟨rfl,hb⟩
theorem Tryz.info3:(prog.info? 3).map (fun i=>(i.zero,i.size,i.bytes))=some (some (.int .i64 0),1,8):=by kernel_rfl
def ZrO (L:List Int) (k i:Nat):Value:=if i < k then .int .i64 (L.getD i 0) else .int .i64 0
def Zdf (wr:World) (B:Nat) (L:List Int) (k:Nat):Prop:=wr.rowIs B 3 L.length (ZrO L k)
theorem Zdf.step (h:Zdf wr B L k) (hk:k < L.length):Zdf (wr.setCell ⟨B,k,none⟩ (.int .i64 L[k])) B L (k+1):=by
 unfold Zdf at*;refine (h.set k (.int .i64 L[k])).congr fun i hi=>?_
 unfold ZrO
 by_cases e:i=k
 . subst e;simp [hk]
 . by_cases e2:i < k
   . simp [e,e2,Nat.lt_succ_of_lt e2]
   . have:¬ i < k+1:=by omega
     simp [e,e2,this]
theorem Zdf.done (h:Zdf wr B L k) (hk:L.length<=k) (hne:L≠[]) (hm:L.length<=maxLen):Zat B wr (.slice (some ⟨B,0,none⟩) L.length L.length) L:=by
 refine Or.inr ⟨B,0,L.length,rfl,hne,hm,World.rowIs.lt h,Nat.le_refl _,fun i hi=>?_⟩;rw [Nat.zero_add,World.rowIs.cell h hi];unfold ZrO;rw [if_pos (by omega),List.getD_eq_getElem?_getD,List.getElem?_eq_getElem hi];rfl
theorem Zo6 (lo:Nat) (v:Value) (L:List Int) (w:World) (hv:Zat lo w v L) (hn:L.length<=1048576) :
 Calls prog 177 #[v] w fun e w'=>∃ v',e=.returned v'/\Zw_ w w'/\Zat w.heap.size w' v' L:=by
 by_cases hL:L=[]
 . subst hL
   obtain⟨a,cap,rfl⟩:=hv.form;clear hv
   have hmk:∀ u:World,(Instr.makeSlice 35 (.int .i64 0) (.int .i64 0)).run prog u=.ok (.slice (some ⟨u.heap.size,0,none⟩) 0 0) (u.alloc (.cells (madeCells #[.int .i64 0] 0) 3)):=
    fun u=>run_make_row' 35 3 (.int .i64 0) 8 underlying35 Tryz.info3 rfl .i64 .i64 0 (by omega) (by omega) u
   go_enter func177,ntmps177;go_wp2
   go_loop [4] (fun i=>i=.int .i64 0) (fun _=>0)
   case atStart=>rfl
   case round=>
    subst hrel;go_wp2;go_ret;exact⟨_,rfl,Zb_.alloc Zl_ _,Or.inl ⟨_,_,rfl,rfl⟩⟩
 . obtain⟨b,off,cap,rfl,hm,hbw,hc⟩:=hv.full hL
   clear hv;have HM:Hd (L.length<=maxLen):=hm;unfold maxLen at hm
   have hmk:∀ u:World,(Instr.makeSlice 35 (.int .i64 (L.length:Int)) (.int .i64 (L.length:Int))).run prog u=.ok (.slice (some ⟨u.heap.size,0,none⟩) L.length L.length) (u.alloc (.cells (madeCells #[.int .i64 0] L.length) 3)):=
    fun u=>run_make_row' 35 3 (.int .i64 0) 8 underlying35 Tryz.info3 rfl .i64 .i64 L.length (by omega) (by omega) u
   go_enter func177,ntmps177;go_wp2;clear hmk
   go_loopw [4] (fun i wr=>∃ k:Nat,i=.int .i64 k/\k<=L.length/\Zw_ w wr/\Zdf wr w.heap.size L k) (fun i _=>L.length - (intOf i).toNat)
   case atStart=>exact⟨0,rfl,by omega,Zb_.alloc Zl_ _,World.rowIs_made w (.int .i64 0) L.length 3⟩
   case round=>
    obtain⟨k,rfl,hk,hb,hf⟩:=hrel
    by_cases hlt:k < L.length
    . have hck:wr.cell? ⟨b,off+k,none⟩=some (.int .i64 L[k]):=by rw [hb.cell (p:=⟨b,off+k,none⟩) hbw];exact hc k hlt
      have hold:wr.cell? ⟨w.heap.size,k,none⟩=some _:=World.rowIs.cell hf hlt;have hfz:wr.frozen? ⟨w.heap.size,k,none⟩=false:=World.rowIs.frozen hf k;go_wp2;go_roundw
      . exact⟨k+1,by go_num,by omega,hb.setCell Zl_ _,hf.step hlt⟩
      . simp [intOf];omega
    . go_wp2
      go_ret;exact⟨_,rfl,hb,hf.done (by omega) hL HM.o⟩
structure Zhx (r:Ru):Prop where
 s1:r.kd.size<=maxLen
 s2:r.tm.size<=maxLen
 s3:r.pf.size<=maxLen
theorem Zo2 (lo:Nat) (r:Ru) (vv:Value) (left:Int) (w:World) (h0:0<=left) (h1:left<=1048576) (hv:Zat lo w vv r.vb) (hz:Zhx r) :
 Calls prog 123 #[.agg #[vv,.string r.kd,.string r.tm,.string r.pf],.int .i64 left] w
  fun e w'=>∃ q:Int,e=.returned (.int .i64 q)/\Zw_ w w'/\Ztz r.vb.length left q:=by
 obtain⟨s1,s2,s3⟩:=hz;unfold maxLen at s1 s2 s3;have HV:=Zab hv;obtain⟨a,cap,rfl⟩:=hv.form;clear hv;have HW:∀ o,Hd (Zw_ w (w.alloc o)):=fun o=>Zac _ _
 go_enter func123,ntmps123;go_wp2_with fail;refine (Zo0 lo _ r.vb _ _ (by omega) (by omega) (HV.o.below (HW _).o)).mono ?_;rintro e w1 ⟨q,rfl,rfl,hr0,hr1,hr2⟩;have HR:=Zab hr2;clear hr2;go_wp2
 all_goals go_ret
 all_goals refine⟨_,rfl,(HW _).o,by omega,by omega,fun _=>?_⟩
 all_goals have:=HR.o (by omega)
 all_goals omega
theorem Zpd (lo:Nat) (r:Ru) (vv:Value) (w:World) (hv:Zat lo w vv r.vb) (hn:r.vb.length<=1048576) :
 Calls prog 140 #[.agg #[vv,.string r.kd,.string r.tm,.string r.pf]] w
  fun e w'=>∃ v',e=.returned (.agg #[v',.string r.kd,.string r.tm,.string r.pf])/\Zw_ w w'/\Zat w.heap.size w' v' r.vb:=by
 have HV:=Zab hv;obtain⟨a,cap,rfl⟩:=hv.form;clear hv;go_enter func140,ntmps140;go_wp2_with fail;refine (Zo6 lo _ r.vb _ (HV.o.below ?_) hn).mono ?_
 . exact ((Zb_.alloc Zl_ _).alloc (by simp) _).alloc (by simp;omega) _
 rintro e w1 ⟨v',rfl,hb,hs⟩;obtain⟨a',cap',rfl⟩:=hs.form;have HS:Hd (Zat (w.heap.size+3) w1 (.slice a' r.vb.length cap') r.vb):=hs.mono (by simp);clear hs;have hz:w.heap.size+2 < w1.heap.size:=by have:=hb.size;simp at this;omega
 have hc:∀ b o,b < w.heap.size+3->w1.cell? ⟨b,o,none⟩=_:=fun b o h=>hb.cell (p:=⟨b,o,none⟩) (by simpa using h)
 have hf:∀ b o,b < w.heap.size+3->w1.frozen? ⟨b,o,none⟩=_:=fun b o h=>hb.frozen (p:=⟨b,o,none⟩) (by simpa using h)
 have HB:Hd (Zw_ w w1):=(((Zb_.alloc Zl_ _).alloc (by simp) _).alloc (by simp;omega) _).trans (hb.mono (by simp;omega));clear hb;go_wp2;refine bodyPost_ret (v:=.agg #[.slice a' r.vb.length cap',.string r.kd,.string r.tm,.string r.pf]) (by simp [results,results140,go_sem,hc]) rfl ⟨_,rfl,?_,?_⟩
 . repeat (refine Below.setCell ?_ (by simp only [];omega) _)
   exact HB.o
 . refine Zat.mono (lo:=w.heap.size+3) ?_ (by omega)
   repeat (refine Zat.setCell ?_ (by simp only [];omega) _)
   exact HS.o
theorem ZlS (lo lo':Nat) (r:Ru) (vv vv':Value) (w:World) (hv:Zat lo w vv r.vb) (hv':Zat lo' w vv' r.vb) :
 Calls prog 148 #[.agg #[vv,.string r.kd,.string r.tm,.string r.pf],.agg #[vv',.string r.kd,.string r.tm,.string r.pf]] w
  fun e w'=>e=.returned (.bool true)/\Zw_ w w':=by
 have HV:=Zab hv;have HV':=Zab hv';obtain⟨a,cap,rfl⟩:=hv.form;obtain⟨a',cap',rfl⟩:=hv'.form;clear hv hv';go_enter func148,ntmps148;go_wp2_with fail;generalize hWa:(World.alloc (w.alloc _) _)=Wa;have HBa:Hd (Zw_ w Wa):=by rw [<- hWa];exact (Zac w _).alloc (by simp) _
 have FA:Hd (Box Wa w.heap.size #[.slice a r.vb.length cap,.string r.kd,.string r.tm,.string r.pf]):=by rw [<- hWa];exact (Box.new _ _ _ _ rfl).on (Zac _ _)
 have FB:Hd (Box Wa (w.heap.size+1) #[.slice a' r.vb.length cap',.string r.kd,.string r.tm,.string r.pf]):=by rw [<- hWa];exact Box.new _ _ _ _ (by simp)
 clear hWa;refine (Zec lo lo' _ _ r.vb _ (HV.o.below HBa.o) (HV'.o.below HBa.o)).mono ?_;rintro e w1 ⟨rfl,hb1⟩;have HB1:Hd (Zw_ w w1):=HBa.o.trans (hb1.mono HBa.o.size);have g:=(FA.o.on hb1).cell;have g':=(FB.o.on hb1).cell;have a1:w1.cell? ⟨w.heap.size,1,none⟩=some (.string r.kd):=g 1;have a2:w1.cell? ⟨w.heap.size,2,none⟩=some (.string r.tm):=g 2;have a3:w1.cell? ⟨w.heap.size,3,none⟩=some (.string r.pf):=g 3;have b1:w1.cell? ⟨w.heap.size+1,1,none⟩=some (.string r.kd):=g' 1;have b2:w1.cell? ⟨w.heap.size+1,2,none⟩=some (.string r.tm):=g' 2;have b3:w1.cell? ⟨w.heap.size+1,3,none⟩=some (.string r.pf):=g' 3;clear g g' hb1;go_wp2;go_ret;exact⟨rfl,HB1.o⟩
end
section
variable {w w' wr w1:World} {b o lo B k:Nat} {vv0 v:Value}
structure Gr where
 nu:Int
 tw:Zy_
 gb:Zy_
 vb:List Int
 kd:Zy_
 tm:Zy_
 pf:Zy_
variable {x:Gr} {Xl:List Gr}
structure ZeE (x:Gr):Prop where
 s0:x.tw.size<=maxLen
 s1:x.gb.size<=maxLen
 s2:x.kd.size<=maxLen
 s3:x.tm.size<=maxLen
 s4:x.pf.size<=maxLen
def ZeF (x:Gr):Prop:=x.vb.length<=1048576
structure ZcS (w:World) (b o:Nat) (x:Gr) (vv0:Value):Prop where
 c0:w.cell? ⟨b,o,none⟩=some (.int .i64 x.nu)
 c1:w.cell? ⟨b,o+1,none⟩=some (.string x.tw)
 c2:w.cell? ⟨b,o+2,none⟩=some (.string x.gb)
 c3:w.cell? ⟨b,o+3,none⟩=some vv0
 c4:w.cell? ⟨b,o+4,none⟩=some (.string x.kd)
 c5:w.cell? ⟨b,o+5,none⟩=some (.string x.tm)
 c6:w.cell? ⟨b,o+6,none⟩=some (.string x.pf)
theorem ZcS.below (h:ZcS w b o x vv0) {m:Nat} (hb:Below m w w') (hlt:b < m):ZcS w' b o x vv0:=by
 have e:∀ o,w'.cell? ⟨b,o,none⟩=w.cell? ⟨b,o,none⟩:=fun o=>hb.cell (p:=⟨b,o,none⟩) hlt
 exact⟨by rw [e];exact h.c0,by rw [e];exact h.c1,by rw [e];exact h.c2,by rw [e];exact h.c3,by rw [e];exact h.c4,by rw [e];exact h.c5,by rw [e];exact h.c6⟩
theorem ZcS.set (h:ZcS w b o x vv0) {p:Addr} (hp:b≠p.block) (u:Value):ZcS (w.setCell p u) b o x vv0:=by
 have e:∀ o,(w.setCell p u).cell? ⟨b,o,none⟩=w.cell? ⟨b,o,none⟩:=fun o=>Zar _ _ _ _ hp
 exact⟨by rw [e];exact h.c0,by rw [e];exact h.c1,by rw [e];exact h.c2,by rw [e];exact h.c3,by rw [e];exact h.c4,by rw [e];exact h.c5,by rw [e];exact h.c6⟩
def ZbX (lo:Nat) (w:World) (v:Value) (Xl:List Gr):Prop:=
 (∃ (a:Option Addr) (cap:Nat),v=.slice a 0 cap/\Xl=[])\/
 ∃ (b off cap:Nat),v=.slice (some ⟨b,off,none⟩) Xl.length cap/\Xl≠[]/\Xl.length<=maxLen/\b < w.heap.size/\lo<=b/\Xl.length<=cap/\
  ∀ i (h:i < Xl.length),ZeE Xl[i]/\∃ vv0,ZcS w b (off+i*7) Xl[i] vv0/\Zat lo w vv0 Xl[i].vb
theorem ZbX.below (h:ZbX lo w v Xl) (hb:Zw_ w w'):ZbX lo w' v Xl:=by
 rcases h with h | ⟨b,off,cap,h1,h2,h3,h4,h5,h6,h7⟩
 . exact Or.inl h
 . refine Or.inr ⟨b,off,cap,h1,h2,h3,Zk_ h4 hb.size,h5,h6,fun i hi=>?_⟩
   obtain⟨hs,vv0,hc,hv0⟩:=h7 i hi;exact⟨hs,vv0,hc.below hb h4,hv0.below hb⟩
theorem ZbX.mono {lo':Nat} (h:ZbX lo w v Xl) (hl:lo'<=lo):ZbX lo' w v Xl:=by
 rcases h with h | ⟨b,off,cap,h1,h2,h3,h4,h5,h6,h7⟩
 . exact Or.inl h
 . refine Or.inr ⟨b,off,cap,h1,h2,h3,h4,Nat.le_trans hl h5,h6,fun i hi=>?_⟩
   obtain⟨hs,vv0,hc,hv0⟩:=h7 i hi;exact⟨hs,vv0,hc,hv0.mono hl⟩
theorem ZbX.set (h:ZbX lo w v Xl) {p:Addr} (hp:p.block < lo) (u:Value):ZbX lo (w.setCell p u) v Xl:=by
 rcases h with h | ⟨b,off,cap,h1,h2,h3,h4,h5,h6,h7⟩
 . exact Or.inl h
 . refine Or.inr ⟨b,off,cap,h1,h2,h3,by simpa [World.setCell] using h4,h5,h6,fun i hi=>?_⟩
   obtain⟨hs,vv0,hc,hv0⟩:=h7 i hi;exact⟨hs,vv0,hc.set (by omega) u,hv0.setCell hp u⟩
theorem ZbX.form (h:ZbX lo w v Xl):∃ a cap,v=.slice a Xl.length cap:=by
 rcases h with ⟨a,cap,h,rfl⟩ | ⟨b,off,cap,h,_⟩
 . exact⟨a,cap,h⟩
 . exact⟨_,cap,h⟩
theorem ZbX.max (h:ZbX lo w v Xl):Xl.length<=maxLen:=by
 rcases h with ⟨a,cap,h,rfl⟩ | ⟨b,off,cap,h,_,h3,_⟩
 . exact Nat.zero_le _
 . exact h3
theorem ZbX.full (h:ZbX lo w v Xl) (hne:Xl≠[]):∃ (b off cap:Nat),v=.slice (some ⟨b,off,none⟩) Xl.length cap/\Xl.length<=maxLen/\b < w.heap.size/\Xl.length<=cap/\
 ∀ i (h:i < Xl.length),ZeE Xl[i]/\∃ vv0,ZcS w b (off+i*7) Xl[i] vv0/\Zat lo w vv0 Xl[i].vb:=by
 rcases h with ⟨_,_,_,h⟩ | ⟨b,off,cap,h1,_,h3,h4,_,h6,h7⟩
 . exact absurd h hne
 . exact⟨b,off,cap,h1,h3,h4,h6,h7⟩
theorem ZbX.full' {a:Option Addr}{n cap:Nat} (h:ZbX lo w (.slice a n cap) Xl) (hL:0 < Xl.length) :
 ∃ b off,a=some ⟨b,off,none⟩/\b < w.heap.size/\lo<=b/\∀ i (h:i < Xl.length),ZeE Xl[i]/\∃ vv0,ZcS w b (off+i*7) Xl[i] vv0/\Zat lo w vv0 Xl[i].vb:=by
 rcases h with ⟨a',cap',h,rfl⟩ | ⟨b',off',cap',h1,h2,h3,h4,h5,h6,h7⟩
 . simp at hL
 . injection h1 with e1 e2 e3
   exact⟨b',off',e1,h4,h5,h7⟩
def Ze3 (Xl:List Gr):Prop:=Xl.length<=1048576/\∀ i (h:i < Xl.length),ZeF Xl[i]
def Zuh (Xl:List Gr) (left r:Int):Prop:= -1<=r/\r<=left/\(0<=r->Ze3 Xl)
def Gr.ru (x:Gr):Ru:=⟨x.vb,x.kd,x.tm,x.pf⟩
theorem Zsi (lo:Nat) (x:Gr) (vv0:Value) (left:Int) (w:World) (h0:0<=left) (h1:left<=1048576) (hv0:Zat lo w vv0 x.vb) (hz:ZeE x) :
 Calls prog 78 #[.agg #[.int .i64 x.nu,.string x.tw,.string x.gb,vv0,.string x.kd,.string x.tm,.string x.pf],.int .i64 left] w
  fun e w'=>∃ r:Int,e=.returned (.int .i64 r)/\Zw_ w w'/\-1<=r/\r<=left/\(0<=r->ZeF x):=by
 have HV:=Zab hv0;obtain⟨a,cap,rfl⟩:=hv0.form;obtain⟨s0,s1,s2,s3,s4⟩:=hz;have HZ:Hd (Zhx x.ru):=⟨s2,s3,s4⟩;unfold maxLen at s0 s1;clear hv0 s2 s3 s4;have HW:∀ o,Hd (Zw_ w (w.alloc o)):=fun o=>Zb_.alloc Zl_ _
 by_cases c0:(x.tw.size:Int)<=left
 . by_cases c1:(x.tw.size:Int)+x.gb.size<=left
   . go_enter func78,ntmps78
     go_wp2_with fail;refine (Zo2 lo x.ru _ _ _ (by omega) (by omega) (HV.o.below (HW _).o) HZ.o).mono ?_;rintro e w1 ⟨r,rfl,hb,q0,q1,q2⟩;have HB:Hd (Zw_ w w1):=(HW _).o.trans (hb.mono (HW _).o.size);have Q2:=Zab q2;clear hb q2
     by_cases hr:r < 0
     . go_wp2
       go_ret;exact⟨-1,rfl,HB.o,by omega,by omega,fun h=>by omega⟩
     . go_wp2
       go_ret;exact⟨_,rfl,HB.o,by omega,by omega,fun h=>by have:(x.ru.vb.length:Int)<=_:=Q2.o h;show x.vb.length<=1048576;unfold Gr.ru at this;simp only [] at this;omega⟩
   . go_enter func78,ntmps78
     go_wp2;go_ret;exact⟨-1,rfl,(HW _).o,by omega,by omega,fun h=>by omega⟩
 . go_enter func78,ntmps78
   go_wp2;go_ret;exact⟨-1,rfl,(HW _).o,by omega,by omega,fun h=>by omega⟩
theorem Zsn (lo:Nat) (x:Gr) (vv0:Value) (w:World) (hv0:Zat lo w vv0 x.vb) (hn:ZeF x) :
 Calls prog 90 #[.agg #[.int .i64 x.nu,.string x.tw,.string x.gb,vv0,.string x.kd,.string x.tm,.string x.pf]] w
  fun e w'=>∃ z0,e=.returned (.agg #[.int .i64 x.nu,.string x.tw,.string x.gb,z0,.string x.kd,.string x.tm,.string x.pf])/\Zw_ w w'/\Zat w.heap.size w' z0 x.vb:=by
 have HV:=Zab hv0;obtain⟨a,cap,rfl⟩:=hv0.form;have hn':x.ru.vb.length<=1048576:=hn;clear hv0 hn;go_enter func90,ntmps90;go_wp2_with fail;refine (Zpd lo x.ru _ _ (HV.o.below ?_) hn').mono ?_
 . exact ((Zb_.alloc Zl_ _).alloc (by simp) _).alloc (by simp;omega) _
 rintro e w1 ⟨v',rfl,hb,hs⟩;obtain⟨a',cap',rfl⟩:=hs.form;have HS:Hd (Zat (w.heap.size+3) w1 (.slice a' x.ru.vb.length cap') x.vb):=hs.mono (by simp);clear hs;have hz:w.heap.size+2 < w1.heap.size:=by have:=hb.size;simp at this;omega
 have hc:∀ b o,b < w.heap.size+3->w1.cell? ⟨b,o,none⟩=_:=fun b o h=>hb.cell (p:=⟨b,o,none⟩) (by simpa using h)
 have hf:∀ b o,b < w.heap.size+3->w1.frozen? ⟨b,o,none⟩=_:=fun b o h=>hb.frozen (p:=⟨b,o,none⟩) (by simpa using h)
 have HB:Hd (Zw_ w w1):=(((Zb_.alloc Zl_ _).alloc (by simp) _).alloc (by simp;omega) _).trans (hb.mono (by simp;omega));clear hb;go_wp2;refine bodyPost_ret (v:=.agg #[.int .i64 x.nu,.string x.tw,.string x.gb,(.slice a' x.ru.vb.length cap'),.string x.kd,.string x.tm,.string x.pf]) (by simp [results,results90,go_sem,hc];exact⟨rfl,rfl,rfl⟩) rfl ⟨_,rfl,?_,?_⟩
 . repeat (refine Below.setCell ?_ (by simp only [];omega) _)
   exact HB.o
 . refine Zat.mono (lo:=w.heap.size+3) ?_ (by omega)
   repeat (refine Zat.setCell ?_ (by simp only [];omega) _)
   exact HS.o
theorem Zp7 (lo lo':Nat) (x:Gr) (vv0 vv0':Value) (w:World) (hv0:Zat lo w vv0 x.vb) (hw0:Zat lo' w vv0' x.vb) :
 Calls prog 101 #[.agg #[.int .i64 x.nu,.string x.tw,.string x.gb,vv0,.string x.kd,.string x.tm,.string x.pf],.agg #[.int .i64 x.nu,.string x.tw,.string x.gb,vv0',.string x.kd,.string x.tm,.string x.pf]] w fun e w'=>e=.returned (.bool true)/\Zw_ w w':=by
 have HV:=Zab hv0;have HV':=Zab hw0;obtain⟨a,cap,rfl⟩:=hv0.form;obtain⟨a',cap',rfl⟩:=hw0.form;clear hv0 hw0;have HW:∀ o o',Hd (Zw_ w ((w.alloc o).alloc o')):=fun o o'=>(Zb_.alloc Zl_ _).alloc (by simp) _
 go_enter func101,ntmps101;go_wp2_with fail;refine (ZlS lo lo' x.ru _ _ _ (HV.o.below (HW _ _).o) (HV'.o.below (HW _ _).o)).mono ?_;rintro e w1 ⟨rfl,hb1⟩;have HB1:Hd (Zw_ w w1):=(HW _ _).o.trans (hb1.mono (HW _ _).o.size);clear hb1;go_wp2;go_ret;exact⟨rfl,HB1.o⟩
theorem Zq5 (lo:Nat) (v:Value) (Xl:List Gr) (left:Int) (w:World) (h0:0<=left) (h1:left<=1048576) (hv:ZbX lo w v Xl) :
 Calls prog 31 #[v,.int .i64 left] w fun e w'=>∃ r:Int,e=.returned (.int .i64 r)/\Zw_ w w'/\Zuh Xl left r:=by
 rcases hv with ⟨a,cap,rfl,rfl⟩ | ⟨b,off,cap,rfl,hne,hm,hbw,_,_,hc⟩
 . go_enter func31,ntmps31
   go_wp2
   go_loop [1,5] (fun l i=>∃ r:Int,l=.int .i64 r/\0<=r/\r<=left/\i=.int .i64 0) (fun _ _=>0)
   case atStart=>exact⟨_,rfl,by omega,by omega,rfl⟩
   case round=>
    obtain⟨r,rfl,hr0,hr1,rfl⟩:=hrel;go_wp2;go_ret;exact⟨r,rfl,Below.refl _ _,by omega,by omega,fun _=>⟨by simp,fun i h=>by simp at h⟩⟩
 . unfold maxLen at hm
   by_cases hle:(Xl.length:Int)<=left
   . go_enter func31,ntmps31
     go_wp2
     go_loopw [1,5] (fun l i wr=>∃ (r:Int) (k:Nat),l=.int .i64 r/\0<=r/\r<=left/\i=.int .i64 k/\k<=Xl.length/\Zw_ w wr/\∀ j (hj:j < Xl.length),j < k->ZeF Xl[j]) (fun _ i _=>Xl.length - (intOf i).toNat)
     case atStart=>exact⟨_,0,rfl,by omega,by omega,rfl,by omega,Below.refl _ _,fun j _ h=>by omega⟩
     case round=>
      obtain⟨r,k,rfl,hr0,hr1,rfl,hk,hb,hall⟩:=hrel;have HA:=Zab hall;clear hall
      by_cases hlt:k < Xl.length
      . obtain⟨hs,vv0,hc,hv0⟩:=hc k hlt
        have HV0:=Zab (hv0.below hb);obtain⟨a0,k0,rfl⟩:=hv0.form;obtain⟨c0,c1,c2,c3,c4,c5,c6⟩:=hc.below hb hbw;clear hc hv0;go_wp2_with fail;refine (Zsi lo _ _ _ _ hr0 (by omega) HV0.o hs).mono ?_;rintro e w1 ⟨r1,rfl,hb1,q0,q1,q2⟩;have HQ2:=Zab q2;have hB:Hd (Zw_ w w1):=hb.trans (hb1.mono hb.size);clear hb1 c0 c1 c2 c3 c4 c5 c6 hb q2 HV0
        by_cases hneg:r1 < 0
        . go_wp2
          go_ret;exact⟨-1,rfl,hB.o,by omega,by omega,fun h=>by omega⟩
        . have HL:Hd (ZeF Xl[k]):=HQ2.o (by omega)
          clear HQ2;go_wp2;go_roundw
          case rel=>exact⟨_,k+1,rfl,by omega,by omega,by go_num,by omega,hB.o,fun j hj h=>by
                     by_cases e:j=k
                     . subst e;exact HL.o
                     . exact HA.o j hj (by omega)⟩
          . simp [intOf];omega
      . go_wp2
        go_ret;exact⟨r,rfl,hb,by omega,by omega,fun _=>⟨by omega,fun j hj=>HA.o j hj (by omega)⟩⟩
   . go_enter func31,ntmps31
     go_wp2;go_ret;exact⟨-1,rfl,Below.refl _ _,by omega,by omega,fun h=>by omega⟩
theorem Zn2 (lo lo':Nat) (v v':Value) (Xl:List Gr) (w:World) (hv:ZbX lo w v Xl) (hv':ZbX lo' w v' Xl) :
 Calls prog 49 #[v,v'] w fun e w'=>e=.returned (.bool true)/\Zw_ w w':=by
 by_cases hL:Xl=[]
 . subst hL
   obtain⟨a,cap,rfl⟩:=hv.form;obtain⟨a',cap',rfl⟩:=hv'.form;clear hv hv';go_enter func49,ntmps49;go_wp2
   go_loop [5] (fun i=>i=.int .i64 0) (fun _=>0)
   case atStart=>rfl
   case round=>
    subst hrel;go_wp2;go_ret;exact⟨rfl,Below.refl _ _⟩
 . obtain⟨b,off,cap,rfl,hm,hbw,_,hc⟩:=hv.full hL
   obtain⟨b',off',cap',rfl,_,hbw',_,hc'⟩:=hv'.full hL;clear hv hv';unfold maxLen at hm;go_enter func49,ntmps49;go_wp2
   go_loopw [5] (fun i wr=>∃ k:Nat,i=.int .i64 k/\k<=Xl.length/\Zw_ w wr) (fun i _=>Xl.length - (intOf i).toNat)
   case atStart=>exact⟨0,rfl,by omega,Below.refl _ _⟩
   case round=>
    obtain⟨k,rfl,hk,hb⟩:=hrel
    by_cases hlt:k < Xl.length
    . obtain⟨hs,vv0,hc,hv0⟩:=hc k hlt
      obtain⟨ht,vv0',hd,hw0⟩:=hc' k hlt;have HV0:=Zab (hv0.below hb);have HW0:=Zab (hw0.below hb);obtain⟨a0,k0,rfl⟩:=hv0.form;obtain⟨e0,g0,rfl⟩:=hw0.form;obtain⟨c0,c1,c2,c3,c4,c5,c6⟩:=hc.below hb hbw;obtain⟨d0,d1,d2,d3,d4,d5,d6⟩:=hd.below hb hbw';clear hc hd hv0 hw0 hs ht;have HB:=Zab hb;clear hb;go_wp2
      go_region_with (go_at_call 101;refine (Zp7 lo lo' _ _ _ _ (HV0.o.below (Zb_.drew)) (HW0.o.below (Zb_.drew))).mono ?_;rintro e w1 ⟨rfl,hb1⟩;have hB:Hd (Zw_ w w1):=(HB.o.drew).trans (hb1.mono HB.o.size);clear hb1)
      all_goals go_wp2
      all_goals go_roundw
      all_goals first
       | (case rel=>exact⟨k+1,by go_num,by omega,hB.o⟩)
       | (case measure=>simp [intOf];omega)
    . go_wp2
      go_ret;exact⟨rfl,hb⟩
theorem Tryz.info140:(prog.info? 140).map (fun i=>(i.zero,i.size,i.bytes))=some (some (.agg #[.int .i64 0,.string ⟨#[]⟩,.string ⟨#[]⟩,.slice none 0 0,.string ⟨#[]⟩,.string ⟨#[]⟩,.string ⟨#[]⟩]),7,112):=by kernel_rfl
def ZbY (wr:World) (B:Nat) (Xl:List Gr) (k:Nat):Prop:=
 ∃ f,wr.rowIs B 140 (Xl.length*7) f/\∀ i (h:i < Xl.length),i < k->ZeE Xl[i]/\∃ vv0,f (i*7)=.int .i64 Xl[i].nu/\f (i*7+1)=.string Xl[i].tw/\f (i*7+2)=.string Xl[i].gb/\f (i*7+3)=vv0/\f (i*7+4)=.string Xl[i].kd/\f (i*7+5)=.string Xl[i].tm/\f (i*7+6)=.string Xl[i].pf/\Zat (B+1) wr vv0 Xl[i].vb
theorem ZbY.below (h:ZbY wr B Xl k) (hb:Below wr.heap.size wr w1):ZbY w1 B Xl k:=by
 obtain⟨f,hr,hall⟩:=h;refine⟨f,hr.of_block (hb.block B hr.lt),fun i hi hik=>?_⟩;obtain⟨hz,vv0,h0,h1,h2,h3,h4,h5,h6,hv0⟩:=hall i hi hik;exact⟨hz,vv0,h0,h1,h2,h3,h4,h5,h6,hv0.below hb⟩
theorem ZbY.free (h:ZbY wr B Xl k) (i:Nat):wr.frozen? ⟨B,i,none⟩=false:=by
 obtain⟨f,hr,_⟩:=h;exact hr.frozen i
theorem ZbY.there (h:ZbY wr B Xl k) (i:Nat) (hi:i < Xl.length*7):∃ v,wr.cell? ⟨B,i,none⟩=some v:=by
 obtain⟨f,hr,_⟩:=h;exact⟨_,hr.cell hi⟩
theorem ZbY.step (h:ZbY w1 B Xl k) (hk:k < Xl.length) (hz:ZeE Xl[k]) (hv0:Zat (B+1) w1 vv0 Xl[k].vb) :
 ZbY (((((((w1.setCell ⟨B,k*7,none⟩ (.int .i64 Xl[k].nu)).setCell ⟨B,k*7+1,none⟩ (.string Xl[k].tw)).setCell ⟨B,k*7+2,none⟩ (.string Xl[k].gb)).setCell ⟨B,k*7+3,none⟩ vv0).setCell ⟨B,k*7+4,none⟩ (.string Xl[k].kd)).setCell ⟨B,k*7+5,none⟩ (.string Xl[k].tm)).setCell ⟨B,k*7+6,none⟩ (.string Xl[k].pf)) B Xl (k+1):=by
 obtain⟨f,hr,hall⟩:=h;refine⟨_,(((((((hr.set _ _).set _ _).set _ _).set _ _).set _ _).set _ _).set _ _),fun i hi hik=>?_⟩
 by_cases e:i=k
 . subst e
   refine⟨hz,vv0,by simp,by simp,by simp,by simp,by simp,by simp,by simp,?_⟩
   . repeat (refine Zat.setCell ?_ (by simp only [];omega) _)
     exact hv0
 . obtain⟨hz',vv0',h0,h1,h2,h3,h4,h5,h6,hv0'⟩:=hall i hi (by omega)
   refine⟨hz',vv0',?_,?_,?_,?_,?_,?_,?_,?_⟩
   . rw [if_neg (by omega),if_neg (by omega),if_neg (by omega),if_neg (by omega),if_neg (by omega),if_neg (by omega),if_neg (by omega)];exact h0
   . rw [if_neg (by omega),if_neg (by omega),if_neg (by omega),if_neg (by omega),if_neg (by omega),if_neg (by omega),if_neg (by omega)];exact h1
   . rw [if_neg (by omega),if_neg (by omega),if_neg (by omega),if_neg (by omega),if_neg (by omega),if_neg (by omega),if_neg (by omega)];exact h2
   . rw [if_neg (by omega),if_neg (by omega),if_neg (by omega),if_neg (by omega),if_neg (by omega),if_neg (by omega),if_neg (by omega)];exact h3
   . rw [if_neg (by omega),if_neg (by omega),if_neg (by omega),if_neg (by omega),if_neg (by omega),if_neg (by omega),if_neg (by omega)];exact h4
   . rw [if_neg (by omega),if_neg (by omega),if_neg (by omega),if_neg (by omega),if_neg (by omega),if_neg (by omega),if_neg (by omega)];exact h5
   . rw [if_neg (by omega),if_neg (by omega),if_neg (by omega),if_neg (by omega),if_neg (by omega),if_neg (by omega),if_neg (by omega)];exact h6
   . repeat (refine Zat.setCell ?_ (by simp only [];omega) _)
     exact hv0'
theorem ZbY.done (h:ZbY wr B Xl k) (hk:Xl.length<=k) (hne:Xl≠[]) (hm:Xl.length<=maxLen):ZbX B wr (.slice (some ⟨B,0,none⟩) Xl.length Xl.length) Xl:=by
 obtain⟨f,hr,hall⟩:=h;refine Or.inr ⟨B,0,Xl.length,rfl,hne,hm,hr.lt,Nat.le_refl _,Nat.le_refl _,fun i hi=>?_⟩;obtain⟨hz,vv0,h0,h1,h2,h3,h4,h5,h6,hv0⟩:=hall i hi (by omega);rw [Nat.zero_add];exact⟨hz,vv0,⟨by rw [hr.cell (by omega),h0],by rw [hr.cell (by omega),h1],by rw [hr.cell (by omega),h2],by rw [hr.cell (by omega),h3],by rw [hr.cell (by omega),h4],by rw [hr.cell (by omega),h5],by rw [hr.cell (by omega),h6]⟩,hv0.mono (by omega)⟩
theorem ZbY.new (w:World) (Xl:List Gr) (z:Array Value):ZbY (w.alloc (.cells (madeCells z (Xl.length*7)) 140)) w.heap.size Xl 0:=by
 refine⟨fun i=>(madeCells z (Xl.length*7)).getD i default,?_,fun i _ h=>by omega⟩;have:=World.rowIs_alloc w (madeCells z (Xl.length*7)) 140 (fun i=>(madeCells z (Xl.length*7)).getD i default) (fun i hi=>by simp [Array.getD,hi])
 rwa [size_madeCells] at this
theorem Zrl (lo:Nat) (v:Value) (Xl:List Gr) (w:World) (hv:ZbX lo w v Xl) (hn:Ze3 Xl) :
 Calls prog 40 #[v] w fun e w'=>∃ v',e=.returned v'/\Zw_ w w'/\ZbX w.heap.size w' v' Xl:=by
 obtain⟨i0,hi,hz0,hz1,hz2⟩:=info_parts Tryz.info140;have HSM:=Zab hn.2;have hn1:=hn.1;clear hn
 by_cases hL:Xl=[]
 . subst hL
   obtain⟨a,cap,rfl⟩:=hv.form;clear hv
   have hmk:∀ u:World,(Instr.makeSlice 44 (.int .i64 0) (.int .i64 0)).run prog u=.ok (.slice (some ⟨u.heap.size,0,none⟩) 0 0) (u.alloc (.cells (madeCells (Value.cells (.agg #[.int .i64 0,.string ⟨#[]⟩,.string ⟨#[]⟩,.slice none 0 0,.string ⟨#[]⟩,.string ⟨#[]⟩,.string ⟨#[]⟩])) 0) 140)):=fun u=>by
    have h:=run_make (P:=prog) u 44 140 i0 _ underlying44 hi hz0 .i64 .i64 0 0 (by omega) (by omega) (by omega) (by omega)
    simpa [hz1] using h
   go_enter func40,ntmps40;go_wp2
   go_loop [4] (fun i=>i=.int .i64 0) (fun _=>0)
   case atStart=>rfl
   case round=>
    subst hrel;go_wp2;go_ret;exact⟨_,rfl,Zb_.alloc Zl_ _,Or.inl ⟨_,_,rfl,rfl⟩⟩
 . obtain⟨b,off,cap,rfl,hm,hbw,_,hc⟩:=hv.full hL
   clear hv;have HM:Hd (Xl.length<=maxLen):=hm;unfold maxLen at hm
   have hmk:∀ u:World,(Instr.makeSlice 44 (.int .i64 (Xl.length:Int)) (.int .i64 (Xl.length:Int))).run prog u=.ok (.slice (some ⟨u.heap.size,0,none⟩) Xl.length Xl.length) (u.alloc (.cells (madeCells (Value.cells (.agg #[.int .i64 0,.string ⟨#[]⟩,.string ⟨#[]⟩,.slice none 0 0,.string ⟨#[]⟩,.string ⟨#[]⟩,.string ⟨#[]⟩])) (Xl.length*7)) 140)):=fun u=>by
    have h:=run_make (P:=prog) u 44 140 i0 _ underlying44 hi hz0 .i64 .i64 Xl.length Xl.length (by omega) (by omega) (by rw [hz2];omega) (by omega);rw [hz1] at h
    simpa using h
   clear hi hz0 hz1 hz2;go_enter func40,ntmps40;go_wp2;clear hmk
   go_loopw [4] (fun i wr=>∃ k:Nat,i=.int .i64 k/\k<=Xl.length/\Zw_ w wr/\ZbY wr w.heap.size Xl k) (fun i _=>Xl.length - (intOf i).toNat)
   case atStart=>exact⟨0,rfl,by omega,Zb_.alloc Zl_ _,ZbY.new w Xl _⟩
   case round=>
    obtain⟨k,rfl,hk,hb,hf⟩:=hrel
    by_cases hlt:k < Xl.length
    . obtain⟨hs,vv0,hc,hv0⟩:=hc k hlt
      have HV0:=Zab (hv0.below hb);obtain⟨a0,k0,rfl⟩:=hv0.form;obtain⟨c0,c1,c2,c3,c4,c5,c6⟩:=hc.below hb hbw
      have hBl:w.heap.size < wr.heap.size:=by
       obtain⟨_,hr,_⟩:=hf;exact hr.lt
      clear hc hv0;go_wp2_with fail;refine (Zsn lo _ _ _ HV0.o (HSM.o k hlt)).mono ?_;rintro e w1 ⟨z0,rfl,hb1,hz0⟩;obtain⟨m0,n0,rfl⟩:=hz0.form;have hf1:=hf.below hb1;have HST:=Zab (hf1.step hlt hs (hz0.mono (by omega)));have hB:Hd (Zw_ w w1):=hb.trans (hb1.mono hb.size);have hfr:=hf1.free;obtain⟨o0,ho0⟩:=hf1.there (k*7) (by omega);obtain⟨o1,ho1⟩:=hf1.there (k*7+1) (by omega);obtain⟨o2,ho2⟩:=hf1.there (k*7+2) (by omega);obtain⟨o3,ho3⟩:=hf1.there (k*7+3) (by omega);obtain⟨o4,ho4⟩:=hf1.there (k*7+4) (by omega);obtain⟨o5,ho5⟩:=hf1.there (k*7+5) (by omega);obtain⟨o6,ho6⟩:=hf1.there (k*7+6) (by omega);clear hf hf1 hb1 hb c0 c1 c2 c3 c4 c5 c6 hz0 HV0;go_wp2;go_roundw
      . 
       exact⟨k+1,by go_num,by omega,(((((((hB.o.setCell Zl_ _).setCell Zl_ _).setCell Zl_ _).setCell Zl_ _).setCell Zl_ _).setCell Zl_ _).setCell Zl_ _),HST.o⟩
      . simp [intOf];omega
    . go_wp2
      go_ret;exact⟨_,rfl,hb,hf.done (by omega) hL HM.o⟩
end
theorem Zkj (lo:Nat) (v:Value) (Ts:List Tm) (w:World) (hv:Zbn lo w v Ts) :
 Calls prog 125 #[v] w fun e w'=>e=.returned (.bool (Zbs Ts))/\Zw_ w w':=by
 by_cases h12:¬ Ts.length<=12
 . have HR:=Zab (Zls h12)
   have hmx:=hv.max;unfold maxLen at hmx;obtain⟨a,cap,rfl⟩:=hv.form;go_enter func125,ntmps125;go_wp2;go_ret;exact⟨Zaa HR.o.symm,Below.refl _ _⟩
 replace h12:Ts.length<=12:=by omega
 by_cases hL:Ts=[]
 . subst hL
   obtain⟨a,cap,rfl⟩:=hv.form;clear hv;go_enter func125,ntmps125;go_wp2
   go_loop [3] (fun i=>i=.int .i64 0) (fun _=>0)
   case atStart=>rfl
   case round=>
    subst hrel;go_wp2;go_ret;exact⟨Zaa (by rfl),Below.refl _ _⟩
 . have HV:=Zab hv
   obtain⟨b,off,cap,rfl,hm,hbw,_,hc⟩:=hv.full hL;clear hv hm;have H12:=Zab h12;have h12i:decide ((12:Int) < (Ts.length:Int))=false:=by simp;omega
   go_enter func125,ntmps125;go_wp2
   go_loopw [3] (fun i wr=>∃ k:Nat,i=.int .i64 k/\k<=Ts.length/\Zw_ w wr/\∀ i,i < k->Zds Ts i=true) (fun i _=>Ts.length - (intOf i).toNat)
   case atStart=>exact⟨0,rfl,by omega,Below.refl _ _,fun i h=>by omega⟩
   case round=>
    obtain⟨k,rfl,hk,hb,hall⟩:=hrel;have HA:=Zab hall;have HB:=Zab hb;clear hall hb
    by_cases hlt:k < Ts.length
    . obtain⟨hsz,hcell⟩:=hc k hlt
      have HSZ:=Zab hsz;obtain⟨c0,c1⟩:=hcell.below HB.o hbw;clear hcell hsz;have HFr:∀ o n,Hd (Zbn lo ((wr.alloc o).drewN n) (.slice (some ⟨b,off,none⟩) Ts.length cap) Ts):=fun o n=>HV.o.below (below_drewN (HB.o.alloc HB.o.size _) _)
      cases hn:Zap Ts[k].nm with
      | false=>
       go_wp2
       go_quiet (first|(go_at_call 132;exact (Zae _ _ HSZ.o.s0).mono fun _ _ h=>⟨h.1,_,h.2⟩)|(go_at_call 127;exact (Zbf lo _ Ts _ _ (HFr _ _).o).mono fun _ _ h=>⟨h.1,_,h.2⟩))
       go_wp2;go_ret;exact⟨Zaa (Zbo hlt (by rw [ZaB hlt];simp [hn])).symm,below_drewN (HB.o.alloc HB.o.size _) _⟩
      | true=>
       cases k with
       | zero=>
        have c0:wr.cell? ⟨b,off,none⟩=some (.string Ts[0].nm):=by simpa using c0
        have c1:wr.cell? ⟨b,off+1,none⟩=some (.string Ts[0].ov):=by simpa using c1
        cases hoe:Ts[0].ov.toList.isEmpty with
        | true=>
         have HOK:Hd (ZaS Ts 5 Ts[0].nm=false->∀ i,i < 0+1->Zds Ts i=true):=fun h i hi=>by
          by_cases e:i=0
          . subst e;rw [ZaB hlt,h];simp [hn,hoe]
          . exact HA.o i (by omega)
         have HNO:Hd (ZaS Ts 5 Ts[0].nm=true->Zbs Ts=false):=fun h=>Zbo hlt (by rw [ZaB hlt,h];simp)
         have HNE:Hd (Ts[0].nm.toList.isEmpty=false):=Zc7 (by
          have:=hn;unfold Zap at this;rw [Bool.and_eq_true,Zg0] at this;have:=this.1;simp at this
          omega)
         go_wp2
         go_quiet (first|(go_at_call 132;exact (Zae _ _ HSZ.o.s0).mono fun _ _ h=>⟨h.1,_,h.2⟩)|(go_at_call 127;exact (Zbf lo _ Ts _ _ (HFr _ _).o).mono fun _ _ h=>⟨h.1,_,h.2⟩))
         try simp only [hn]
         try simp only [hoe]
         go_wp2
         go_loop [5,6] (fun x n=>∃ (q:Nat) (a':Zy_),x=.string a'/\n=.int .i64 q/\q<=5/\((a'.toList.isEmpty=true/\ZaS Ts 5 Ts[0].nm=false)\/(a'.toList.isEmpty=false/\ZaS Ts 5 Ts[0].nm=ZaS Ts (5 - q) a'))) (fun _ n=>5 - (intOf n).toNat)
         case atStart=>exact⟨0,_,rfl,rfl,by omega,Or.inr ⟨HNE.o,rfl⟩⟩
         case round=>
          obtain⟨q,a',rfl,rfl,hq,hqq⟩:=hrel
          rcases hqq with ⟨hae,hd⟩ | ⟨hae,hd⟩
          . have HD:=Zab hd
            clear hd
            by_cases h5:q<=4
            all_goals
             go_wp2;go_roundw
             . first | exact⟨0+1,by go_num,by omega,below_drewN (HB.o.alloc HB.o.size _) _,HOK.o HD.o⟩|((repeat apply Exists.intro);exact⟨⟨0+1,by go_num,by omega,below_drewN (HB.o.alloc HB.o.size _) _,HOK.o HD.o⟩,rfl⟩)
             . simp [intOf];omega
          . have HD:=Zab hd
            clear hd
            by_cases h5:q<=4
            . have HS:Hd (ZaS Ts 5 Ts[0].nm=if (ovB Ts a').toList.isEmpty then false else ZaS Ts (5 - (q+1)) (ovB Ts a')):=by
               unfold Hd;rw [HD.o,show 5 - q=(5 - (q+1))+1 from by omega]
               rfl
              clear HD;go_wp2_with fail;refine (ZdT lo _ Ts a' _ (HFr _ _).o).mono ?_;rintro e w1 ⟨rfl,rfl⟩;go_wp2
              go_round
              . 
               have hnx:((ovB Ts a').toList.isEmpty=true/\ZaS Ts 5 Ts[0].nm=false)\/((ovB Ts a').toList.isEmpty=false/\ZaS Ts 5 Ts[0].nm=ZaS Ts (5 - (q+1)) (ovB Ts a')):=by
                cases he:(ovB Ts a').toList.isEmpty with
                | true=>exact Or.inl ⟨rfl,by rw [HS.o,if_pos he]⟩
                | false=>exact Or.inr ⟨rfl,by rw [HS.o,if_neg (by simp [he])]⟩
               first
                | exact⟨q+1,_,rfl,by go_num,by omega,hnx⟩
                | (refine⟨trivial,?_⟩
                   (repeat apply Exists.intro)
                   exact⟨⟨q+1,_,rfl,by go_num,by omega,hnx⟩,rfl⟩)
                | ((repeat apply Exists.intro)
                   exact⟨⟨q+1,_,rfl,by go_num,by omega,hnx⟩,rfl⟩)
              . simp [intOf];omega
            . have HR:Hd (Zbs Ts=false):=HNO.o (by rw [HD.o,show 5 - q=0 from by omega];rfl)
              go_wp2;go_ret;exact⟨Zaa HR.o.symm,below_drewN (HB.o.alloc HB.o.size _) _⟩
        | false=>
         cases hht:ZgB Ts Ts[0].ov with
         | false=>
          go_wp2
          go_quiet (first|(go_at_call 132;exact (Zae _ _ HSZ.o.s0).mono fun _ _ h=>⟨h.1,_,h.2⟩)|(go_at_call 127;exact (Zbf lo _ Ts _ _ (HFr _ _).o).mono fun _ _ h=>⟨h.1,_,h.2⟩))
          go_wp2;go_ret;exact⟨Zaa (Zbo hlt (by rw [ZaB hlt];simp [hoe,hht])).symm,below_drewN (HB.o.alloc HB.o.size _) _⟩
         | true=>
          have HOK:Hd (ZaS Ts 5 Ts[0].nm=false->∀ i,i < 0+1->Zds Ts i=true):=fun h i hi=>by
           by_cases e:i=0
           . subst e;rw [ZaB hlt,h];simp [hn,hoe,hht]
           . exact HA.o i (by omega)
          have HNO:Hd (ZaS Ts 5 Ts[0].nm=true->Zbs Ts=false):=fun h=>Zbo hlt (by rw [ZaB hlt,h];simp)
          have HNE:Hd (Ts[0].nm.toList.isEmpty=false):=Zc7 (by
           have:=hn;unfold Zap at this;rw [Bool.and_eq_true,Zg0] at this;have:=this.1;simp at this
           omega)
          go_wp2
          go_quiet (first|(go_at_call 132;exact (Zae _ _ HSZ.o.s0).mono fun _ _ h=>⟨h.1,_,h.2⟩)|(go_at_call 127;exact (Zbf lo _ Ts _ _ (HFr _ _).o).mono fun _ _ h=>⟨h.1,_,h.2⟩))
          try simp only [hn]
          try simp only [hoe]
          try simp only [hht]
          go_wp2
          go_loop [5,6] (fun x n=>∃ (q:Nat) (a':Zy_),x=.string a'/\n=.int .i64 q/\q<=5/\((a'.toList.isEmpty=true/\ZaS Ts 5 Ts[0].nm=false)\/(a'.toList.isEmpty=false/\ZaS Ts 5 Ts[0].nm=ZaS Ts (5 - q) a'))) (fun _ n=>5 - (intOf n).toNat)
          case atStart=>exact⟨0,_,rfl,rfl,by omega,Or.inr ⟨HNE.o,rfl⟩⟩
          case round=>
           obtain⟨q,a',rfl,rfl,hq,hqq⟩:=hrel
           rcases hqq with ⟨hae,hd⟩ | ⟨hae,hd⟩
           . have HD:=Zab hd
             clear hd
             by_cases h5:q<=4
             all_goals
              go_wp2;go_roundw
              . first | exact⟨0+1,by go_num,by omega,below_drewN (HB.o.alloc HB.o.size _) _,HOK.o HD.o⟩|((repeat apply Exists.intro);exact⟨⟨0+1,by go_num,by omega,below_drewN (HB.o.alloc HB.o.size _) _,HOK.o HD.o⟩,rfl⟩)
              . simp [intOf];omega
           . have HD:=Zab hd
             clear hd
             by_cases h5:q<=4
             . have HS:Hd (ZaS Ts 5 Ts[0].nm=if (ovB Ts a').toList.isEmpty then false else ZaS Ts (5 - (q+1)) (ovB Ts a')):=by
                unfold Hd;rw [HD.o,show 5 - q=(5 - (q+1))+1 from by omega]
                rfl
               clear HD;go_wp2_with fail;refine (ZdT lo _ Ts a' _ (HFr _ _).o).mono ?_;rintro e w1 ⟨rfl,rfl⟩;go_wp2
               go_round
               . 
                have hnx:((ovB Ts a').toList.isEmpty=true/\ZaS Ts 5 Ts[0].nm=false)\/((ovB Ts a').toList.isEmpty=false/\ZaS Ts 5 Ts[0].nm=ZaS Ts (5 - (q+1)) (ovB Ts a')):=by
                 cases he:(ovB Ts a').toList.isEmpty with
                 | true=>exact Or.inl ⟨rfl,by rw [HS.o,if_pos he]⟩
                 | false=>exact Or.inr ⟨rfl,by rw [HS.o,if_neg (by simp [he])]⟩
                first
                 | exact⟨q+1,_,rfl,by go_num,by omega,hnx⟩
                 | (refine⟨trivial,?_⟩
                    (repeat apply Exists.intro)
                    exact⟨⟨q+1,_,rfl,by go_num,by omega,hnx⟩,rfl⟩)
                 | ((repeat apply Exists.intro)
                    exact⟨⟨q+1,_,rfl,by go_num,by omega,hnx⟩,rfl⟩)
               . simp [intOf];omega
             . have HR:Hd (Zbs Ts=false):=HNO.o (by rw [HD.o,show 5 - q=0 from by omega];rfl)
               go_wp2;go_ret;exact⟨Zaa HR.o.symm,below_drewN (HB.o.alloc HB.o.size _) _⟩
       | succ j=>
        have HBE:Hd (((Ts[j+1 - 1]?.map Tm.nm).getD ⟨#[]⟩)=Ts[j].nm):=Zku hlt;have hcj:wr.cell? ⟨b,off+j*2,none⟩=some (.string Ts[j].nm):=by rw [HB.o.cell (p:=⟨b,_,none⟩) hbw];exact (hc j (by omega)).2.c0
        have hjw:IntKind.i64.wrap (j:Int)=j:=by rw [IntKind.wrap_i64];omega
        have hjl:j < Ts.length:=by omega
        have hdl:decide ((j:Int)+1 < (Ts.length:Int))=true:=by simp;omega
        have hbo:b < wr.heap.size:=Zk_ hbw HB.o.size
        have cj2:∀ o,(wr.alloc o).cell? ⟨b,off+j*2,none⟩=some (.string Ts[j].nm):=fun o=>by rw [((Below.refl wr.heap.size wr).alloc Zl_ o).cell (p:=⟨b,_,none⟩) hbo];exact hcj
        have cj3:∀ o n,((wr.alloc o).drewN n).cell? ⟨b,off+j*2,none⟩=some (.string Ts[j].nm):=fun o n=>cj2 o
        cases hls:Op.bytesLess Ts[j].nm.toList Ts[j+1].nm.toList with
        | false=>
         go_wp2
         go_quiet (first|(go_at_call 132;exact (Zae _ _ HSZ.o.s0).mono fun _ _ h=>⟨h.1,_,h.2⟩)|(go_at_call 127;exact (Zbf lo _ Ts _ _ (HFr _ _).o).mono fun _ _ h=>⟨h.1,_,h.2⟩))
         go_wp2;go_ret;exact⟨Zaa (Zbo hlt (by rw [ZaB hlt];rw [HBE.o,hls];simp)).symm,below_drewN (HB.o.alloc HB.o.size _) _⟩
        | true=>
         cases hoe:Ts[j+1].ov.toList.isEmpty with
         | true=>
          have HOK:Hd (ZaS Ts 5 Ts[j+1].nm=false->∀ i,i < j+1+1->Zds Ts i=true):=fun h i hi=>by
           by_cases e:i=j+1
           . subst e;rw [ZaB hlt,h];rw [HBE.o,hls];simp [hn,hoe]
           . exact HA.o i (by omega)
          have HNO:Hd (ZaS Ts 5 Ts[j+1].nm=true->Zbs Ts=false):=fun h=>Zbo hlt (by rw [ZaB hlt,h];simp)
          have HNE:Hd (Ts[j+1].nm.toList.isEmpty=false):=Zc7 (by
           have:=hn;unfold Zap at this;rw [Bool.and_eq_true,Zg0] at this;have:=this.1;simp at this
           omega)
          go_wp2
          go_quiet (first|(go_at_call 132;exact (Zae _ _ HSZ.o.s0).mono fun _ _ h=>⟨h.1,_,h.2⟩)|(go_at_call 127;exact (Zbf lo _ Ts _ _ (HFr _ _).o).mono fun _ _ h=>⟨h.1,_,h.2⟩))
          try simp only [hn]
          try simp only [hoe]
          try simp only [hls]
          go_wp2
          go_loop [5,6] (fun x n=>∃ (q:Nat) (a':Zy_),x=.string a'/\n=.int .i64 q/\q<=5/\((a'.toList.isEmpty=true/\ZaS Ts 5 Ts[j+1].nm=false)\/(a'.toList.isEmpty=false/\ZaS Ts 5 Ts[j+1].nm=ZaS Ts (5 - q) a'))) (fun _ n=>5 - (intOf n).toNat)
          case atStart=>exact⟨0,_,rfl,rfl,by omega,Or.inr ⟨HNE.o,rfl⟩⟩
          case round=>
           obtain⟨q,a',rfl,rfl,hq,hqq⟩:=hrel
           rcases hqq with ⟨hae,hd⟩ | ⟨hae,hd⟩
           . have HD:=Zab hd
             clear hd
             by_cases h5:q<=4
             all_goals
              go_wp2;go_roundw
              . first | exact⟨j+1+1,by go_num,by omega,below_drewN (HB.o.alloc HB.o.size _) _,HOK.o HD.o⟩|((repeat apply Exists.intro);exact⟨⟨j+1+1,by go_num,by omega,below_drewN (HB.o.alloc HB.o.size _) _,HOK.o HD.o⟩,rfl⟩)
              . simp [intOf];omega
           . have HD:=Zab hd
             clear hd
             by_cases h5:q<=4
             . have HS:Hd (ZaS Ts 5 Ts[j+1].nm=if (ovB Ts a').toList.isEmpty then false else ZaS Ts (5 - (q+1)) (ovB Ts a')):=by
                unfold Hd;rw [HD.o,show 5 - q=(5 - (q+1))+1 from by omega]
                rfl
               clear HD;go_wp2_with fail;refine (ZdT lo _ Ts a' _ (HFr _ _).o).mono ?_;rintro e w1 ⟨rfl,rfl⟩;go_wp2
               go_round
               . 
                have hnx:((ovB Ts a').toList.isEmpty=true/\ZaS Ts 5 Ts[j+1].nm=false)\/((ovB Ts a').toList.isEmpty=false/\ZaS Ts 5 Ts[j+1].nm=ZaS Ts (5 - (q+1)) (ovB Ts a')):=by
                 cases he:(ovB Ts a').toList.isEmpty with
                 | true=>exact Or.inl ⟨rfl,by rw [HS.o,if_pos he]⟩
                 | false=>exact Or.inr ⟨rfl,by rw [HS.o,if_neg (by simp [he])]⟩
                first
                 | exact⟨q+1,_,rfl,by go_num,by omega,hnx⟩
                 | (refine⟨trivial,?_⟩
                    (repeat apply Exists.intro)
                    exact⟨⟨q+1,_,rfl,by go_num,by omega,hnx⟩,rfl⟩)
                 | ((repeat apply Exists.intro)
                    exact⟨⟨q+1,_,rfl,by go_num,by omega,hnx⟩,rfl⟩)
               . simp [intOf];omega
             . have HR:Hd (Zbs Ts=false):=HNO.o (by rw [HD.o,show 5 - q=0 from by omega];rfl)
               go_wp2;go_ret;exact⟨Zaa HR.o.symm,below_drewN (HB.o.alloc HB.o.size _) _⟩
         | false=>
          cases hht:ZgB Ts Ts[j+1].ov with
          | false=>
           go_wp2
           go_quiet (first|(go_at_call 132;exact (Zae _ _ HSZ.o.s0).mono fun _ _ h=>⟨h.1,_,h.2⟩)|(go_at_call 127;exact (Zbf lo _ Ts _ _ (HFr _ _).o).mono fun _ _ h=>⟨h.1,_,h.2⟩))
           go_wp2;go_ret;exact⟨Zaa (Zbo hlt (by rw [ZaB hlt];simp [hoe,hht])).symm,below_drewN (HB.o.alloc HB.o.size _) _⟩
          | true=>
           have HOK:Hd (ZaS Ts 5 Ts[j+1].nm=false->∀ i,i < j+1+1->Zds Ts i=true):=fun h i hi=>by
            by_cases e:i=j+1
            . subst e;rw [ZaB hlt,h];rw [HBE.o,hls];simp [hn,hoe,hht]
            . exact HA.o i (by omega)
           have HNO:Hd (ZaS Ts 5 Ts[j+1].nm=true->Zbs Ts=false):=fun h=>Zbo hlt (by rw [ZaB hlt,h];simp)
           have HNE:Hd (Ts[j+1].nm.toList.isEmpty=false):=Zc7 (by
            have:=hn;unfold Zap at this;rw [Bool.and_eq_true,Zg0] at this;have:=this.1;simp at this
            omega)
           go_wp2
           go_quiet (first|(go_at_call 132;exact (Zae _ _ HSZ.o.s0).mono fun _ _ h=>⟨h.1,_,h.2⟩)|(go_at_call 127;exact (Zbf lo _ Ts _ _ (HFr _ _).o).mono fun _ _ h=>⟨h.1,_,h.2⟩))
           try simp only [hn]
           try simp only [hoe]
           try simp only [hht]
           try simp only [hls]
           go_wp2
           go_loop [5,6] (fun x n=>∃ (q:Nat) (a':Zy_),x=.string a'/\n=.int .i64 q/\q<=5/\((a'.toList.isEmpty=true/\ZaS Ts 5 Ts[j+1].nm=false)\/(a'.toList.isEmpty=false/\ZaS Ts 5 Ts[j+1].nm=ZaS Ts (5 - q) a'))) (fun _ n=>5 - (intOf n).toNat)
           case atStart=>exact⟨0,_,rfl,rfl,by omega,Or.inr ⟨HNE.o,rfl⟩⟩
           case round=>
            obtain⟨q,a',rfl,rfl,hq,hqq⟩:=hrel
            rcases hqq with ⟨hae,hd⟩ | ⟨hae,hd⟩
            . have HD:=Zab hd
              clear hd
              by_cases h5:q<=4
              all_goals
               go_wp2;go_roundw
               . first | exact⟨j+1+1,by go_num,by omega,below_drewN (HB.o.alloc HB.o.size _) _,HOK.o HD.o⟩|((repeat apply Exists.intro);exact⟨⟨j+1+1,by go_num,by omega,below_drewN (HB.o.alloc HB.o.size _) _,HOK.o HD.o⟩,rfl⟩)
               . simp [intOf];omega
            . have HD:=Zab hd
              clear hd
              by_cases h5:q<=4
              . have HS:Hd (ZaS Ts 5 Ts[j+1].nm=if (ovB Ts a').toList.isEmpty then false else ZaS Ts (5 - (q+1)) (ovB Ts a')):=by
                 unfold Hd;rw [HD.o,show 5 - q=(5 - (q+1))+1 from by omega]
                 rfl
                clear HD;go_wp2_with fail;refine (ZdT lo _ Ts a' _ (HFr _ _).o).mono ?_;rintro e w1 ⟨rfl,rfl⟩;go_wp2
                go_round
                . 
                 have hnx:((ovB Ts a').toList.isEmpty=true/\ZaS Ts 5 Ts[j+1].nm=false)\/((ovB Ts a').toList.isEmpty=false/\ZaS Ts 5 Ts[j+1].nm=ZaS Ts (5 - (q+1)) (ovB Ts a')):=by
                  cases he:(ovB Ts a').toList.isEmpty with
                  | true=>exact Or.inl ⟨rfl,by rw [HS.o,if_pos he]⟩
                  | false=>exact Or.inr ⟨rfl,by rw [HS.o,if_neg (by simp [he])]⟩
                 first
                  | exact⟨q+1,_,rfl,by go_num,by omega,hnx⟩
                  | (refine⟨trivial,?_⟩
                     (repeat apply Exists.intro)
                     exact⟨⟨q+1,_,rfl,by go_num,by omega,hnx⟩,rfl⟩)
                  | ((repeat apply Exists.intro)
                     exact⟨⟨q+1,_,rfl,by go_num,by omega,hnx⟩,rfl⟩)
                . simp [intOf];omega
              . have HR:Hd (Zbs Ts=false):=HNO.o (by rw [HD.o,show 5 - q=0 from by omega];rfl)
                go_wp2;go_ret;exact⟨Zaa HR.o.symm,below_drewN (HB.o.alloc HB.o.size _) _⟩
    . have HR:Hd (Zbs Ts=true):=Zlt H12.o (by omega) HA.o
      go_wp2;go_ret;exact⟨Zaa HR.o.symm,HB.o⟩
end Go.Proofs.YtmappejlmapboaaGreat
