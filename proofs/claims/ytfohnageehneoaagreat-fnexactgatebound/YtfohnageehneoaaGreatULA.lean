import Derived.Test.YtfohnageehneoaaGreatUTA
import Derived.RangeFuncNested
import Derived.RangeFuncBound
import Derived.RangeFuncCalls
import Derived.RangeFuncLeaves
import Derived.Shelf.Abstract
import Derived.Shelf.RegionOpen
import Derived.OwnWalkIn
import Derived.TacticsInMore
import Derived.LoopNIn
import Derived.LoopIn
import Derived.Maps.Own
import Derived.Maps.Views
import Derived.WideKeyEntry
import Derived.DeepKeys4
import Derived.Maps.RangeWalk
import Derived.Maps.OwnOps
set_option maxHeartbeats 16000000
set_option maxRecDepth 100000
open Go.Proofs.Tryz
namespace Go.Proofs.YtfohnageehneoaaGreat
open Go.RowKit Go.Deep
variable {v vv0 vv1:Value} {w' W W' wr w1:World} {lo' n cap k B b o:Nat} {a:Option Addr} {Fs:List Fd} {x:Sh} {P:Program} {s:TypeId} {F:Fence}
theorem ZaR.set' {lo:Nat}{w:World}{Ss:List Sh} (h:ZaR lo w v Ss) {p:Addr} (hp:p.block < lo) (u:Value):ZaR lo (w.setCell p u) v Ss:=by
 rcases h with h | ⟨b,off,cap,h1,h2,h3,h4,h5,h7⟩
 . exact Or.inl h
 . refine Or.inr ⟨b,off,cap,h1,h2,h3,by simpa [World.setCell] using h4,h5,fun i hi=>?_⟩
   obtain⟨hs,fv,c0,c1,hF⟩:=h7 i hi;exact⟨hs,fv,by rw [Zas _ _ _ _ (by dsimp;omega)];exact c0,by rw [Zas _ _ _ _ (by dsimp;omega)];exact c1,hF.setCell hp u⟩
structure ZbC (lo:Nat) (w:World) (sv mv tv:Value) (Ss:List Sh) (Ms:List Md) (Ts:List Tm):Prop where
 shs:ZaR lo w sv Ss
 mds:Zbg lo w mv Ms
 tms:Zbn lo w tv Ts
theorem ZbC.below {lo:Nat}{w:World}{sv mv tv:Value}{Ss:List Sh}{Ms:List Md}{Ts:List Tm} (h:ZbC lo w sv mv tv Ss Ms Ts) (hb:Zw_ w w'):ZbC lo w' sv mv tv Ss Ms Ts:=
 ⟨h.shs.below hb,h.mds.below hb,h.tms.below hb⟩
theorem ZbC.mono {lo:Nat}{w:World}{sv mv tv:Value}{Ss:List Sh}{Ms:List Md}{Ts:List Tm} (h:ZbC lo w sv mv tv Ss Ms Ts) (hl:lo'<=lo):ZbC lo' w sv mv tv Ss Ms Ts:=
 ⟨h.shs.mono hl,h.mds.mono hl,h.tms.mono hl⟩
def Zfi (Ss:List Sh) (Ms:List Md) (Ts:List Tm):Prop:=Zfq Ss/\Ms.length<=1048576/\Ts.length<=1048576
section
variable (lo:Nat) (sv mv tv:Value) (Ss:List Sh) (Ms:List Md) (Ts:List Tm) (w:World)
theorem Zpl (left:Int) (h0:0<=left) (h1:left<=1048576) (h:ZbC lo w sv mv tv Ss Ms Ts) :
 Calls prog 7 #[.agg #[sv,mv,tv],.int .i64 left] w
  fun e w'=>∃ r:Int,e=.returned (.int .i64 r)/\Zw_ w w'/\-1<=r/\r<=left/\(0<=r->Zfi Ss Ms Ts):=by
 have HL:=Zab h;obtain⟨a,cap,rfl⟩:=h.shs.form;obtain⟨a1,cap1,rfl⟩:=h.mds.form;obtain⟨a2,cap2,rfl⟩:=h.tms.form;clear h;go_enter func7,ntmps7;go_wp2_with fail;have hX:=Box.new w #[.slice a Ss.length cap,.slice a1 Ms.length cap1,.slice a2 Ts.length cap2] 26 _ rfl;have hB0:=Zac w (.cells #[.slice a Ss.length cap,.slice a1 Ms.length cap1,.slice a2 Ts.length cap2] 26);refine (Zoi lo _ Ss _ _ (by omega) (by omega) (HL.o.below hB0).shs).mono ?_;rintro e w1 ⟨r,rfl,hb1,q0,q1,q2⟩;have hX1:=Zab (hX.on hb1);have HB1:=Zab (hB0.trans (hb1.mono hB0.size));have c1:=hX1.o.cell 1;have c2:=hX1.o.cell 2;simp at c1 c2;clear hb1 hB0 hX;have Q:=Zab q2;clear q2
 by_cases hr:r < 0
 . go_wp2
   go_ret;exact⟨-1,rfl,HB1.o,by omega,by omega,fun h=>by omega⟩
 go_wp2_with fail;refine (Zo9 lo _ Ms _ _ (by omega) (by omega) (HL.o.below HB1.o).mds).mono ?_;rintro e w2 ⟨r2,rfl,hb2,p0,p1,p2⟩;have hX2:=Zab (hX1.o.on hb2);have HB2:=Zab (HB1.o.trans (hb2.mono HB1.o.size));have d2:=hX2.o.cell 2;simp at d2;clear hb2 HB1 hX1 c1 c2;have Q2:=Zab p2;clear p2
 by_cases hr2:r2 < 0
 . go_wp2
   go_ret;exact⟨-1,rfl,HB2.o,by omega,by omega,fun h=>by omega⟩
 go_wp2_with fail;refine (Zpi lo _ Ts _ _ (by omega) (by omega) (HL.o.below HB2.o).tms).mono ?_;rintro e w3 ⟨r3,rfl,hb3,s0,s1,s2⟩;have HB3:=Zab (HB2.o.trans (hb3.mono HB2.o.size));have Q3:=Zab s2;clear hb3 s2
 by_cases hr3:r3 < 0
 . go_wp2
   go_ret;exact⟨-1,rfl,HB3.o,by omega,by omega,fun h=>by omega⟩
 go_wp2;go_ret;exact⟨_,rfl,HB3.o,by omega,by omega,fun h=>⟨Q.o (by omega),by have:=Q2.o (by omega);omega,by have:=Q3.o (by omega);omega⟩⟩
theorem Zns (lo':Nat) (sv' mv' tv':Value) (h:ZbC lo w sv mv tv Ss Ms Ts) (h':ZbC lo' w sv' mv' tv' Ss Ms Ts) :
 Calls prog 14 #[.agg #[sv,mv,tv],.agg #[sv',mv',tv']] w fun e w'=>e=.returned (.bool true)/\Zw_ w w':=by
 have HL:=Zab h;have HR:=Zab h';obtain⟨a,cap,rfl⟩:=h.shs.form;obtain⟨a1,cap1,rfl⟩:=h.mds.form;obtain⟨a2,cap2,rfl⟩:=h.tms.form;obtain⟨a',cap',rfl⟩:=h'.shs.form;obtain⟨a1',cap1',rfl⟩:=h'.mds.form;obtain⟨a2',cap2',rfl⟩:=h'.tms.form;clear h h';go_enter func14,ntmps14;go_wp2_with fail;have hX:=Box.new w #[.slice a Ss.length cap,.slice a1 Ms.length cap1,.slice a2 Ts.length cap2] 47 _ rfl;have hB0:=Zac w (.cells #[.slice a Ss.length cap,.slice a1 Ms.length cap1,.slice a2 Ts.length cap2] 47);have hsz:(w.alloc (.cells #[.slice a Ss.length cap,.slice a1 Ms.length cap1,.slice a2 Ts.length cap2] 47)).heap.size=w.heap.size+1:=by simp
 generalize w.alloc (.cells #[.slice a Ss.length cap,.slice a1 Ms.length cap1,.slice a2 Ts.length cap2] 47)=wx at hX hB0 hsz |-;have hY:=Box.new wx #[.slice a' Ss.length cap',.slice a1' Ms.length cap1',.slice a2' Ts.length cap2'] 47 _ hsz;have hB1:=Zac wx (.cells #[.slice a' Ss.length cap',.slice a1' Ms.length cap1',.slice a2' Ts.length cap2'] 47);have hX1:=hX.on hB1;have HB:=Zab (hB0.trans (hB1.mono hB0.size));generalize wx.alloc (.cells #[.slice a' Ss.length cap',.slice a1' Ms.length cap1',.slice a2' Ts.length cap2'] 47)=wy at hY hX1 HB |-;clear hX hB0 hB1 hsz;refine (ZmV lo lo' _ _ Ss _ (HL.o.below HB.o).shs (HR.o.below HB.o).shs).mono ?_;rintro e w1 ⟨rfl,hb1⟩;have HX:=Zab (hX1.on hb1);have HY:=Zab (hY.on hb1);have HB1:=Zab (HB.o.trans (hb1.mono HB.o.size));clear hb1 hX1 hY HB;have c1:=HX.o.cell 1;have d1:=HY.o.cell 1;simp at c1 d1;go_wp2_with fail
 clear c1 d1;refine (Znr lo lo' _ _ Ms _ (HL.o.below HB1.o).mds (HR.o.below HB1.o).mds).mono ?_;rintro e w2 ⟨rfl,hb2⟩;have HX:=Zab (HX.o.on hb2);have HY:=Zab (HY.o.on hb2);have HB2:=Zab (HB1.o.trans (hb2.mono HB1.o.size));clear hb2 HB1;have c1:=HX.o.cell 2;have d1:=HY.o.cell 2;simp at c1 d1;go_wp2_with fail;clear c1 d1;refine (ZmK lo lo' _ _ Ts _ (HL.o.below HB2.o).tms (HR.o.below HB2.o).tms).mono ?_;rintro e w3 ⟨rfl,hb3⟩;have HB3:=Zab (HB2.o.trans (hb3.mono HB2.o.size));clear hb3 HB2;go_wp2;go_ret;exact⟨rfl,HB3.o⟩
theorem ZgH (h:ZbC lo w sv mv tv Ss Ms Ts) (hn:Zfi Ss Ms Ts) :
 Calls prog 10 #[.agg #[sv,mv,tv]] w
  fun e w'=>∃ a cap a1 cap1 a2 cap2,e=.returned (.agg #[.slice a Ss.length cap,.slice a1 Ms.length cap1,.slice a2 Ts.length cap2])/\Zw_ w w'/\
   ZbC w.heap.size w' (.slice a Ss.length cap) (.slice a1 Ms.length cap1) (.slice a2 Ts.length cap2) Ss Ms Ts:=by
 have HL:=Zab h;obtain⟨a,cap,rfl⟩:=h.shs.form;obtain⟨a1,cap1,rfl⟩:=h.mds.form;obtain⟨a2,cap2,rfl⟩:=h.tms.form;clear h;go_enter func10,ntmps10;go_wp2_with fail
 obtain⟨wz,hwz,HX,HR,HO,HB⟩:∃ wz,wz=((w.alloc (.cells #[.slice a Ss.length cap,.slice a1 Ms.length cap1,.slice a2 Ts.length cap2] 26)).alloc (.cells #[.slice none 0 0,.slice none 0 0,.slice none 0 0] 47)).alloc (.cells #[.slice none 0 0,.slice none 0 0,.slice none 0 0] 47)/\
  Hd (Box wz w.heap.size #[.slice a Ss.length cap,.slice a1 Ms.length cap1,.slice a2 Ts.length cap2])/\Hd (Box wz (w.heap.size+1) #[.slice none 0 0,.slice none 0 0,.slice none 0 0])/\
  Hd (Box wz (w.heap.size+1+1) #[.slice none 0 0,.slice none 0 0,.slice none 0 0])/\Hd (Zw_ w wz):=
  ⟨_,rfl,((Box.new w _ _ _ rfl).on (Zac _ _)).on (Zac _ _),(Box.new _ _ _ _ (by simp)).on (Zac _ _),Box.new _ _ _ _ (by simp),((Zac _ _).trans ((Zac _ _).mono (by simp))).trans ((Zac _ _).mono (by simp;omega))⟩
 rw [<- hwz];clear hwz;have hz0:w.heap.size+3<=wz.heap.size:=by have:=HO.o.lt;omega
 refine (Zn1 lo _ Ss _ (HL.o.below HB.o).shs hn.1).mono ?_;rintro e w1 ⟨v1,rfl,hb1,hs1⟩;obtain⟨b1,k1,rfl⟩:=hs1.form;have HX1:=Zab (HX.o.on hb1);have HR1:=Zab (HR.o.on hb1);have HO1:=Zab (HO.o.on hb1);have HB1:=Zab (HB.o.trans (hb1.mono HB.o.size));have HS1:Hd (ZaR (w.heap.size+3) w1 (.slice b1 Ss.length k1) Ss):=hs1.mono hz0;clear hb1 hs1 HX HR HO HB hz0;have o0:=HO1.o.cell 0;have f0:=HO1.o.free 0;have x1:=HX1.o.cell 1;simp at o0 f0 x1;go_wp2_with fail;clear o0 f0 x1
 obtain⟨wq,hwq,HX,HR,HO,HB,HS⟩:∃ wq,wq=w1.setCell ⟨w.heap.size+1+1,0,none⟩ (.slice b1 Ss.length k1)/\
  Hd (Box wq w.heap.size #[.slice a Ss.length cap,.slice a1 Ms.length cap1,.slice a2 Ts.length cap2])/\Hd (Box wq (w.heap.size+1) #[.slice none 0 0,.slice none 0 0,.slice none 0 0])/\
  Hd (Box wq (w.heap.size+1+1) #[.slice b1 Ss.length k1,.slice none 0 0,.slice none 0 0])/\Hd (Zw_ w wq)/\Hd (ZaR (w.heap.size+3) wq (.slice b1 Ss.length k1) Ss):=
  ⟨_,rfl,HX1.o.setFar (by dsimp;omega) _,HR1.o.setFar (by dsimp;omega) _,HO1.o.set (k:=0) (.slice b1 Ss.length k1) (by simp),HB1.o.setCell (by dsimp;omega) _,HS1.o.set' (by dsimp;omega) _⟩
 rw [<- hwq];clear hwq HX1 HR1 HO1 HB1 HS1;have hz0:w.heap.size+3<=wq.heap.size:=by have:=HO.o.lt;omega
 refine (ZhT lo _ Ms _ (HL.o.below HB.o).mds hn.2.1).mono ?_;rintro e w2 ⟨v2,rfl,hb2,hs2,-⟩;obtain⟨b2,k2,rfl⟩:=hs2.form;have HX2:=Zab (HX.o.on hb2);have HR2:=Zab (HR.o.on hb2);have HO2:=Zab (HO.o.on hb2);have HB2:=Zab (HB.o.trans (hb2.mono HB.o.size));have HS2:=Zab (HS.o.below hb2);have HM2:Hd (Zbg (w.heap.size+3) w2 (.slice b2 Ms.length k2) Ms):=hs2.mono hz0;clear hb2 hs2 HX HR HO HB hz0 HS;have o0:=HO2.o.cell 1;have f0:=HO2.o.free 1;have x1:=HX2.o.cell 2;simp at o0 f0 x1;go_wp2_with fail;clear o0 f0 x1
 obtain⟨wq,hwq,HR,HO,HB,HS,HM⟩:∃ wq,wq=w2.setCell ⟨w.heap.size+1+1,1,none⟩ (.slice b2 Ms.length k2)/\
  Hd (Box wq (w.heap.size+1) #[.slice none 0 0,.slice none 0 0,.slice none 0 0])/\
  Hd (Box wq (w.heap.size+1+1) #[.slice b1 Ss.length k1,.slice b2 Ms.length k2,.slice none 0 0])/\Hd (Zw_ w wq)/\Hd (ZaR (w.heap.size+3) wq (.slice b1 Ss.length k1) Ss)/\Hd (Zbg (w.heap.size+3) wq (.slice b2 Ms.length k2) Ms):=
  ⟨_,rfl,HR2.o.setFar (by dsimp;omega) _,HO2.o.set (k:=1) (.slice b2 Ms.length k2) (by simp),HB2.o.setCell (by dsimp;omega) _,HS2.o.set' (by dsimp;omega) _,HM2.o.setCell (by dsimp;omega) _⟩
 rw [<- hwq];clear hwq HX2 HR2 HO2 HB2 HS2 HM2;have hz0:w.heap.size+3<=wq.heap.size:=by have:=HO.o.lt;omega
 refine (Zof lo _ Ts _ (HL.o.below HB.o).tms hn.2.2).mono ?_;rintro e w3 ⟨v3,rfl,hb3,hs3⟩;obtain⟨b3,k3,rfl⟩:=hs3.form;have HR3:=Zab (HR.o.on hb3);have HO3:=Zab (HO.o.on hb3);have HB3:=Zab (HB.o.trans (hb3.mono HB.o.size));have HS3:=Zab (HS.o.below hb3);have HM3:=Zab (HM.o.below hb3);have HT3:Hd (Zbn (w.heap.size+3) w3 (.slice b3 Ts.length k3) Ts):=hs3.mono hz0;clear hb3 hs3 HR HO HB hz0 HS HM;have o0:=HO3.o.cell 0;have o1:=HO3.o.cell 1;have o2:=HO3.o.cell 2;have f2:=HO3.o.free 2;have r0:=HR3.o.cell 0;have r1:=HR3.o.cell 1;have r2:=HR3.o.cell 2;have g0:=HR3.o.free 0;have g1:=HR3.o.free 1;have g2:=HR3.o.free 2;simp at o0 o1 o2 r0 r1 r2;go_wp2;refine bodyPost_ret (v:=.agg #[.slice b1 Ss.length k1,.slice b2 Ms.length k2,.slice b3 Ts.length k3]) (by simp [results,results10,go_sem,r0,r1,r2]) rfl ⟨_,_,_,_,_,_,rfl,?_,?_,?_,?_⟩
 . repeat (refine Below.setCell ?_ (by dsimp;omega) _)
   exact HB3.o
 . refine ZaR.mono (lo:=w.heap.size+3) ?_ (by omega)
   repeat (refine ZaR.set' ?_ (by dsimp;omega) _)
   exact HS3.o
 . refine Zbg.mono (lo:=w.heap.size+3) ?_ (by omega)
   repeat (refine Zbg.setCell ?_ (by dsimp;omega) _)
   exact HM3.o
 . refine Zbn.mono (lo:=w.heap.size+3) ?_ (by omega)
   repeat (refine Zbn.setCell ?_ (by dsimp;omega) _)
   exact HT3.o
end
theorem Zag.spread {w:World}{L:List Zy_} (h:Zag w (.slice a n cap) L) (hL:0 < L.length) :
 ∃ b off,a=some ⟨b,off,none⟩/\b < w.heap.size/\(∀ i (h:i < L.length),w.cell? ⟨b,off+i,none⟩=some (.string L[i]))/\∀ s ∈ L,s.size<=maxLen:=by
 rcases h with ⟨_,_,_,rfl⟩ | ⟨b,off,_,h1,_,_,h4,h5,h6⟩
 . simp at hL
 . cases h1
   exact⟨b,off,rfl,h4,h5,h6⟩
theorem ZiR (s:Zy_):0<=Zi8 s/\Zi8 s<=9999999:=by
 unfold Zi8
 split
 . rename_i h
   have h7:s.size<=7/\ZfJ Zc6 s=true:=by
    unfold Zer inB at h;simp only [Bool.and_eq_true,decide_eq_true_eq] at h;exact⟨by omega,h.2⟩
   have:=Zcx s s.size Zl_ h7.1 (by
    rw [List.take_of_length_le (by simp)];exact h7.2)
   rw [ZdO Zl_] at this
   omega
 . omega
theorem ZlT (s:Zy_):Zi8 s=if 0 < Zmg s then Zmg s else 0:=by
 have:=ZiR s;unfold Zi8 Zmg at*
 split
 . rename_i h
   rw [if_pos h] at this
   split <;> omega
 . simp
def Zrf (r:Zy_) (f:Fd) (s:Zy_):Int:=if (f.kd == 1&&f.we.toList == r.toList)=true then Zi8 s else 0
def ZeD (r:Zy_) (Fs:List Fd) (V:List Zy_):Nat->Int
 | 0=>0
 | k+1=>ZeD r Fs V k+(match Fs[k]?,V[k]? with | some f,some s=>Zrf r f s | _,_=>0)
theorem Zrh (r:Zy_) (f:Fd) (s:Zy_):0<=Zrf r f s/\Zrf r f s<=9999999:=by
 have:=ZiR s;unfold Zrf
 split <;> omega
theorem Zkh {r:Zy_}{V:List Zy_} (hf:k < Fs.length) (hv:k < V.length):ZeD r Fs V (k+1)=ZeD r Fs V k+Zrf r Fs[k] V[k]:=by
 rw [ZeD];simp [hf,hv]
theorem Zrj (r:Zy_) (Fs:List Fd) (V:List Zy_) (k:Nat):0<=ZeD r Fs V k/\ZeD r Fs V k<=9999999*k:=by
 induction k with
 | zero=>simp [ZeD]
 | succ k ih=>
  rw [ZeD]
  split
  . rename_i f s _ _
    have:=Zrh r f s
    push_cast
    omega
  . push_cast
    omega
def ZdG (Ss:List Sh) (kind:Zy_) (V:List Zy_) (r:Zy_):Int:=
 if r.toList.isEmpty=true then 0 else
 match Zcz Ss kind with
 | some x=>if x.fields.length=V.length then (if (r.toList == kind.toList)=true then 1 else 0)+ZeD r x.fields V V.length else 0
 | none=>0
theorem Zmd {Ss:List Sh}{kind:Zy_}{V:List Zy_}{r:Zy_} (h:∀ x,Zcz Ss kind=some x->x.fields.length≠V.length):ZdG Ss kind V r=0:=by
 unfold ZdG
 split
 . rfl
 . cases hs:Zcz Ss kind with
   | none=>rfl
   | some x=>simp [h x hs]
theorem ZjR {Ss:List Sh}{kind:Zy_}{V:List Zy_}{r:Zy_} (h:r.toList.isEmpty=true):ZdG Ss kind V r=0:=by
 unfold ZdG;rw [if_pos h]
theorem ZjQ {Ss:List Sh}{kind:Zy_}{V:List Zy_}{r:Zy_} (h:Zcz Ss kind=some x) (hl:x.fields.length=V.length) (hr:r.toList.isEmpty=false) :
 ZdG Ss kind V r=(if (r.toList == kind.toList)=true then 1 else 0)+ZeD r x.fields V V.length:=by
 unfold ZdG;rw [h];simp [hr,hl]
section
variable (lo:Nat) (sv mv tv:Value) (Ss:List Sh) (Ms:List Md) (Ts:List Tm) (kind nm team:Zy_) (vv hv:Value) (en:Bool) (ver:Int) (V Ho:List Zy_) (r:Zy_) (w:World)
theorem ZhQ (h:ZbC lo w sv mv tv Ss Ms Ts) (hV:Zag w vv V) (hH:Zag w hv Ho) (n1:V.length<=1048576) :
 Calls prog 130 #[.agg #[sv,mv,tv],.agg #[.string kind,.string nm,.string team,vv,.bool en,hv,.int .i64 ver],.string r] w
  fun e w'=>e=.returned (.int .i64 (ZdG Ss kind V r))/\Zw_ w w':=by
 have HL:=Zab h;have HV:=Zab hV;have HH:=Zab hH;obtain⟨a,cap,rfl⟩:=h.shs.form;obtain⟨a1,cap1,rfl⟩:=h.mds.form;obtain⟨a2,cap2,rfl⟩:=h.tms.form;obtain⟨va,vcap,rfl⟩:=hV.form';obtain⟨ha,hcap,rfl⟩:=hH.form';clear h hV hH;go_enter func130,ntmps130;go_wp2_with fail
 obtain⟨wz,hwz,HO,HB⟩:∃ wz,wz=(w.alloc (.cells #[.slice a Ss.length cap,.slice a1 Ms.length cap1,.slice a2 Ts.length cap2] 47)).alloc (.cells #[.string kind,.string nm,.string team,.slice va V.length vcap,.bool en,.slice ha Ho.length hcap,.int .i64 ver] 155)/\
  Hd (Box wz (w.heap.size+1) #[.string kind,.string nm,.string team,.slice va V.length vcap,.bool en,.slice ha Ho.length hcap,.int .i64 ver])/\Hd (Zw_ w wz):=
  ⟨_,rfl,Box.new _ _ _ _ (by simp),(Zac _ _).trans ((Zac _ _).mono (by simp))⟩
 rw [<- hwz];clear hwz;refine (ZcK kind nm team _ _ _ en ver V Ho Ss wz lo wz (HL.o.below HB.o).shs Zb_ (HV.o.below HB.o) (HH.o.below HB.o)).mono ?_;rintro e w1 ⟨hb1,hq⟩;have HO1:=Zab (HO.o.on hb1);have HB1:=Zab (HB.o.trans (hb1.mono HB.o.size))
 rcases hq with ⟨x,fv,hsh,hlen,rfl,hF⟩ | ⟨hno,fa,fcap,rfl⟩
 . have HF:=Zab (hF.below hb1)
   obtain⟨fa,fcap,rfl⟩:=hF.form;have HS:=Zab hsh;have HN:=Zab hlen;clear hb1 hF hsh HO HB hlen
   cases hr:r.toList.isEmpty with
   | true=>
    have HQ:=Zab (ZjR (Ss:=Ss) (kind:=kind) (V:=V) hr);go_wp2;go_ret;exact⟨ZaC HQ.o.symm,HB1.o⟩
   | false=>
    have HQ:=Zab (ZjQ HS.o HN.o hr);have hbd:=Zrj r x.fields V;have HBD:=Zab hbd;have o0:=HO1.o.cell 0;have o3:=HO1.o.cell 3;simp at o0 o3;have hvl:x.fields.length<=1048576:=by have:=HN.o;omega
    have HV1:=Zab (HV.o.below HB1.o);clear hbd
    cases hk:(r.toList == kind.toList) with
    | true=>
     have HE:Hd (ZdG Ss kind V r=1+ZeD r x.fields V V.length):=by unfold Hd;rw [HQ.o,hk];rfl
     go_wp2
     go_loop [9,10] (fun n i=>∃ k:Nat,n=.int .i64 (1+ZeD r x.fields V k)/\i=.int .i64 k/\k<=x.fields.length) (fun _ i=>x.fields.length - (intOf i).toNat)
     case atStart=>exact⟨0,by simp [ZeD],rfl,by omega⟩
     case round=>
      obtain⟨k,rfl,rfl,hkl⟩:=hrel
      by_cases hlt:k < x.fields.length
      . have hlv:k < V.length:=by have:=HN.o;omega
        obtain⟨fb,foff,rfl,hfb,hfc⟩:=HF.o.full' (by omega);obtain⟨hsz,wv,hcell,-⟩:=hfc k hlt;obtain⟨c0,c1,c2,c3,c4,c5,c6,c7,c8,c9,c10⟩:=hcell;obtain⟨vb,voff,rfl,hvb,hvc,hvs⟩:=HV1.o.spread (by omega);have hvk:=hvc k hlv;have hvz:V[k].size<=maxLen:=hvs _ (List.getElem_mem hlv);have HST:=Zab (Zkh (r:=r) hlt hlv);have HDN:=Zab (ZlT V[k]);have hbd:=HBD.o k;have hbn:=ZiR V[k];have hW:Zrf r x.fields[k] V[k]=if (x.fields[k].kd == 1&&x.fields[k].we.toList == r.toList)=true then Zi8 V[k] else 0:=rfl
        have HW:=Zab hW;clear hfc hvc hvs c0 c2 c3 c4 c5 c6 c7 c8 c9 hsz hW
        cases hk1:(x.fields[k].kd == 1) with
        | false=>
         have HE2:Hd (ZeD r x.fields V (k+1)=ZeD r x.fields V k):=by unfold Hd;rw [HST.o,HW.o,hk1];simp
         go_wp2_with (go_at_call 176;refine (Zbi _ _ hvz).mono ?_;rintro e w2 ⟨rfl,rfl⟩)
         go_round
         . exact⟨k+1,by rw [HE2.o],by go_num,by omega⟩
         . simp [intOf];omega
        | true=>
         cases hk2:(x.fields[k].we.toList == r.toList) with
         | false=>
          have HE2:Hd (ZeD r x.fields V (k+1)=ZeD r x.fields V k):=by unfold Hd;rw [HST.o,HW.o,hk1,hk2];simp
          go_wp2_with (go_at_call 176;refine (Zbi _ _ hvz).mono ?_;rintro e w2 ⟨rfl,rfl⟩)
          go_round
          . exact⟨k+1,by rw [HE2.o],by go_num,by omega⟩
          . simp [intOf];omega
         | true=>
          by_cases hn:0 < Zmg V[k]
          . have HE2:Hd (ZeD r x.fields V (k+1)=ZeD r x.fields V k+Zmg V[k]):=by unfold Hd;rw [HST.o,HW.o,hk1,hk2,HDN.o,if_pos hn];simp
            have hb2:=HBD.o (k+1);rw [HE2.o] at hb2
            push_cast at hb2
            go_wp2_with (go_at_call 176;refine (Zbi _ _ hvz).mono ?_;rintro e w2 ⟨rfl,rfl⟩)
            go_round
            . exact⟨k+1,by rw [HE2.o];congr 1;omega,by go_num,by omega⟩
            . simp [intOf];omega
          . have HE2:Hd (ZeD r x.fields V (k+1)=ZeD r x.fields V k):=by unfold Hd;rw [HST.o,HW.o,hk1,hk2,HDN.o,if_neg hn];simp
            go_wp2_with (go_at_call 176;refine (Zbi _ _ hvz).mono ?_;rintro e w2 ⟨rfl,rfl⟩)
            go_round
            . exact⟨k+1,by rw [HE2.o],by go_num,by omega⟩
            . simp [intOf];omega
      . have he:k=V.length:=by have:=HN.o;omega
        subst he;go_wp2;go_ret;exact⟨ZaC (by have:=HE.o;omega),HB1.o⟩
    | false=>
     have HE:Hd (ZdG Ss kind V r=0+ZeD r x.fields V V.length):=by unfold Hd;rw [HQ.o,hk];rfl
     go_wp2
     go_loop [9,10] (fun n i=>∃ k:Nat,n=.int .i64 (0+ZeD r x.fields V k)/\i=.int .i64 k/\k<=x.fields.length) (fun _ i=>x.fields.length - (intOf i).toNat)
     case atStart=>exact⟨0,by simp [ZeD],rfl,by omega⟩
     case round=>
      obtain⟨k,rfl,rfl,hkl⟩:=hrel
      by_cases hlt:k < x.fields.length
      . have hlv:k < V.length:=by have:=HN.o;omega
        obtain⟨fb,foff,rfl,hfb,hfc⟩:=HF.o.full' (by omega);obtain⟨hsz,wv,hcell,-⟩:=hfc k hlt;obtain⟨c0,c1,c2,c3,c4,c5,c6,c7,c8,c9,c10⟩:=hcell;obtain⟨vb,voff,rfl,hvb,hvc,hvs⟩:=HV1.o.spread (by omega);have hvk:=hvc k hlv;have hvz:V[k].size<=maxLen:=hvs _ (List.getElem_mem hlv);have HST:=Zab (Zkh (r:=r) hlt hlv);have HDN:=Zab (ZlT V[k]);have hbd:=HBD.o k;have hbn:=ZiR V[k];have hW:Zrf r x.fields[k] V[k]=if (x.fields[k].kd == 1&&x.fields[k].we.toList == r.toList)=true then Zi8 V[k] else 0:=rfl
        have HW:=Zab hW;clear hfc hvc hvs c0 c2 c3 c4 c5 c6 c7 c8 c9 hsz hW
        cases hk1:(x.fields[k].kd == 1) with
        | false=>
         have HE2:Hd (ZeD r x.fields V (k+1)=ZeD r x.fields V k):=by unfold Hd;rw [HST.o,HW.o,hk1];simp
         go_wp2_with (go_at_call 176;refine (Zbi _ _ hvz).mono ?_;rintro e w2 ⟨rfl,rfl⟩)
         go_round
         . exact⟨k+1,by rw [HE2.o];congr 1;omega,by go_num,by omega⟩
         . simp [intOf];omega
        | true=>
         cases hk2:(x.fields[k].we.toList == r.toList) with
         | false=>
          have HE2:Hd (ZeD r x.fields V (k+1)=ZeD r x.fields V k):=by unfold Hd;rw [HST.o,HW.o,hk1,hk2];simp
          go_wp2_with (go_at_call 176;refine (Zbi _ _ hvz).mono ?_;rintro e w2 ⟨rfl,rfl⟩)
          go_round
          . exact⟨k+1,by rw [HE2.o];congr 1;omega,by go_num,by omega⟩
          . simp [intOf];omega
         | true=>
          by_cases hn:0 < Zmg V[k]
          . have HE2:Hd (ZeD r x.fields V (k+1)=ZeD r x.fields V k+Zmg V[k]):=by unfold Hd;rw [HST.o,HW.o,hk1,hk2,HDN.o,if_pos hn];simp
            have hb2:=HBD.o (k+1);rw [HE2.o] at hb2
            push_cast at hb2
            go_wp2_with (go_at_call 176;refine (Zbi _ _ hvz).mono ?_;rintro e w2 ⟨rfl,rfl⟩)
            go_round
            . exact⟨k+1,by rw [HE2.o];congr 1;omega,by go_num,by omega⟩
            . simp [intOf];omega
          . have HE2:Hd (ZeD r x.fields V (k+1)=ZeD r x.fields V k):=by unfold Hd;rw [HST.o,HW.o,hk1,hk2,HDN.o,if_neg hn];simp
            go_wp2_with (go_at_call 176;refine (Zbi _ _ hvz).mono ?_;rintro e w2 ⟨rfl,rfl⟩)
            go_round
            . exact⟨k+1,by rw [HE2.o];congr 1;omega,by go_num,by omega⟩
            . simp [intOf];omega
      . have he:k=V.length:=by have:=HN.o;omega
        subst he;go_wp2;go_ret;exact⟨ZaC (by have:=HE.o;omega),HB1.o⟩
 . have HQ:=Zab (Zmd (r:=r) hno)
   clear hb1 HO HB hno;go_wp2;go_ret;exact⟨ZaC HQ.o.symm,HB1.o⟩
end
open Go.RowKit Go.Deep Go.Shelf
attribute [local go_sem] Oper.semAt_some
theorem ZhG {w:World} (h:Zw_ w w'):w.grownBy w' none:=
 ⟨h.os,h.tape,h.output,h.size,fun k hk _=>h.block k hk⟩
theorem Zbw {β:Type}{J:β->World->Prop} (h:AbidesFrom B J) {s:β} {W W':World} (hs:J s W) (hb:Below W.heap.size W W'):J s W':=
 h s W W' none hs (ZhG hb) (fun r e=>by cases e)
structure ZaO (S:Nat->Prop) (B:Nat) (W W':World):Prop where
 os:W'.os=W.os
 tape:W'.tape=W.tape
 output:W'.output=W.output
 size:W.heap.size<=W'.heap.size
 same:∀ k o,W.heap[k]?=some o->¬ S k->(o.isCells=true\/k < B)->W'.heap[k]?=some o
theorem ZaO.refl (S:Nat->Prop) (B:Nat) (W:World):ZaO S B W W:=⟨rfl,rfl,rfl,Nat.le_refl _,fun _ _ h _ _=>h⟩
theorem ZaO.trans {S:Nat->Prop}{W'':World} (h:ZaO S B W W') (k:ZaO S B W' W''):ZaO S B W W'':=
 ⟨k.os.trans h.os,k.tape.trans h.tape,k.output.trans h.output,Nat.le_trans h.size k.size,fun i o hi hs ho=>k.same i o (h.same i o hi hs ho) hs ho⟩
theorem ZaO.put {S:Nat->Prop}{w:World} (W:World) (l:Nat) (o o':Obj) (hl:w.heap.size<=l) (h:W.heap[l]?=some o) (hc:o.isCells=false) (_:o.isWalk=false):ZaO S w.heap.size W (W.putObj l o'):=by
 have hg:=grownBy_putObj' W l o';refine⟨hg.os,hg.tape,hg.output,hg.size,fun k x hk _ hx=>?_⟩
 by_cases e:k=l
 . subst e
   rw [h] at hk
   cases hk
   rcases hx with hx | hx
   . rw [hc] at hx;cases hx
   . omega
 . rw [hg.block k (Array.getElem?_eq_some_iff.1 hk).1 (fun e'=>e (Option.some.inj e'))]
   exact hk
theorem ZaO.below {S:Nat->Prop}{m:Nat} (h:ZaO S B W W') (hm:m<=W.heap.size) (hS:∀ k,k < m->¬ S k) (hB:m<=B):Below m W W':=by
 refine⟨h.os,h.tape,h.output,h.size,fun k hk=>?_⟩;have hlt:k < W.heap.size:=Zk_ hk hm
 rw [Array.getElem?_eq_getElem hlt];exact h.same k _ (Array.getElem?_eq_getElem hlt) (hS k hk) (Or.inr (Zk_ hk hB))
theorem ZaO.cell {S:Nat->Prop}{p:Addr} (h:ZaO S B W W') (hc:W.cell? p=some v) (hS:¬ S p.block):W'.cell? p=some v:=by
 obtain⟨o,ho,hc'⟩:=cells_of_cell hc;exact (World.cell?_of_block ((h.same _ o ho hS (Or.inl hc')).trans ho.symm)).trans hc
theorem ZaO.set {S:Nat->Prop} (W:World) (p:Addr) (u:Value) (hS:S p.block):ZaO S B W (W.setCell p u):=by
 refine⟨rfl,rfl,rfl,by simp [World.setCell],fun k o hk hs _=>?_⟩;rw [Below.heap_setCell W p u k (fun e=>hs (e ▸ hS))];exact hk
def Za1 (Fs:List Fd) (V:List Zy_):Nat->List (Zy_×Int)
 | 0=>[]
 | k+1=>Za1 Fs V k ++ (match Fs[k]?,V[k]? with | some f,some s=>if (f.kd == 1&&!f.we.toList.isEmpty)=true then [(f.we,Zi8 s)] else [] | _,_=>[])
theorem Zhb {V:List Zy_} (hf:k < Fs.length) (hv:k < V.length):Za1 Fs V (k+1)=Za1 Fs V k ++ (if (Fs[k].kd == 1&&!Fs[k].we.toList.isEmpty)=true then [(Fs[k].we,Zi8 V[k])] else []):=by
 rw [Za1];simp [hf,hv]
theorem ZfX (Fs:List Fd) (V:List Zy_) (k:Nat):(Za1 Fs V k).length<=k:=by
 induction k with
 | zero=>simp [Za1]
 | succ k ih=>
  rw [Za1,List.length_append]
  split
  . split
    . simp;omega
    . simp;omega
  . simp;omega
def ZdA (kind:Zy_):List (Zy_×Int):=if kind.toList.isEmpty=true then [] else [(kind,1)]
def Zes (Ss:List Sh) (kind:Zy_) (V:List Zy_):List (Zy_×Int):=
 match Zcz Ss kind with
 | some x=>if x.fields.length=V.length then ZdA kind ++ Za1 x.fields V V.length else []
 | none=>[]
theorem Ziv {Ss:List Sh}{kind:Zy_}{V:List Zy_} (h:∀ x,Zcz Ss kind=some x->x.fields.length≠V.length):Zes Ss kind V=[]:=by
 unfold Zes
 cases hs:Zcz Ss kind with
 | none=>rfl
 | some x=>simp [h x hs]
theorem Zjz {Ss:List Sh}{kind:Zy_}{V:List Zy_} (h:Zcz Ss kind=some x) (hl:x.fields.length=V.length):Zes Ss kind V=ZdA kind ++ Za1 x.fields V V.length:=by
 unfold Zes;rw [h];simp [hl]
def Zmu (r:Zy_) (L:List (Zy_×Int)):Int:=(L.map fun p=>if (p.1.toList == r.toList)=true then p.2 else 0).sum
theorem ZeF (r:Zy_):Zmu r []=0:=rfl
theorem Ze2 (r:Zy_) (A B:List (Zy_×Int)):Zmu r (A ++ B)=Zmu r A+Zmu r B:=by simp [Zmu]
theorem ZgA (r:Zy_) (p:Zy_×Int):Zmu r [p]=if (p.1.toList == r.toList)=true then p.2 else 0:=by simp [Zmu]
theorem Zni {r:Zy_} (hr:r.toList.isEmpty=false) (Fs:List Fd) (V:List Zy_) (k:Nat):Zmu r (Za1 Fs V k)=ZeD r Fs V k:=by
 induction k with
 | zero=>rfl
 | succ k ih=>
  rw [Za1,ZeD,Ze2,ih]
  congr 1
  generalize Fs[k]?=fo;generalize V[k]?=so
  cases fo with
  | none=>rfl
  | some f=>
   cases so with
   | none=>rfl
   | some s=>
    dsimp only;unfold Zrf
    cases h1:(f.kd == 1) with
    | false=>simp [ZeF]
    | true=>
     cases h2:f.we.toList.isEmpty with
     | false=>simp [ZgA]
     | true=>
      have:(f.we.toList == r.toList)=false:=by
       rw [List.isEmpty_iff.1 h2]
       cases hq:r.toList with
       | nil=>rw [hq] at hr;simp at hr
       | cons _ _=>rfl
      simp [ZeF,this]
theorem Zmv {r:Zy_} (hr:r.toList.isEmpty=true) (Fs:List Fd) (V:List Zy_) (k:Nat):Zmu r (Za1 Fs V k)=0:=by
 induction k with
 | zero=>rfl
 | succ k ih=>
  rw [Za1,Ze2,ih]
  split
  . rename_i f s _ _
    cases h2:f.we.toList.isEmpty with
    | true=>simp [ZeF]
    | false=>
     have:(f.we.toList == r.toList)=false:=by
      rw [List.isEmpty_iff.1 hr]
      cases hq:f.we.toList with
      | nil=>rw [hq] at h2;simp at h2
      | cons _ _=>rfl
     split
     . simp [ZgA,this]
     . simp [ZeF]
  . simp [ZeF]
theorem Zmy (Ss:List Sh) (kind:Zy_) (V:List Zy_) (r:Zy_):Zmu r (Zes Ss kind V)=ZdG Ss kind V r:=by
 by_cases hn:∀ x,Zcz Ss kind=some x->x.fields.length≠V.length
 . rw [Ziv hn,Zmd hn];rfl
 . obtain⟨x,hx,hl⟩:∃ x,Zcz Ss kind=some x/\x.fields.length=V.length:=Classical.byContradiction fun h=>hn fun x hx hl=>h ⟨x,hx,hl⟩
   rw [Zjz hx hl,Ze2]
   cases hr:r.toList.isEmpty with
   | true=>
    rw [ZjR hr,Zmv hr];unfold ZdA
    cases hk:kind.toList.isEmpty with
    | true=>rfl
    | false=>
     have:(kind.toList == r.toList)=false:=by
      rw [List.isEmpty_iff.1 hr]
      cases hq:kind.toList with
      | nil=>rw [hq] at hk;simp at hk
      | cons _ _=>rfl
     simp [ZgA,this]
   | false=>
    rw [ZjQ hx hl hr,Zni hr]
    congr 1
    unfold ZdA
    cases hk:kind.toList.isEmpty with
    | true=>
     have:(r.toList == kind.toList)=false:=by
      rw [List.isEmpty_iff.1 hk]
      cases hq:r.toList with
      | nil=>rw [hq] at hr;simp at hr
      | cons _ _=>rfl
     simp [ZeF,this]
    | false=>
     simp only [Bool.false_eq_true,if_false,ZgA]
     by_cases h:kind.toList=r.toList
     . simp [h]
     . have h':¬ r.toList=kind.toList:=fun e=>h e.symm
       simp [h,h']
section
variable (lo:Nat) (sv:Value) (Ss:List Sh) (kind nm team:Zy_) (vv hv:Value) (en:Bool) (ver:Int) (V Ho:List Zy_) (w:World)
theorem ZnD (F:Fence) (n:Nat) (hf:F.fn 216) (hro:F.round=none) (a:Option Addr) (ln cap:Nat) (va:Option Addr) (vn vcap:Nat) (ha:Option Addr) (hn hcap:Nat) :
 CallsIn F n prog 216 #[.slice a ln cap,.agg #[.string kind,.string nm,.string team,.slice va vn vcap,.bool en,.slice ha hn hcap,.int .i64 ver]] w
  fun e w'=>e=.returned (.func (.func 246) #[] #[.pointer (some ⟨w.heap.size,0,none⟩),.pointer (some ⟨w.heap.size+1,0,none⟩)])/\
   w'=(w.alloc (.cells #[.slice a ln cap] 43)).alloc (.cells #[.string kind,.string nm,.string team,.slice va vn vcap,.bool en,.slice ha hn hcap,.int .i64 ver] 155):=by
 refine callsIn_of_wp func216 rfl hf ?_ hro;simp only [ntmps216,List.size_toArray,List.length_cons,List.length_nil,Nat.reduceAdd,Nat.reduceSub,Array.replicate_succ,Array.replicate_zero,List.push_toArray,List.append_toArray,List.nil_append,List.cons_append]
 gi_wp2
 go_ret;exact⟨rfl,rfl⟩
end
open Go.RowKit Go.Deep Go.Maps Go.ChangeMaps Go.MapKept
open Go.WideElems (Fit)
theorem ZdB {H:Type}{w:World}{k:TypeId}{R:Value->Option (DataW H×List MemPlace)}{D:DataW H} (h:w.ownsMap P k R b n D) (hb:w'.heap[b]?=w.heap[b]?):w'.ownsMap P k R b n D:=by
 obtain⟨es,clock,h1,h2,h3,h4⟩:=h;exact⟨es,clock,hb.trans h1,h2,h3,h4⟩
theorem ZjZ {H:Type}{w:World}{t k e:TypeId}{q:IntKind} (L:WideMaps.KeyLaw P k) (ht:P.underlying t=some (.map k e)) (he:P.underlying e=some (.int q))
 (hz:∀ u:World,(zeroValue e).run P u=.ok (.int q 0) u) {b n:Nat} {D:DataW H} (h:w.ownsMap P k (plainElem P e) b n D) (hn:n < maxLen) {key:Value} {kl:Lit} (hkey:keyOf P k key=some kl) :
 ∃ (c:Int) (v0:Value) (st:Nat) (w1:World),(Instr.mapEntry t (.map (some b)) key).run P w=.ok (.tuple #[v0,goInt st]) w1/\D.atKey kl (.lit (.int q 0))=.lit (.int q c)/\(Lit.int q c).wf=true/\
  (Instr.lookup t (.map (some b)) key false).run P w=.ok (.int q c) w/\(Instr.lookup t (.map (some b)) key false).run P w1=.ok (.int q c) w1/\w.grownBy w1 (some b)/\w1.heap.size=w.heap.size/\
  ∀ (val:Int),(Lit.int q val).wf=true->∃ w2,(Instr.entryStore t (.map (some b)) (goInt st) (.int q val)).run P w1=.ok () w2/\w2.ownsMap P k (plainElem P e) b (n+1) (D.put kl (.lit (.int q val)))/\w.grownBy w2 (some b)/\w2.heap.size=w.heap.size:=by
 have K:Keyed P k:=Keyed.of_law L;have hw0:(Lit.int q 0).wf=true:=by cases q <;> decide
 obtain⟨c,hl,hat,hwc⟩:=h.lookup_int K ht he (hz w) hkey;have hup:=h.update K ht hn hkey (plainElem_int (H:=H) he hw0);have hups:∀ val:Int,(Lit.int q val).wf=true->_:=fun val hv=>h.update K ht hn hkey (plainElem_int (H:=H) he hv)
 have h':=h;obtain⟨es,clock,hb,F,hs,hD⟩:=h;obtain⟨v0,st,es1,clock1,hrun,-,hst⟩:=WideElems.entry_then_store L ht hz hb F hkey;have hone:(setBlock w b (.map es1 clock1)).heap[b]?=some (.map es1 clock1):=heap_setBlock_same hb _;have hgr:∀ o,w.grownBy (setBlock w b o) (some b):=fun o=>⟨rfl,rfl,rfl,by simp [setBlock],fun i _ hi=>heap_setBlock_other hb _ (fun e=>hi (by rw [e]))⟩
 have hlook:(Instr.lookup t (.map (some b)) key false).run P (setBlock w b (.map es1 clock1))=.ok (.int q c) (setBlock w b (.map es1 clock1)):=by
  rcases L.find w hkey es.toList F.keys with ⟨h1,h2⟩ | ⟨j,e0,h1,h2,h3⟩
  . have hm:(Instr.mapEntry t (.map (some b)) key).run P w=.ok (.tuple #[.int q 0,goInt clock]) (setBlock w b (.map (es.push ⟨key,.int q 0,clock⟩) (clock+1))):=by
     simp [Instr.mapEntry,run_underlying ht,MapKept.run_getObj_map hb,L.check w false hkey,h1,hz,MapKept.run_setObj_map _ hb,Result.andThen,setBlock]
    have hu:(Instr.mapUpdate t (.map (some b)) key (.int q 0)).run P w=.ok () (setBlock w b (.map (es.push ⟨key,.int q 0,clock⟩) (clock+1))):=by
     simp [Instr.mapUpdate,run_underlying ht,MapKept.run_getObj_map hb,L.check w false hkey,h1,MapKept.run_setObj_map _ hb,Result.andThen,setBlock]
    obtain⟨w',hr',ho',-⟩:=hup;rw [hu] at hr';rw [hm] at hrun;have e1:setBlock w b (.map (es.push ⟨key,.int q 0,clock⟩) (clock+1))=setBlock w b (.map es1 clock1):=by injection hrun
    have e2:setBlock w b (.map (es.push ⟨key,.int q 0,clock⟩) (clock+1))=w':=by injection hr'
    rw [<- e2,e1] at ho';obtain⟨c',hl',hat',-⟩:=ho'.lookup_int K ht he (hz _) hkey
    have hc0:c=0:=by
     have hlk:(Instr.lookup t (.map (some b)) key false).run P w=.ok (.int q 0) w:=by
      simp [Instr.lookup,run_underlying ht,MapKept.run_getObj_map hb,L.check w _ hkey,h1,hz,Result.andThen]
     rw [hl] at hlk;injection hlk with e
     injection e
    rw [atKey_put_same (by rw [hD];exact⟨_,rfl⟩) (K.key hkey)] at hat'
    have:c'=0:=by
     injection hat' with e
     injection e with _ e
     exact e.symm
    rw [hc0,<- this];exact hl'
  . have hj:es[j]?=some e0:=by simpa using h2
    have hsame:es.modify j (fun e=>{ e with key:=key })=es:=by
     apply Array.ext';rw [Array.toList_modify];apply List.ext_getElem?;intro i;rw [List.getElem?_modify]
     by_cases ij:j=i
     . subst ij
       rw [h2];simp [<- h3]
     . simp [ij]
    have hm:(Instr.mapEntry t (.map (some b)) key).run P w=.ok (.tuple #[e0.val,goInt e0.born]) (setBlock w b (.map es clock)):=by
     simp [Instr.mapEntry,run_underlying ht,MapKept.run_getObj_map hb,L.check w false hkey,h1,hj,h3,L.stays w hkey,hsame,MapKept.run_setObj_map _ hb,Result.andThen,setBlock]
    rw [hm] at hrun;have e1:setBlock w b (.map es clock)=setBlock w b (.map es1 clock1):=by injection hrun
    have ho:(setBlock w b (.map es1 clock1)).ownsMap P k (plainElem P e) b n D:=by
     rw [<- e1];exact ZdB h' ((heap_setBlock_same hb _).trans hb.symm)
    obtain⟨c',hl',hat',-⟩:=ho.lookup_int K ht he (hz _) hkey;rw [hat] at hat'
    have:c=c':=by
     injection hat' with e
     injection e with _ e
    rw [this];exact hl'
 refine⟨c,v0,st,_,hrun,hat,hwc,hl,hlook,hgr _,by simp [setBlock],fun val hv=>?_⟩;obtain⟨es',clock',hrs,hmu⟩:=hst _ (.int q val) hone;obtain⟨w',hr',ho',hg'⟩:=hups val hv;rw [hmu] at hr';have e2:setBlock w b (.map es' clock')=w':=by injection hr'
 refine⟨_,hrs,ZdB ho' ?_,?_,by simp [setBlock]⟩
 . rw [heap_setBlock_same hone,<- e2,heap_setBlock_same hb]
 . exact (hgr _).trans ⟨rfl,rfl,rfl,by simp [setBlock],fun i _ hi=>heap_setBlock_other hone _ (fun e=>hi (by rw [e]))⟩
def Zfd (a b:Zy_):Lit:=.string (keyBytes [.string a.data.toList,.string b.data.toList])
structure ZeT (P:Program) (k s:TypeId):Prop where
 ex:∃ f0 f1:Field,P.underlying k=some (.struct #[f0,f1])/\f0.type=s/\f1.type=s/\f0.offset=0/\f1.offset=1/\f0.name≠ "_"/\f1.name≠ "_"
 ty:P.keyType k=true
 cs:P.cellsOf k=2
 st:P.underlying s=some .string
 one:P.cellsOf s=1
 sz:0 < P.types.size
theorem ZeT.mk' {k:TypeId} (h:ZeT P k s) {a b:Zy_} (ha:a.size<=maxLen) (hb:b.size<=maxLen):keyOf P k (.agg #[.string a,.string b])=some (Zfd a b):=by
 obtain⟨f0,f1,hu,h0,h1,o0,o1,n0,n1⟩:=h.ex;obtain⟨n,hn⟩:∃ n,P.types.size=n+1:=⟨P.types.size - 1,by have:=h.sz;omega⟩
 simp [keyOf,hu,h.ty,Value.formed,h.cs,hn,Program.keyLits,h.st,h.one,Value.cells,ha,hb,Zfd,h0,h1,o0,o1,n0,n1]
theorem ZeT.wide {k:TypeId} (h:ZeT P k s):(match P.underlying k with | some (.array _ _) | some (.struct _)=>true | _=>false)=true:=by
 obtain⟨f0,f1,hu,-⟩:=h.ex;rw [hu]
theorem Zl5 (hs:P.underlying s=some .string) {d:Nat} {cs:List Value} {L:List Lit} (h:P.keyLits (d+1) s cs=some L):∃ a:Zy_,cs=[.string a]/\L=[.string a.data.toList]/\a.size<=maxLen:=by
 unfold Program.keyLits at h;rw [hs] at h
 split at h <;> simp_all
theorem ZeT.inv {k:TypeId} (h:ZeT P k s) {key:Value} {kl:Lit} (hk:keyOf P k key=some kl):∃ a b:Zy_,key=.agg #[.string a,.string b]/\kl=Zfd a b/\a.size<=maxLen/\b.size<=maxLen:=by
 obtain⟨f0,f1,hu,h0,h1,o0,o1,n0,n1⟩:=h.ex;obtain⟨n,hn⟩:∃ n,P.types.size=n+1:=⟨P.types.size - 1,by have:=h.sz;omega⟩
 obtain⟨xs,L,rfl,hL,rfl⟩:=keyOf_top h.wide hk;obtain⟨xs⟩:=xs;rw [hn] at hL;unfold Program.keyLits at hL;rw [hu] at hL;simp only [h.cs] at hL
 split at hL
 . rename_i hc
   obtain⟨hl,-⟩:=hc
   match xs,hl with
   | [c0,c1],_=>
    simp only [List.mapM_cons,List.mapM_nil,h0,h1,o0,o1,h.one,List.drop_zero,List.take_succ_cons,List.take_zero,List.drop_succ_cons,Option.map_eq_some_iff] at hL;obtain⟨M,hM,rfl⟩:=hL
    cases e0:P.keyLits (n+1) s [c0] with
    | none=>simp [e0] at hM
    | some L0=>
     cases e1:P.keyLits (n+1) s [c1] with
     | none=>simp [e0,e1] at hM
     | some L1=>
      obtain⟨a,ea,rfl,sa⟩:=Zl5 h.st e0;obtain⟨b,eb,rfl,sb⟩:=Zl5 h.st e1;injection ea with ea
      injection eb with eb
      subst ea eb;simp [e0,e1] at hM;subst hM;exact⟨a,b,rfl,rfl,sa,sb⟩
 . cases hL
theorem ZeT.inj {k:TypeId} (h:ZeT P k s) (K:WideMaps.KeyLaw P k) {a b a' b':Zy_} (ha:a.size<=maxLen) (hb:b.size<=maxLen) (ha':a'.size<=maxLen) (hb':b'.size<=maxLen) (e:Zfd a b=Zfd a' b'):a=a'/\b=b':=by
 have e:=K.inj (h.mk' ha hb) (e ▸ h.mk' ha' hb')
 simpa using e
theorem Zhg:ZeT prog 268 9:=
 ⟨⟨_,_,underlying268,rfl,rfl,rfl,rfl,by decide,by decide⟩,by kernel_rfl,by kernel_rfl,underlying9,by kernel_rfl,of_decide_eq_true (by kernel_rfl)⟩
theorem ZoF:laidOutB prog=true:=by kernel_rfl
theorem Zsp:(268:TypeId) < prog.types.size:=of_decide_eq_true (by kernel_rfl)
theorem Ztd:prog.keyTypeAt 2 268=true:=by kernel_rfl
theorem Zmi:WideMaps.KeyLaw prog 268:=deep_law_laid ZoF (by decide) Zsp Ztd Zhg.wide
theorem Zjb:Keyed prog 268:=Keyed.of_law Zmi
theorem ZiK (w:World):(zeroValue 3).run prog w=.ok (.int .i64 0) w:=by kernel_rfl
structure Ob where
 kd:Zy_
 nm:Zy_
 tm:Zy_
 vs:List Zy_
 en:Bool
 hs:List Zy_
 ver:Int
variable {Xl:List Ob}
structure ZcN (x:Ob):Prop where
 s0:x.kd.size<=maxLen
 s1:x.nm.size<=maxLen
 s2:x.tm.size<=maxLen
def Zdx (x:Ob):Prop:=x.vs.length<=1048576/\x.hs.length<=1048576
structure ZcT (w:World) (b o:Nat) (x:Ob) (vv0 vv1:Value):Prop where
 c0:w.cell? ⟨b,o,none⟩=some (.string x.kd)
 c1:w.cell? ⟨b,o+1,none⟩=some (.string x.nm)
 c2:w.cell? ⟨b,o+2,none⟩=some (.string x.tm)
 c3:w.cell? ⟨b,o+3,none⟩=some vv0
 c4:w.cell? ⟨b,o+4,none⟩=some (.bool x.en)
 c5:w.cell? ⟨b,o+5,none⟩=some vv1
 c6:w.cell? ⟨b,o+6,none⟩=some (.int .i64 x.ver)
theorem ZcT.below {w:World}{x:Ob} (h:ZcT w b o x vv0 vv1) {m:Nat} (hb:Below m w w') (hlt:b < m):ZcT w' b o x vv0 vv1:=by
 have e:∀ o,w'.cell? ⟨b,o,none⟩=w.cell? ⟨b,o,none⟩:=fun o=>hb.cell (p:=⟨b,o,none⟩) hlt
 exact⟨by rw [e];exact h.c0,by rw [e];exact h.c1,by rw [e];exact h.c2,by rw [e];exact h.c3,by rw [e];exact h.c4,by rw [e];exact h.c5,by rw [e];exact h.c6⟩
theorem ZcT.set {w:World}{x:Ob} (h:ZcT w b o x vv0 vv1) {p:Addr} (hp:b≠p.block) (u:Value):ZcT (w.setCell p u) b o x vv0 vv1:=by
 have e:∀ o,(w.setCell p u).cell? ⟨b,o,none⟩=w.cell? ⟨b,o,none⟩:=fun o=>Zas _ _ _ _ hp
 exact⟨by rw [e];exact h.c0,by rw [e];exact h.c1,by rw [e];exact h.c2,by rw [e];exact h.c3,by rw [e];exact h.c4,by rw [e];exact h.c5,by rw [e];exact h.c6⟩
def Zbu (lo:Nat) (w:World) (v:Value) (Xl:List Ob):Prop:=
 (∃ (a:Option Addr) (cap:Nat),v=.slice a 0 cap/\Xl=[])\/
 ∃ (b off cap:Nat),v=.slice (some ⟨b,off,none⟩) Xl.length cap/\Xl≠[]/\Xl.length<=maxLen/\b < w.heap.size/\lo<=b/\Xl.length<=cap/\
  ∀ i (h:i < Xl.length),ZcN Xl[i]/\∃ vv0 vv1,ZcT w b (off+i*7) Xl[i] vv0 vv1/\Zaq lo w vv0 Xl[i].vs/\Zaq lo w vv1 Xl[i].hs
theorem Zbu.below {lo:Nat}{w:World} (h:Zbu lo w v Xl) (hb:Zw_ w w'):Zbu lo w' v Xl:=by
 rcases h with h | ⟨b,off,cap,h1,h2,h3,h4,h5,h6,h7⟩
 . exact Or.inl h
 . refine Or.inr ⟨b,off,cap,h1,h2,h3,Zk_ h4 hb.size,h5,h6,fun i hi=>?_⟩
   obtain⟨hs,vv0,vv1,hc,hv0,hv1⟩:=h7 i hi;exact⟨hs,vv0,vv1,hc.below hb h4,hv0.below hb,hv1.below hb⟩
theorem Zbu.mono {lo:Nat}{w:World} (h:Zbu lo w v Xl) (hl:lo'<=lo):Zbu lo' w v Xl:=by
 rcases h with h | ⟨b,off,cap,h1,h2,h3,h4,h5,h6,h7⟩
 . exact Or.inl h
 . refine Or.inr ⟨b,off,cap,h1,h2,h3,h4,Nat.le_trans hl h5,h6,fun i hi=>?_⟩
   obtain⟨hs,vv0,vv1,hc,hv0,hv1⟩:=h7 i hi;exact⟨hs,vv0,vv1,hc,hv0.mono hl,hv1.mono hl⟩
theorem Zbu.set {lo:Nat}{w:World} (h:Zbu lo w v Xl) {p:Addr} (hp:p.block < lo) (u:Value):Zbu lo (w.setCell p u) v Xl:=by
 rcases h with h | ⟨b,off,cap,h1,h2,h3,h4,h5,h6,h7⟩
 . exact Or.inl h
 . refine Or.inr ⟨b,off,cap,h1,h2,h3,by simpa [World.setCell] using h4,h5,h6,fun i hi=>?_⟩
   obtain⟨hs,vv0,vv1,hc,hv0,hv1⟩:=h7 i hi;exact⟨hs,vv0,vv1,hc.set (by omega) u,hv0.setCell hp u,hv1.setCell hp u⟩
theorem Zbu.form {lo:Nat}{w:World} (h:Zbu lo w v Xl):∃ a cap,v=.slice a Xl.length cap:=by
 rcases h with ⟨a,cap,h,rfl⟩ | ⟨b,off,cap,h,_⟩
 . exact⟨a,cap,h⟩
 . exact⟨_,cap,h⟩
theorem Zbu.max {lo:Nat}{w:World} (h:Zbu lo w v Xl):Xl.length<=maxLen:=by
 rcases h with ⟨a,cap,h,rfl⟩ | ⟨b,off,cap,h,_,h3,_⟩
 . exact Nat.zero_le _
 . exact h3
theorem Zbu.full {lo:Nat}{w:World} (h:Zbu lo w v Xl) (hne:Xl≠[]):∃ (b off cap:Nat),v=.slice (some ⟨b,off,none⟩) Xl.length cap/\Xl.length<=maxLen/\b < w.heap.size/\Xl.length<=cap/\
 ∀ i (h:i < Xl.length),ZcN Xl[i]/\∃ vv0 vv1,ZcT w b (off+i*7) Xl[i] vv0 vv1/\Zaq lo w vv0 Xl[i].vs/\Zaq lo w vv1 Xl[i].hs:=by
 rcases h with ⟨_,_,_,h⟩ | ⟨b,off,cap,h1,_,h3,h4,_,h6,h7⟩
 . exact absurd h hne
 . exact⟨b,off,cap,h1,h3,h4,h6,h7⟩
theorem Zbu.full' {lo:Nat}{w:World} (h:Zbu lo w (.slice a n cap) Xl) (hL:0 < Xl.length) :
 ∃ b off,a=some ⟨b,off,none⟩/\b < w.heap.size/\lo<=b/\∀ i (h:i < Xl.length),ZcN Xl[i]/\∃ vv0 vv1,ZcT w b (off+i*7) Xl[i] vv0 vv1/\Zaq lo w vv0 Xl[i].vs/\Zaq lo w vv1 Xl[i].hs:=by
 rcases h with ⟨a',cap',h,rfl⟩ | ⟨b',off',cap',h1,h2,h3,h4,h5,h6,h7⟩
 . simp at hL
 . injection h1 with e1 e2 e3
   exact⟨b',off',e1,h4,h5,h7⟩
def Zbp (Xl:List Ob):Prop:=Xl.length<=1048576/\∀ i (h:i < Xl.length),Zdx Xl[i]
def ZsV (Xl:List Ob) (left r:Int):Prop:= -1<=r/\r<=left/\(0<=r->Zbp Xl)
theorem Zqq (lo:Nat) (x:Ob) (vv0 vv1:Value) (left:Int) (w:World) (h0:0<=left) (h1:left<=1048576) (hv0:Zaq lo w vv0 x.vs) (hv1:Zaq lo w vv1 x.hs) (hz:ZcN x) :
 Calls prog 89 #[.agg #[.string x.kd,.string x.nm,.string x.tm,vv0,.bool x.en,vv1,.int .i64 x.ver],.int .i64 left] w
  fun e w'=>∃ r:Int,e=.returned (.int .i64 r)/\Zw_ w w'/\-1<=r/\r<=left/\(0<=r->Zdx x):=by
 refine (ZpR x.kd x.nm x.tm vv0 vv1 x.en x.ver x.vs x.hs w left hv0.at hv1.at h0 h1 hz.s0 hz.s1 hz.s2).mono ?_;rintro e w' ⟨r,he,hb,q0,q1,q2⟩;exact⟨r,he,hb,q0,q1,fun h=>⟨by have:=(q2 h).1;omega,by have:=(q2 h).2;omega⟩⟩
theorem ZqK (lo:Nat) (x:Ob) (vv0 vv1:Value) (w:World) (hv0:Zaq lo w vv0 x.vs) (hv1:Zaq lo w vv1 x.hs) (hn:Zdx x) :
 Calls prog 103 #[.agg #[.string x.kd,.string x.nm,.string x.tm,vv0,.bool x.en,vv1,.int .i64 x.ver]] w
  fun e w'=>∃ z0 z1,e=.returned (.agg #[.string x.kd,.string x.nm,.string x.tm,z0,.bool x.en,z1,.int .i64 x.ver])/\Zw_ w w'/\Zaq w.heap.size w' z0 x.vs/\Zaq w.heap.size w' z1 x.hs:=
 Zov x.kd x.nm x.tm vv0 vv1 x.en x.ver x.vs x.hs w hv0.at hv1.at hn.1 hn.2
theorem Zpg (lo lo':Nat) (x:Ob) (vv0 vv1 vv0' vv1':Value) (w:World) (hv0:Zaq lo w vv0 x.vs) (hv1:Zaq lo w vv1 x.hs) (hw0:Zaq lo' w vv0' x.vs) (hw1:Zaq lo' w vv1' x.hs) :
 Calls prog 114 #[.agg #[.string x.kd,.string x.nm,.string x.tm,vv0,.bool x.en,vv1,.int .i64 x.ver],.agg #[.string x.kd,.string x.nm,.string x.tm,vv0',.bool x.en,vv1',.int .i64 x.ver]] w fun e w'=>e=.returned (.bool true)/\Zw_ w w':=
 Znq x.kd x.nm x.tm vv0 vv1 x.en x.ver x.vs x.hs w vv0' vv1' hv0.at hv1.at hw0.at hw1.at
theorem Zot (lo:Nat) (v:Value) (Xl:List Ob) (left:Int) (w:World) (h0:0<=left) (h1:left<=1048576) (hv:Zbu lo w v Xl) :
 Calls prog 30 #[v,.int .i64 left] w fun e w'=>∃ r:Int,e=.returned (.int .i64 r)/\Zw_ w w'/\ZsV Xl left r:=by
 rcases hv with ⟨a,cap,rfl,rfl⟩ | ⟨b,off,cap,rfl,hne,hm,hbw,_,_,hc⟩
 . go_enter func30,ntmps30
   go_wp2
   go_loop [1,5] (fun l i=>∃ r:Int,l=.int .i64 r/\0<=r/\r<=left/\i=.int .i64 0) (fun _ _=>0)
   case atStart=>exact⟨_,rfl,by omega,by omega,rfl⟩
   case round=>
    obtain⟨r,rfl,hr0,hr1,rfl⟩:=hrel;go_wp2;go_ret;exact⟨r,rfl,Below.refl _ _,by omega,by omega,fun _=>⟨by simp,fun i h=>by simp at h⟩⟩
 . unfold maxLen at hm
   by_cases hle:(Xl.length:Int)<=left
   . go_enter func30,ntmps30
     go_wp2
     go_loopw [1,5] (fun l i wr=>∃ (r:Int) (k:Nat),l=.int .i64 r/\0<=r/\r<=left/\i=.int .i64 k/\k<=Xl.length/\Zw_ w wr/\∀ j (hj:j < Xl.length),j < k->Zdx Xl[j]) (fun _ i _=>Xl.length - (intOf i).toNat)
     case atStart=>exact⟨_,0,rfl,by omega,by omega,rfl,by omega,Below.refl _ _,fun j _ h=>by omega⟩
     case round=>
      obtain⟨r,k,rfl,hr0,hr1,rfl,hk,hb,hall⟩:=hrel;have HA:=Zab hall;clear hall
      by_cases hlt:k < Xl.length
      . obtain⟨hs,vv0,vv1,hc,hv0,hv1⟩:=hc k hlt
        have HV0:=Zab (hv0.below hb);have HV1:=Zab (hv1.below hb);obtain⟨a0,k0,rfl⟩:=hv0.at.form';obtain⟨a1,k1,rfl⟩:=hv1.at.form';obtain⟨c0,c1,c2,c3,c4,c5,c6⟩:=hc.below hb hbw;clear hc hv0 hv1;go_wp2_with fail;refine (Zqq lo _ _ _ _ _ hr0 (by omega) HV0.o HV1.o hs).mono ?_;rintro e w1 ⟨r1,rfl,hb1,q0,q1,q2⟩;have HQ2:=Zab q2;have hB:Hd (Zw_ w w1):=hb.trans (hb1.mono hb.size);clear hb1 c0 c1 c2 c3 c4 c5 c6 hb q2 HV0 HV1
        by_cases hneg:r1 < 0
        . go_wp2
          go_ret;exact⟨-1,rfl,hB.o,by omega,by omega,fun h=>by omega⟩
        . have HL:Hd (Zdx Xl[k]):=HQ2.o (by omega)
          clear HQ2;go_wp2;go_roundw
          case rel=>exact⟨_,k+1,rfl,by omega,by omega,by go_num,by omega,hB.o,fun j hj h=>by
                     by_cases e:j=k
                     . subst e;exact HL.o
                     . exact HA.o j hj (by omega)⟩
          . simp [intOf];omega
      . go_wp2
        go_ret;exact⟨r,rfl,hb,by omega,by omega,fun _=>⟨by omega,fun j hj=>HA.o j hj (by omega)⟩⟩
   . go_enter func30,ntmps30
     go_wp2;go_ret;exact⟨-1,rfl,Below.refl _ _,by omega,by omega,fun h=>by omega⟩
theorem Zm9 (lo lo':Nat) (v v':Value) (Xl:List Ob) (w:World) (hv:Zbu lo w v Xl) (hv':Zbu lo' w v' Xl) :
 Calls prog 51 #[v,v'] w fun e w'=>e=.returned (.bool true)/\Zw_ w w':=by
 by_cases hL:Xl=[]
 . subst hL
   obtain⟨a,cap,rfl⟩:=hv.form;obtain⟨a',cap',rfl⟩:=hv'.form;clear hv hv';go_enter func51,ntmps51;go_wp2
   go_loop [5] (fun i=>i=.int .i64 0) (fun _=>0)
   case atStart=>rfl
   case round=>
    subst hrel;go_wp2;go_ret;exact⟨rfl,Below.refl _ _⟩
 . obtain⟨b,off,cap,rfl,hm,hbw,_,hc⟩:=hv.full hL
   obtain⟨b',off',cap',rfl,_,hbw',_,hc'⟩:=hv'.full hL;clear hv hv';unfold maxLen at hm;go_enter func51,ntmps51;go_wp2
   go_loopw [5] (fun i wr=>∃ k:Nat,i=.int .i64 k/\k<=Xl.length/\Zw_ w wr) (fun i _=>Xl.length - (intOf i).toNat)
   case atStart=>exact⟨0,rfl,by omega,Below.refl _ _⟩
   case round=>
    obtain⟨k,rfl,hk,hb⟩:=hrel
    by_cases hlt:k < Xl.length
    . obtain⟨hs,vv0,vv1,hc,hv0,hv1⟩:=hc k hlt
      obtain⟨ht,vv0',vv1',hd,hw0,hw1⟩:=hc' k hlt;have HV0:=Zab (hv0.below hb);have HW0:=Zab (hw0.below hb);have HV1:=Zab (hv1.below hb);have HW1:=Zab (hw1.below hb);obtain⟨a0,k0,rfl⟩:=hv0.at.form';obtain⟨a1,k1,rfl⟩:=hv1.at.form';obtain⟨e0,g0,rfl⟩:=hw0.at.form';obtain⟨e1,g1,rfl⟩:=hw1.at.form';obtain⟨c0,c1,c2,c3,c4,c5,c6⟩:=hc.below hb hbw;obtain⟨d0,d1,d2,d3,d4,d5,d6⟩:=hd.below hb hbw';clear hc hd hv0 hv1 hw0 hw1 hs ht;have HB:=Zab hb;clear hb;go_wp2
      go_region_with (go_at_call 114;refine (Zpg lo lo' _ _ _ _ _ _ (HV0.o.below (Zb_.drew)) (HV1.o.below (Zb_.drew)) (HW0.o.below (Zb_.drew)) (HW1.o.below (Zb_.drew))).mono ?_;rintro e w1 ⟨rfl,hb1⟩;have hB:Hd (Zw_ w w1):=(HB.o.drew).trans (hb1.mono HB.o.size);clear hb1)
      all_goals go_wp2
      all_goals go_roundw
      all_goals first
       | (case rel=>exact⟨k+1,by go_num,by omega,hB.o⟩)
       | (case measure=>simp [intOf];omega)
    . go_wp2
      go_ret;exact⟨rfl,hb⟩
theorem Tryz.info155:(prog.info? 155).map (fun i=>(i.zero,i.size,i.bytes))=some (some (.agg #[.string ⟨#[]⟩,.string ⟨#[]⟩,.string ⟨#[]⟩,.slice none 0 0,.bool false,.slice none 0 0,.int .i64 0]),7,112):=by kernel_rfl
def Zcb (wr:World) (B:Nat) (Xl:List Ob) (k:Nat):Prop:=
 ∃ f,wr.rowIs B 155 (Xl.length*7) f/\∀ i (h:i < Xl.length),i < k->ZcN Xl[i]/\∃ vv0 vv1,f (i*7)=.string Xl[i].kd/\f (i*7+1)=.string Xl[i].nm/\f (i*7+2)=.string Xl[i].tm/\f (i*7+3)=vv0/\f (i*7+4)=.bool Xl[i].en/\f (i*7+5)=vv1/\f (i*7+6)=.int .i64 Xl[i].ver/\Zaq (B+1) wr vv0 Xl[i].vs/\Zaq (B+1) wr vv1 Xl[i].hs
theorem Zcb.below (h:Zcb wr B Xl k) (hb:Below wr.heap.size wr w1):Zcb w1 B Xl k:=by
 obtain⟨f,hr,hall⟩:=h;refine⟨f,hr.of_block (hb.block B hr.lt),fun i hi hik=>?_⟩;obtain⟨hz,vv0,vv1,h0,h1,h2,h3,h4,h5,h6,hv0,hv1⟩:=hall i hi hik;exact⟨hz,vv0,vv1,h0,h1,h2,h3,h4,h5,h6,hv0.below hb,hv1.below hb⟩
theorem Zcb.free (h:Zcb wr B Xl k) (i:Nat):wr.frozen? ⟨B,i,none⟩=false:=by
 obtain⟨f,hr,_⟩:=h;exact hr.frozen i
theorem Zcb.there (h:Zcb wr B Xl k) (i:Nat) (hi:i < Xl.length*7):∃ v,wr.cell? ⟨B,i,none⟩=some v:=by
 obtain⟨f,hr,_⟩:=h;exact⟨_,hr.cell hi⟩
theorem Zcb.step (h:Zcb w1 B Xl k) (hk:k < Xl.length) (hz:ZcN Xl[k]) (hv0:Zaq (B+1) w1 vv0 Xl[k].vs) (hv1:Zaq (B+1) w1 vv1 Xl[k].hs) :
 Zcb (((((((w1.setCell ⟨B,k*7,none⟩ (.string Xl[k].kd)).setCell ⟨B,k*7+1,none⟩ (.string Xl[k].nm)).setCell ⟨B,k*7+2,none⟩ (.string Xl[k].tm)).setCell ⟨B,k*7+3,none⟩ vv0).setCell ⟨B,k*7+4,none⟩ (.bool Xl[k].en)).setCell ⟨B,k*7+5,none⟩ vv1).setCell ⟨B,k*7+6,none⟩ (.int .i64 Xl[k].ver)) B Xl (k+1):=by
 obtain⟨f,hr,hall⟩:=h;refine⟨_,(((((((hr.set _ _).set _ _).set _ _).set _ _).set _ _).set _ _).set _ _),fun i hi hik=>?_⟩
 by_cases e:i=k
 . subst e
   refine⟨hz,vv0,vv1,by simp,by simp,by simp,by simp,by simp,by simp,by simp,?_,?_⟩
   . repeat (refine Zaq.setCell ?_ (by dsimp;omega) _)
     exact hv0
   . repeat (refine Zaq.setCell ?_ (by dsimp;omega) _)
     exact hv1
 . obtain⟨hz',vv0',vv1',h0,h1,h2,h3,h4,h5,h6,hv0',hv1'⟩:=hall i hi (by omega)
   refine⟨hz',vv0',vv1',?_,?_,?_,?_,?_,?_,?_,?_,?_⟩
   . rw [if_neg (by omega),if_neg (by omega),if_neg (by omega),if_neg (by omega),if_neg (by omega),if_neg (by omega),if_neg (by omega)];exact h0
   . rw [if_neg (by omega),if_neg (by omega),if_neg (by omega),if_neg (by omega),if_neg (by omega),if_neg (by omega),if_neg (by omega)];exact h1
   . rw [if_neg (by omega),if_neg (by omega),if_neg (by omega),if_neg (by omega),if_neg (by omega),if_neg (by omega),if_neg (by omega)];exact h2
   . rw [if_neg (by omega),if_neg (by omega),if_neg (by omega),if_neg (by omega),if_neg (by omega),if_neg (by omega),if_neg (by omega)];exact h3
   . rw [if_neg (by omega),if_neg (by omega),if_neg (by omega),if_neg (by omega),if_neg (by omega),if_neg (by omega),if_neg (by omega)];exact h4
   . rw [if_neg (by omega),if_neg (by omega),if_neg (by omega),if_neg (by omega),if_neg (by omega),if_neg (by omega),if_neg (by omega)];exact h5
   . rw [if_neg (by omega),if_neg (by omega),if_neg (by omega),if_neg (by omega),if_neg (by omega),if_neg (by omega),if_neg (by omega)];exact h6
   . repeat (refine Zaq.setCell ?_ (by dsimp;omega) _)
     exact hv0'
   . repeat (refine Zaq.setCell ?_ (by dsimp;omega) _)
     exact hv1'
theorem Zcb.done (h:Zcb wr B Xl k) (hk:Xl.length<=k) (hne:Xl≠[]) (hm:Xl.length<=maxLen):Zbu B wr (.slice (some ⟨B,0,none⟩) Xl.length Xl.length) Xl:=by
 obtain⟨f,hr,hall⟩:=h;refine Or.inr ⟨B,0,Xl.length,rfl,hne,hm,hr.lt,Nat.le_refl _,Nat.le_refl _,fun i hi=>?_⟩;obtain⟨hz,vv0,vv1,h0,h1,h2,h3,h4,h5,h6,hv0,hv1⟩:=hall i hi (by omega);rw [Nat.zero_add];exact⟨hz,vv0,vv1,⟨by rw [hr.cell (by omega),h0],by rw [hr.cell (by omega),h1],by rw [hr.cell (by omega),h2],by rw [hr.cell (by omega),h3],by rw [hr.cell (by omega),h4],by rw [hr.cell (by omega),h5],by rw [hr.cell (by omega),h6]⟩,hv0.mono (by omega),hv1.mono (by omega)⟩
theorem Zcb.new (w:World) (Xl:List Ob) (z:Array Value):Zcb (w.alloc (.cells (madeCells z (Xl.length*7)) 155)) w.heap.size Xl 0:=by
 refine⟨fun i=>(madeCells z (Xl.length*7)).getD i default,?_,fun i _ h=>by omega⟩;have:=World.rowIs_alloc w (madeCells z (Xl.length*7)) 155 (fun i=>(madeCells z (Xl.length*7)).getD i default) (fun i hi=>by simp [Array.getD,hi])
 rwa [size_madeCells] at this
theorem ZoQ (lo:Nat) (v:Value) (Xl:List Ob) (w:World) (hv:Zbu lo w v Xl) (hn:Zbp Xl) :
 Calls prog 44 #[v] w fun e w'=>∃ v',e=.returned v'/\Zw_ w w'/\Zbu w.heap.size w' v' Xl:=by
 obtain⟨i0,hi,hz0,hz1,hz2⟩:=info_parts Tryz.info155;have HSM:=Zab hn.2;have hn1:=hn.1;clear hn
 by_cases hL:Xl=[]
 . subst hL
   obtain⟨a,cap,rfl⟩:=hv.form;clear hv
   have hmk:∀ u:World,(Instr.makeSlice 35 (.int .i64 0) (.int .i64 0)).run prog u=.ok (.slice (some ⟨u.heap.size,0,none⟩) 0 0) (u.alloc (.cells (madeCells (Value.cells (.agg #[.string ⟨#[]⟩,.string ⟨#[]⟩,.string ⟨#[]⟩,.slice none 0 0,.bool false,.slice none 0 0,.int .i64 0])) 0) 155)):=fun u=>by
    have h:=run_make (P:=prog) u 35 155 i0 _ underlying35 hi hz0 .i64 .i64 0 0 (by omega) (by omega) (by omega) (by omega)
    simpa [hz1] using h
   go_enter func44,ntmps44;go_wp2
   go_loop [4] (fun i=>i=.int .i64 0) (fun _=>0)
   case atStart=>rfl
   case round=>
    subst hrel;go_wp2;go_ret;exact⟨_,rfl,Zb_.alloc Zl_ _,Or.inl ⟨_,_,rfl,rfl⟩⟩
 . obtain⟨b,off,cap,rfl,hm,hbw,_,hc⟩:=hv.full hL
   clear hv;have HM:Hd (Xl.length<=maxLen):=hm;unfold maxLen at hm
   have hmk:∀ u:World,(Instr.makeSlice 35 (.int .i64 (Xl.length:Int)) (.int .i64 (Xl.length:Int))).run prog u=.ok (.slice (some ⟨u.heap.size,0,none⟩) Xl.length Xl.length) (u.alloc (.cells (madeCells (Value.cells (.agg #[.string ⟨#[]⟩,.string ⟨#[]⟩,.string ⟨#[]⟩,.slice none 0 0,.bool false,.slice none 0 0,.int .i64 0])) (Xl.length*7)) 155)):=fun u=>by
    have h:=run_make (P:=prog) u 35 155 i0 _ underlying35 hi hz0 .i64 .i64 Xl.length Xl.length (by omega) (by omega) (by rw [hz2];omega) (by omega);rw [hz1] at h
    simpa using h
   clear hi hz0 hz1 hz2;go_enter func44,ntmps44;go_wp2;clear hmk
   go_loopw [4] (fun i wr=>∃ k:Nat,i=.int .i64 k/\k<=Xl.length/\Zw_ w wr/\Zcb wr w.heap.size Xl k) (fun i _=>Xl.length - (intOf i).toNat)
   case atStart=>exact⟨0,rfl,by omega,Zb_.alloc Zl_ _,Zcb.new w Xl _⟩
   case round=>
    obtain⟨k,rfl,hk,hb,hf⟩:=hrel
    by_cases hlt:k < Xl.length
    . obtain⟨hs,vv0,vv1,hc,hv0,hv1⟩:=hc k hlt
      have HV0:=Zab (hv0.below hb);have HV1:=Zab (hv1.below hb);obtain⟨a0,k0,rfl⟩:=hv0.at.form';obtain⟨a1,k1,rfl⟩:=hv1.at.form';obtain⟨c0,c1,c2,c3,c4,c5,c6⟩:=hc.below hb hbw
      have hBl:w.heap.size < wr.heap.size:=by
       obtain⟨_,hr,_⟩:=hf;exact hr.lt
      clear hc hv0 hv1;go_wp2_with fail;refine (ZqK lo _ _ _ _ HV0.o HV1.o (HSM.o k hlt)).mono ?_;rintro e w1 ⟨z0,z1,rfl,hb1,hz0,hz1⟩;obtain⟨m0,n0,rfl⟩:=hz0.at.form';obtain⟨m1,n1,rfl⟩:=hz1.at.form';have hf1:=hf.below hb1;have HST:=Zab (hf1.step hlt hs (hz0.mono (by omega)) (hz1.mono (by omega)));have hB:Hd (Zw_ w w1):=hb.trans (hb1.mono hb.size);have hfr:=hf1.free;obtain⟨o0,ho0⟩:=hf1.there (k*7) (by omega);obtain⟨o1,ho1⟩:=hf1.there (k*7+1) (by omega);obtain⟨o2,ho2⟩:=hf1.there (k*7+2) (by omega);obtain⟨o3,ho3⟩:=hf1.there (k*7+3) (by omega);obtain⟨o4,ho4⟩:=hf1.there (k*7+4) (by omega);obtain⟨o5,ho5⟩:=hf1.there (k*7+5) (by omega);obtain⟨o6,ho6⟩:=hf1.there (k*7+6) (by omega);clear hf hf1 hb1 hb c0 c1 c2 c3 c4 c5 c6 hz0 HV0 hz1 HV1;go_wp2;go_roundw
      . 
       exact⟨k+1,by go_num,by omega,(((((((hB.o.setCell Zl_ _).setCell Zl_ _).setCell Zl_ _).setCell Zl_ _).setCell Zl_ _).setCell Zl_ _).setCell Zl_ _),HST.o⟩
      . simp [intOf];omega
    . go_wp2
      go_ret;exact⟨_,rfl,hb,hf.done (by omega) hL HM.o⟩
structure Gr where
 nu:Int
 tw:Zy_
 gb:Zy_
 vb:List Int
 kd:Zy_
 tm:Zy_
 pf:Zy_
structure ZdD (x:Gr):Prop where
 s0:x.tw.size<=maxLen
 s1:x.gb.size<=maxLen
 s2:x.kd.size<=maxLen
 s3:x.tm.size<=maxLen
 s4:x.pf.size<=maxLen
def Zdy (x:Gr):Prop:=x.vb.length<=1048576
structure ZcX (w:World) (b o:Nat) (x:Gr) (vv0:Value):Prop where
 c0:w.cell? ⟨b,o,none⟩=some (.int .i64 x.nu)
 c1:w.cell? ⟨b,o+1,none⟩=some (.string x.tw)
 c2:w.cell? ⟨b,o+2,none⟩=some (.string x.gb)
 c3:w.cell? ⟨b,o+3,none⟩=some vv0
 c4:w.cell? ⟨b,o+4,none⟩=some (.string x.kd)
 c5:w.cell? ⟨b,o+5,none⟩=some (.string x.tm)
 c6:w.cell? ⟨b,o+6,none⟩=some (.string x.pf)
theorem ZcX.below {w:World}{x:Gr} (h:ZcX w b o x vv0) {m:Nat} (hb:Below m w w') (hlt:b < m):ZcX w' b o x vv0:=by
 have e:∀ o,w'.cell? ⟨b,o,none⟩=w.cell? ⟨b,o,none⟩:=fun o=>hb.cell (p:=⟨b,o,none⟩) hlt
 exact⟨by rw [e];exact h.c0,by rw [e];exact h.c1,by rw [e];exact h.c2,by rw [e];exact h.c3,by rw [e];exact h.c4,by rw [e];exact h.c5,by rw [e];exact h.c6⟩
theorem ZcX.set {w:World}{x:Gr} (h:ZcX w b o x vv0) {p:Addr} (hp:b≠p.block) (u:Value):ZcX (w.setCell p u) b o x vv0:=by
 have e:∀ o,(w.setCell p u).cell? ⟨b,o,none⟩=w.cell? ⟨b,o,none⟩:=fun o=>Zas _ _ _ _ hp
 exact⟨by rw [e];exact h.c0,by rw [e];exact h.c1,by rw [e];exact h.c2,by rw [e];exact h.c3,by rw [e];exact h.c4,by rw [e];exact h.c5,by rw [e];exact h.c6⟩
def Zb4 (lo:Nat) (w:World) (v:Value) (Xl:List Gr):Prop:=
 (∃ (a:Option Addr) (cap:Nat),v=.slice a 0 cap/\Xl=[])\/
 ∃ (b off cap:Nat),v=.slice (some ⟨b,off,none⟩) Xl.length cap/\Xl≠[]/\Xl.length<=maxLen/\b < w.heap.size/\lo<=b/\Xl.length<=cap/\
  ∀ i (h:i < Xl.length),ZdD Xl[i]/\∃ vv0,ZcX w b (off+i*7) Xl[i] vv0/\Zau lo w vv0 Xl[i].vb
theorem Zb4.below {lo:Nat}{w:World}{Xl:List Gr} (h:Zb4 lo w v Xl) (hb:Zw_ w w'):Zb4 lo w' v Xl:=by
 rcases h with h | ⟨b,off,cap,h1,h2,h3,h4,h5,h6,h7⟩
 . exact Or.inl h
 . refine Or.inr ⟨b,off,cap,h1,h2,h3,Zk_ h4 hb.size,h5,h6,fun i hi=>?_⟩
   obtain⟨hs,vv0,hc,hv0⟩:=h7 i hi;exact⟨hs,vv0,hc.below hb h4,hv0.below hb⟩
theorem Zb4.mono {lo:Nat}{w:World}{Xl:List Gr} (h:Zb4 lo w v Xl) (hl:lo'<=lo):Zb4 lo' w v Xl:=by
 rcases h with h | ⟨b,off,cap,h1,h2,h3,h4,h5,h6,h7⟩
 . exact Or.inl h
 . refine Or.inr ⟨b,off,cap,h1,h2,h3,h4,Nat.le_trans hl h5,h6,fun i hi=>?_⟩
   obtain⟨hs,vv0,hc,hv0⟩:=h7 i hi;exact⟨hs,vv0,hc,hv0.mono hl⟩
theorem Zb4.set {lo:Nat}{w:World}{Xl:List Gr} (h:Zb4 lo w v Xl) {p:Addr} (hp:p.block < lo) (u:Value):Zb4 lo (w.setCell p u) v Xl:=by
 rcases h with h | ⟨b,off,cap,h1,h2,h3,h4,h5,h6,h7⟩
 . exact Or.inl h
 . refine Or.inr ⟨b,off,cap,h1,h2,h3,by simpa [World.setCell] using h4,h5,h6,fun i hi=>?_⟩
   obtain⟨hs,vv0,hc,hv0⟩:=h7 i hi;exact⟨hs,vv0,hc.set (by omega) u,hv0.setCell hp u⟩
theorem Zb4.form {lo:Nat}{w:World}{Xl:List Gr} (h:Zb4 lo w v Xl):∃ a cap,v=.slice a Xl.length cap:=by
 rcases h with ⟨a,cap,h,rfl⟩ | ⟨b,off,cap,h,_⟩
 . exact⟨a,cap,h⟩
 . exact⟨_,cap,h⟩
theorem Zb4.max {lo:Nat}{w:World}{Xl:List Gr} (h:Zb4 lo w v Xl):Xl.length<=maxLen:=by
 rcases h with ⟨a,cap,h,rfl⟩ | ⟨b,off,cap,h,_,h3,_⟩
 . exact Nat.zero_le _
 . exact h3
theorem Zb4.full {lo:Nat}{w:World}{Xl:List Gr} (h:Zb4 lo w v Xl) (hne:Xl≠[]):∃ (b off cap:Nat),v=.slice (some ⟨b,off,none⟩) Xl.length cap/\Xl.length<=maxLen/\b < w.heap.size/\Xl.length<=cap/\
 ∀ i (h:i < Xl.length),ZdD Xl[i]/\∃ vv0,ZcX w b (off+i*7) Xl[i] vv0/\Zau lo w vv0 Xl[i].vb:=by
 rcases h with ⟨_,_,_,h⟩ | ⟨b,off,cap,h1,_,h3,h4,_,h6,h7⟩
 . exact absurd h hne
 . exact⟨b,off,cap,h1,h3,h4,h6,h7⟩
theorem Zb4.full' {lo:Nat}{w:World}{Xl:List Gr} (h:Zb4 lo w (.slice a n cap) Xl) (hL:0 < Xl.length) :
 ∃ b off,a=some ⟨b,off,none⟩/\b < w.heap.size/\lo<=b/\∀ i (h:i < Xl.length),ZdD Xl[i]/\∃ vv0,ZcX w b (off+i*7) Xl[i] vv0/\Zau lo w vv0 Xl[i].vb:=by
 rcases h with ⟨a',cap',h,rfl⟩ | ⟨b',off',cap',h1,h2,h3,h4,h5,h6,h7⟩
 . simp at hL
 . injection h1 with e1 e2 e3
   exact⟨b',off',e1,h4,h5,h7⟩
def Zdu (Xl:List Gr):Prop:=Xl.length<=1048576/\∀ i (h:i < Xl.length),Zdy Xl[i]
def ZsW (Xl:List Gr) (left r:Int):Prop:= -1<=r/\r<=left/\(0<=r->Zdu Xl)
def Gr.ru (x:Gr):Ru:=⟨x.vb,x.kd,x.tm,x.pf⟩
theorem Zqb (lo:Nat) (x:Gr) (vv0:Value) (left:Int) (w:World) (h0:0<=left) (h1:left<=1048576) (hv0:Zau lo w vv0 x.vb) (hz:ZdD x) :
 Calls prog 90 #[.agg #[.int .i64 x.nu,.string x.tw,.string x.gb,vv0,.string x.kd,.string x.tm,.string x.pf],.int .i64 left] w
  fun e w'=>∃ r:Int,e=.returned (.int .i64 r)/\Zw_ w w'/\-1<=r/\r<=left/\(0<=r->Zdy x):=by
 have HV:=Zab hv0;obtain⟨a,cap,rfl⟩:=hv0.form;obtain⟨s0,s1,s2,s3,s4⟩:=hz;have HZ:Hd (Zhv x.ru):=⟨s2,s3,s4⟩;unfold maxLen at s0 s1;clear hv0 s2 s3 s4;have HW:∀ o,Hd (Zw_ w (w.alloc o)):=fun o=>Zb_.alloc Zl_ _
 by_cases c0:(x.tw.size:Int)<=left
 . by_cases c1:(x.tw.size:Int)+x.gb.size<=left
   . go_enter func90,ntmps90
     go_wp2_with fail;refine (ZnM lo x.ru _ _ _ (by omega) (by omega) (HV.o.below (HW _).o) HZ.o).mono ?_;rintro e w1 ⟨r,rfl,hb,q0,q1,q2⟩;have HB:Hd (Zw_ w w1):=(HW _).o.trans (hb.mono (HW _).o.size);have Q2:=Zab q2;clear hb q2
     by_cases hr:r < 0
     . go_wp2
       go_ret;exact⟨-1,rfl,HB.o,by omega,by omega,fun h=>by omega⟩
     . go_wp2
       go_ret;exact⟨_,rfl,HB.o,by omega,by omega,fun h=>by have:(x.ru.vb.length:Int)<=_:=Q2.o h;show x.vb.length<=1048576;unfold Gr.ru at this;simp only [] at this;omega⟩
   . go_enter func90,ntmps90
     go_wp2;go_ret;exact⟨-1,rfl,(HW _).o,by omega,by omega,fun h=>by omega⟩
 . go_enter func90,ntmps90
   go_wp2;go_ret;exact⟨-1,rfl,(HW _).o,by omega,by omega,fun h=>by omega⟩
theorem Zqf (lo:Nat) (x:Gr) (vv0:Value) (w:World) (hv0:Zau lo w vv0 x.vb) (hn:Zdy x) :
 Calls prog 104 #[.agg #[.int .i64 x.nu,.string x.tw,.string x.gb,vv0,.string x.kd,.string x.tm,.string x.pf]] w
  fun e w'=>∃ z0,e=.returned (.agg #[.int .i64 x.nu,.string x.tw,.string x.gb,z0,.string x.kd,.string x.tm,.string x.pf])/\Zw_ w w'/\Zau w.heap.size w' z0 x.vb:=by
 have HV:=Zab hv0;obtain⟨a,cap,rfl⟩:=hv0.form;have hn':x.ru.vb.length<=1048576:=hn;clear hv0 hn;go_enter func104,ntmps104;go_wp2_with fail;refine (ZnK lo x.ru _ _ (HV.o.below ?_) hn').mono ?_
 . exact ((Zb_.alloc Zl_ _).alloc (by simp) _).alloc (by simp;omega) _
 rintro e w1 ⟨v',rfl,hb,hs⟩;obtain⟨a',cap',rfl⟩:=hs.form;have HS:Hd (Zau (w.heap.size+3) w1 (.slice a' x.ru.vb.length cap') x.vb):=hs.mono (by simp);clear hs;have hz:w.heap.size+2 < w1.heap.size:=by have:=hb.size;simp at this;omega
 have hc:∀ b o,b < w.heap.size+3->w1.cell? ⟨b,o,none⟩=_:=fun b o h=>hb.cell (p:=⟨b,o,none⟩) (by simpa using h)
 have hf:∀ b o,b < w.heap.size+3->w1.frozen? ⟨b,o,none⟩=_:=fun b o h=>hb.frozen (p:=⟨b,o,none⟩) (by simpa using h)
 have HB:Hd (Zw_ w w1):=(((Zb_.alloc Zl_ _).alloc (by simp) _).alloc (by simp;omega) _).trans (hb.mono (by simp;omega));clear hb;go_wp2;refine bodyPost_ret (v:=.agg #[.int .i64 x.nu,.string x.tw,.string x.gb,(.slice a' x.ru.vb.length cap'),.string x.kd,.string x.tm,.string x.pf]) (by simp [results,results104,go_sem,hc];exact⟨rfl,rfl,rfl⟩) rfl ⟨_,rfl,?_,?_⟩
 . repeat (refine Below.setCell ?_ (by dsimp;omega) _)
   exact HB.o
 . refine Zau.mono (lo:=w.heap.size+3) ?_ (by omega)
   repeat (refine Zau.setCell ?_ (by dsimp;omega) _)
   exact HS.o
theorem Zog (lo lo':Nat) (x:Gr) (vv0 vv0':Value) (w:World) (hv0:Zau lo w vv0 x.vb) (hw0:Zau lo' w vv0' x.vb) :
 Calls prog 115 #[.agg #[.int .i64 x.nu,.string x.tw,.string x.gb,vv0,.string x.kd,.string x.tm,.string x.pf],.agg #[.int .i64 x.nu,.string x.tw,.string x.gb,vv0',.string x.kd,.string x.tm,.string x.pf]] w fun e w'=>e=.returned (.bool true)/\Zw_ w w':=by
 have HV:=Zab hv0;have HV':=Zab hw0;obtain⟨a,cap,rfl⟩:=hv0.form;obtain⟨a',cap',rfl⟩:=hw0.form;clear hv0 hw0;have HW:∀ o o',Hd (Zw_ w ((w.alloc o).alloc o')):=fun o o'=>(Zb_.alloc Zl_ _).alloc (by simp) _
 go_enter func115,ntmps115;go_wp2_with fail;refine (Zld lo lo' x.ru _ _ _ (HV.o.below (HW _ _).o) (HV'.o.below (HW _ _).o)).mono ?_;rintro e w1 ⟨rfl,hb1⟩;have HB1:Hd (Zw_ w w1):=(HW _ _).o.trans (hb1.mono (HW _ _).o.size);clear hb1;go_wp2;go_ret;exact⟨rfl,HB1.o⟩
theorem ZoY (lo:Nat) (v:Value) (Xl:List Gr) (left:Int) (w:World) (h0:0<=left) (h1:left<=1048576) (hv:Zb4 lo w v Xl) :
 Calls prog 31 #[v,.int .i64 left] w fun e w'=>∃ r:Int,e=.returned (.int .i64 r)/\Zw_ w w'/\ZsW Xl left r:=by
 rcases hv with ⟨a,cap,rfl,rfl⟩ | ⟨b,off,cap,rfl,hne,hm,hbw,_,_,hc⟩
 . go_enter func31,ntmps31
   go_wp2
   go_loop [1,5] (fun l i=>∃ r:Int,l=.int .i64 r/\0<=r/\r<=left/\i=.int .i64 0) (fun _ _=>0)
   case atStart=>exact⟨_,rfl,by omega,by omega,rfl⟩
   case round=>
    obtain⟨r,rfl,hr0,hr1,rfl⟩:=hrel;go_wp2;go_ret;exact⟨r,rfl,Below.refl _ _,by omega,by omega,fun _=>⟨by simp,fun i h=>by simp at h⟩⟩
 . unfold maxLen at hm
   by_cases hle:(Xl.length:Int)<=left
   . go_enter func31,ntmps31
     go_wp2
     go_loopw [1,5] (fun l i wr=>∃ (r:Int) (k:Nat),l=.int .i64 r/\0<=r/\r<=left/\i=.int .i64 k/\k<=Xl.length/\Zw_ w wr/\∀ j (hj:j < Xl.length),j < k->Zdy Xl[j]) (fun _ i _=>Xl.length - (intOf i).toNat)
     case atStart=>exact⟨_,0,rfl,by omega,by omega,rfl,by omega,Below.refl _ _,fun j _ h=>by omega⟩
     case round=>
      obtain⟨r,k,rfl,hr0,hr1,rfl,hk,hb,hall⟩:=hrel;have HA:=Zab hall;clear hall
      by_cases hlt:k < Xl.length
      . obtain⟨hs,vv0,hc,hv0⟩:=hc k hlt
        have HV0:=Zab (hv0.below hb);obtain⟨a0,k0,rfl⟩:=hv0.form;obtain⟨c0,c1,c2,c3,c4,c5,c6⟩:=hc.below hb hbw;clear hc hv0;go_wp2_with fail;refine (Zqb lo _ _ _ _ hr0 (by omega) HV0.o hs).mono ?_;rintro e w1 ⟨r1,rfl,hb1,q0,q1,q2⟩;have HQ2:=Zab q2;have hB:Hd (Zw_ w w1):=hb.trans (hb1.mono hb.size);clear hb1 c0 c1 c2 c3 c4 c5 c6 hb q2 HV0
        by_cases hneg:r1 < 0
        . go_wp2
          go_ret;exact⟨-1,rfl,hB.o,by omega,by omega,fun h=>by omega⟩
        . have HL:Hd (Zdy Xl[k]):=HQ2.o (by omega)
          clear HQ2;go_wp2;go_roundw
          case rel=>exact⟨_,k+1,rfl,by omega,by omega,by go_num,by omega,hB.o,fun j hj h=>by
                     by_cases e:j=k
                     . subst e;exact HL.o
                     . exact HA.o j hj (by omega)⟩
          . simp [intOf];omega
      . go_wp2
        go_ret;exact⟨r,rfl,hb,by omega,by omega,fun _=>⟨by omega,fun j hj=>HA.o j hj (by omega)⟩⟩
   . go_enter func31,ntmps31
     go_wp2;go_ret;exact⟨-1,rfl,Below.refl _ _,by omega,by omega,fun h=>by omega⟩
theorem Znj (lo lo':Nat) (v v':Value) (Xl:List Gr) (w:World) (hv:Zb4 lo w v Xl) (hv':Zb4 lo' w v' Xl) :
 Calls prog 52 #[v,v'] w fun e w'=>e=.returned (.bool true)/\Zw_ w w':=by
 by_cases hL:Xl=[]
 . subst hL
   obtain⟨a,cap,rfl⟩:=hv.form;obtain⟨a',cap',rfl⟩:=hv'.form;clear hv hv';go_enter func52,ntmps52;go_wp2
   go_loop [5] (fun i=>i=.int .i64 0) (fun _=>0)
   case atStart=>rfl
   case round=>
    subst hrel;go_wp2;go_ret;exact⟨rfl,Below.refl _ _⟩
 . obtain⟨b,off,cap,rfl,hm,hbw,_,hc⟩:=hv.full hL
   obtain⟨b',off',cap',rfl,_,hbw',_,hc'⟩:=hv'.full hL;clear hv hv';unfold maxLen at hm;go_enter func52,ntmps52;go_wp2
   go_loopw [5] (fun i wr=>∃ k:Nat,i=.int .i64 k/\k<=Xl.length/\Zw_ w wr) (fun i _=>Xl.length - (intOf i).toNat)
   case atStart=>exact⟨0,rfl,by omega,Below.refl _ _⟩
   case round=>
    obtain⟨k,rfl,hk,hb⟩:=hrel
    by_cases hlt:k < Xl.length
    . obtain⟨hs,vv0,hc,hv0⟩:=hc k hlt
      obtain⟨ht,vv0',hd,hw0⟩:=hc' k hlt;have HV0:=Zab (hv0.below hb);have HW0:=Zab (hw0.below hb);obtain⟨a0,k0,rfl⟩:=hv0.form;obtain⟨e0,g0,rfl⟩:=hw0.form;obtain⟨c0,c1,c2,c3,c4,c5,c6⟩:=hc.below hb hbw;obtain⟨d0,d1,d2,d3,d4,d5,d6⟩:=hd.below hb hbw';clear hc hd hv0 hw0 hs ht;have HB:=Zab hb;clear hb;go_wp2
      go_region_with (go_at_call 115;refine (Zog lo lo' _ _ _ _ (HV0.o.below (Zb_.drew)) (HW0.o.below (Zb_.drew))).mono ?_;rintro e w1 ⟨rfl,hb1⟩;have hB:Hd (Zw_ w w1):=(HB.o.drew).trans (hb1.mono HB.o.size);clear hb1)
      all_goals go_wp2
      all_goals go_roundw
      all_goals first
       | (case rel=>exact⟨k+1,by go_num,by omega,hB.o⟩)
       | (case measure=>simp [intOf];omega)
    . go_wp2
      go_ret;exact⟨rfl,hb⟩
theorem Tryz.info158:(prog.info? 158).map (fun i=>(i.zero,i.size,i.bytes))=some (some (.agg #[.int .i64 0,.string ⟨#[]⟩,.string ⟨#[]⟩,.slice none 0 0,.string ⟨#[]⟩,.string ⟨#[]⟩,.string ⟨#[]⟩]),7,112):=by kernel_rfl
def Zca (wr:World) (B:Nat) (Xl:List Gr) (k:Nat):Prop:=
 ∃ f,wr.rowIs B 158 (Xl.length*7) f/\∀ i (h:i < Xl.length),i < k->ZdD Xl[i]/\∃ vv0,f (i*7)=.int .i64 Xl[i].nu/\f (i*7+1)=.string Xl[i].tw/\f (i*7+2)=.string Xl[i].gb/\f (i*7+3)=vv0/\f (i*7+4)=.string Xl[i].kd/\f (i*7+5)=.string Xl[i].tm/\f (i*7+6)=.string Xl[i].pf/\Zau (B+1) wr vv0 Xl[i].vb
theorem Zca.below {Xl:List Gr} (h:Zca wr B Xl k) (hb:Below wr.heap.size wr w1):Zca w1 B Xl k:=by
 obtain⟨f,hr,hall⟩:=h;refine⟨f,hr.of_block (hb.block B hr.lt),fun i hi hik=>?_⟩;obtain⟨hz,vv0,h0,h1,h2,h3,h4,h5,h6,hv0⟩:=hall i hi hik;exact⟨hz,vv0,h0,h1,h2,h3,h4,h5,h6,hv0.below hb⟩
theorem Zca.free {Xl:List Gr} (h:Zca wr B Xl k) (i:Nat):wr.frozen? ⟨B,i,none⟩=false:=by
 obtain⟨f,hr,_⟩:=h;exact hr.frozen i
theorem Zca.there {Xl:List Gr} (h:Zca wr B Xl k) (i:Nat) (hi:i < Xl.length*7):∃ v,wr.cell? ⟨B,i,none⟩=some v:=by
 obtain⟨f,hr,_⟩:=h;exact⟨_,hr.cell hi⟩
theorem Zca.step {Xl:List Gr} (h:Zca w1 B Xl k) (hk:k < Xl.length) (hz:ZdD Xl[k]) (hv0:Zau (B+1) w1 vv0 Xl[k].vb) :
 Zca (((((((w1.setCell ⟨B,k*7,none⟩ (.int .i64 Xl[k].nu)).setCell ⟨B,k*7+1,none⟩ (.string Xl[k].tw)).setCell ⟨B,k*7+2,none⟩ (.string Xl[k].gb)).setCell ⟨B,k*7+3,none⟩ vv0).setCell ⟨B,k*7+4,none⟩ (.string Xl[k].kd)).setCell ⟨B,k*7+5,none⟩ (.string Xl[k].tm)).setCell ⟨B,k*7+6,none⟩ (.string Xl[k].pf)) B Xl (k+1):=by
 obtain⟨f,hr,hall⟩:=h;refine⟨_,(((((((hr.set _ _).set _ _).set _ _).set _ _).set _ _).set _ _).set _ _),fun i hi hik=>?_⟩
 by_cases e:i=k
 . subst e
   refine⟨hz,vv0,by simp,by simp,by simp,by simp,by simp,by simp,by simp,?_⟩
   . repeat (refine Zau.setCell ?_ (by dsimp;omega) _)
     exact hv0
 . obtain⟨hz',vv0',h0,h1,h2,h3,h4,h5,h6,hv0'⟩:=hall i hi (by omega)
   refine⟨hz',vv0',?_,?_,?_,?_,?_,?_,?_,?_⟩
   . rw [if_neg (by omega),if_neg (by omega),if_neg (by omega),if_neg (by omega),if_neg (by omega),if_neg (by omega),if_neg (by omega)];exact h0
   . rw [if_neg (by omega),if_neg (by omega),if_neg (by omega),if_neg (by omega),if_neg (by omega),if_neg (by omega),if_neg (by omega)];exact h1
   . rw [if_neg (by omega),if_neg (by omega),if_neg (by omega),if_neg (by omega),if_neg (by omega),if_neg (by omega),if_neg (by omega)];exact h2
   . rw [if_neg (by omega),if_neg (by omega),if_neg (by omega),if_neg (by omega),if_neg (by omega),if_neg (by omega),if_neg (by omega)];exact h3
   . rw [if_neg (by omega),if_neg (by omega),if_neg (by omega),if_neg (by omega),if_neg (by omega),if_neg (by omega),if_neg (by omega)];exact h4
   . rw [if_neg (by omega),if_neg (by omega),if_neg (by omega),if_neg (by omega),if_neg (by omega),if_neg (by omega),if_neg (by omega)];exact h5
   . rw [if_neg (by omega),if_neg (by omega),if_neg (by omega),if_neg (by omega),if_neg (by omega),if_neg (by omega),if_neg (by omega)];exact h6
   . repeat (refine Zau.setCell ?_ (by dsimp;omega) _)
     exact hv0'
theorem Zca.done {Xl:List Gr} (h:Zca wr B Xl k) (hk:Xl.length<=k) (hne:Xl≠[]) (hm:Xl.length<=maxLen):Zb4 B wr (.slice (some ⟨B,0,none⟩) Xl.length Xl.length) Xl:=by
 obtain⟨f,hr,hall⟩:=h;refine Or.inr ⟨B,0,Xl.length,rfl,hne,hm,hr.lt,Nat.le_refl _,Nat.le_refl _,fun i hi=>?_⟩;obtain⟨hz,vv0,h0,h1,h2,h3,h4,h5,h6,hv0⟩:=hall i hi (by omega);rw [Nat.zero_add];exact⟨hz,vv0,⟨by rw [hr.cell (by omega),h0],by rw [hr.cell (by omega),h1],by rw [hr.cell (by omega),h2],by rw [hr.cell (by omega),h3],by rw [hr.cell (by omega),h4],by rw [hr.cell (by omega),h5],by rw [hr.cell (by omega),h6]⟩,hv0.mono (by omega)⟩
theorem Zca.new (w:World) (Xl:List Gr) (z:Array Value):Zca (w.alloc (.cells (madeCells z (Xl.length*7)) 158)) w.heap.size Xl 0:=by
 refine⟨fun i=>(madeCells z (Xl.length*7)).getD i default,?_,fun i _ h=>by omega⟩;have:=World.rowIs_alloc w (madeCells z (Xl.length*7)) 158 (fun i=>(madeCells z (Xl.length*7)).getD i default) (fun i hi=>by simp [Array.getD,hi])
 rwa [size_madeCells] at this
theorem Zpy (lo:Nat) (v:Value) (Xl:List Gr) (w:World) (hv:Zb4 lo w v Xl) (hn:Zdu Xl) :
 Calls prog 45 #[v] w fun e w'=>∃ v',e=.returned v'/\Zw_ w w'/\Zb4 w.heap.size w' v' Xl:=by
 obtain⟨i0,hi,hz0,hz1,hz2⟩:=info_parts Tryz.info158;have HSM:=Zab hn.2;have hn1:=hn.1;clear hn
 by_cases hL:Xl=[]
 . subst hL
   obtain⟨a,cap,rfl⟩:=hv.form;clear hv
   have hmk:∀ u:World,(Instr.makeSlice 36 (.int .i64 0) (.int .i64 0)).run prog u=.ok (.slice (some ⟨u.heap.size,0,none⟩) 0 0) (u.alloc (.cells (madeCells (Value.cells (.agg #[.int .i64 0,.string ⟨#[]⟩,.string ⟨#[]⟩,.slice none 0 0,.string ⟨#[]⟩,.string ⟨#[]⟩,.string ⟨#[]⟩])) 0) 158)):=fun u=>by
    have h:=run_make (P:=prog) u 36 158 i0 _ underlying36 hi hz0 .i64 .i64 0 0 (by omega) (by omega) (by omega) (by omega)
    simpa [hz1] using h
   go_enter func45,ntmps45;go_wp2
   go_loop [4] (fun i=>i=.int .i64 0) (fun _=>0)
   case atStart=>rfl
   case round=>
    subst hrel;go_wp2;go_ret;exact⟨_,rfl,Zb_.alloc Zl_ _,Or.inl ⟨_,_,rfl,rfl⟩⟩
 . obtain⟨b,off,cap,rfl,hm,hbw,_,hc⟩:=hv.full hL
   clear hv;have HM:Hd (Xl.length<=maxLen):=hm;unfold maxLen at hm
   have hmk:∀ u:World,(Instr.makeSlice 36 (.int .i64 (Xl.length:Int)) (.int .i64 (Xl.length:Int))).run prog u=.ok (.slice (some ⟨u.heap.size,0,none⟩) Xl.length Xl.length) (u.alloc (.cells (madeCells (Value.cells (.agg #[.int .i64 0,.string ⟨#[]⟩,.string ⟨#[]⟩,.slice none 0 0,.string ⟨#[]⟩,.string ⟨#[]⟩,.string ⟨#[]⟩])) (Xl.length*7)) 158)):=fun u=>by
    have h:=run_make (P:=prog) u 36 158 i0 _ underlying36 hi hz0 .i64 .i64 Xl.length Xl.length (by omega) (by omega) (by rw [hz2];omega) (by omega);rw [hz1] at h
    simpa using h
   clear hi hz0 hz1 hz2;go_enter func45,ntmps45;go_wp2;clear hmk
   go_loopw [4] (fun i wr=>∃ k:Nat,i=.int .i64 k/\k<=Xl.length/\Zw_ w wr/\Zca wr w.heap.size Xl k) (fun i _=>Xl.length - (intOf i).toNat)
   case atStart=>exact⟨0,rfl,by omega,Zb_.alloc Zl_ _,Zca.new w Xl _⟩
   case round=>
    obtain⟨k,rfl,hk,hb,hf⟩:=hrel
    by_cases hlt:k < Xl.length
    . obtain⟨hs,vv0,hc,hv0⟩:=hc k hlt
      have HV0:=Zab (hv0.below hb);obtain⟨a0,k0,rfl⟩:=hv0.form;obtain⟨c0,c1,c2,c3,c4,c5,c6⟩:=hc.below hb hbw
      have hBl:w.heap.size < wr.heap.size:=by
       obtain⟨_,hr,_⟩:=hf;exact hr.lt
      clear hc hv0;go_wp2_with fail;refine (Zqf lo _ _ _ HV0.o (HSM.o k hlt)).mono ?_;rintro e w1 ⟨z0,rfl,hb1,hz0⟩;obtain⟨m0,n0,rfl⟩:=hz0.form;have hf1:=hf.below hb1;have HST:=Zab (hf1.step hlt hs (hz0.mono (by omega)));have hB:Hd (Zw_ w w1):=hb.trans (hb1.mono hb.size);have hfr:=hf1.free;obtain⟨o0,ho0⟩:=hf1.there (k*7) (by omega);obtain⟨o1,ho1⟩:=hf1.there (k*7+1) (by omega);obtain⟨o2,ho2⟩:=hf1.there (k*7+2) (by omega);obtain⟨o3,ho3⟩:=hf1.there (k*7+3) (by omega);obtain⟨o4,ho4⟩:=hf1.there (k*7+4) (by omega);obtain⟨o5,ho5⟩:=hf1.there (k*7+5) (by omega);obtain⟨o6,ho6⟩:=hf1.there (k*7+6) (by omega);clear hf hf1 hb1 hb c0 c1 c2 c3 c4 c5 c6 hz0 HV0;go_wp2;go_roundw
      . 
       exact⟨k+1,by go_num,by omega,(((((((hB.o.setCell Zl_ _).setCell Zl_ _).setCell Zl_ _).setCell Zl_ _).setCell Zl_ _).setCell Zl_ _).setCell Zl_ _),HST.o⟩
      . simp [intOf];omega
    . go_wp2
      go_ret;exact⟨_,rfl,hb,hf.done (by omega) hL HM.o⟩
structure Le where
 tm:Zy_
 re:Zy_
 mo:Int
 fr:Int
structure Zco (x:Le):Prop where
 s0:x.tm.size<=maxLen
 s1:x.re.size<=maxLen
def Zhs (x:Le):Prop:=x=x
structure ZcV (w:World) (b o:Nat) (x:Le):Prop where
 c0:w.cell? ⟨b,o,none⟩=some (.string x.tm)
 c1:w.cell? ⟨b,o+1,none⟩=some (.string x.re)
 c2:w.cell? ⟨b,o+2,none⟩=some (.int .i64 x.mo)
 c3:w.cell? ⟨b,o+3,none⟩=some (.int .i64 x.fr)
theorem ZcV.below {w:World}{x:Le} (h:ZcV w b o x ) {m:Nat} (hb:Below m w w') (hlt:b < m):ZcV w' b o x:=by
 have e:∀ o,w'.cell? ⟨b,o,none⟩=w.cell? ⟨b,o,none⟩:=fun o=>hb.cell (p:=⟨b,o,none⟩) hlt
 exact⟨by rw [e];exact h.c0,by rw [e];exact h.c1,by rw [e];exact h.c2,by rw [e];exact h.c3⟩
theorem ZcV.set {w:World}{x:Le} (h:ZcV w b o x ) {p:Addr} (hp:b≠p.block) (u:Value):ZcV (w.setCell p u) b o x:=by
 have e:∀ o,(w.setCell p u).cell? ⟨b,o,none⟩=w.cell? ⟨b,o,none⟩:=fun o=>Zas _ _ _ _ hp
 exact⟨by rw [e];exact h.c0,by rw [e];exact h.c1,by rw [e];exact h.c2,by rw [e];exact h.c3⟩
def ZbG (lo:Nat) (w:World) (v:Value) (Xl:List Le):Prop:=
 (∃ (a:Option Addr) (cap:Nat),v=.slice a 0 cap/\Xl=[])\/
 ∃ (b off cap:Nat),v=.slice (some ⟨b,off,none⟩) Xl.length cap/\Xl≠[]/\Xl.length<=maxLen/\b < w.heap.size/\lo<=b/\Xl.length<=cap/\
  ∀ i (h:i < Xl.length),Zco Xl[i]/\ZcV w b (off+i*4) Xl[i]
theorem ZbG.below {lo:Nat}{w:World}{Xl:List Le} (h:ZbG lo w v Xl) (hb:Zw_ w w'):ZbG lo w' v Xl:=by
 rcases h with h | ⟨b,off,cap,h1,h2,h3,h4,h5,h6,h7⟩
 . exact Or.inl h
 . refine Or.inr ⟨b,off,cap,h1,h2,h3,Zk_ h4 hb.size,h5,h6,fun i hi=>?_⟩
   obtain⟨hs,hc⟩:=h7 i hi;exact⟨hs,hc.below hb h4⟩
theorem ZbG.mono {lo:Nat}{w:World}{Xl:List Le} (h:ZbG lo w v Xl) (hl:lo'<=lo):ZbG lo' w v Xl:=by
 rcases h with h | ⟨b,off,cap,h1,h2,h3,h4,h5,h6,h7⟩
 . exact Or.inl h
 . refine Or.inr ⟨b,off,cap,h1,h2,h3,h4,Nat.le_trans hl h5,h6,fun i hi=>?_⟩
   obtain⟨hs,hc⟩:=h7 i hi;exact⟨hs,hc⟩
theorem ZbG.set {lo:Nat}{w:World}{Xl:List Le} (h:ZbG lo w v Xl) {p:Addr} (hp:p.block < lo) (u:Value):ZbG lo (w.setCell p u) v Xl:=by
 rcases h with h | ⟨b,off,cap,h1,h2,h3,h4,h5,h6,h7⟩
 . exact Or.inl h
 . refine Or.inr ⟨b,off,cap,h1,h2,h3,by simpa [World.setCell] using h4,h5,h6,fun i hi=>?_⟩
   obtain⟨hs,hc⟩:=h7 i hi;exact⟨hs,hc.set (by omega) u⟩
theorem ZbG.form {lo:Nat}{w:World}{Xl:List Le} (h:ZbG lo w v Xl):∃ a cap,v=.slice a Xl.length cap:=by
 rcases h with ⟨a,cap,h,rfl⟩ | ⟨b,off,cap,h,_⟩
 . exact⟨a,cap,h⟩
 . exact⟨_,cap,h⟩
theorem ZbG.max {lo:Nat}{w:World}{Xl:List Le} (h:ZbG lo w v Xl):Xl.length<=maxLen:=by
 rcases h with ⟨a,cap,h,rfl⟩ | ⟨b,off,cap,h,_,h3,_⟩
 . exact Nat.zero_le _
 . exact h3
theorem ZbG.full {lo:Nat}{w:World}{Xl:List Le} (h:ZbG lo w v Xl) (hne:Xl≠[]):∃ (b off cap:Nat),v=.slice (some ⟨b,off,none⟩) Xl.length cap/\Xl.length<=maxLen/\b < w.heap.size/\Xl.length<=cap/\
 ∀ i (h:i < Xl.length),Zco Xl[i]/\ZcV w b (off+i*4) Xl[i]:=by
 rcases h with ⟨_,_,_,h⟩ | ⟨b,off,cap,h1,_,h3,h4,_,h6,h7⟩
 . exact absurd h hne
 . exact⟨b,off,cap,h1,h3,h4,h6,h7⟩
theorem ZbG.full' {lo:Nat}{w:World}{Xl:List Le} (h:ZbG lo w (.slice a n cap) Xl) (hL:0 < Xl.length) :
 ∃ b off,a=some ⟨b,off,none⟩/\b < w.heap.size/\lo<=b/\∀ i (h:i < Xl.length),Zco Xl[i]/\ZcV w b (off+i*4) Xl[i]:=by
 rcases h with ⟨a',cap',h,rfl⟩ | ⟨b',off',cap',h1,h2,h3,h4,h5,h6,h7⟩
 . simp at hL
 . injection h1 with e1 e2 e3
   exact⟨b',off',e1,h4,h5,h7⟩
def Zd7 (Xl:List Le):Prop:=Xl.length<=1048576/\∀ i (h:i < Xl.length),Zhs Xl[i]
def Zs6 (Xl:List Le) (left r:Int):Prop:= -1<=r/\r<=left/\(0<=r->Zd7 Xl)
theorem ZqU (x:Le) (left:Int) (w:World) (h0:0<=left) (h1:left<=1048576) (hz:Zco x) :
 Calls prog 91 #[.agg #[.string x.tm,.string x.re,.int .i64 x.mo,.int .i64 x.fr],.int .i64 left] w
  fun e w'=>∃ r:Int,e=.returned (.int .i64 r)/\Zw_ w w'/\-1<=r/\r<=left/\(0<=r->Zhs x):=by
 obtain⟨s0,s1⟩:=hz;unfold maxLen at s0 s1;go_enter func91,ntmps91;go_wp2
 all_goals go_ret
 all_goals exact⟨_,rfl,Zb_.alloc Zl_ _,by omega,by omega,fun _=>rfl⟩
theorem ZlV (x:Le) (w:World) :
 Calls prog 105 #[.agg #[.string x.tm,.string x.re,.int .i64 x.mo,.int .i64 x.fr]] w fun e w'=>e=.returned (.agg #[.string x.tm,.string x.re,.int .i64 x.mo,.int .i64 x.fr])/\Zw_ w w':=by
 go_enter func105,ntmps105;go_wp2;refine bodyPost_ret (v:=.agg #[.string x.tm,.string x.re,.int .i64 x.mo,.int .i64 x.fr]) (by simp [results,results105,go_sem]) rfl ⟨rfl,?_⟩
 repeat (refine Below.setCell ?_ (by simp) _)
 exact ((Zb_.alloc Zl_ _).alloc (by simp) _).alloc (by simp;omega) _
theorem Zn3 (x:Le) (w:World) :
 Calls prog 116 #[.agg #[.string x.tm,.string x.re,.int .i64 x.mo,.int .i64 x.fr],.agg #[.string x.tm,.string x.re,.int .i64 x.mo,.int .i64 x.fr]] w fun e w'=>e=.returned (.bool true)/\Zw_ w w':=by
 go_enter func116,ntmps116;go_wp2;go_ret;exact⟨rfl,(Zb_.alloc Zl_ _).alloc (by simp) _⟩
theorem ZpN (lo:Nat) (v:Value) (Xl:List Le) (left:Int) (w:World) (h0:0<=left) (h1:left<=1048576) (hv:ZbG lo w v Xl) :
 Calls prog 32 #[v,.int .i64 left] w fun e w'=>∃ r:Int,e=.returned (.int .i64 r)/\Zw_ w w'/\Zs6 Xl left r:=by
 rcases hv with ⟨a,cap,rfl,rfl⟩ | ⟨b,off,cap,rfl,hne,hm,hbw,_,_,hc⟩
 . go_enter func32,ntmps32
   go_wp2
   go_loop [1,5] (fun l i=>∃ r:Int,l=.int .i64 r/\0<=r/\r<=left/\i=.int .i64 0) (fun _ _=>0)
   case atStart=>exact⟨_,rfl,by omega,by omega,rfl⟩
   case round=>
    obtain⟨r,rfl,hr0,hr1,rfl⟩:=hrel;go_wp2;go_ret;exact⟨r,rfl,Below.refl _ _,by omega,by omega,fun _=>⟨by simp,fun i h=>by simp at h⟩⟩
 . unfold maxLen at hm
   by_cases hle:(Xl.length:Int)<=left
   . go_enter func32,ntmps32
     go_wp2
     go_loopw [1,5] (fun l i wr=>∃ (r:Int) (k:Nat),l=.int .i64 r/\0<=r/\r<=left/\i=.int .i64 k/\k<=Xl.length/\Zw_ w wr/\∀ j (hj:j < Xl.length),j < k->Zhs Xl[j]) (fun _ i _=>Xl.length - (intOf i).toNat)
     case atStart=>exact⟨_,0,rfl,by omega,by omega,rfl,by omega,Below.refl _ _,fun j _ h=>by omega⟩
     case round=>
      obtain⟨r,k,rfl,hr0,hr1,rfl,hk,hb,hall⟩:=hrel;have HA:=Zab hall;clear hall
      by_cases hlt:k < Xl.length
      . obtain⟨hs,hc⟩:=hc k hlt
        obtain⟨c0,c1,c2,c3⟩:=hc.below hb hbw;clear hc;go_wp2_with fail;refine (ZqU _ _ _ hr0 (by omega) hs).mono ?_;rintro e w1 ⟨r1,rfl,hb1,q0,q1,q2⟩;have HQ2:=Zab q2;have hB:Hd (Zw_ w w1):=hb.trans (hb1.mono hb.size);clear hb1 c0 c1 c2 c3 hb q2
        by_cases hneg:r1 < 0
        . go_wp2
          go_ret;exact⟨-1,rfl,hB.o,by omega,by omega,fun h=>by omega⟩
        . have HL:Hd (Zhs Xl[k]):=HQ2.o (by omega)
          clear HQ2;go_wp2;go_roundw
          case rel=>exact⟨_,k+1,rfl,by omega,by omega,by go_num,by omega,hB.o,fun j hj h=>by
                     by_cases e:j=k
                     . subst e;exact HL.o
                     . exact HA.o j hj (by omega)⟩
          . simp [intOf];omega
      . go_wp2
        go_ret;exact⟨r,rfl,hb,by omega,by omega,fun _=>⟨by omega,fun j hj=>HA.o j hj (by omega)⟩⟩
   . go_enter func32,ntmps32
     go_wp2;go_ret;exact⟨-1,rfl,Below.refl _ _,by omega,by omega,fun h=>by omega⟩
theorem ZmP (lo lo':Nat) (v v':Value) (Xl:List Le) (w:World) (hv:ZbG lo w v Xl) (hv':ZbG lo' w v' Xl) :
 Calls prog 53 #[v,v'] w fun e w'=>e=.returned (.bool true)/\Zw_ w w':=by
 by_cases hL:Xl=[]
 . subst hL
   obtain⟨a,cap,rfl⟩:=hv.form;obtain⟨a',cap',rfl⟩:=hv'.form;clear hv hv';go_enter func53,ntmps53;go_wp2
   go_loop [5] (fun i=>i=.int .i64 0) (fun _=>0)
   case atStart=>rfl
   case round=>
    subst hrel;go_wp2;go_ret;exact⟨rfl,Below.refl _ _⟩
 . obtain⟨b,off,cap,rfl,hm,hbw,_,hc⟩:=hv.full hL
   obtain⟨b',off',cap',rfl,_,hbw',_,hc'⟩:=hv'.full hL;clear hv hv';unfold maxLen at hm;go_enter func53,ntmps53;go_wp2
   go_loopw [5] (fun i wr=>∃ k:Nat,i=.int .i64 k/\k<=Xl.length/\Zw_ w wr) (fun i _=>Xl.length - (intOf i).toNat)
   case atStart=>exact⟨0,rfl,by omega,Below.refl _ _⟩
   case round=>
    obtain⟨k,rfl,hk,hb⟩:=hrel
    by_cases hlt:k < Xl.length
    . obtain⟨hs,hc⟩:=hc k hlt
      obtain⟨ht,hd⟩:=hc' k hlt;obtain⟨c0,c1,c2,c3⟩:=hc.below hb hbw;obtain⟨d0,d1,d2,d3⟩:=hd.below hb hbw';clear hc hd hs ht;have HB:=Zab hb;clear hb;go_wp2
      go_region_with (go_at_call 116;refine (Zn3 _ _ ).mono ?_;rintro e w1 ⟨rfl,hb1⟩;have hB:Hd (Zw_ w w1):=(HB.o.drew).trans (hb1.mono HB.o.size);clear hb1)
      all_goals go_wp2
      all_goals go_roundw
      all_goals first
       | (case rel=>exact⟨k+1,by go_num,by omega,hB.o⟩)
       | (case measure=>simp [intOf];omega)
    . go_wp2
      go_ret;exact⟨rfl,hb⟩
theorem Tryz.info92:(prog.info? 92).map (fun i=>(i.zero,i.size,i.bytes))=some (some (.agg #[.string ⟨#[]⟩,.string ⟨#[]⟩,.int .i64 0,.int .i64 0]),4,48):=by kernel_rfl
def Zb9 (wr:World) (B:Nat) (Xl:List Le) (k:Nat):Prop:=
 ∃ f,wr.rowIs B 92 (Xl.length*4) f/\∀ i (h:i < Xl.length),i < k->Zco Xl[i]/\f (i*4)=.string Xl[i].tm/\f (i*4+1)=.string Xl[i].re/\f (i*4+2)=.int .i64 Xl[i].mo/\f (i*4+3)=.int .i64 Xl[i].fr
theorem Zb9.below {Xl:List Le} (h:Zb9 wr B Xl k) (hb:Below wr.heap.size wr w1):Zb9 w1 B Xl k:=by
 obtain⟨f,hr,hall⟩:=h;refine⟨f,hr.of_block (hb.block B hr.lt),fun i hi hik=>?_⟩;obtain⟨hz,h0,h1,h2,h3⟩:=hall i hi hik;exact⟨hz,h0,h1,h2,h3⟩
theorem Zb9.free {Xl:List Le} (h:Zb9 wr B Xl k) (i:Nat):wr.frozen? ⟨B,i,none⟩=false:=by
 obtain⟨f,hr,_⟩:=h;exact hr.frozen i
theorem Zb9.there {Xl:List Le} (h:Zb9 wr B Xl k) (i:Nat) (hi:i < Xl.length*4):∃ v,wr.cell? ⟨B,i,none⟩=some v:=by
 obtain⟨f,hr,_⟩:=h;exact⟨_,hr.cell hi⟩
theorem Zb9.step {Xl:List Le} (h:Zb9 w1 B Xl k) (hk:k < Xl.length) (hz:Zco Xl[k]) :
 Zb9 ((((w1.setCell ⟨B,k*4,none⟩ (.string Xl[k].tm)).setCell ⟨B,k*4+1,none⟩ (.string Xl[k].re)).setCell ⟨B,k*4+2,none⟩ (.int .i64 Xl[k].mo)).setCell ⟨B,k*4+3,none⟩ (.int .i64 Xl[k].fr)) B Xl (k+1):=by
 obtain⟨f,hr,hall⟩:=h;refine⟨_,((((hr.set _ _).set _ _).set _ _).set _ _),fun i hi hik=>?_⟩
 by_cases e:i=k
 . subst e
   refine⟨hz,by simp,by simp,by simp,by simp⟩
 . obtain⟨hz',h0,h1,h2,h3⟩:=hall i hi (by omega)
   refine⟨hz',?_,?_,?_,?_⟩
   . rw [if_neg (by omega),if_neg (by omega),if_neg (by omega),if_neg (by omega)];exact h0
   . rw [if_neg (by omega),if_neg (by omega),if_neg (by omega),if_neg (by omega)];exact h1
   . rw [if_neg (by omega),if_neg (by omega),if_neg (by omega),if_neg (by omega)];exact h2
   . rw [if_neg (by omega),if_neg (by omega),if_neg (by omega),if_neg (by omega)];exact h3
theorem Zb9.done {Xl:List Le} (h:Zb9 wr B Xl k) (hk:Xl.length<=k) (hne:Xl≠[]) (hm:Xl.length<=maxLen):ZbG B wr (.slice (some ⟨B,0,none⟩) Xl.length Xl.length) Xl:=by
 obtain⟨f,hr,hall⟩:=h;refine Or.inr ⟨B,0,Xl.length,rfl,hne,hm,hr.lt,Nat.le_refl _,Nat.le_refl _,fun i hi=>?_⟩;obtain⟨hz,h0,h1,h2,h3⟩:=hall i hi (by omega);rw [Nat.zero_add];exact⟨hz,⟨by rw [hr.cell (by omega),h0],by rw [hr.cell (by omega),h1],by rw [hr.cell (by omega),h2],by rw [hr.cell (by omega),h3]⟩⟩
theorem Zb9.new (w:World) (Xl:List Le) (z:Array Value):Zb9 (w.alloc (.cells (madeCells z (Xl.length*4)) 92)) w.heap.size Xl 0:=by
 refine⟨fun i=>(madeCells z (Xl.length*4)).getD i default,?_,fun i _ h=>by omega⟩;have:=World.rowIs_alloc w (madeCells z (Xl.length*4)) 92 (fun i=>(madeCells z (Xl.length*4)).getD i default) (fun i hi=>by simp [Array.getD,hi])
 rwa [size_madeCells] at this
theorem Zpt (lo:Nat) (v:Value) (Xl:List Le) (w:World) (hv:ZbG lo w v Xl) (hn:Zd7 Xl) :
 Calls prog 46 #[v] w fun e w'=>∃ v',e=.returned v'/\Zw_ w w'/\ZbG w.heap.size w' v' Xl:=by
 obtain⟨i0,hi,hz0,hz1,hz2⟩:=info_parts Tryz.info92;have hn1:=hn.1;clear hn
 by_cases hL:Xl=[]
 . subst hL
   obtain⟨a,cap,rfl⟩:=hv.form;clear hv
   have hmk:∀ u:World,(Instr.makeSlice 37 (.int .i64 0) (.int .i64 0)).run prog u=.ok (.slice (some ⟨u.heap.size,0,none⟩) 0 0) (u.alloc (.cells (madeCells (Value.cells (.agg #[.string ⟨#[]⟩,.string ⟨#[]⟩,.int .i64 0,.int .i64 0])) 0) 92)):=fun u=>by
    have h:=run_make (P:=prog) u 37 92 i0 _ underlying37 hi hz0 .i64 .i64 0 0 (by omega) (by omega) (by omega) (by omega)
    simpa [hz1] using h
   go_enter func46,ntmps46;go_wp2
   go_loop [4] (fun i=>i=.int .i64 0) (fun _=>0)
   case atStart=>rfl
   case round=>
    subst hrel;go_wp2;go_ret;exact⟨_,rfl,Zb_.alloc Zl_ _,Or.inl ⟨_,_,rfl,rfl⟩⟩
 . obtain⟨b,off,cap,rfl,hm,hbw,_,hc⟩:=hv.full hL
   clear hv;have HM:Hd (Xl.length<=maxLen):=hm;unfold maxLen at hm
   have hmk:∀ u:World,(Instr.makeSlice 37 (.int .i64 (Xl.length:Int)) (.int .i64 (Xl.length:Int))).run prog u=.ok (.slice (some ⟨u.heap.size,0,none⟩) Xl.length Xl.length) (u.alloc (.cells (madeCells (Value.cells (.agg #[.string ⟨#[]⟩,.string ⟨#[]⟩,.int .i64 0,.int .i64 0])) (Xl.length*4)) 92)):=fun u=>by
    have h:=run_make (P:=prog) u 37 92 i0 _ underlying37 hi hz0 .i64 .i64 Xl.length Xl.length (by omega) (by omega) (by rw [hz2];omega) (by omega);rw [hz1] at h
    simpa using h
   clear hi hz0 hz1 hz2;go_enter func46,ntmps46;go_wp2;clear hmk
   go_loopw [4] (fun i wr=>∃ k:Nat,i=.int .i64 k/\k<=Xl.length/\Zw_ w wr/\Zb9 wr w.heap.size Xl k) (fun i _=>Xl.length - (intOf i).toNat)
   case atStart=>exact⟨0,rfl,by omega,Zb_.alloc Zl_ _,Zb9.new w Xl _⟩
   case round=>
    obtain⟨k,rfl,hk,hb,hf⟩:=hrel
    by_cases hlt:k < Xl.length
    . obtain⟨hs,hc⟩:=hc k hlt
      obtain⟨c0,c1,c2,c3⟩:=hc.below hb hbw
      have hBl:w.heap.size < wr.heap.size:=by
       obtain⟨_,hr,_⟩:=hf;exact hr.lt
      clear hc;go_wp2_with fail;refine (ZlV _ _ ).mono ?_;rintro e w1 ⟨rfl,hb1⟩;have hf1:=hf.below hb1;have HST:=Zab (hf1.step hlt hs );have hB:Hd (Zw_ w w1):=hb.trans (hb1.mono hb.size);have hfr:=hf1.free;obtain⟨o0,ho0⟩:=hf1.there (k*4) (by omega);obtain⟨o1,ho1⟩:=hf1.there (k*4+1) (by omega);obtain⟨o2,ho2⟩:=hf1.there (k*4+2) (by omega);obtain⟨o3,ho3⟩:=hf1.there (k*4+3) (by omega);clear hf hf1 hb1 hb c0 c1 c2 c3;go_wp2;go_roundw
      . 
       exact⟨k+1,by go_num,by omega,((((hB.o.setCell Zl_ _).setCell Zl_ _).setCell Zl_ _).setCell Zl_ _),HST.o⟩
      . simp [intOf];omega
    . go_wp2
      go_ret;exact⟨_,rfl,hb,hf.done (by omega) hL HM.o⟩
structure Pu where
 dr:Zy_
 tm:Zy_
 re:Zy_
 am:Int
 un:Int
structure Zds (x:Pu):Prop where
 s0:x.dr.size<=maxLen
 s1:x.tm.size<=maxLen
 s2:x.re.size<=maxLen
def Zhp (x:Pu):Prop:=x=x
structure ZcS (w:World) (b o:Nat) (x:Pu):Prop where
 c0:w.cell? ⟨b,o,none⟩=some (.string x.dr)
 c1:w.cell? ⟨b,o+1,none⟩=some (.string x.tm)
 c2:w.cell? ⟨b,o+2,none⟩=some (.string x.re)
 c3:w.cell? ⟨b,o+3,none⟩=some (.int .i64 x.am)
 c4:w.cell? ⟨b,o+4,none⟩=some (.int .i64 x.un)
theorem ZcS.below {w:World}{x:Pu} (h:ZcS w b o x ) {m:Nat} (hb:Below m w w') (hlt:b < m):ZcS w' b o x:=by
 have e:∀ o,w'.cell? ⟨b,o,none⟩=w.cell? ⟨b,o,none⟩:=fun o=>hb.cell (p:=⟨b,o,none⟩) hlt
 exact⟨by rw [e];exact h.c0,by rw [e];exact h.c1,by rw [e];exact h.c2,by rw [e];exact h.c3,by rw [e];exact h.c4⟩
theorem ZcS.set {w:World}{x:Pu} (h:ZcS w b o x ) {p:Addr} (hp:b≠p.block) (u:Value):ZcS (w.setCell p u) b o x:=by
 have e:∀ o,(w.setCell p u).cell? ⟨b,o,none⟩=w.cell? ⟨b,o,none⟩:=fun o=>Zas _ _ _ _ hp
 exact⟨by rw [e];exact h.c0,by rw [e];exact h.c1,by rw [e];exact h.c2,by rw [e];exact h.c3,by rw [e];exact h.c4⟩
def ZbW (lo:Nat) (w:World) (v:Value) (Xl:List Pu):Prop:=
 (∃ (a:Option Addr) (cap:Nat),v=.slice a 0 cap/\Xl=[])\/
 ∃ (b off cap:Nat),v=.slice (some ⟨b,off,none⟩) Xl.length cap/\Xl≠[]/\Xl.length<=maxLen/\b < w.heap.size/\lo<=b/\Xl.length<=cap/\
  ∀ i (h:i < Xl.length),Zds Xl[i]/\ZcS w b (off+i*5) Xl[i]
theorem ZbW.below {lo:Nat}{w:World}{Xl:List Pu} (h:ZbW lo w v Xl) (hb:Zw_ w w'):ZbW lo w' v Xl:=by
 rcases h with h | ⟨b,off,cap,h1,h2,h3,h4,h5,h6,h7⟩
 . exact Or.inl h
 . refine Or.inr ⟨b,off,cap,h1,h2,h3,Zk_ h4 hb.size,h5,h6,fun i hi=>?_⟩
   obtain⟨hs,hc⟩:=h7 i hi;exact⟨hs,hc.below hb h4⟩
theorem ZbW.mono {lo:Nat}{w:World}{Xl:List Pu} (h:ZbW lo w v Xl) (hl:lo'<=lo):ZbW lo' w v Xl:=by
 rcases h with h | ⟨b,off,cap,h1,h2,h3,h4,h5,h6,h7⟩
 . exact Or.inl h
 . refine Or.inr ⟨b,off,cap,h1,h2,h3,h4,Nat.le_trans hl h5,h6,fun i hi=>?_⟩
   obtain⟨hs,hc⟩:=h7 i hi;exact⟨hs,hc⟩
theorem ZbW.set {lo:Nat}{w:World}{Xl:List Pu} (h:ZbW lo w v Xl) {p:Addr} (hp:p.block < lo) (u:Value):ZbW lo (w.setCell p u) v Xl:=by
 rcases h with h | ⟨b,off,cap,h1,h2,h3,h4,h5,h6,h7⟩
 . exact Or.inl h
 . refine Or.inr ⟨b,off,cap,h1,h2,h3,by simpa [World.setCell] using h4,h5,h6,fun i hi=>?_⟩
   obtain⟨hs,hc⟩:=h7 i hi;exact⟨hs,hc.set (by omega) u⟩
theorem ZbW.form {lo:Nat}{w:World}{Xl:List Pu} (h:ZbW lo w v Xl):∃ a cap,v=.slice a Xl.length cap:=by
 rcases h with ⟨a,cap,h,rfl⟩ | ⟨b,off,cap,h,_⟩
 . exact⟨a,cap,h⟩
 . exact⟨_,cap,h⟩
theorem ZbW.max {lo:Nat}{w:World}{Xl:List Pu} (h:ZbW lo w v Xl):Xl.length<=maxLen:=by
 rcases h with ⟨a,cap,h,rfl⟩ | ⟨b,off,cap,h,_,h3,_⟩
 . exact Nat.zero_le _
 . exact h3
theorem ZbW.full {lo:Nat}{w:World}{Xl:List Pu} (h:ZbW lo w v Xl) (hne:Xl≠[]):∃ (b off cap:Nat),v=.slice (some ⟨b,off,none⟩) Xl.length cap/\Xl.length<=maxLen/\b < w.heap.size/\Xl.length<=cap/\
 ∀ i (h:i < Xl.length),Zds Xl[i]/\ZcS w b (off+i*5) Xl[i]:=by
 rcases h with ⟨_,_,_,h⟩ | ⟨b,off,cap,h1,_,h3,h4,_,h6,h7⟩
 . exact absurd h hne
 . exact⟨b,off,cap,h1,h3,h4,h6,h7⟩
theorem ZbW.full' {lo:Nat}{w:World}{Xl:List Pu} (h:ZbW lo w (.slice a n cap) Xl) (hL:0 < Xl.length) :
 ∃ b off,a=some ⟨b,off,none⟩/\b < w.heap.size/\lo<=b/\∀ i (h:i < Xl.length),Zds Xl[i]/\ZcS w b (off+i*5) Xl[i]:=by
 rcases h with ⟨a',cap',h,rfl⟩ | ⟨b',off',cap',h1,h2,h3,h4,h5,h6,h7⟩
 . simp at hL
 . injection h1 with e1 e2 e3
   exact⟨b',off',e1,h4,h5,h7⟩
def ZdV (Xl:List Pu):Prop:=Xl.length<=1048576/\∀ i (h:i < Xl.length),Zhp Xl[i]
def Zta (Xl:List Pu) (left r:Int):Prop:= -1<=r/\r<=left/\(0<=r->ZdV Xl)
theorem Zp4 (x:Pu) (left:Int) (w:World) (h0:0<=left) (h1:left<=1048576) (hz:Zds x) :
 Calls prog 92 #[.agg #[.string x.dr,.string x.tm,.string x.re,.int .i64 x.am,.int .i64 x.un],.int .i64 left] w
  fun e w'=>∃ r:Int,e=.returned (.int .i64 r)/\Zw_ w w'/\-1<=r/\r<=left/\(0<=r->Zhp x):=by
 obtain⟨s0,s1,s2⟩:=hz;unfold maxLen at s0 s1 s2;go_enter func92,ntmps92;go_wp2
 all_goals go_ret
 all_goals exact⟨_,rfl,Zb_.alloc Zl_ _,by omega,by omega,fun _=>rfl⟩
theorem ZlJ (x:Pu) (w:World) :
 Calls prog 106 #[.agg #[.string x.dr,.string x.tm,.string x.re,.int .i64 x.am,.int .i64 x.un]] w fun e w'=>e=.returned (.agg #[.string x.dr,.string x.tm,.string x.re,.int .i64 x.am,.int .i64 x.un])/\Zw_ w w':=by
 go_enter func106,ntmps106;go_wp2;refine bodyPost_ret (v:=.agg #[.string x.dr,.string x.tm,.string x.re,.int .i64 x.am,.int .i64 x.un]) (by simp [results,results106,go_sem]) rfl ⟨rfl,?_⟩
 repeat (refine Below.setCell ?_ (by simp) _)
 exact ((Zb_.alloc Zl_ _).alloc (by simp) _).alloc (by simp;omega) _
theorem Zpj (x:Pu) (w:World) :
 Calls prog 117 #[.agg #[.string x.dr,.string x.tm,.string x.re,.int .i64 x.am,.int .i64 x.un],.agg #[.string x.dr,.string x.tm,.string x.re,.int .i64 x.am,.int .i64 x.un]] w fun e w'=>e=.returned (.bool true)/\Zw_ w w':=by
 go_enter func117,ntmps117;go_wp2;go_ret;exact⟨rfl,(Zb_.alloc Zl_ _).alloc (by simp) _⟩
theorem ZoH (lo:Nat) (v:Value) (Xl:List Pu) (left:Int) (w:World) (h0:0<=left) (h1:left<=1048576) (hv:ZbW lo w v Xl) :
 Calls prog 33 #[v,.int .i64 left] w fun e w'=>∃ r:Int,e=.returned (.int .i64 r)/\Zw_ w w'/\Zta Xl left r:=by
 rcases hv with ⟨a,cap,rfl,rfl⟩ | ⟨b,off,cap,rfl,hne,hm,hbw,_,_,hc⟩
 . go_enter func33,ntmps33
   go_wp2
   go_loop [1,5] (fun l i=>∃ r:Int,l=.int .i64 r/\0<=r/\r<=left/\i=.int .i64 0) (fun _ _=>0)
   case atStart=>exact⟨_,rfl,by omega,by omega,rfl⟩
   case round=>
    obtain⟨r,rfl,hr0,hr1,rfl⟩:=hrel;go_wp2;go_ret;exact⟨r,rfl,Below.refl _ _,by omega,by omega,fun _=>⟨by simp,fun i h=>by simp at h⟩⟩
 . unfold maxLen at hm
   by_cases hle:(Xl.length:Int)<=left
   . go_enter func33,ntmps33
     go_wp2
     go_loopw [1,5] (fun l i wr=>∃ (r:Int) (k:Nat),l=.int .i64 r/\0<=r/\r<=left/\i=.int .i64 k/\k<=Xl.length/\Zw_ w wr/\∀ j (hj:j < Xl.length),j < k->Zhp Xl[j]) (fun _ i _=>Xl.length - (intOf i).toNat)
     case atStart=>exact⟨_,0,rfl,by omega,by omega,rfl,by omega,Below.refl _ _,fun j _ h=>by omega⟩
     case round=>
      obtain⟨r,k,rfl,hr0,hr1,rfl,hk,hb,hall⟩:=hrel;have HA:=Zab hall;clear hall
      by_cases hlt:k < Xl.length
      . obtain⟨hs,hc⟩:=hc k hlt
        obtain⟨c0,c1,c2,c3,c4⟩:=hc.below hb hbw;clear hc;go_wp2_with fail;refine (Zp4 _ _ _ hr0 (by omega) hs).mono ?_;rintro e w1 ⟨r1,rfl,hb1,q0,q1,q2⟩;have HQ2:=Zab q2;have hB:Hd (Zw_ w w1):=hb.trans (hb1.mono hb.size);clear hb1 c0 c1 c2 c3 c4 hb q2
        by_cases hneg:r1 < 0
        . go_wp2
          go_ret;exact⟨-1,rfl,hB.o,by omega,by omega,fun h=>by omega⟩
        . have HL:Hd (Zhp Xl[k]):=HQ2.o (by omega)
          clear HQ2;go_wp2;go_roundw
          case rel=>exact⟨_,k+1,rfl,by omega,by omega,by go_num,by omega,hB.o,fun j hj h=>by
                     by_cases e:j=k
                     . subst e;exact HL.o
                     . exact HA.o j hj (by omega)⟩
          . simp [intOf];omega
      . go_wp2
        go_ret;exact⟨r,rfl,hb,by omega,by omega,fun _=>⟨by omega,fun j hj=>HA.o j hj (by omega)⟩⟩
   . go_enter func33,ntmps33
     go_wp2;go_ret;exact⟨-1,rfl,Below.refl _ _,by omega,by omega,fun h=>by omega⟩
theorem ZmH (lo lo':Nat) (v v':Value) (Xl:List Pu) (w:World) (hv:ZbW lo w v Xl) (hv':ZbW lo' w v' Xl) :
 Calls prog 54 #[v,v'] w fun e w'=>e=.returned (.bool true)/\Zw_ w w':=by
 by_cases hL:Xl=[]
 . subst hL
   obtain⟨a,cap,rfl⟩:=hv.form;obtain⟨a',cap',rfl⟩:=hv'.form;clear hv hv';go_enter func54,ntmps54;go_wp2
   go_loop [5] (fun i=>i=.int .i64 0) (fun _=>0)
   case atStart=>rfl
   case round=>
    subst hrel;go_wp2;go_ret;exact⟨rfl,Below.refl _ _⟩
 . obtain⟨b,off,cap,rfl,hm,hbw,_,hc⟩:=hv.full hL
   obtain⟨b',off',cap',rfl,_,hbw',_,hc'⟩:=hv'.full hL;clear hv hv';unfold maxLen at hm;go_enter func54,ntmps54;go_wp2
   go_loopw [5] (fun i wr=>∃ k:Nat,i=.int .i64 k/\k<=Xl.length/\Zw_ w wr) (fun i _=>Xl.length - (intOf i).toNat)
   case atStart=>exact⟨0,rfl,by omega,Below.refl _ _⟩
   case round=>
    obtain⟨k,rfl,hk,hb⟩:=hrel
    by_cases hlt:k < Xl.length
    . obtain⟨hs,hc⟩:=hc k hlt
      obtain⟨ht,hd⟩:=hc' k hlt;obtain⟨c0,c1,c2,c3,c4⟩:=hc.below hb hbw;obtain⟨d0,d1,d2,d3,d4⟩:=hd.below hb hbw';clear hc hd hs ht;have HB:=Zab hb;clear hb;go_wp2
      go_region_with (go_at_call 117;refine (Zpj _ _ ).mono ?_;rintro e w1 ⟨rfl,hb1⟩;have hB:Hd (Zw_ w w1):=(HB.o.drew).trans (hb1.mono HB.o.size);clear hb1)
      all_goals go_wp2
      all_goals go_roundw
      all_goals first
       | (case rel=>exact⟨k+1,by go_num,by omega,hB.o⟩)
       | (case measure=>simp [intOf];omega)
    . go_wp2
      go_ret;exact⟨rfl,hb⟩
theorem Tryz.info94:(prog.info? 94).map (fun i=>(i.zero,i.size,i.bytes))=some (some (.agg #[.string ⟨#[]⟩,.string ⟨#[]⟩,.string ⟨#[]⟩,.int .i64 0,.int .i64 0]),5,64):=by kernel_rfl
def Zb6 (wr:World) (B:Nat) (Xl:List Pu) (k:Nat):Prop:=
 ∃ f,wr.rowIs B 94 (Xl.length*5) f/\∀ i (h:i < Xl.length),i < k->Zds Xl[i]/\f (i*5)=.string Xl[i].dr/\f (i*5+1)=.string Xl[i].tm/\f (i*5+2)=.string Xl[i].re/\f (i*5+3)=.int .i64 Xl[i].am/\f (i*5+4)=.int .i64 Xl[i].un
theorem Zb6.below {Xl:List Pu} (h:Zb6 wr B Xl k) (hb:Below wr.heap.size wr w1):Zb6 w1 B Xl k:=by
 obtain⟨f,hr,hall⟩:=h;refine⟨f,hr.of_block (hb.block B hr.lt),fun i hi hik=>?_⟩;obtain⟨hz,h0,h1,h2,h3,h4⟩:=hall i hi hik;exact⟨hz,h0,h1,h2,h3,h4⟩
theorem Zb6.free {Xl:List Pu} (h:Zb6 wr B Xl k) (i:Nat):wr.frozen? ⟨B,i,none⟩=false:=by
 obtain⟨f,hr,_⟩:=h;exact hr.frozen i
theorem Zb6.there {Xl:List Pu} (h:Zb6 wr B Xl k) (i:Nat) (hi:i < Xl.length*5):∃ v,wr.cell? ⟨B,i,none⟩=some v:=by
 obtain⟨f,hr,_⟩:=h;exact⟨_,hr.cell hi⟩
theorem Zb6.step {Xl:List Pu} (h:Zb6 w1 B Xl k) (hk:k < Xl.length) (hz:Zds Xl[k]) :
 Zb6 (((((w1.setCell ⟨B,k*5,none⟩ (.string Xl[k].dr)).setCell ⟨B,k*5+1,none⟩ (.string Xl[k].tm)).setCell ⟨B,k*5+2,none⟩ (.string Xl[k].re)).setCell ⟨B,k*5+3,none⟩ (.int .i64 Xl[k].am)).setCell ⟨B,k*5+4,none⟩ (.int .i64 Xl[k].un)) B Xl (k+1):=by
 obtain⟨f,hr,hall⟩:=h;refine⟨_,(((((hr.set _ _).set _ _).set _ _).set _ _).set _ _),fun i hi hik=>?_⟩
 by_cases e:i=k
 . subst e
   refine⟨hz,by simp,by simp,by simp,by simp,by simp⟩
 . obtain⟨hz',h0,h1,h2,h3,h4⟩:=hall i hi (by omega)
   refine⟨hz',?_,?_,?_,?_,?_⟩
   . rw [if_neg (by omega),if_neg (by omega),if_neg (by omega),if_neg (by omega),if_neg (by omega)];exact h0
   . rw [if_neg (by omega),if_neg (by omega),if_neg (by omega),if_neg (by omega),if_neg (by omega)];exact h1
   . rw [if_neg (by omega),if_neg (by omega),if_neg (by omega),if_neg (by omega),if_neg (by omega)];exact h2
   . rw [if_neg (by omega),if_neg (by omega),if_neg (by omega),if_neg (by omega),if_neg (by omega)];exact h3
   . rw [if_neg (by omega),if_neg (by omega),if_neg (by omega),if_neg (by omega),if_neg (by omega)];exact h4
theorem Zb6.done {Xl:List Pu} (h:Zb6 wr B Xl k) (hk:Xl.length<=k) (hne:Xl≠[]) (hm:Xl.length<=maxLen):ZbW B wr (.slice (some ⟨B,0,none⟩) Xl.length Xl.length) Xl:=by
 obtain⟨f,hr,hall⟩:=h;refine Or.inr ⟨B,0,Xl.length,rfl,hne,hm,hr.lt,Nat.le_refl _,Nat.le_refl _,fun i hi=>?_⟩;obtain⟨hz,h0,h1,h2,h3,h4⟩:=hall i hi (by omega);rw [Nat.zero_add];exact⟨hz,⟨by rw [hr.cell (by omega),h0],by rw [hr.cell (by omega),h1],by rw [hr.cell (by omega),h2],by rw [hr.cell (by omega),h3],by rw [hr.cell (by omega),h4]⟩⟩
theorem Zb6.new (w:World) (Xl:List Pu) (z:Array Value):Zb6 (w.alloc (.cells (madeCells z (Xl.length*5)) 94)) w.heap.size Xl 0:=by
 refine⟨fun i=>(madeCells z (Xl.length*5)).getD i default,?_,fun i _ h=>by omega⟩;have:=World.rowIs_alloc w (madeCells z (Xl.length*5)) 94 (fun i=>(madeCells z (Xl.length*5)).getD i default) (fun i hi=>by simp [Array.getD,hi])
 rwa [size_madeCells] at this
theorem Zor (lo:Nat) (v:Value) (Xl:List Pu) (w:World) (hv:ZbW lo w v Xl) (hn:ZdV Xl) :
 Calls prog 47 #[v] w fun e w'=>∃ v',e=.returned v'/\Zw_ w w'/\ZbW w.heap.size w' v' Xl:=by
 obtain⟨i0,hi,hz0,hz1,hz2⟩:=info_parts Tryz.info94;have hn1:=hn.1;clear hn
 by_cases hL:Xl=[]
 . subst hL
   obtain⟨a,cap,rfl⟩:=hv.form;clear hv
   have hmk:∀ u:World,(Instr.makeSlice 38 (.int .i64 0) (.int .i64 0)).run prog u=.ok (.slice (some ⟨u.heap.size,0,none⟩) 0 0) (u.alloc (.cells (madeCells (Value.cells (.agg #[.string ⟨#[]⟩,.string ⟨#[]⟩,.string ⟨#[]⟩,.int .i64 0,.int .i64 0])) 0) 94)):=fun u=>by
    have h:=run_make (P:=prog) u 38 94 i0 _ underlying38 hi hz0 .i64 .i64 0 0 (by omega) (by omega) (by omega) (by omega)
    simpa [hz1] using h
   go_enter func47,ntmps47;go_wp2
   go_loop [4] (fun i=>i=.int .i64 0) (fun _=>0)
   case atStart=>rfl
   case round=>
    subst hrel;go_wp2;go_ret;exact⟨_,rfl,Zb_.alloc Zl_ _,Or.inl ⟨_,_,rfl,rfl⟩⟩
 . obtain⟨b,off,cap,rfl,hm,hbw,_,hc⟩:=hv.full hL
   clear hv;have HM:Hd (Xl.length<=maxLen):=hm;unfold maxLen at hm
   have hmk:∀ u:World,(Instr.makeSlice 38 (.int .i64 (Xl.length:Int)) (.int .i64 (Xl.length:Int))).run prog u=.ok (.slice (some ⟨u.heap.size,0,none⟩) Xl.length Xl.length) (u.alloc (.cells (madeCells (Value.cells (.agg #[.string ⟨#[]⟩,.string ⟨#[]⟩,.string ⟨#[]⟩,.int .i64 0,.int .i64 0])) (Xl.length*5)) 94)):=fun u=>by
    have h:=run_make (P:=prog) u 38 94 i0 _ underlying38 hi hz0 .i64 .i64 Xl.length Xl.length (by omega) (by omega) (by rw [hz2];omega) (by omega);rw [hz1] at h
    simpa using h
   clear hi hz0 hz1 hz2;go_enter func47,ntmps47;go_wp2;clear hmk
   go_loopw [4] (fun i wr=>∃ k:Nat,i=.int .i64 k/\k<=Xl.length/\Zw_ w wr/\Zb6 wr w.heap.size Xl k) (fun i _=>Xl.length - (intOf i).toNat)
   case atStart=>exact⟨0,rfl,by omega,Zb_.alloc Zl_ _,Zb6.new w Xl _⟩
   case round=>
    obtain⟨k,rfl,hk,hb,hf⟩:=hrel
    by_cases hlt:k < Xl.length
    . obtain⟨hs,hc⟩:=hc k hlt
      obtain⟨c0,c1,c2,c3,c4⟩:=hc.below hb hbw
      have hBl:w.heap.size < wr.heap.size:=by
       obtain⟨_,hr,_⟩:=hf;exact hr.lt
      clear hc;go_wp2_with fail;refine (ZlJ _ _ ).mono ?_;rintro e w1 ⟨rfl,hb1⟩;have hf1:=hf.below hb1;have HST:=Zab (hf1.step hlt hs );have hB:Hd (Zw_ w w1):=hb.trans (hb1.mono hb.size);have hfr:=hf1.free;obtain⟨o0,ho0⟩:=hf1.there (k*5) (by omega);obtain⟨o1,ho1⟩:=hf1.there (k*5+1) (by omega);obtain⟨o2,ho2⟩:=hf1.there (k*5+2) (by omega);obtain⟨o3,ho3⟩:=hf1.there (k*5+3) (by omega);obtain⟨o4,ho4⟩:=hf1.there (k*5+4) (by omega);clear hf hf1 hb1 hb c0 c1 c2 c3 c4;go_wp2;go_roundw
      . 
       exact⟨k+1,by go_num,by omega,(((((hB.o.setCell Zl_ _).setCell Zl_ _).setCell Zl_ _).setCell Zl_ _).setCell Zl_ _),HST.o⟩
      . simp [intOf];omega
    . go_wp2
      go_ret;exact⟨_,rfl,hb,hf.done (by omega) hL HM.o⟩
open Go.RowKit Go.Deep Go.Maps
theorem Zfh (a b:Int):wrap64 (wrap64 a+b)=wrap64 (a+b):=by unfold wrap64;omega
theorem ZgN (a b:Int):wrap64 (wrap64 a+wrap64 b)=wrap64 (a+b):=by unfold wrap64;omega
abbrev Tri:=Zy_×Zy_×Int
variable {T:List Tri}
def ZrB (T:List Tri):Prop:=∀ p ∈ T,p.1.size<=maxLen/\p.2.1.size<=maxLen
def Zlh (T:List Tri) (a b:Zy_):Int:=(T.map fun p=>if (p.1=a/\p.2.1=b) then p.2.2 else 0).sum
theorem Zhl (A B:List Tri) (a b:Zy_):Zlh (A ++ B) a b=Zlh A a b+Zlh B a b:=by simp [Zlh]
theorem ZlK (p:Tri) (a b:Zy_):Zlh [p] a b=if (p.1=a/\p.2.1=b) then p.2.2 else 0:=by simp [Zlh]
structure Zfp {H:Type} (T:List Tri) (D:DataW H):Prop where
 isMap:IsMap D
 sums:∀ a b:Zy_,a.size<=maxLen->b.size<=maxLen->D.atKey (Zfd a b) (.lit (.int .i64 0))=.lit (.int .i64 (wrap64 (Zlh T a b)))
 has:∀ p ∈ T,Maps.has D (Zfd p.1 p.2.1)=true
theorem Zhk (a b:Zy_):WideAt.IsKeyLit (Zfd a b):=trivial
theorem Zfp.start {H:Type}:Zfp [] (.map []:DataW H):=⟨⟨[],rfl⟩,fun a b _ _=>by simp [Zlh,wrap64];rfl,fun p hp=>by cases hp⟩
theorem Zrc {a b a' b':Zy_} (ha:a.size<=maxLen) (hb:b.size<=maxLen) (ha':a'.size<=maxLen) (hb':b'.size<=maxLen) (h:¬ (a=a'/\b=b')):Zfd a b≠Zfd a' b':=fun e=>h (Zhg.inj Zmi ha hb ha' hb' e)
theorem Zfp.step {H:Type}{D:DataW H} (h:Zfp T D) {t r:Zy_} (ht:t.size<=maxLen) (hr:r.size<=maxLen) {c:Int} (hat:D.atKey (Zfd t r) (.lit (.int .i64 0))=.lit (.int .i64 c)) (n:Int) :
 Zfp (T ++ [(t,r,n)]) (D.put (Zfd t r) (.lit (.int .i64 (wrap64 (c+n))))):=by
 have hc:=hat.symm.trans (h.sums t r ht hr);injection hc with hc
 injection hc with _ hc
 refine⟨h.isMap.put _ _,fun a b ha hb=>?_,fun p hp=>?_⟩
 . by_cases e:t=a/\r=b
   . obtain⟨rfl,rfl⟩:=e
     rw [atKey_put_same h.isMap (Zhk _ _),Zhl,ZlK,if_pos ⟨rfl,rfl⟩,hc,Zfh]
   . rw [atKey_put_other (Zrc ha hb ht hr (fun e'=>e ⟨e'.1.symm,e'.2.symm⟩)),h.sums a b ha hb,Zhl,ZlK,if_neg e,Int.add_zero]
 . by_cases e:Zfd p.1 p.2.1=Zfd t r
   . rw [e]
     exact has_put_same h.isMap (Zhk _ _) _
   . rw [has_put_other e]
     rcases List.mem_append.1 hp with hp | hp
     . exact h.has p hp
     . simp at hp
       subst hp;exact absurd rfl e
def ZgR (Ts:List Tm) (team r:Zy_) (p:Tri):Int:=if (p.2.1.toList == r.toList&&Zbf Ts p.1 team)=true then p.2.2 else 0
def ZkD (Ts:List Tm) (team r:Zy_) (T:List Tri) (left:Lit->Bool):Int:=(T.map fun p=>if left (Zfd p.1 p.2.1)=true then 0 else ZgR Ts team r p).sum
theorem ZmL {H:Type}{D:DataW H} (h:Zfp T D) (Ts:List Tm) (team r:Zy_):ZkD Ts team r T (Maps.has D)=0:=by
 have:∀ L:List Tri,(∀ p ∈ L,Maps.has D (Zfd p.1 p.2.1)=true)->ZkD Ts team r L (Maps.has D)=0:=by
  intro L
  induction L with
  | nil=>intro _;rfl
  | cons p L ih=>
   intro hL;have h1:=hL p (List.mem_cons_self ..);have h2:=ih (fun q hq=>hL q (List.mem_cons_of_mem _ hq));unfold ZkD at h2 |-;rw [List.map_cons,List.sum_cons,h2,if_pos h1]
   rfl
 exact this T h.has
theorem Zqh {left:Lit->Bool} (h:∀ kl,left kl=false) (Ts:List Tm) (team r:Zy_) (T:List Tri):ZkD Ts team r T left=(T.map (ZgR Ts team r)).sum:=by
 unfold ZkD;simp [h]
theorem ZjX (Ts:List Tm) (team r:Zy_) {left:Lit->Bool} {a b:Zy_} (ha:a.size<=maxLen) (hb:b.size<=maxLen) (hl:left (Zfd a b)=true):∀ (T:List Tri),ZrB T->
 ZkD Ts team r T (fun z=>left z&&!z.sameKey (Zfd a b))=ZkD Ts team r T left+(if (b.toList == r.toList&&Zbf Ts a team)=true then Zlh T a b else 0)
 | [],_=>by simp [ZkD,Zlh]
 | p :: T,hT=>by
  have ih:=ZjX Ts team r ha hb hl T (fun q hq=>hT q (List.mem_cons_of_mem _ hq));obtain⟨s1,s2⟩:=hT p (List.mem_cons_self ..);unfold ZkD Zlh at ih |-;simp only [List.map_cons,List.sum_cons];rw [ih]
  by_cases e:p.1=a/\p.2.1=b
  . obtain⟨e1,e2⟩:=e
    have hs:(Zfd a b).sameKey (Zfd a b)=true:=by unfold Zfd;simp [Lit.sameKey]
    unfold ZgR;simp only [hs,hl,Bool.not_true,Bool.and_false,Bool.false_eq_true,if_false,if_true,e1,e2,eq_self,and_self]
    cases hc:(b.toList == r.toList&&Zbf Ts a team)
    . simp only [Bool.false_eq_true,if_false];omega
    . simp only [if_true];omega
  . have hs:(Zfd p.1 p.2.1).sameKey (Zfd a b)=false:=sameKey_ne (Zrc s1 s2 ha hb e)
    simp only [hs,Bool.not_false,Bool.and_true,if_neg e]
    cases hc:(b.toList == r.toList&&Zbf Ts a team)
    . simp only [Bool.false_eq_true,if_false];omega
    . simp only [if_true];omega
def Zcy (Ss:List Sh) (Os:List Ob):List Tri:=Os.flatMap fun o=>(Zes Ss o.kd o.vs).map fun p=>(o.tm,p.1,p.2)
theorem ZmR (Ss:List Sh) (A:List Ob) (o:Ob):Zcy Ss (A ++ [o])=Zcy Ss A ++ (Zes Ss o.kd o.vs).map fun p=>(o.tm,p.1,p.2):=by simp [Zcy]
def ZbF (Ss:List Sh) (Ts:List Tm) (Os:List Ob) (team r:Zy_):Int:=(Os.map fun o=>if Zbf Ts o.tm team=true then ZdG Ss o.kd o.vs r else 0).sum
theorem ZmX (Ts:List Tm) (team r t:Zy_) (L:List (Zy_×Int)):((L.map fun p=>((t,p.1,p.2):Tri)).map (ZgR Ts team r)).sum=if Zbf Ts t team=true then Zmu r L else 0:=by
 induction L with
 | nil=>simp [Zmu]
 | cons p L ih=>
  rw [List.map_cons,List.map_cons,List.sum_cons,ih];unfold Zmu ZgR;rw [List.map_cons,List.sum_cons]
  cases h1:Zbf Ts t team <;> cases h2:(p.1.toList == r.toList) <;> simp
theorem Zim (Ss:List Sh) (Ts:List Tm) (team r:Zy_) (Os:List Ob):((Zcy Ss Os).map (ZgR Ts team r)).sum=ZbF Ss Ts Os team r:=by
 induction Os with
 | nil=>rfl
 | cons o Os ih=>
  have e:Zcy Ss (o :: Os)=((Zes Ss o.kd o.vs).map fun p=>(o.tm,p.1,p.2)) ++ Zcy Ss Os:=by simp [Zcy]
  rw [e,List.map_append,List.sum_append,ih,ZmX,Zmy]
  rfl
theorem ZmS (Ss:List Sh) (Ts:List Tm) (A:List Ob) (o:Ob) (team r:Zy_):ZbF Ss Ts (A ++ [o]) team r=ZbF Ss Ts A team r+(if Zbf Ts o.tm team=true then ZdG Ss o.kd o.vs r else 0):=by simp [ZbF]
theorem ZpM (Ss:List Sh) (kind:Zy_) (V:List Zy_):(Zes Ss kind V).length<=V.length+1:=by
 unfold Zes
 split
 . split
   . rename_i x _ _
     have:=ZfX x.fields V V.length;have h1:(ZdA kind).length<=1:=by unfold ZdA;split <;> simp
     rw [List.length_append];omega
   . simp
 . simp
theorem Zjq (Ss:List Sh):∀ Os:List Ob,(∀ o ∈ Os,o.vs.length<=1048576)->(Zcy Ss Os).length<=Os.length*1048577
 | [],_=>by simp [Zcy]
 | o :: Os,h=>by
  have ih:=Zjq Ss Os (fun q hq=>h q (List.mem_cons_of_mem _ hq));have h1:=h o (List.mem_cons_self ..);have h2:=ZpM Ss o.kd o.vs;have e:Zcy Ss (o :: Os)=((Zes Ss o.kd o.vs).map fun p=>(o.tm,p.1,p.2)) ++ Zcy Ss Os:=by simp [Zcy]
  rw [e,List.length_append,List.length_map,List.length_cons]
  omega
theorem Zd4 {md:Region.Mode}{ops:Array Oper}{Q:Exit->Act->World->Prop} (l:Nat) (hnd:∀ (i:Nat) (o:Oper),ops[i]?=some o->∀ c,o.op≠.defer c) :
 ∀ (fuel:Nat) (listed:Array Bool) (a:Act) (w:World),wpAnyIn F n P md ops Q fuel listed a w->wpAnyIn (F.inRound l) n P md ops Q fuel listed a w
 | 0,_,_,_,h=>h
 | fuel+1,listed,a,w,⟨h0,h1⟩=>⟨h0,fun i hi=>by
  have h2:=h1 i hi;unfold wpOpIn at h2 |-
  split
  . rename_i e
    rw [e] at h2;exact Zd4 l hnd fuel _ _ _ h2
  . rename_i o e
    rw [e] at h2;simp only at h2
    split
    . rename_i hw
      rw [if_pos hw] at h2;have h3:=Oper.wpIn_mono (fun a w h=>Zd4 l hnd fuel _ a w h) h2;obtain⟨g1,g2⟩:=h3;refine⟨g1,?_⟩;rw [Oper.semAt_plain _ _ _ (hnd i o e)] at g2 |-;exact g2
    . rename_i hw
      rw [if_neg hw] at h2;exact⟨h2.1,Zd4 l hnd fuel _ _ _ h2.2⟩⟩
theorem ZjB {id l:Nat}{ops:Array Oper}{Q:Exit->Act->World->Prop}{a:Act}{w:World} (hm:P.follows .mixedOrders=true) (hnd:ops.all (fun o=>match o.op with | .defer _=>false | _=>true)=true)
 (h:wpAnyIn F n P .any ops Q ops.size (Array.replicate ops.size false) a w.drew):(Code.region id ops true).wpIn (F.inRound l) n P Q a w:=by
 refine wpIn_region_any hm (Zd4 l (fun i o e c hc=>?_) _ _ _ _ h);have:=Array.all_eq_true_iff_forall_mem.1 hnd o (Array.mem_of_getElem? e);rw [hc] at this
 cases this
end Go.Proofs.YtfohnageehneoaaGreat
