import Derived.Test.YtfohnageehneoaaGreatVN2
import Derived.Test.YtfohnageehneoaaGreatVTA
import Derived.RangeFuncNested
import Derived.RangeFuncBound
import Derived.RangeFuncCalls
import Derived.RangeFuncLeaves
import Derived.Shelf.Abstract
import Derived.Shelf.RegionOpen
import Derived.OwnWalkIn
import Derived.TacticsInMore
import Derived.LoopNIn
import Derived.LoopIn
set_option maxHeartbeats 16000000
set_option maxRecDepth 100000
open Go.Proofs.Tryz
namespace Go.Proofs.YtfohnageehneoaaGreat
open Go.RowKit Go.Deep
theorem ZaP.set' {lo:Nat} {w:World} {v:Value} {Ss:List Sh} (h:ZaP lo w v Ss) {p:Addr} (hp:p.block < lo) (u:Value):ZaP lo (w.setCell p u) v Ss:=by
 rcases h with h | ⟨b,off,cap,h1,h2,h3,h4,h5,h7⟩
 · exact Or.inl h
 · refine Or.inr ⟨b,off,cap,h1,h2,h3,by simpa [World.setCell] using h4,h5,fun i hi=>?_⟩
   obtain⟨hs,fv,c0,c1,hF⟩:=h7 i hi;exact⟨hs,fv,by rw [Zaq _ _ _ _ (by simp only [];omega)];exact c0,by rw [Zaq _ _ _ _ (by simp only [];omega)];exact c1,hF.setCell hp u⟩
structure ZbO (lo:Nat) (w:World) (sv mv tv:Value) (Ss:List Sh) (Ms:List Md) (Ts:List Tm):Prop where
 shs:ZaP lo w sv Ss
 mds:Zbf lo w mv Ms
 tms:Zbo lo w tv Ts
theorem ZbO.below {lo:Nat} {w w':World} {sv mv tv:Value} {Ss:List Sh} {Ms:List Md} {Ts:List Tm} (h:ZbO lo w sv mv tv Ss Ms Ts) (hb:Zw_ w w'):ZbO lo w' sv mv tv Ss Ms Ts:=
 ⟨h.shs.below hb,h.mds.below hb,h.tms.below hb⟩
theorem ZbO.mono {lo lo':Nat} {w:World} {sv mv tv:Value} {Ss:List Sh} {Ms:List Md} {Ts:List Tm} (h:ZbO lo w sv mv tv Ss Ms Ts) (hl:lo'≤lo):ZbO lo' w sv mv tv Ss Ms Ts:=
 ⟨h.shs.mono hl,h.mds.mono hl,h.tms.mono hl⟩
def Zft (Ss:List Sh) (Ms:List Md) (Ts:List Tm):Prop:=Zfz Ss∧Ms.length≤1048576∧Ts.length≤1048576
section
variable (lo:Nat) (sv mv tv:Value) (Ss:List Sh) (Ms:List Md) (Ts:List Tm) (w:World)
theorem Zom (left:Int) (h0:0≤left) (h1:left≤1048576) (h:ZbO lo w sv mv tv Ss Ms Ts) :
 Calls prog 7 #[.agg #[sv,mv,tv],.int .i64 left] w
  fun e w'=>∃ r:Int,e=.returned (.int .i64 r)∧Zw_ w w'∧-1≤r∧r≤left∧(0≤r→Zft Ss Ms Ts):=by
 have HL:=Zab h;obtain⟨a,cap,rfl⟩:=h.shs.form;obtain⟨a1,cap1,rfl⟩:=h.mds.form;obtain⟨a2,cap2,rfl⟩:=h.tms.form;clear h;go_enter func7,ntmps7;go_wp2_with fail;have hX:=Box.new w #[.slice a Ss.length cap,.slice a1 Ms.length cap1,.slice a2 Ts.length cap2] 26 _ rfl;have hB0:=Zac w (.cells #[.slice a Ss.length cap,.slice a1 Ms.length cap1,.slice a2 Ts.length cap2] 26);refine (Zpp lo _ Ss _ _ (by omega) (by omega) (HL.out.below hB0).shs).mono ?_;rintro e w1 ⟨r,rfl,hb1,q0,q1,q2⟩;have hX1:=Zab (hX.on hb1);have HB1:=Zab (hB0.trans (hb1.mono hB0.size));have c1:=hX1.out.cell 1;have c2:=hX1.out.cell 2;simp at c1 c2;clear hb1 hB0 hX;have Q:=Zab q2;clear q2
 by_cases hr:r < 0
 · go_wp2
   go_ret;exact⟨-1,rfl,HB1.out,by omega,by omega,fun h=>by omega⟩
 go_wp2_with fail;refine (Zo0 lo _ Ms _ _ (by omega) (by omega) (HL.out.below HB1.out).mds).mono ?_;rintro e w2 ⟨r2,rfl,hb2,p0,p1,p2⟩;have hX2:=Zab (hX1.out.on hb2);have HB2:=Zab (HB1.out.trans (hb2.mono HB1.out.size));have d2:=hX2.out.cell 2;simp at d2;clear hb2 HB1 hX1 c1 c2;have Q2:=Zab p2;clear p2
 by_cases hr2:r2 < 0
 · go_wp2
   go_ret;exact⟨-1,rfl,HB2.out,by omega,by omega,fun h=>by omega⟩
 go_wp2_with fail;refine (Zo5 lo _ Ts _ _ (by omega) (by omega) (HL.out.below HB2.out).tms).mono ?_;rintro e w3 ⟨r3,rfl,hb3,s0,s1,s2⟩;have HB3:=Zab (HB2.out.trans (hb3.mono HB2.out.size));have Q3:=Zab s2;clear hb3 s2
 by_cases hr3:r3 < 0
 · go_wp2
   go_ret;exact⟨-1,rfl,HB3.out,by omega,by omega,fun h=>by omega⟩
 go_wp2;go_ret;exact⟨_,rfl,HB3.out,by omega,by omega,fun h=>⟨Q.out (by omega),by have:=Q2.out (by omega);omega,by have:=Q3.out (by omega);omega⟩⟩
theorem Zmt (lo':Nat) (sv' mv' tv':Value) (h:ZbO lo w sv mv tv Ss Ms Ts) (h':ZbO lo' w sv' mv' tv' Ss Ms Ts) :
 Calls prog 14 #[.agg #[sv,mv,tv],.agg #[sv',mv',tv']] w fun e w'=>e=.returned (.bool true)∧Zw_ w w':=by
 have HL:=Zab h;have HR:=Zab h';obtain⟨a,cap,rfl⟩:=h.shs.form;obtain⟨a1,cap1,rfl⟩:=h.mds.form;obtain⟨a2,cap2,rfl⟩:=h.tms.form;obtain⟨a',cap',rfl⟩:=h'.shs.form;obtain⟨a1',cap1',rfl⟩:=h'.mds.form;obtain⟨a2',cap2',rfl⟩:=h'.tms.form;clear h h';go_enter func14,ntmps14;go_wp2_with fail;have hX:=Box.new w #[.slice a Ss.length cap,.slice a1 Ms.length cap1,.slice a2 Ts.length cap2] 47 _ rfl;have hB0:=Zac w (.cells #[.slice a Ss.length cap,.slice a1 Ms.length cap1,.slice a2 Ts.length cap2] 47);have hsz:(w.alloc (.cells #[.slice a Ss.length cap,.slice a1 Ms.length cap1,.slice a2 Ts.length cap2] 47)).heap.size=w.heap.size+1:=by simp
 generalize w.alloc (.cells #[.slice a Ss.length cap,.slice a1 Ms.length cap1,.slice a2 Ts.length cap2] 47)=wx at hX hB0 hsz ⊢;have hY:=Box.new wx #[.slice a' Ss.length cap',.slice a1' Ms.length cap1',.slice a2' Ts.length cap2'] 47 _ hsz;have hB1:=Zac wx (.cells #[.slice a' Ss.length cap',.slice a1' Ms.length cap1',.slice a2' Ts.length cap2'] 47);have hX1:=hX.on hB1;have HB:=Zab (hB0.trans (hB1.mono hB0.size));generalize wx.alloc (.cells #[.slice a' Ss.length cap',.slice a1' Ms.length cap1',.slice a2' Ts.length cap2'] 47)=wy at hY hX1 HB ⊢;clear hX hB0 hB1 hsz;refine (ZmA lo lo' _ _ Ss _ (HL.out.below HB.out).shs (HR.out.below HB.out).shs).mono ?_;rintro e w1 ⟨rfl,hb1⟩;have HX:=Zab (hX1.on hb1);have HY:=Zab (hY.on hb1);have HB1:=Zab (HB.out.trans (hb1.mono HB.out.size));clear hb1 hX1 hY HB;have c1:=HX.out.cell 1;have d1:=HY.out.cell 1;simp at c1 d1;go_wp2_with fail
 clear c1 d1;refine (Zmw lo lo' _ _ Ms _ (HL.out.below HB1.out).mds (HR.out.below HB1.out).mds).mono ?_;rintro e w2 ⟨rfl,hb2⟩;have HX:=Zab (HX.out.on hb2);have HY:=Zab (HY.out.on hb2);have HB2:=Zab (HB1.out.trans (hb2.mono HB1.out.size));clear hb2 HB1;have c1:=HX.out.cell 2;have d1:=HY.out.cell 2;simp at c1 d1;go_wp2_with fail;clear c1 d1;refine (Zmm lo lo' _ _ Ts _ (HL.out.below HB2.out).tms (HR.out.below HB2.out).tms).mono ?_;rintro e w3 ⟨rfl,hb3⟩;have HB3:=Zab (HB2.out.trans (hb3.mono HB2.out.size));clear hb3 HB2;go_wp2;go_ret;exact⟨rfl,HB3.out⟩
theorem Zhf (h:ZbO lo w sv mv tv Ss Ms Ts) (hn:Zft Ss Ms Ts) :
 Calls prog 10 #[.agg #[sv,mv,tv]] w
  fun e w'=>∃ a cap a1 cap1 a2 cap2,e=.returned (.agg #[.slice a Ss.length cap,.slice a1 Ms.length cap1,.slice a2 Ts.length cap2])∧Zw_ w w'∧
   ZbO w.heap.size w' (.slice a Ss.length cap) (.slice a1 Ms.length cap1) (.slice a2 Ts.length cap2) Ss Ms Ts:=by
 have HL:=Zab h;obtain⟨a,cap,rfl⟩:=h.shs.form;obtain⟨a1,cap1,rfl⟩:=h.mds.form;obtain⟨a2,cap2,rfl⟩:=h.tms.form;clear h;go_enter func10,ntmps10;go_wp2_with fail
 obtain⟨wz,hwz,HX,HR,HO,HB⟩:∃ wz,wz=((w.alloc (.cells #[.slice a Ss.length cap,.slice a1 Ms.length cap1,.slice a2 Ts.length cap2] 26)).alloc (.cells #[.slice none 0 0,.slice none 0 0,.slice none 0 0] 47)).alloc (.cells #[.slice none 0 0,.slice none 0 0,.slice none 0 0] 47)∧
  Hid (Box wz w.heap.size #[.slice a Ss.length cap,.slice a1 Ms.length cap1,.slice a2 Ts.length cap2])∧Hid (Box wz (w.heap.size+1) #[.slice none 0 0,.slice none 0 0,.slice none 0 0])∧
  Hid (Box wz (w.heap.size+1+1) #[.slice none 0 0,.slice none 0 0,.slice none 0 0])∧Hid (Zw_ w wz):=
  ⟨_,rfl,((Box.new w _ _ _ rfl).on (Zac _ _)).on (Zac _ _),(Box.new _ _ _ _ (by simp)).on (Zac _ _),Box.new _ _ _ _ (by simp),((Zac _ _).trans ((Zac _ _).mono (by simp))).trans ((Zac _ _).mono (by simp;omega))⟩
 rw [← hwz];clear hwz;have hz0:w.heap.size+3≤wz.heap.size:=by have:=HO.out.lt;omega
 refine (ZoC lo _ Ss _ (HL.out.below HB.out).shs hn.1).mono ?_;rintro e w1 ⟨v1,rfl,hb1,hs1⟩;obtain⟨b1,k1,rfl⟩:=hs1.form;have HX1:=Zab (HX.out.on hb1);have HR1:=Zab (HR.out.on hb1);have HO1:=Zab (HO.out.on hb1);have HB1:=Zab (HB.out.trans (hb1.mono HB.out.size));have HS1:Hid (ZaP (w.heap.size+3) w1 (.slice b1 Ss.length k1) Ss):=hs1.mono hz0;clear hb1 hs1 HX HR HO HB hz0;have o0:=HO1.out.cell 0;have f0:=HO1.out.free 0;have x1:=HX1.out.cell 1;simp at o0 f0 x1;go_wp2_with fail;clear o0 f0 x1
 obtain⟨wq,hwq,HX,HR,HO,HB,HS⟩:∃ wq,wq=w1.setCell ⟨w.heap.size+1+1,0,none⟩ (.slice b1 Ss.length k1)∧
  Hid (Box wq w.heap.size #[.slice a Ss.length cap,.slice a1 Ms.length cap1,.slice a2 Ts.length cap2])∧Hid (Box wq (w.heap.size+1) #[.slice none 0 0,.slice none 0 0,.slice none 0 0])∧
  Hid (Box wq (w.heap.size+1+1) #[.slice b1 Ss.length k1,.slice none 0 0,.slice none 0 0])∧Hid (Zw_ w wq)∧Hid (ZaP (w.heap.size+3) wq (.slice b1 Ss.length k1) Ss):=
  ⟨_,rfl,HX1.out.setFar (by simp only [];omega) _,HR1.out.setFar (by simp only [];omega) _,HO1.out.set (k:=0) (.slice b1 Ss.length k1) (by simp),HB1.out.setCell (by simp only [];omega) _,HS1.out.set' (by simp only [];omega) _⟩
 rw [← hwq];clear hwq HX1 HR1 HO1 HB1 HS1;have hz0:w.heap.size+3≤wq.heap.size:=by have:=HO.out.lt;omega
 refine (Zh7 lo _ Ms _ (HL.out.below HB.out).mds hn.2.1).mono ?_;rintro e w2 ⟨v2,rfl,hb2,hs2,-⟩;obtain⟨b2,k2,rfl⟩:=hs2.form;have HX2:=Zab (HX.out.on hb2);have HR2:=Zab (HR.out.on hb2);have HO2:=Zab (HO.out.on hb2);have HB2:=Zab (HB.out.trans (hb2.mono HB.out.size));have HS2:=Zab (HS.out.below hb2);have HM2:Hid (Zbf (w.heap.size+3) w2 (.slice b2 Ms.length k2) Ms):=hs2.mono hz0;clear hb2 hs2 HX HR HO HB hz0 HS;have o0:=HO2.out.cell 1;have f0:=HO2.out.free 1;have x1:=HX2.out.cell 2;simp at o0 f0 x1;go_wp2_with fail;clear o0 f0 x1
 obtain⟨wq,hwq,HR,HO,HB,HS,HM⟩:∃ wq,wq=w2.setCell ⟨w.heap.size+1+1,1,none⟩ (.slice b2 Ms.length k2)∧
  Hid (Box wq (w.heap.size+1) #[.slice none 0 0,.slice none 0 0,.slice none 0 0])∧
  Hid (Box wq (w.heap.size+1+1) #[.slice b1 Ss.length k1,.slice b2 Ms.length k2,.slice none 0 0])∧Hid (Zw_ w wq)∧Hid (ZaP (w.heap.size+3) wq (.slice b1 Ss.length k1) Ss)∧Hid (Zbf (w.heap.size+3) wq (.slice b2 Ms.length k2) Ms):=
  ⟨_,rfl,HR2.out.setFar (by simp only [];omega) _,HO2.out.set (k:=1) (.slice b2 Ms.length k2) (by simp),HB2.out.setCell (by simp only [];omega) _,HS2.out.set' (by simp only [];omega) _,HM2.out.setCell (by simp only [];omega) _⟩
 rw [← hwq];clear hwq HX2 HR2 HO2 HB2 HS2 HM2;have hz0:w.heap.size+3≤wq.heap.size:=by have:=HO.out.lt;omega
 refine (Zob lo _ Ts _ (HL.out.below HB.out).tms hn.2.2).mono ?_;rintro e w3 ⟨v3,rfl,hb3,hs3⟩;obtain⟨b3,k3,rfl⟩:=hs3.form;have HR3:=Zab (HR.out.on hb3);have HO3:=Zab (HO.out.on hb3);have HB3:=Zab (HB.out.trans (hb3.mono HB.out.size));have HS3:=Zab (HS.out.below hb3);have HM3:=Zab (HM.out.below hb3);have HT3:Hid (Zbo (w.heap.size+3) w3 (.slice b3 Ts.length k3) Ts):=hs3.mono hz0;clear hb3 hs3 HR HO HB hz0 HS HM;have o0:=HO3.out.cell 0;have o1:=HO3.out.cell 1;have o2:=HO3.out.cell 2;have f2:=HO3.out.free 2;have r0:=HR3.out.cell 0;have r1:=HR3.out.cell 1;have r2:=HR3.out.cell 2;have g0:=HR3.out.free 0;have g1:=HR3.out.free 1;have g2:=HR3.out.free 2;simp at o0 o1 o2 r0 r1 r2;go_wp2;refine bodyPost_ret (v:=.agg #[.slice b1 Ss.length k1,.slice b2 Ms.length k2,.slice b3 Ts.length k3]) (by simp [results,results10,go_sem,r0,r1,r2]) rfl ⟨_,_,_,_,_,_,rfl,?_,?_,?_,?_⟩
 · repeat (refine Below.setCell ?_ (by simp only [];omega) _)
   exact HB3.out
 · refine ZaP.mono (lo:=w.heap.size+3) ?_ (by omega)
   repeat (refine ZaP.set' ?_ (by simp only [];omega) _)
   exact HS3.out
 · refine Zbf.mono (lo:=w.heap.size+3) ?_ (by omega)
   repeat (refine Zbf.setCell ?_ (by simp only [];omega) _)
   exact HM3.out
 · refine Zbo.mono (lo:=w.heap.size+3) ?_ (by omega)
   repeat (refine Zbo.setCell ?_ (by simp only [];omega) _)
   exact HT3.out
end
theorem Zag.spread {w:World} {a:Option Addr} {n cap:Nat} {L:List Zy_} (h:Zag w (.slice a n cap) L) (hL:0 < L.length) :
 ∃ b off,a=some ⟨b,off,none⟩∧b < w.heap.size∧(∀ i (h:i < L.length),w.cell? ⟨b,off+i,none⟩=some (.string L[i]))∧∀ s ∈ L,s.size≤maxLen:=by
 rcases h with ⟨_,_,_,rfl⟩ | ⟨b,off,_,h1,_,_,h4,h5,h6⟩
 · simp at hL
 · cases h1
   exact⟨b,off,rfl,h4,h5,h6⟩
theorem Zi4 (s:Zy_):0≤Ziy s∧Ziy s≤9999999:=by
 unfold Ziy
 split
 · rename_i h
   have h7:s.size≤7∧ZfF Zc1 s=true:=by
    unfold Zer inB at h;simp only [Bool.and_eq_true,decide_eq_true_eq] at h;exact⟨by omega,h.2⟩
   have:=Zcs s s.size Zl_ h7.1 (by
    rw [List.take_of_length_le (by simp)];exact h7.2)
   rw [ZdL Zl_] at this
   omega
 · omega
theorem Zl5 (s:Zy_):Ziy s=if 0 < Zl7 s then Zl7 s else 0:=by
 have:=Zi4 s;unfold Ziy Zl7 at*
 split
 · rename_i h
   rw [if_pos h] at this
   split <;> omega
 · simp
def Zq4 (r:Zy_) (f:Fd) (s:Zy_):Int:=if (f.kd == 1&&f.we.toList == r.toList)=true then Ziy s else 0
def ZeG (r:Zy_) (Fs:List Fd) (V:List Zy_):Nat→Int
 | 0=>0
 | k+1=>ZeG r Fs V k+(match Fs[k]?,V[k]? with | some f,some s=>Zq4 r f s | _,_=>0)
theorem Zry (r:Zy_) (f:Fd) (s:Zy_):0≤Zq4 r f s∧Zq4 r f s≤9999999:=by
 have:=Zi4 s;unfold Zq4
 split <;> omega
theorem Zjo {r:Zy_} {Fs:List Fd} {V:List Zy_} {k:Nat} (hf:k < Fs.length) (hv:k < V.length):ZeG r Fs V (k+1)=ZeG r Fs V k+Zq4 r Fs[k] V[k]:=by
 rw [ZeG];simp [hf,hv]
theorem Zsc (r:Zy_) (Fs:List Fd) (V:List Zy_) (k:Nat):0≤ZeG r Fs V k∧ZeG r Fs V k≤9999999*k:=by
 induction k with
 | zero=>simp [ZeG]
 | succ k ih=>
  rw [ZeG]
  split
  · rename_i f s _ _
    have:=Zry r f s
    push_cast
    omega
  · push_cast
    omega
def ZdK (Ss:List Sh) (kind:Zy_) (V:List Zy_) (r:Zy_):Int:=
 if r.toList.isEmpty=true then 0 else
 match Zcv Ss kind with
 | some x=>if x.fields.length=V.length then (if (r.toList == kind.toList)=true then 1 else 0)+ZeG r x.fields V V.length else 0
 | none=>0
theorem ZlY {Ss:List Sh} {kind:Zy_} {V:List Zy_} {r:Zy_} (h:∀ x,Zcv Ss kind=some x→x.fields.length≠V.length):ZdK Ss kind V r=0:=by
 unfold ZdK
 split
 · rfl
 · cases hs:Zcv Ss kind with
   | none=>rfl
   | some x=>simp [h x hs]
theorem Zj3 {Ss:List Sh} {kind:Zy_} {V:List Zy_} {r:Zy_} (h:r.toList.isEmpty=true):ZdK Ss kind V r=0:=by
 unfold ZdK;rw [if_pos h]
theorem ZjG {Ss:List Sh} {kind:Zy_} {V:List Zy_} {r:Zy_} {x:Sh} (h:Zcv Ss kind=some x) (hl:x.fields.length=V.length) (hr:r.toList.isEmpty=false) :
 ZdK Ss kind V r=(if (r.toList == kind.toList)=true then 1 else 0)+ZeG r x.fields V V.length:=by
 unfold ZdK;rw [h];simp [hr,hl]
section
variable (lo:Nat) (sv mv tv:Value) (Ss:List Sh) (Ms:List Md) (Ts:List Tm) (kind nm team:Zy_) (vv hv:Value) (en:Bool) (ver:Int) (V Ho:List Zy_) (r:Zy_) (w:World)
theorem ZhN (h:ZbO lo w sv mv tv Ss Ms Ts) (hV:Zag w vv V) (hH:Zag w hv Ho) (n1:V.length≤1048576) :
 Calls prog 130 #[.agg #[sv,mv,tv],.agg #[.string kind,.string nm,.string team,vv,.bool en,hv,.int .i64 ver],.string r] w
  fun e w'=>e=.returned (.int .i64 (ZdK Ss kind V r))∧Zw_ w w':=by
 have HL:=Zab h;have HV:=Zab hV;have HH:=Zab hH;obtain⟨a,cap,rfl⟩:=h.shs.form;obtain⟨a1,cap1,rfl⟩:=h.mds.form;obtain⟨a2,cap2,rfl⟩:=h.tms.form;obtain⟨va,vcap,rfl⟩:=hV.form';obtain⟨ha,hcap,rfl⟩:=hH.form';clear h hV hH;go_enter func130,ntmps130;go_wp2_with fail
 obtain⟨wz,hwz,HO,HB⟩:∃ wz,wz=(w.alloc (.cells #[.slice a Ss.length cap,.slice a1 Ms.length cap1,.slice a2 Ts.length cap2] 47)).alloc (.cells #[.string kind,.string nm,.string team,.slice va V.length vcap,.bool en,.slice ha Ho.length hcap,.int .i64 ver] 155)∧
  Hid (Box wz (w.heap.size+1) #[.string kind,.string nm,.string team,.slice va V.length vcap,.bool en,.slice ha Ho.length hcap,.int .i64 ver])∧Hid (Zw_ w wz):=
  ⟨_,rfl,Box.new _ _ _ _ (by simp),(Zac _ _).trans ((Zac _ _).mono (by simp))⟩
 rw [← hwz];clear hwz;refine (ZcH kind nm team _ _ _ en ver V Ho Ss wz lo wz (HL.out.below HB.out).shs Zb_ (HV.out.below HB.out) (HH.out.below HB.out)).mono ?_;rintro e w1 ⟨hb1,hq⟩;have HO1:=Zab (HO.out.on hb1);have HB1:=Zab (HB.out.trans (hb1.mono HB.out.size))
 rcases hq with ⟨x,fv,hsh,hlen,rfl,hF⟩ | ⟨hno,fa,fcap,rfl⟩
 · have HF:=Zab (hF.below hb1)
   obtain⟨fa,fcap,rfl⟩:=hF.form;have HS:=Zab hsh;have HN:=Zab hlen;clear hb1 hF hsh HO HB hlen
   cases hr:r.toList.isEmpty with
   | true=>
    have HQ:=Zab (Zj3 (Ss:=Ss) (kind:=kind) (V:=V) hr);go_wp2;go_ret;exact⟨ZaG HQ.out.symm,HB1.out⟩
   | false=>
    have HQ:=Zab (ZjG HS.out HN.out hr);have hbd:=Zsc r x.fields V;have HBD:=Zab hbd;have o0:=HO1.out.cell 0;have o3:=HO1.out.cell 3;simp at o0 o3;have hvl:x.fields.length≤1048576:=by have:=HN.out;omega
    have HV1:=Zab (HV.out.below HB1.out);clear hbd
    cases hk:(r.toList == kind.toList) with
    | true=>
     have HE:Hid (ZdK Ss kind V r=1+ZeG r x.fields V V.length):=by unfold Hid;rw [HQ.out,hk];rfl
     go_wp2
     go_loop [9,10] (fun n i=>∃ k:Nat,n=.int .i64 (1+ZeG r x.fields V k)∧i=.int .i64 k∧k≤x.fields.length) (fun _ i=>x.fields.length - (intOf i).toNat)
     case atStart=>exact⟨0,by simp [ZeG],rfl,by omega⟩
     case round=>
      obtain⟨k,rfl,rfl,hkl⟩:=hrel
      by_cases hlt:k < x.fields.length
      · have hlv:k < V.length:=by have:=HN.out;omega
        obtain⟨fb,foff,rfl,hfb,hfc⟩:=HF.out.full' (by omega);obtain⟨hsz,wv,hcell,-⟩:=hfc k hlt;obtain⟨c0,c1,c2,c3,c4,c5,c6,c7,c8,c9,c10⟩:=hcell;obtain⟨vb,voff,rfl,hvb,hvc,hvs⟩:=HV1.out.spread (by omega);have hvk:=hvc k hlv;have hvz:V[k].size≤maxLen:=hvs _ (List.getElem_mem hlv);have HST:=Zab (Zjo (r:=r) hlt hlv);have HDN:=Zab (Zl5 V[k]);have hbd:=HBD.out k;have hbn:=Zi4 V[k];have hW:Zq4 r x.fields[k] V[k]=if (x.fields[k].kd == 1&&x.fields[k].we.toList == r.toList)=true then Ziy V[k] else 0:=rfl
        have HW:=Zab hW;clear hfc hvc hvs c0 c2 c3 c4 c5 c6 c7 c8 c9 hsz hW
        cases hk1:(x.fields[k].kd == 1) with
        | false=>
         have HE2:Hid (ZeG r x.fields V (k+1)=ZeG r x.fields V k):=by unfold Hid;rw [HST.out,HW.out,hk1];simp
         go_wp2_with (go_at_call 176;refine (Zbk _ _ hvz).mono ?_;rintro e w2 ⟨rfl,rfl⟩)
         go_round
         case rel=>exact⟨k+1,by rw [HE2.out],by go_num,by omega⟩
         case measure=>simp [intOf];omega
        | true=>
         cases hk2:(x.fields[k].we.toList == r.toList) with
         | false=>
          have HE2:Hid (ZeG r x.fields V (k+1)=ZeG r x.fields V k):=by unfold Hid;rw [HST.out,HW.out,hk1,hk2];simp
          go_wp2_with (go_at_call 176;refine (Zbk _ _ hvz).mono ?_;rintro e w2 ⟨rfl,rfl⟩)
          go_round
          case rel=>exact⟨k+1,by rw [HE2.out],by go_num,by omega⟩
          case measure=>simp [intOf];omega
         | true=>
          by_cases hn:0 < Zl7 V[k]
          · have HE2:Hid (ZeG r x.fields V (k+1)=ZeG r x.fields V k+Zl7 V[k]):=by unfold Hid;rw [HST.out,HW.out,hk1,hk2,HDN.out,if_pos hn];simp
            have hb2:=HBD.out (k+1);rw [HE2.out] at hb2
            push_cast at hb2
            go_wp2_with (go_at_call 176;refine (Zbk _ _ hvz).mono ?_;rintro e w2 ⟨rfl,rfl⟩)
            go_round
            case rel=>exact⟨k+1,by rw [HE2.out];congr 1;omega,by go_num,by omega⟩
            case measure=>simp [intOf];omega
          · have HE2:Hid (ZeG r x.fields V (k+1)=ZeG r x.fields V k):=by unfold Hid;rw [HST.out,HW.out,hk1,hk2,HDN.out,if_neg hn];simp
            go_wp2_with (go_at_call 176;refine (Zbk _ _ hvz).mono ?_;rintro e w2 ⟨rfl,rfl⟩)
            go_round
            case rel=>exact⟨k+1,by rw [HE2.out],by go_num,by omega⟩
            case measure=>simp [intOf];omega
      · have he:k=V.length:=by have:=HN.out;omega
        subst he;go_wp2;go_ret;exact⟨ZaG (by have:=HE.out;omega),HB1.out⟩
    | false=>
     have HE:Hid (ZdK Ss kind V r=0+ZeG r x.fields V V.length):=by unfold Hid;rw [HQ.out,hk];rfl
     go_wp2
     go_loop [9,10] (fun n i=>∃ k:Nat,n=.int .i64 (0+ZeG r x.fields V k)∧i=.int .i64 k∧k≤x.fields.length) (fun _ i=>x.fields.length - (intOf i).toNat)
     case atStart=>exact⟨0,by simp [ZeG],rfl,by omega⟩
     case round=>
      obtain⟨k,rfl,rfl,hkl⟩:=hrel
      by_cases hlt:k < x.fields.length
      · have hlv:k < V.length:=by have:=HN.out;omega
        obtain⟨fb,foff,rfl,hfb,hfc⟩:=HF.out.full' (by omega);obtain⟨hsz,wv,hcell,-⟩:=hfc k hlt;obtain⟨c0,c1,c2,c3,c4,c5,c6,c7,c8,c9,c10⟩:=hcell;obtain⟨vb,voff,rfl,hvb,hvc,hvs⟩:=HV1.out.spread (by omega);have hvk:=hvc k hlv;have hvz:V[k].size≤maxLen:=hvs _ (List.getElem_mem hlv);have HST:=Zab (Zjo (r:=r) hlt hlv);have HDN:=Zab (Zl5 V[k]);have hbd:=HBD.out k;have hbn:=Zi4 V[k];have hW:Zq4 r x.fields[k] V[k]=if (x.fields[k].kd == 1&&x.fields[k].we.toList == r.toList)=true then Ziy V[k] else 0:=rfl
        have HW:=Zab hW;clear hfc hvc hvs c0 c2 c3 c4 c5 c6 c7 c8 c9 hsz hW
        cases hk1:(x.fields[k].kd == 1) with
        | false=>
         have HE2:Hid (ZeG r x.fields V (k+1)=ZeG r x.fields V k):=by unfold Hid;rw [HST.out,HW.out,hk1];simp
         go_wp2_with (go_at_call 176;refine (Zbk _ _ hvz).mono ?_;rintro e w2 ⟨rfl,rfl⟩)
         go_round
         case rel=>exact⟨k+1,by rw [HE2.out];congr 1;omega,by go_num,by omega⟩
         case measure=>simp [intOf];omega
        | true=>
         cases hk2:(x.fields[k].we.toList == r.toList) with
         | false=>
          have HE2:Hid (ZeG r x.fields V (k+1)=ZeG r x.fields V k):=by unfold Hid;rw [HST.out,HW.out,hk1,hk2];simp
          go_wp2_with (go_at_call 176;refine (Zbk _ _ hvz).mono ?_;rintro e w2 ⟨rfl,rfl⟩)
          go_round
          case rel=>exact⟨k+1,by rw [HE2.out];congr 1;omega,by go_num,by omega⟩
          case measure=>simp [intOf];omega
         | true=>
          by_cases hn:0 < Zl7 V[k]
          · have HE2:Hid (ZeG r x.fields V (k+1)=ZeG r x.fields V k+Zl7 V[k]):=by unfold Hid;rw [HST.out,HW.out,hk1,hk2,HDN.out,if_pos hn];simp
            have hb2:=HBD.out (k+1);rw [HE2.out] at hb2
            push_cast at hb2
            go_wp2_with (go_at_call 176;refine (Zbk _ _ hvz).mono ?_;rintro e w2 ⟨rfl,rfl⟩)
            go_round
            case rel=>exact⟨k+1,by rw [HE2.out];congr 1;omega,by go_num,by omega⟩
            case measure=>simp [intOf];omega
          · have HE2:Hid (ZeG r x.fields V (k+1)=ZeG r x.fields V k):=by unfold Hid;rw [HST.out,HW.out,hk1,hk2,HDN.out,if_neg hn];simp
            go_wp2_with (go_at_call 176;refine (Zbk _ _ hvz).mono ?_;rintro e w2 ⟨rfl,rfl⟩)
            go_round
            case rel=>exact⟨k+1,by rw [HE2.out];congr 1;omega,by go_num,by omega⟩
            case measure=>simp [intOf];omega
      · have he:k=V.length:=by have:=HN.out;omega
        subst he;go_wp2;go_ret;exact⟨ZaG (by have:=HE.out;omega),HB1.out⟩
 · have HQ:=Zab (ZlY (r:=r) hno)
   clear hb1 HO HB hno;go_wp2;go_ret;exact⟨ZaG HQ.out.symm,HB1.out⟩
end
end Go.Proofs.YtfohnageehneoaaGreat
namespace Go.Proofs.YtfohnageehneoaaGreat
open Go.RowKit Go.Deep Go.Shelf
attribute [local go_sem] Oper.semAt_some
theorem ZhP {w w':World} (h:Zw_ w w'):w.grownBy w' none:=
 ⟨h.os,h.tape,h.output,h.size,fun k hk _=>h.block k hk⟩
theorem Zbu {β:Type} {B:Nat} {J:β→World→Prop} (h:AbidesFrom B J) {s:β} {W W':World} (hs:J s W) (hb:Below W.heap.size W W'):J s W':=
 h s W W' none hs (ZhP hb) (fun r e=>by cases e)
structure ZaS (S:Nat→Prop) (B:Nat) (W W':World):Prop where
 os:W'.os=W.os
 tape:W'.tape=W.tape
 output:W'.output=W.output
 size:W.heap.size≤W'.heap.size
 same:∀ k o,W.heap[k]?=some o→¬ S k→(o.isCells=true∨k < B)→W'.heap[k]?=some o
theorem ZaS.refl (S:Nat→Prop) (B:Nat) (W:World):ZaS S B W W:=⟨rfl,rfl,rfl,Nat.le_refl _,fun _ _ h _ _=>h⟩
theorem ZaS.trans {S:Nat→Prop} {B:Nat} {W W' W'':World} (h:ZaS S B W W') (k:ZaS S B W' W''):ZaS S B W W'':=
 ⟨k.os.trans h.os,k.tape.trans h.tape,k.output.trans h.output,Nat.le_trans h.size k.size,fun i o hi hs ho=>k.same i o (h.same i o hi hs ho) hs ho⟩
theorem ZaS.put {S:Nat→Prop} {w:World} (W:World) (l:Nat) (o o':Obj) (hl:w.heap.size≤l) (h:W.heap[l]?=some o) (hc:o.isCells=false) (_:o.isWalk=false):ZaS S w.heap.size W (W.putObj l o'):=by
 have hg:=grownBy_putObj' W l o';refine⟨hg.os,hg.tape,hg.output,hg.size,fun k x hk _ hx=>?_⟩
 by_cases e:k=l
 · subst e
   rw [h] at hk
   cases hk
   rcases hx with hx | hx
   · rw [hc] at hx;cases hx
   · omega
 · rw [hg.block k (Array.getElem?_eq_some_iff.1 hk).1 (fun e'=>e (Option.some.inj e'))]
   exact hk
theorem ZaS.below {S:Nat→Prop} {B m:Nat} {W W':World} (h:ZaS S B W W') (hm:m≤W.heap.size) (hS:∀ k,k < m→¬ S k) (hB:m≤B):Below m W W':=by
 refine⟨h.os,h.tape,h.output,h.size,fun k hk=>?_⟩;have hlt:k < W.heap.size:=Zk_ hk hm
 rw [Array.getElem?_eq_getElem hlt];exact h.same k _ (Array.getElem?_eq_getElem hlt) (hS k hk) (Or.inr (Zk_ hk hB))
theorem ZaS.cell {S:Nat→Prop} {B:Nat} {W W':World} {p:Addr} {v:Value} (h:ZaS S B W W') (hc:W.cell? p=some v) (hS:¬ S p.block):W'.cell? p=some v:=by
 obtain⟨o,ho,hc'⟩:=cells_of_cell hc;exact (World.cell?_of_block ((h.same _ o ho hS (Or.inl hc')).trans ho.symm)).trans hc
def ZaZ (Fs:List Fd) (V:List Zy_):Nat→List (Zy_×Int)
 | 0=>[]
 | k+1=>ZaZ Fs V k ++ (match Fs[k]?,V[k]? with | some f,some s=>if (f.kd == 1&&!f.we.toList.isEmpty)=true then [(f.we,Ziy s)] else [] | _,_=>[])
theorem ZgN {Fs:List Fd} {V:List Zy_} {k:Nat} (hf:k < Fs.length) (hv:k < V.length):ZaZ Fs V (k+1)=ZaZ Fs V k ++ (if (Fs[k].kd == 1&&!Fs[k].we.toList.isEmpty)=true then [(Fs[k].we,Ziy V[k])] else []):=by
 rw [ZaZ];simp [hf,hv]
theorem ZfW (Fs:List Fd) (V:List Zy_) (k:Nat):(ZaZ Fs V k).length≤k:=by
 induction k with
 | zero=>simp [ZaZ]
 | succ k ih=>
  rw [ZaZ,List.length_append]
  split
  · split
    · simp;omega
    · simp;omega
  · simp;omega
def Zdz (kind:Zy_):List (Zy_×Int):=if kind.toList.isEmpty=true then [] else [(kind,1)]
def Zei (Ss:List Sh) (kind:Zy_) (V:List Zy_):List (Zy_×Int):=
 match Zcv Ss kind with
 | some x=>if x.fields.length=V.length then Zdz kind ++ ZaZ x.fields V V.length else []
 | none=>[]
theorem ZiE {Ss:List Sh} {kind:Zy_} {V:List Zy_} (h:∀ x,Zcv Ss kind=some x→x.fields.length≠V.length):Zei Ss kind V=[]:=by
 unfold Zei
 cases hs:Zcv Ss kind with
 | none=>rfl
 | some x=>simp [h x hs]
theorem ZjB {Ss:List Sh} {kind:Zy_} {V:List Zy_} {x:Sh} (h:Zcv Ss kind=some x) (hl:x.fields.length=V.length):Zei Ss kind V=Zdz kind ++ ZaZ x.fields V V.length:=by
 unfold Zei;rw [h];simp [hl]
def ZmY (r:Zy_) (L:List (Zy_×Int)):Int:=(L.map fun p=>if (p.1.toList == r.toList)=true then p.2 else 0).sum
theorem ZeD (r:Zy_):ZmY r []=0:=rfl
theorem Ze8 (r:Zy_) (A B:List (Zy_×Int)):ZmY r (A ++ B)=ZmY r A+ZmY r B:=by simp [ZmY]
theorem ZgB (r:Zy_) (p:Zy_×Int):ZmY r [p]=if (p.1.toList == r.toList)=true then p.2 else 0:=by simp [ZmY]
theorem ZmK {r:Zy_} (hr:r.toList.isEmpty=false) (Fs:List Fd) (V:List Zy_) (k:Nat):ZmY r (ZaZ Fs V k)=ZeG r Fs V k:=by
 induction k with
 | zero=>rfl
 | succ k ih=>
  rw [ZaZ,ZeG,Ze8,ih]
  congr 1
  generalize Fs[k]?=fo;generalize V[k]?=so
  cases fo with
  | none=>rfl
  | some f=>
   cases so with
   | none=>rfl
   | some s=>
    dsimp only;unfold Zq4
    cases h1:(f.kd == 1) with
    | false=>simp [ZeD]
    | true=>
     cases h2:f.we.toList.isEmpty with
     | false=>simp [ZgB]
     | true=>
      have:(f.we.toList == r.toList)=false:=by
       rw [List.isEmpty_iff.1 h2]
       cases hq:r.toList with
       | nil=>rw [hq] at hr;simp at hr
       | cons _ _=>rfl
      simp [ZeD,this]
theorem ZmQ {r:Zy_} (hr:r.toList.isEmpty=true) (Fs:List Fd) (V:List Zy_) (k:Nat):ZmY r (ZaZ Fs V k)=0:=by
 induction k with
 | zero=>rfl
 | succ k ih=>
  rw [ZaZ,Ze8,ih]
  split
  · rename_i f s _ _
    cases h2:f.we.toList.isEmpty with
    | true=>simp [ZeD]
    | false=>
     have:(f.we.toList == r.toList)=false:=by
      rw [List.isEmpty_iff.1 hr]
      cases hq:f.we.toList with
      | nil=>rw [hq] at h2;simp at h2
      | cons _ _=>rfl
     split
     · simp [ZgB,this]
     · simp [ZeD]
  · simp [ZeD]
theorem Zmn (Ss:List Sh) (kind:Zy_) (V:List Zy_) (r:Zy_):ZmY r (Zei Ss kind V)=ZdK Ss kind V r:=by
 by_cases hn:∀ x,Zcv Ss kind=some x→x.fields.length≠V.length
 · rw [ZiE hn,ZlY hn];rfl
 · obtain⟨x,hx,hl⟩:∃ x,Zcv Ss kind=some x∧x.fields.length=V.length:=Classical.byContradiction fun h=>hn fun x hx hl=>h ⟨x,hx,hl⟩
   rw [ZjB hx hl,Ze8]
   cases hr:r.toList.isEmpty with
   | true=>
    rw [Zj3 hr,ZmQ hr];unfold Zdz
    cases hk:kind.toList.isEmpty with
    | true=>rfl
    | false=>
     have:(kind.toList == r.toList)=false:=by
      rw [List.isEmpty_iff.1 hr]
      cases hq:kind.toList with
      | nil=>rw [hq] at hk;simp at hk
      | cons _ _=>rfl
     simp [ZgB,this]
   | false=>
    rw [ZjG hx hl hr,ZmK hr]
    congr 1
    unfold Zdz
    cases hk:kind.toList.isEmpty with
    | true=>
     have:(r.toList == kind.toList)=false:=by
      rw [List.isEmpty_iff.1 hk]
      cases hq:r.toList with
      | nil=>rw [hq] at hr;simp at hr
      | cons _ _=>rfl
     simp [ZeD,this]
    | false=>
     simp only [Bool.false_eq_true,if_false,ZgB]
     by_cases h:kind.toList=r.toList
     · simp [h]
     · have h':¬ r.toList=kind.toList:=fun e=>h e.symm
       simp [h,h']
section
variable (lo:Nat) (sv:Value) (Ss:List Sh) (kind nm team:Zy_) (vv hv:Value) (en:Bool) (ver:Int) (V Ho:List Zy_) (w:World)
theorem Znl (F:Fence) (n:Nat) (hf:F.fn 216) (hro:F.round=none) (a:Option Addr) (ln cap:Nat) (va:Option Addr) (vn vcap:Nat) (ha:Option Addr) (hn hcap:Nat) :
 CallsIn F n prog 216 #[.slice a ln cap,.agg #[.string kind,.string nm,.string team,.slice va vn vcap,.bool en,.slice ha hn hcap,.int .i64 ver]] w
  fun e w'=>e=.returned (.func (.func 246) #[] #[.pointer (some ⟨w.heap.size,0,none⟩),.pointer (some ⟨w.heap.size+1,0,none⟩)])∧
   w'=(w.alloc (.cells #[.slice a ln cap] 43)).alloc (.cells #[.string kind,.string nm,.string team,.slice va vn vcap,.bool en,.slice ha hn hcap,.int .i64 ver] 155):=by
 refine callsIn_of_wp func216 rfl hf ?_ hro;simp only [ntmps216,List.size_toArray,List.length_cons,List.length_nil,Nat.reduceAdd,Nat.reduceSub,Array.replicate_succ,Array.replicate_zero,List.push_toArray,List.append_toArray,List.nil_append,List.cons_append]
 gi_wp2
 go_ret;exact⟨rfl,rfl⟩
end
end Go.Proofs.YtfohnageehneoaaGreat
