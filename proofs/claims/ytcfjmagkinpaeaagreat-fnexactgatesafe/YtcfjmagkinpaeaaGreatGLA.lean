import Derived.Test.YtcfjmagkinpaeaaGreatGNN
import Derived.Test.YtcfjmagkinpaeaaGreatGTA
import Derived.RangeFuncNested
import Derived.RangeFuncBound
import Derived.RangeFuncCalls
import Derived.RangeFuncLeaves
import Derived.Shelf.Abstract
import Derived.Shelf.RegionOpen
import Derived.OwnWalkIn
import Derived.TacticsInMore
import Derived.LoopNIn
import Derived.LoopIn
import Derived.Maps.Own
import Derived.Maps.Views
import Derived.WideKeyEntry
import Derived.DeepKeys4
import Derived.Maps.RangeWalk
import Derived.Maps.OwnOps
set_option maxHeartbeats 16000000
set_option maxRecDepth 100000
open Go.Proofs.Tryz
namespace Go.Proofs.YtcfjmagkinpaeaaGreat
open Go.RowKit Go.Deep
theorem ZaU.set' {lo:Nat} {w:World} {v:Value} {Ss:List Sh} (h:ZaU lo w v Ss) {p:Addr} (hp:p.block < lo) (u:Value):ZaU lo (w.setCell p u) v Ss:=by
 rcases h with h | ⟨b,off,cap,h1,h2,h3,h4,h5,h7⟩
 · exact Or.inl h
 · refine Or.inr ⟨b,off,cap,h1,h2,h3,by simpa [World.setCell] using h4,h5,fun i hi=>?_⟩
   obtain⟨hs,fv,c0,c1,hF⟩:=h7 i hi;exact⟨hs,fv,by rw [Zar _ _ _ _ (by simp only [];omega)];exact c0,by rw [Zar _ _ _ _ (by simp only [];omega)];exact c1,hF.setCell hp u⟩
structure ZaO (lo:Nat) (w:World) (sv mv tv:Value) (Ss:List Sh) (Ms:List Md) (Ts:List Tm):Prop where
 shs:ZaU lo w sv Ss
 mds:Zbc lo w mv Ms
 tms:Zbd lo w tv Ts
theorem ZaO.below {lo:Nat} {w w':World} {sv mv tv:Value} {Ss:List Sh} {Ms:List Md} {Ts:List Tm} (h:ZaO lo w sv mv tv Ss Ms Ts) (hb:Zw_ w w'):ZaO lo w' sv mv tv Ss Ms Ts:=
 ⟨h.shs.below hb,h.mds.below hb,h.tms.below hb⟩
theorem ZaO.mono {lo lo':Nat} {w:World} {sv mv tv:Value} {Ss:List Sh} {Ms:List Md} {Ts:List Tm} (h:ZaO lo w sv mv tv Ss Ms Ts) (hl:lo'≤lo):ZaO lo' w sv mv tv Ss Ms Ts:=
 ⟨h.shs.mono hl,h.mds.mono hl,h.tms.mono hl⟩
def Zf3 (Ss:List Sh) (Ms:List Md) (Ts:List Tm):Prop:=Zh3 Ss∧Ms.length≤1048576∧Ts.length≤1048576
section
variable (lo:Nat) (sv mv tv:Value) (Ss:List Sh) (Ms:List Md) (Ts:List Tm) (w:World)
theorem ZjF (left:Int) (h0:0≤left) (h1:left≤1048576) (h:ZaO lo w sv mv tv Ss Ms Ts) :
 Calls prog 5 #[.agg #[sv,mv,tv],.int .i64 left] w
  fun e w'=>∃ r:Int,e=.returned (.int .i64 r)∧Zw_ w w'∧-1≤r∧r≤left∧(0≤r→Zf3 Ss Ms Ts):=by
 have HL:=Zab h;obtain⟨a,cap,rfl⟩:=h.shs.form;obtain⟨a1,cap1,rfl⟩:=h.mds.form;obtain⟨a2,cap2,rfl⟩:=h.tms.form;clear h;go_enter func5,ntmps5;go_wp2_with fail;have hX:=Box.new w #[.slice a Ss.length cap,.slice a1 Ms.length cap1,.slice a2 Ts.length cap2] 26 _ rfl;have hB0:=Zac w (.cells #[.slice a Ss.length cap,.slice a1 Ms.length cap1,.slice a2 Ts.length cap2] 26);refine (Zou lo _ Ss _ _ (by omega) (by omega) (HL.out.below hB0).shs).mono ?_;rintro e w1 ⟨r,rfl,hb1,q0,q1,q2⟩;have hX1:=Zab (hX.on hb1);have HB1:=Zab (hB0.trans (hb1.mono hB0.size));have c1:=hX1.out.cell 1;have c2:=hX1.out.cell 2;simp at c1 c2;clear hb1 hB0 hX;have Q:=Zab q2;clear q2
 by_cases hr:r < 0
 · go_wp2
   go_ret;exact⟨-1,rfl,HB1.out,by omega,by omega,fun h=>by omega⟩
 go_wp2_with fail;refine (Zoq lo _ Ms _ _ (by omega) (by omega) (HL.out.below HB1.out).mds).mono ?_;rintro e w2 ⟨r2,rfl,hb2,p0,p1,p2⟩;have hX2:=Zab (hX1.out.on hb2);have HB2:=Zab (HB1.out.trans (hb2.mono HB1.out.size));have d2:=hX2.out.cell 2;simp at d2;clear hb2 HB1 hX1 c1 c2;have Q2:=Zab p2;clear p2
 by_cases hr2:r2 < 0
 · go_wp2
   go_ret;exact⟨-1,rfl,HB2.out,by omega,by omega,fun h=>by omega⟩
 go_wp2_with fail;refine (Zow lo _ Ts _ _ (by omega) (by omega) (HL.out.below HB2.out).tms).mono ?_;rintro e w3 ⟨r3,rfl,hb3,s0,s1,s2⟩;have HB3:=Zab (HB2.out.trans (hb3.mono HB2.out.size));have Q3:=Zab s2;clear hb3 s2
 by_cases hr3:r3 < 0
 · go_wp2
   go_ret;exact⟨-1,rfl,HB3.out,by omega,by omega,fun h=>by omega⟩
 go_wp2;go_ret;exact⟨_,rfl,HB3.out,by omega,by omega,fun h=>⟨Q.out (by omega),by have:=Q2.out (by omega);omega,by have:=Q3.out (by omega);omega⟩⟩
theorem Zhy (lo':Nat) (sv' mv' tv':Value) (h:ZaO lo w sv mv tv Ss Ms Ts) (h':ZaO lo' w sv' mv' tv' Ss Ms Ts) :
 Calls prog 11 #[.agg #[sv,mv,tv],.agg #[sv',mv',tv']] w fun e w'=>e=.returned (.bool true)∧Zw_ w w':=by
 have HL:=Zab h;have HR:=Zab h';obtain⟨a,cap,rfl⟩:=h.shs.form;obtain⟨a1,cap1,rfl⟩:=h.mds.form;obtain⟨a2,cap2,rfl⟩:=h.tms.form;obtain⟨a',cap',rfl⟩:=h'.shs.form;obtain⟨a1',cap1',rfl⟩:=h'.mds.form;obtain⟨a2',cap2',rfl⟩:=h'.tms.form;clear h h';go_enter func11,ntmps11;go_wp2_with fail;have hX:=Box.new w #[.slice a Ss.length cap,.slice a1 Ms.length cap1,.slice a2 Ts.length cap2] 43 _ rfl;have hB0:=Zac w (.cells #[.slice a Ss.length cap,.slice a1 Ms.length cap1,.slice a2 Ts.length cap2] 43);have hsz:(w.alloc (.cells #[.slice a Ss.length cap,.slice a1 Ms.length cap1,.slice a2 Ts.length cap2] 43)).heap.size=w.heap.size+1:=by simp
 generalize w.alloc (.cells #[.slice a Ss.length cap,.slice a1 Ms.length cap1,.slice a2 Ts.length cap2] 43)=wx at hX hB0 hsz ⊢;have hY:=Box.new wx #[.slice a' Ss.length cap',.slice a1' Ms.length cap1',.slice a2' Ts.length cap2'] 43 _ hsz;have hB1:=Zac wx (.cells #[.slice a' Ss.length cap',.slice a1' Ms.length cap1',.slice a2' Ts.length cap2'] 43);have hX1:=hX.on hB1;have HB:=Zab (hB0.trans (hB1.mono hB0.size));generalize wx.alloc (.cells #[.slice a' Ss.length cap',.slice a1' Ms.length cap1',.slice a2' Ts.length cap2'] 43)=wy at hY hX1 HB ⊢;clear hX hB0 hB1 hsz;refine (ZlT lo lo' _ _ Ss _ (HL.out.below HB.out).shs (HR.out.below HB.out).shs).mono ?_;rintro e w1 ⟨rfl,hb1⟩;have HX:=Zab (hX1.on hb1);have HY:=Zab (hY.on hb1);have HB1:=Zab (HB.out.trans (hb1.mono HB.out.size));clear hb1 hX1 hY HB;have c1:=HX.out.cell 1;have d1:=HY.out.cell 1;simp at c1 d1;go_wp2_with fail
 clear c1 d1;refine (ZlP lo lo' _ _ Ms _ (HL.out.below HB1.out).mds (HR.out.below HB1.out).mds).mono ?_;rintro e w2 ⟨rfl,hb2⟩;have HX:=Zab (HX.out.on hb2);have HY:=Zab (HY.out.on hb2);have HB2:=Zab (HB1.out.trans (hb2.mono HB1.out.size));clear hb2 HB1;have c1:=HX.out.cell 2;have d1:=HY.out.cell 2;simp at c1 d1;go_wp2_with fail;clear c1 d1;refine (ZlV lo lo' _ _ Ts _ (HL.out.below HB2.out).tms (HR.out.below HB2.out).tms).mono ?_;rintro e w3 ⟨rfl,hb3⟩;have HB3:=Zab (HB2.out.trans (hb3.mono HB2.out.size));clear hb3 HB2;go_wp2;go_ret;exact⟨rfl,HB3.out⟩
theorem ZdH (h:ZaO lo w sv mv tv Ss Ms Ts) (hn:Zf3 Ss Ms Ts) :
 Calls prog 8 #[.agg #[sv,mv,tv]] w
  fun e w'=>∃ a cap a1 cap1 a2 cap2,e=.returned (.agg #[.slice a Ss.length cap,.slice a1 Ms.length cap1,.slice a2 Ts.length cap2])∧Zw_ w w'∧
   ZaO w.heap.size w' (.slice a Ss.length cap) (.slice a1 Ms.length cap1) (.slice a2 Ts.length cap2) Ss Ms Ts:=by
 have HL:=Zab h;obtain⟨a,cap,rfl⟩:=h.shs.form;obtain⟨a1,cap1,rfl⟩:=h.mds.form;obtain⟨a2,cap2,rfl⟩:=h.tms.form;clear h;go_enter func8,ntmps8;go_wp2_with fail
 obtain⟨wz,hwz,HX,HR,HO,HB⟩:∃ wz,wz=((w.alloc (.cells #[.slice a Ss.length cap,.slice a1 Ms.length cap1,.slice a2 Ts.length cap2] 26)).alloc (.cells #[.slice none 0 0,.slice none 0 0,.slice none 0 0] 43)).alloc (.cells #[.slice none 0 0,.slice none 0 0,.slice none 0 0] 43)∧
  Hid (Box wz w.heap.size #[.slice a Ss.length cap,.slice a1 Ms.length cap1,.slice a2 Ts.length cap2])∧Hid (Box wz (w.heap.size+1) #[.slice none 0 0,.slice none 0 0,.slice none 0 0])∧
  Hid (Box wz (w.heap.size+1+1) #[.slice none 0 0,.slice none 0 0,.slice none 0 0])∧Hid (Zw_ w wz):=
  ⟨_,rfl,((Box.new w _ _ _ rfl).on (Zac _ _)).on (Zac _ _),(Box.new _ _ _ _ (by simp)).on (Zac _ _),Box.new _ _ _ _ (by simp),((Zac _ _).trans ((Zac _ _).mono (by simp))).trans ((Zac _ _).mono (by simp;omega))⟩
 rw [← hwz];clear hwz;have hz0:w.heap.size+3≤wz.heap.size:=by have:=HO.out.lt;omega
 refine (ZoM lo _ Ss _ (HL.out.below HB.out).shs hn.1).mono ?_;rintro e w1 ⟨v1,rfl,hb1,hs1⟩;obtain⟨b1,k1,rfl⟩:=hs1.form;have HX1:=Zab (HX.out.on hb1);have HR1:=Zab (HR.out.on hb1);have HO1:=Zab (HO.out.on hb1);have HB1:=Zab (HB.out.trans (hb1.mono HB.out.size));have HS1:Hid (ZaU (w.heap.size+3) w1 (.slice b1 Ss.length k1) Ss):=hs1.mono hz0;clear hb1 hs1 HX HR HO HB hz0;have o0:=HO1.out.cell 0;have f0:=HO1.out.free 0;have x1:=HX1.out.cell 1;simp at o0 f0 x1;go_wp2_with fail;clear o0 f0 x1
 obtain⟨wq,hwq,HX,HR,HO,HB,HS⟩:∃ wq,wq=w1.setCell ⟨w.heap.size+1+1,0,none⟩ (.slice b1 Ss.length k1)∧
  Hid (Box wq w.heap.size #[.slice a Ss.length cap,.slice a1 Ms.length cap1,.slice a2 Ts.length cap2])∧Hid (Box wq (w.heap.size+1) #[.slice none 0 0,.slice none 0 0,.slice none 0 0])∧
  Hid (Box wq (w.heap.size+1+1) #[.slice b1 Ss.length k1,.slice none 0 0,.slice none 0 0])∧Hid (Zw_ w wq)∧Hid (ZaU (w.heap.size+3) wq (.slice b1 Ss.length k1) Ss):=
  ⟨_,rfl,HX1.out.setFar (by simp only [];omega) _,HR1.out.setFar (by simp only [];omega) _,HO1.out.set (k:=0) (.slice b1 Ss.length k1) (by simp),HB1.out.setCell (by simp only [];omega) _,HS1.out.set' (by simp only [];omega) _⟩
 rw [← hwq];clear hwq HX1 HR1 HO1 HB1 HS1;have hz0:w.heap.size+3≤wq.heap.size:=by have:=HO.out.lt;omega
 refine (ZmH lo _ Ms _ (HL.out.below HB.out).mds hn.2.1).mono ?_;rintro e w2 ⟨v2,rfl,hb2,hs2,-⟩;obtain⟨b2,k2,rfl⟩:=hs2.form;have HX2:=Zab (HX.out.on hb2);have HR2:=Zab (HR.out.on hb2);have HO2:=Zab (HO.out.on hb2);have HB2:=Zab (HB.out.trans (hb2.mono HB.out.size));have HS2:=Zab (HS.out.below hb2);have HM2:Hid (Zbc (w.heap.size+3) w2 (.slice b2 Ms.length k2) Ms):=hs2.mono hz0;clear hb2 hs2 HX HR HO HB hz0 HS;have o0:=HO2.out.cell 1;have f0:=HO2.out.free 1;have x1:=HX2.out.cell 2;simp at o0 f0 x1;go_wp2_with fail;clear o0 f0 x1
 obtain⟨wq,hwq,HR,HO,HB,HS,HM⟩:∃ wq,wq=w2.setCell ⟨w.heap.size+1+1,1,none⟩ (.slice b2 Ms.length k2)∧
  Hid (Box wq (w.heap.size+1) #[.slice none 0 0,.slice none 0 0,.slice none 0 0])∧
  Hid (Box wq (w.heap.size+1+1) #[.slice b1 Ss.length k1,.slice b2 Ms.length k2,.slice none 0 0])∧Hid (Zw_ w wq)∧Hid (ZaU (w.heap.size+3) wq (.slice b1 Ss.length k1) Ss)∧Hid (Zbc (w.heap.size+3) wq (.slice b2 Ms.length k2) Ms):=
  ⟨_,rfl,HR2.out.setFar (by simp only [];omega) _,HO2.out.set (k:=1) (.slice b2 Ms.length k2) (by simp),HB2.out.setCell (by simp only [];omega) _,HS2.out.set' (by simp only [];omega) _,HM2.out.setCell (by simp only [];omega) _⟩
 rw [← hwq];clear hwq HX2 HR2 HO2 HB2 HS2 HM2;have hz0:w.heap.size+3≤wq.heap.size:=by have:=HO.out.lt;omega
 refine (ZoO lo _ Ts _ (HL.out.below HB.out).tms hn.2.2).mono ?_;rintro e w3 ⟨v3,rfl,hb3,hs3⟩;obtain⟨b3,k3,rfl⟩:=hs3.form;have HR3:=Zab (HR.out.on hb3);have HO3:=Zab (HO.out.on hb3);have HB3:=Zab (HB.out.trans (hb3.mono HB.out.size));have HS3:=Zab (HS.out.below hb3);have HM3:=Zab (HM.out.below hb3);have HT3:Hid (Zbd (w.heap.size+3) w3 (.slice b3 Ts.length k3) Ts):=hs3.mono hz0;clear hb3 hs3 HR HO HB hz0 HS HM;have o0:=HO3.out.cell 0;have o1:=HO3.out.cell 1;have o2:=HO3.out.cell 2;have f2:=HO3.out.free 2;have r0:=HR3.out.cell 0;have r1:=HR3.out.cell 1;have r2:=HR3.out.cell 2;have g0:=HR3.out.free 0;have g1:=HR3.out.free 1;have g2:=HR3.out.free 2;simp at o0 o1 o2 r0 r1 r2;go_wp2;refine bodyPost_ret (v:=.agg #[.slice b1 Ss.length k1,.slice b2 Ms.length k2,.slice b3 Ts.length k3]) (by simp [results,results8,go_sem,r0,r1,r2]) rfl ⟨_,_,_,_,_,_,rfl,?_,?_,?_,?_⟩
 · repeat (refine Below.setCell ?_ (by simp only [];omega) _)
   exact HB3.out
 · refine ZaU.mono (lo:=w.heap.size+3) ?_ (by omega)
   repeat (refine ZaU.set' ?_ (by simp only [];omega) _)
   exact HS3.out
 · refine Zbc.mono (lo:=w.heap.size+3) ?_ (by omega)
   repeat (refine Zbc.setCell ?_ (by simp only [];omega) _)
   exact HM3.out
 · refine Zbd.mono (lo:=w.heap.size+3) ?_ (by omega)
   repeat (refine Zbd.setCell ?_ (by simp only [];omega) _)
   exact HT3.out
end
theorem Zaf.spread {w:World} {a:Option Addr} {n cap:Nat} {L:List Zy_} (h:Zaf w (.slice a n cap) L) (hL:0 < L.length) :
 ∃ b off,a=some ⟨b,off,none⟩∧b < w.heap.size∧(∀ i (h:i < L.length),w.cell? ⟨b,off+i,none⟩=some (.string L[i]))∧∀ s ∈ L,s.size≤maxLen:=by
 rcases h with ⟨_,_,_,rfl⟩ | ⟨b,off,_,h1,_,_,h4,h5,h6⟩
 · simp at hL
 · cases h1
   exact⟨b,off,rfl,h4,h5,h6⟩
theorem Zid (s:Zy_):0≤Zic s∧Zic s≤9999999:=by
 unfold Zic
 split
 · rename_i h
   have h7:s.size≤7∧Zfs ZcP s=true:=by
    unfold Zea inB at h;simp only [Bool.and_eq_true,decide_eq_true_eq] at h;exact⟨by omega,h.2⟩
   have:=Zci s s.size Zl_ h7.1 (by
    rw [List.take_of_length_le (by simp)];exact h7.2)
   rw [Zdv Zl_] at this
   omega
 · omega
theorem ZkZ (s:Zy_):Zic s=if 0 < Zk9 s then Zk9 s else 0:=by
 have:=Zid s;unfold Zic Zk9 at*
 split
 · rename_i h
   rw [if_pos h] at this
   split <;> omega
 · simp
def ZqY (r:Zy_) (f:Fd) (s:Zy_):Int:=if (f.kd == 1&&f.we.toList == r.toList)=true then Zic s else 0
def ZeB (r:Zy_) (Fs:List Fd) (V:List Zy_):Nat→Int
 | 0=>0
 | k+1=>ZeB r Fs V k+(match Fs[k]?,V[k]? with | some f,some s=>ZqY r f s | _,_=>0)
theorem Zsb (r:Zy_) (f:Fd) (s:Zy_):0≤ZqY r f s∧ZqY r f s≤9999999:=by
 have:=Zid s;unfold ZqY
 split <;> omega
theorem ZjV {r:Zy_} {Fs:List Fd} {V:List Zy_} {k:Nat} (hf:k < Fs.length) (hv:k < V.length):ZeB r Fs V (k+1)=ZeB r Fs V k+ZqY r Fs[k] V[k]:=by
 rw [ZeB];simp [hf,hv]
theorem Zsc (r:Zy_) (Fs:List Fd) (V:List Zy_) (k:Nat):0≤ZeB r Fs V k∧ZeB r Fs V k≤9999999*k:=by
 induction k with
 | zero=>simp [ZeB]
 | succ k ih=>
  rw [ZeB]
  split
  · rename_i f s _ _
    have:=Zsb r f s
    push_cast
    omega
  · push_cast
    omega
def ZdJ (Ss:List Sh) (kind:Zy_) (V:List Zy_) (r:Zy_):Int:=
 if r.toList.isEmpty=true then 0 else
 match Zb3 Ss kind with
 | some x=>if x.fields.length=V.length then (if (r.toList == kind.toList)=true then 1 else 0)+ZeB r x.fields V V.length else 0
 | none=>0
theorem Zlu {Ss:List Sh} {kind:Zy_} {V:List Zy_} {r:Zy_} (h:∀ x,Zb3 Ss kind=some x→x.fields.length≠V.length):ZdJ Ss kind V r=0:=by
 unfold ZdJ
 split
 · rfl
 · cases hs:Zb3 Ss kind with
   | none=>rfl
   | some x=>simp [h x hs]
theorem ZjK {Ss:List Sh} {kind:Zy_} {V:List Zy_} {r:Zy_} (h:r.toList.isEmpty=true):ZdJ Ss kind V r=0:=by
 unfold ZdJ;rw [if_pos h]
theorem ZjL {Ss:List Sh} {kind:Zy_} {V:List Zy_} {r:Zy_} {x:Sh} (h:Zb3 Ss kind=some x) (hl:x.fields.length=V.length) (hr:r.toList.isEmpty=false) :
 ZdJ Ss kind V r=(if (r.toList == kind.toList)=true then 1 else 0)+ZeB r x.fields V V.length:=by
 unfold ZdJ;rw [h];simp [hr,hl]
section
variable (lo:Nat) (sv mv tv:Value) (Ss:List Sh) (Ms:List Md) (Ts:List Tm) (kind nm team:Zy_) (vv hv:Value) (en:Bool) (ver:Int) (V Ho:List Zy_) (r:Zy_) (w:World)
theorem Zhm (h:ZaO lo w sv mv tv Ss Ms Ts) (hV:Zaf w vv V) (hH:Zaf w hv Ho) (n1:V.length≤1048576) :
 Calls prog 164 #[.agg #[sv,mv,tv],.agg #[.string kind,.string nm,.string team,vv,.bool en,hv,.int .i64 ver],.string r] w
  fun e w'=>e=.returned (.int .i64 (ZdJ Ss kind V r))∧Zw_ w w':=by
 have HL:=Zab h;have HV:=Zab hV;have HH:=Zab hH;obtain⟨a,cap,rfl⟩:=h.shs.form;obtain⟨a1,cap1,rfl⟩:=h.mds.form;obtain⟨a2,cap2,rfl⟩:=h.tms.form;obtain⟨va,vcap,rfl⟩:=hV.form';obtain⟨ha,hcap,rfl⟩:=hH.form';clear h hV hH;go_enter func164,ntmps164;go_wp2_with fail
 obtain⟨wz,hwz,HO,HB⟩:∃ wz,wz=(w.alloc (.cells #[.slice a Ss.length cap,.slice a1 Ms.length cap1,.slice a2 Ts.length cap2] 43)).alloc (.cells #[.string kind,.string nm,.string team,.slice va V.length vcap,.bool en,.slice ha Ho.length hcap,.int .i64 ver] 160)∧
  Hid (Box wz (w.heap.size+1) #[.string kind,.string nm,.string team,.slice va V.length vcap,.bool en,.slice ha Ho.length hcap,.int .i64 ver])∧Hid (Zw_ w wz):=
  ⟨_,rfl,Box.new _ _ _ _ (by simp),(Zac _ _).trans ((Zac _ _).mono (by simp))⟩
 rw [← hwz];clear hwz;refine (Zcx kind nm team _ _ _ en ver V Ho Ss wz lo wz (HL.out.below HB.out).shs Zb_ (HV.out.below HB.out) (HH.out.below HB.out)).mono ?_;rintro e w1 ⟨hb1,hq⟩;have HO1:=Zab (HO.out.on hb1);have HB1:=Zab (HB.out.trans (hb1.mono HB.out.size))
 rcases hq with ⟨x,fv,hsh,hlen,rfl,hF⟩ | ⟨hno,fa,fcap,rfl⟩
 · have HF:=Zab (hF.below hb1)
   obtain⟨fa,fcap,rfl⟩:=hF.form;have HS:=Zab hsh;have HN:=Zab hlen;clear hb1 hF hsh HO HB hlen
   cases hr:r.toList.isEmpty with
   | true=>
    have HQ:=Zab (ZjK (Ss:=Ss) (kind:=kind) (V:=V) hr);go_wp2;go_ret;exact⟨Zaz HQ.out.symm,HB1.out⟩
   | false=>
    have HQ:=Zab (ZjL HS.out HN.out hr);have hbd:=Zsc r x.fields V;have HBD:=Zab hbd;have o0:=HO1.out.cell 0;have o3:=HO1.out.cell 3;simp at o0 o3;have hvl:x.fields.length≤1048576:=by have:=HN.out;omega
    have HV1:=Zab (HV.out.below HB1.out);clear hbd
    cases hk:(r.toList == kind.toList) with
    | true=>
     have HE:Hid (ZdJ Ss kind V r=1+ZeB r x.fields V V.length):=by unfold Hid;rw [HQ.out,hk];rfl
     go_wp2
     go_loop [9,10] (fun n i=>∃ k:Nat,n=.int .i64 (1+ZeB r x.fields V k)∧i=.int .i64 k∧k≤x.fields.length) (fun _ i=>x.fields.length - (intOf i).toNat)
     case atStart=>exact⟨0,by simp [ZeB],rfl,by omega⟩
     case round=>
      obtain⟨k,rfl,rfl,hkl⟩:=hrel
      by_cases hlt:k < x.fields.length
      · have hlv:k < V.length:=by have:=HN.out;omega
        obtain⟨fb,foff,rfl,hfb,hfc⟩:=HF.out.full' (by omega);obtain⟨hsz,wv,hcell,-⟩:=hfc k hlt;obtain⟨c0,c1,c2,c3,c4,c5,c6,c7,c8,c9,c10⟩:=hcell;obtain⟨vb,voff,rfl,hvb,hvc,hvs⟩:=HV1.out.spread (by omega);have hvk:=hvc k hlv;have hvz:V[k].size≤maxLen:=hvs _ (List.getElem_mem hlv);have HST:=Zab (ZjV (r:=r) hlt hlv);have HDN:=Zab (ZkZ V[k]);have hbd:=HBD.out k;have hbn:=Zid V[k];have hW:ZqY r x.fields[k] V[k]=if (x.fields[k].kd == 1&&x.fields[k].we.toList == r.toList)=true then Zic V[k] else 0:=rfl
        have HW:=Zab hW;clear hfc hvc hvs c0 c2 c3 c4 c5 c6 c7 c8 c9 hsz hW
        cases hk1:(x.fields[k].kd == 1) with
        | false=>
         have HE2:Hid (ZeB r x.fields V (k+1)=ZeB r x.fields V k):=by unfold Hid;rw [HST.out,HW.out,hk1];simp
         go_wp2_with (go_at_call 203;refine (Zbg _ _ hvz).mono ?_;rintro e w2 ⟨rfl,rfl⟩)
         go_round
         case rel=>exact⟨k+1,by rw [HE2.out],by go_num,by omega⟩
         case measure=>simp [intOf];omega
        | true=>
         cases hk2:(x.fields[k].we.toList == r.toList) with
         | false=>
          have HE2:Hid (ZeB r x.fields V (k+1)=ZeB r x.fields V k):=by unfold Hid;rw [HST.out,HW.out,hk1,hk2];simp
          go_wp2_with (go_at_call 203;refine (Zbg _ _ hvz).mono ?_;rintro e w2 ⟨rfl,rfl⟩)
          go_round
          case rel=>exact⟨k+1,by rw [HE2.out],by go_num,by omega⟩
          case measure=>simp [intOf];omega
         | true=>
          by_cases hn:0 < Zk9 V[k]
          · have HE2:Hid (ZeB r x.fields V (k+1)=ZeB r x.fields V k+Zk9 V[k]):=by unfold Hid;rw [HST.out,HW.out,hk1,hk2,HDN.out,if_pos hn];simp
            have hb2:=HBD.out (k+1);rw [HE2.out] at hb2
            push_cast at hb2
            go_wp2_with (go_at_call 203;refine (Zbg _ _ hvz).mono ?_;rintro e w2 ⟨rfl,rfl⟩)
            go_round
            case rel=>exact⟨k+1,by rw [HE2.out];congr 1;omega,by go_num,by omega⟩
            case measure=>simp [intOf];omega
          · have HE2:Hid (ZeB r x.fields V (k+1)=ZeB r x.fields V k):=by unfold Hid;rw [HST.out,HW.out,hk1,hk2,HDN.out,if_neg hn];simp
            go_wp2_with (go_at_call 203;refine (Zbg _ _ hvz).mono ?_;rintro e w2 ⟨rfl,rfl⟩)
            go_round
            case rel=>exact⟨k+1,by rw [HE2.out],by go_num,by omega⟩
            case measure=>simp [intOf];omega
      · have he:k=V.length:=by have:=HN.out;omega
        subst he;go_wp2;go_ret;exact⟨Zaz (by have:=HE.out;omega),HB1.out⟩
    | false=>
     have HE:Hid (ZdJ Ss kind V r=0+ZeB r x.fields V V.length):=by unfold Hid;rw [HQ.out,hk];rfl
     go_wp2
     go_loop [9,10] (fun n i=>∃ k:Nat,n=.int .i64 (0+ZeB r x.fields V k)∧i=.int .i64 k∧k≤x.fields.length) (fun _ i=>x.fields.length - (intOf i).toNat)
     case atStart=>exact⟨0,by simp [ZeB],rfl,by omega⟩
     case round=>
      obtain⟨k,rfl,rfl,hkl⟩:=hrel
      by_cases hlt:k < x.fields.length
      · have hlv:k < V.length:=by have:=HN.out;omega
        obtain⟨fb,foff,rfl,hfb,hfc⟩:=HF.out.full' (by omega);obtain⟨hsz,wv,hcell,-⟩:=hfc k hlt;obtain⟨c0,c1,c2,c3,c4,c5,c6,c7,c8,c9,c10⟩:=hcell;obtain⟨vb,voff,rfl,hvb,hvc,hvs⟩:=HV1.out.spread (by omega);have hvk:=hvc k hlv;have hvz:V[k].size≤maxLen:=hvs _ (List.getElem_mem hlv);have HST:=Zab (ZjV (r:=r) hlt hlv);have HDN:=Zab (ZkZ V[k]);have hbd:=HBD.out k;have hbn:=Zid V[k];have hW:ZqY r x.fields[k] V[k]=if (x.fields[k].kd == 1&&x.fields[k].we.toList == r.toList)=true then Zic V[k] else 0:=rfl
        have HW:=Zab hW;clear hfc hvc hvs c0 c2 c3 c4 c5 c6 c7 c8 c9 hsz hW
        cases hk1:(x.fields[k].kd == 1) with
        | false=>
         have HE2:Hid (ZeB r x.fields V (k+1)=ZeB r x.fields V k):=by unfold Hid;rw [HST.out,HW.out,hk1];simp
         go_wp2_with (go_at_call 203;refine (Zbg _ _ hvz).mono ?_;rintro e w2 ⟨rfl,rfl⟩)
         go_round
         case rel=>exact⟨k+1,by rw [HE2.out];congr 1;omega,by go_num,by omega⟩
         case measure=>simp [intOf];omega
        | true=>
         cases hk2:(x.fields[k].we.toList == r.toList) with
         | false=>
          have HE2:Hid (ZeB r x.fields V (k+1)=ZeB r x.fields V k):=by unfold Hid;rw [HST.out,HW.out,hk1,hk2];simp
          go_wp2_with (go_at_call 203;refine (Zbg _ _ hvz).mono ?_;rintro e w2 ⟨rfl,rfl⟩)
          go_round
          case rel=>exact⟨k+1,by rw [HE2.out];congr 1;omega,by go_num,by omega⟩
          case measure=>simp [intOf];omega
         | true=>
          by_cases hn:0 < Zk9 V[k]
          · have HE2:Hid (ZeB r x.fields V (k+1)=ZeB r x.fields V k+Zk9 V[k]):=by unfold Hid;rw [HST.out,HW.out,hk1,hk2,HDN.out,if_pos hn];simp
            have hb2:=HBD.out (k+1);rw [HE2.out] at hb2
            push_cast at hb2
            go_wp2_with (go_at_call 203;refine (Zbg _ _ hvz).mono ?_;rintro e w2 ⟨rfl,rfl⟩)
            go_round
            case rel=>exact⟨k+1,by rw [HE2.out];congr 1;omega,by go_num,by omega⟩
            case measure=>simp [intOf];omega
          · have HE2:Hid (ZeB r x.fields V (k+1)=ZeB r x.fields V k):=by unfold Hid;rw [HST.out,HW.out,hk1,hk2,HDN.out,if_neg hn];simp
            go_wp2_with (go_at_call 203;refine (Zbg _ _ hvz).mono ?_;rintro e w2 ⟨rfl,rfl⟩)
            go_round
            case rel=>exact⟨k+1,by rw [HE2.out];congr 1;omega,by go_num,by omega⟩
            case measure=>simp [intOf];omega
      · have he:k=V.length:=by have:=HN.out;omega
        subst he;go_wp2;go_ret;exact⟨Zaz (by have:=HE.out;omega),HB1.out⟩
 · have HQ:=Zab (Zlu (r:=r) hno)
   clear hb1 HO HB hno;go_wp2;go_ret;exact⟨Zaz HQ.out.symm,HB1.out⟩
end
end Go.Proofs.YtcfjmagkinpaeaaGreat
namespace Go.Proofs.YtcfjmagkinpaeaaGreat
open Go.RowKit Go.Deep Go.Shelf
attribute [local go_sem] Oper.semAt_some
theorem Zhc {w w':World} (h:Zw_ w w'):w.grownBy w' none:=
 ⟨h.os,h.tape,h.output,h.size,fun k hk _=>h.block k hk⟩
theorem Zbs {β:Type} {B:Nat} {J:β→World→Prop} (h:AbidesFrom B J) {s:β} {W W':World} (hs:J s W) (hb:Below W.heap.size W W'):J s W':=
 h s W W' none hs (Zhc hb) (fun r e=>by cases e)
structure ZaT (S:Nat→Prop) (B:Nat) (W W':World):Prop where
 os:W'.os=W.os
 tape:W'.tape=W.tape
 output:W'.output=W.output
 size:W.heap.size≤W'.heap.size
 same:∀ k o,W.heap[k]?=some o→¬ S k→(o.isCells=true∨k < B)→W'.heap[k]?=some o
theorem ZaT.refl (S:Nat→Prop) (B:Nat) (W:World):ZaT S B W W:=⟨rfl,rfl,rfl,Nat.le_refl _,fun _ _ h _ _=>h⟩
theorem ZaT.trans {S:Nat→Prop} {B:Nat} {W W' W'':World} (h:ZaT S B W W') (k:ZaT S B W' W''):ZaT S B W W'':=
 ⟨k.os.trans h.os,k.tape.trans h.tape,k.output.trans h.output,Nat.le_trans h.size k.size,fun i o hi hs ho=>k.same i o (h.same i o hi hs ho) hs ho⟩
theorem ZaT.put {S:Nat→Prop} {w:World} (W:World) (l:Nat) (o o':Obj) (hl:w.heap.size≤l) (h:W.heap[l]?=some o) (hc:o.isCells=false) (_:o.isWalk=false):ZaT S w.heap.size W (W.putObj l o'):=by
 have hg:=grownBy_putObj' W l o';refine⟨hg.os,hg.tape,hg.output,hg.size,fun k x hk _ hx=>?_⟩
 by_cases e:k=l
 · subst e
   rw [h] at hk
   cases hk
   rcases hx with hx | hx
   · rw [hc] at hx;cases hx
   · omega
 · rw [hg.block k (Array.getElem?_eq_some_iff.1 hk).1 (fun e'=>e (Option.some.inj e'))]
   exact hk
theorem ZaT.below {S:Nat→Prop} {B m:Nat} {W W':World} (h:ZaT S B W W') (hm:m≤W.heap.size) (hS:∀ k,k < m→¬ S k) (hB:m≤B):Below m W W':=by
 refine⟨h.os,h.tape,h.output,h.size,fun k hk=>?_⟩;have hlt:k < W.heap.size:=Zk_ hk hm
 rw [Array.getElem?_eq_getElem hlt];exact h.same k _ (Array.getElem?_eq_getElem hlt) (hS k hk) (Or.inr (Zk_ hk hB))
theorem ZaT.cell {S:Nat→Prop} {B:Nat} {W W':World} {p:Addr} {v:Value} (h:ZaT S B W W') (hc:W.cell? p=some v) (hS:¬ S p.block):W'.cell? p=some v:=by
 obtain⟨o,ho,hc'⟩:=cells_of_cell hc;exact (World.cell?_of_block ((h.same _ o ho hS (Or.inl hc')).trans ho.symm)).trans hc
def Za1 (Fs:List Fd) (V:List Zy_):Nat→List (Zy_×Int)
 | 0=>[]
 | k+1=>Za1 Fs V k ++ (match Fs[k]?,V[k]? with | some f,some s=>if (f.kd == 1&&!f.we.toList.isEmpty)=true then [(f.we,Zic s)] else [] | _,_=>[])
theorem Zg5 {Fs:List Fd} {V:List Zy_} {k:Nat} (hf:k < Fs.length) (hv:k < V.length):Za1 Fs V (k+1)=Za1 Fs V k ++ (if (Fs[k].kd == 1&&!Fs[k].we.toList.isEmpty)=true then [(Fs[k].we,Zic V[k])] else []):=by
 rw [Za1];simp [hf,hv]
theorem ZfB (Fs:List Fd) (V:List Zy_) (k:Nat):(Za1 Fs V k).length≤k:=by
 induction k with
 | zero=>simp [Za1]
 | succ k ih=>
  rw [Za1,List.length_append]
  split
  · split
    · simp;omega
    · simp;omega
  · simp;omega
def Zds (kind:Zy_):List (Zy_×Int):=if kind.toList.isEmpty=true then [] else [(kind,1)]
def Zem (Ss:List Sh) (kind:Zy_) (V:List Zy_):List (Zy_×Int):=
 match Zb3 Ss kind with
 | some x=>if x.fields.length=V.length then Zds kind ++ Za1 x.fields V V.length else []
 | none=>[]
theorem ZiS {Ss:List Sh} {kind:Zy_} {V:List Zy_} (h:∀ x,Zb3 Ss kind=some x→x.fields.length≠V.length):Zem Ss kind V=[]:=by
 unfold Zem
 cases hs:Zb3 Ss kind with
 | none=>rfl
 | some x=>simp [h x hs]
theorem ZjS {Ss:List Sh} {kind:Zy_} {V:List Zy_} {x:Sh} (h:Zb3 Ss kind=some x) (hl:x.fields.length=V.length):Zem Ss kind V=Zds kind ++ Za1 x.fields V V.length:=by
 unfold Zem;rw [h];simp [hl]
def Zmo (r:Zy_) (L:List (Zy_×Int)):Int:=(L.map fun p=>if (p.1.toList == r.toList)=true then p.2 else 0).sum
theorem Zev (r:Zy_):Zmo r []=0:=rfl
theorem Ze0 (r:Zy_) (A B:List (Zy_×Int)):Zmo r (A ++ B)=Zmo r A+Zmo r B:=by simp [Zmo]
theorem Zga (r:Zy_) (p:Zy_×Int):Zmo r [p]=if (p.1.toList == r.toList)=true then p.2 else 0:=by simp [Zmo]
theorem Zmq {r:Zy_} (hr:r.toList.isEmpty=false) (Fs:List Fd) (V:List Zy_) (k:Nat):Zmo r (Za1 Fs V k)=ZeB r Fs V k:=by
 induction k with
 | zero=>rfl
 | succ k ih=>
  rw [Za1,ZeB,Ze0,ih]
  congr 1
  generalize Fs[k]?=fo;generalize V[k]?=so
  cases fo with
  | none=>rfl
  | some f=>
   cases so with
   | none=>rfl
   | some s=>
    dsimp only;unfold ZqY
    cases h1:(f.kd == 1) with
    | false=>simp [Zev]
    | true=>
     cases h2:f.we.toList.isEmpty with
     | false=>simp [Zga]
     | true=>
      have:(f.we.toList == r.toList)=false:=by
       rw [List.isEmpty_iff.1 h2]
       cases hq:r.toList with
       | nil=>rw [hq] at hr;simp at hr
       | cons _ _=>rfl
      simp [Zev,this]
theorem Zmp {r:Zy_} (hr:r.toList.isEmpty=true) (Fs:List Fd) (V:List Zy_) (k:Nat):Zmo r (Za1 Fs V k)=0:=by
 induction k with
 | zero=>rfl
 | succ k ih=>
  rw [Za1,Ze0,ih]
  split
  · rename_i f s _ _
    cases h2:f.we.toList.isEmpty with
    | true=>simp [Zev]
    | false=>
     have:(f.we.toList == r.toList)=false:=by
      rw [List.isEmpty_iff.1 hr]
      cases hq:f.we.toList with
      | nil=>rw [hq] at h2;simp at h2
      | cons _ _=>rfl
     split
     · simp [Zga,this]
     · simp [Zev]
  · simp [Zev]
theorem Zmr (Ss:List Sh) (kind:Zy_) (V:List Zy_) (r:Zy_):Zmo r (Zem Ss kind V)=ZdJ Ss kind V r:=by
 by_cases hn:∀ x,Zb3 Ss kind=some x→x.fields.length≠V.length
 · rw [ZiS hn,Zlu hn];rfl
 · obtain⟨x,hx,hl⟩:∃ x,Zb3 Ss kind=some x∧x.fields.length=V.length:=Classical.byContradiction fun h=>hn fun x hx hl=>h ⟨x,hx,hl⟩
   rw [ZjS hx hl,Ze0]
   cases hr:r.toList.isEmpty with
   | true=>
    rw [ZjK hr,Zmp hr];unfold Zds
    cases hk:kind.toList.isEmpty with
    | true=>rfl
    | false=>
     have:(kind.toList == r.toList)=false:=by
      rw [List.isEmpty_iff.1 hr]
      cases hq:kind.toList with
      | nil=>rw [hq] at hk;simp at hk
      | cons _ _=>rfl
     simp [Zga,this]
   | false=>
    rw [ZjL hx hl hr,Zmq hr]
    congr 1
    unfold Zds
    cases hk:kind.toList.isEmpty with
    | true=>
     have:(r.toList == kind.toList)=false:=by
      rw [List.isEmpty_iff.1 hk]
      cases hq:r.toList with
      | nil=>rw [hq] at hr;simp at hr
      | cons _ _=>rfl
     simp [Zev,this]
    | false=>
     simp only [Bool.false_eq_true,if_false,Zga]
     by_cases h:kind.toList=r.toList
     · simp [h]
     · have h':¬ r.toList=kind.toList:=fun e=>h e.symm
       simp [h,h']
section
variable (lo:Nat) (sv:Value) (Ss:List Sh) (kind nm team:Zy_) (vv hv:Value) (en:Bool) (ver:Int) (V Ho:List Zy_) (w:World)
theorem ZmQ (F:Fence) (n:Nat) (hf:F.fn 192) (hro:F.round=none) (a:Option Addr) (ln cap:Nat) (va:Option Addr) (vn vcap:Nat) (ha:Option Addr) (hn hcap:Nat) :
 CallsIn F n prog 192 #[.slice a ln cap,.agg #[.string kind,.string nm,.string team,.slice va vn vcap,.bool en,.slice ha hn hcap,.int .i64 ver]] w
  fun e w'=>e=.returned (.func (.func 229) #[] #[.pointer (some ⟨w.heap.size,0,none⟩),.pointer (some ⟨w.heap.size+1,0,none⟩)])∧
   w'=(w.alloc (.cells #[.slice a ln cap] 39)).alloc (.cells #[.string kind,.string nm,.string team,.slice va vn vcap,.bool en,.slice ha hn hcap,.int .i64 ver] 160):=by
 refine callsIn_of_wp func192 rfl hf ?_ hro;simp only [ntmps192,List.size_toArray,List.length_cons,List.length_nil,Nat.reduceAdd,Nat.reduceSub,Array.replicate_succ,Array.replicate_zero,List.push_toArray,List.append_toArray,List.nil_append,List.cons_append]
 gi_wp2
 go_ret;exact⟨rfl,rfl⟩
end
end Go.Proofs.YtcfjmagkinpaeaaGreat
namespace Go.Proofs.YtcfjmagkinpaeaaGreat
open Go.RowKit Go.Deep Go.Maps Go.ChangeMaps Go.MapKept
open Go.WideElems (Fit)
theorem ZdC {H:Type} {P:Program} {w w':World} {k:TypeId} {R:Value→Option (DataW H×List MemPlace)} {b n:Nat} {D:DataW H} (h:w.ownsMap P k R b n D) (hb:w'.heap[b]?=w.heap[b]?):w'.ownsMap P k R b n D:=by
 obtain⟨es,clock,h1,h2,h3,h4⟩:=h;exact⟨es,clock,hb.trans h1,h2,h3,h4⟩
theorem Zi2 {H:Type} {P:Program} {w:World} {t k e:TypeId} {q:IntKind} (L:WideMaps.KeyLaw P k) (ht:P.underlying t=some (.map k e)) (he:P.underlying e=some (.int q))
 (hz:∀ u:World,(zeroValue e).run P u=.ok (.int q 0) u) {b n:Nat} {D:DataW H} (h:w.ownsMap P k (plainElem P e) b n D) (hn:n < maxLen) {key:Value} {kl:Lit} (hkey:keyOf P k key=some kl) :
 ∃ (c:Int) (v0:Value) (st:Nat) (w1:World),(Instr.mapEntry t (.map (some b)) key).run P w=.ok (.tuple #[v0,goInt st]) w1∧D.atKey kl (.lit (.int q 0))=.lit (.int q c)∧(Lit.int q c).wf=true∧
  (Instr.lookup t (.map (some b)) key false).run P w=.ok (.int q c) w∧(Instr.lookup t (.map (some b)) key false).run P w1=.ok (.int q c) w1∧w.grownBy w1 (some b)∧w1.heap.size=w.heap.size∧
  ∀ (val:Int),(Lit.int q val).wf=true→∃ w2,(Instr.entryStore t (.map (some b)) (goInt st) (.int q val)).run P w1=.ok () w2∧w2.ownsMap P k (plainElem P e) b (n+1) (D.put kl (.lit (.int q val)))∧w.grownBy w2 (some b)∧w2.heap.size=w.heap.size:=by
 have K:Keyed P k:=Keyed.of_law L;have hw0:(Lit.int q 0).wf=true:=by cases q <;> decide
 obtain⟨c,hl,hat,hwc⟩:=h.lookup_int K ht he (hz w) hkey;have hup:=h.update K ht hn hkey (plainElem_int (H:=H) he hw0);have hups:∀ val:Int,(Lit.int q val).wf=true→_:=fun val hv=>h.update K ht hn hkey (plainElem_int (H:=H) he hv)
 have h':=h;obtain⟨es,clock,hb,F,hs,hD⟩:=h;obtain⟨v0,st,es1,clock1,hrun,-,hst⟩:=WideElems.entry_then_store L ht hz hb F hkey;have hone:(setBlock w b (.map es1 clock1)).heap[b]?=some (.map es1 clock1):=heap_setBlock_same hb _;have hgr:∀ o,w.grownBy (setBlock w b o) (some b):=fun o=>⟨rfl,rfl,rfl,by simp [setBlock],fun i _ hi=>heap_setBlock_other hb _ (fun e=>hi (by rw [e]))⟩
 have hlook:(Instr.lookup t (.map (some b)) key false).run P (setBlock w b (.map es1 clock1))=.ok (.int q c) (setBlock w b (.map es1 clock1)):=by
  rcases L.find w hkey es.toList F.keys with ⟨h1,h2⟩ | ⟨j,e0,h1,h2,h3⟩
  · have hm:(Instr.mapEntry t (.map (some b)) key).run P w=.ok (.tuple #[.int q 0,goInt clock]) (setBlock w b (.map (es.push ⟨key,.int q 0,clock⟩) (clock+1))):=by
     simp [Instr.mapEntry,run_underlying ht,MapKept.run_getObj_map hb,L.check w false hkey,h1,hz,MapKept.run_setObj_map _ hb,Result.andThen,setBlock]
    have hu:(Instr.mapUpdate t (.map (some b)) key (.int q 0)).run P w=.ok () (setBlock w b (.map (es.push ⟨key,.int q 0,clock⟩) (clock+1))):=by
     simp [Instr.mapUpdate,run_underlying ht,MapKept.run_getObj_map hb,L.check w false hkey,h1,MapKept.run_setObj_map _ hb,Result.andThen,setBlock]
    obtain⟨w',hr',ho',-⟩:=hup;rw [hu] at hr';rw [hm] at hrun;have e1:setBlock w b (.map (es.push ⟨key,.int q 0,clock⟩) (clock+1))=setBlock w b (.map es1 clock1):=by injection hrun
    have e2:setBlock w b (.map (es.push ⟨key,.int q 0,clock⟩) (clock+1))=w':=by injection hr'
    rw [← e2,e1] at ho';obtain⟨c',hl',hat',-⟩:=ho'.lookup_int K ht he (hz _) hkey
    have hc0:c=0:=by
     have hlk:(Instr.lookup t (.map (some b)) key false).run P w=.ok (.int q 0) w:=by
      simp [Instr.lookup,run_underlying ht,MapKept.run_getObj_map hb,L.check w _ hkey,h1,hz,Result.andThen]
     rw [hl] at hlk;injection hlk with e
     injection e
    rw [atKey_put_same (by rw [hD];exact⟨_,rfl⟩) (K.key hkey)] at hat'
    have:c'=0:=by
     injection hat' with e
     injection e with _ e
     exact e.symm
    rw [hc0,← this];exact hl'
  · have hj:es[j]?=some e0:=by simpa using h2
    have hsame:es.modify j (fun e=>{ e with key:=key })=es:=by
     apply Array.ext';rw [Array.toList_modify];apply List.ext_getElem?;intro i;rw [List.getElem?_modify]
     by_cases ij:j=i
     · subst ij
       rw [h2];simp [← h3]
     · simp [ij]
    have hm:(Instr.mapEntry t (.map (some b)) key).run P w=.ok (.tuple #[e0.val,goInt e0.born]) (setBlock w b (.map es clock)):=by
     simp [Instr.mapEntry,run_underlying ht,MapKept.run_getObj_map hb,L.check w false hkey,h1,hj,h3,L.stays w hkey,hsame,MapKept.run_setObj_map _ hb,Result.andThen,setBlock]
    rw [hm] at hrun;have e1:setBlock w b (.map es clock)=setBlock w b (.map es1 clock1):=by injection hrun
    have ho:(setBlock w b (.map es1 clock1)).ownsMap P k (plainElem P e) b n D:=by
     rw [← e1];exact ZdC h' ((heap_setBlock_same hb _).trans hb.symm)
    obtain⟨c',hl',hat',-⟩:=ho.lookup_int K ht he (hz _) hkey;rw [hat] at hat'
    have:c=c':=by
     injection hat' with e
     injection e with _ e
    rw [this];exact hl'
 refine⟨c,v0,st,_,hrun,hat,hwc,hl,hlook,hgr _,by simp [setBlock],fun val hv=>?_⟩;obtain⟨es',clock',hrs,hmu⟩:=hst _ (.int q val) hone;obtain⟨w',hr',ho',hg'⟩:=hups val hv;rw [hmu] at hr';have e2:setBlock w b (.map es' clock')=w':=by injection hr'
 refine⟨_,hrs,ZdC ho' ?_,?_,by simp [setBlock]⟩
 · rw [heap_setBlock_same hone,← e2,heap_setBlock_same hb]
 · exact (hgr _).trans ⟨rfl,rfl,rfl,by simp [setBlock],fun i _ hi=>heap_setBlock_other hone _ (fun e=>hi (by rw [e]))⟩
end Go.Proofs.YtcfjmagkinpaeaaGreat
namespace Go.Proofs.YtcfjmagkinpaeaaGreat
open Go.RowKit Go.Deep Go.Maps Go.ChangeMaps Go.MapKept
def Ze4 (a b:Zy_):Lit:=.string (keyBytes [.string a.data.toList,.string b.data.toList])
structure ZeH (P:Program) (k s:TypeId):Prop where
 ex:∃ f0 f1:Field,P.underlying k=some (.struct #[f0,f1])∧f0.type=s∧f1.type=s∧f0.offset=0∧f1.offset=1∧f0.name≠ "_"∧f1.name≠ "_"
 ty:P.keyType k=true
 cs:P.cellsOf k=2
 st:P.underlying s=some .string
 one:P.cellsOf s=1
 sz:0 < P.types.size
theorem ZeH.mk' {P:Program} {k s:TypeId} (h:ZeH P k s) {a b:Zy_} (ha:a.size≤maxLen) (hb:b.size≤maxLen):keyOf P k (.agg #[.string a,.string b])=some (Ze4 a b):=by
 obtain⟨f0,f1,hu,h0,h1,o0,o1,n0,n1⟩:=h.ex;obtain⟨n,hn⟩:∃ n,P.types.size=n+1:=⟨P.types.size - 1,by have:=h.sz;omega⟩
 simp [keyOf,hu,h.ty,Value.formed,h.cs,hn,Program.keyLits,h.st,h.one,Value.cells,ha,hb,Ze4,h0,h1,o0,o1,n0,n1]
theorem ZeH.wide {P:Program} {k s:TypeId} (h:ZeH P k s):(match P.underlying k with | some (.array _ _) | some (.struct _)=>true | _=>false)=true:=by
 obtain⟨f0,f1,hu,-⟩:=h.ex;rw [hu]
theorem Zk7 {P:Program} {s:TypeId} (hs:P.underlying s=some .string) {d:Nat} {cs:List Value} {L:List Lit} (h:P.keyLits (d+1) s cs=some L):∃ a:Zy_,cs=[.string a]∧L=[.string a.data.toList]∧a.size≤maxLen:=by
 unfold Program.keyLits at h;rw [hs] at h
 split at h <;> simp_all
theorem ZeH.inv {P:Program} {k s:TypeId} (h:ZeH P k s) {key:Value} {kl:Lit} (hk:keyOf P k key=some kl):∃ a b:Zy_,key=.agg #[.string a,.string b]∧kl=Ze4 a b∧a.size≤maxLen∧b.size≤maxLen:=by
 obtain⟨f0,f1,hu,h0,h1,o0,o1,n0,n1⟩:=h.ex;obtain⟨n,hn⟩:∃ n,P.types.size=n+1:=⟨P.types.size - 1,by have:=h.sz;omega⟩
 obtain⟨xs,L,rfl,hL,rfl⟩:=keyOf_top h.wide hk;obtain⟨xs⟩:=xs;rw [hn] at hL;unfold Program.keyLits at hL;rw [hu] at hL;simp only [h.cs] at hL
 split at hL
 · rename_i hc
   obtain⟨hl,-⟩:=hc
   match xs,hl with
   | [c0,c1],_=>
    simp only [List.mapM_cons,List.mapM_nil,h0,h1,o0,o1,h.one,List.drop_zero,List.take_succ_cons,List.take_zero,List.drop_succ_cons,Option.map_eq_some_iff] at hL;obtain⟨M,hM,rfl⟩:=hL
    cases e0:P.keyLits (n+1) s [c0] with
    | none=>simp [e0] at hM
    | some L0=>
     cases e1:P.keyLits (n+1) s [c1] with
     | none=>simp [e0,e1] at hM
     | some L1=>
      obtain⟨a,ea,rfl,sa⟩:=Zk7 h.st e0;obtain⟨b,eb,rfl,sb⟩:=Zk7 h.st e1;injection ea with ea
      injection eb with eb
      subst ea eb;simp [e0,e1] at hM;subst hM;exact⟨a,b,rfl,rfl,sa,sb⟩
 · cases hL
theorem ZeH.inj {P:Program} {k s:TypeId} (h:ZeH P k s) (K:WideMaps.KeyLaw P k) {a b a' b':Zy_} (ha:a.size≤maxLen) (hb:b.size≤maxLen) (ha':a'.size≤maxLen) (hb':b'.size≤maxLen) (e:Ze4 a b=Ze4 a' b'):a=a'∧b=b':=by
 have e:=K.inj (h.mk' ha hb) (e ▸ h.mk' ha' hb')
 simpa using e
theorem Zgi:ZeH prog 230 9:=
 ⟨⟨_,_,underlying230,rfl,rfl,rfl,rfl,by decide,by decide⟩,by kernel_rfl,by kernel_rfl,underlying9,by kernel_rfl,of_decide_eq_true (by kernel_rfl)⟩
theorem Zm3:laidOutB prog=true:=by kernel_rfl
theorem Zsi:(230:TypeId) < prog.types.size:=of_decide_eq_true (by kernel_rfl)
theorem Ztf:prog.keyTypeAt 2 230=true:=by kernel_rfl
theorem ZkX:WideMaps.KeyLaw prog 230:=deep_law_laid Zm3 (by decide) Zsi Ztf Zgi.wide
theorem Zh9:Keyed prog 230:=Keyed.of_law ZkX
theorem Zia (w:World):(zeroValue 3).run prog w=.ok (.int .i64 0) w:=by kernel_rfl
end Go.Proofs.YtcfjmagkinpaeaaGreat
