import Derived.Test.YtcfjmagkinpaeaaGreatGBBL
import Derived.Test.YtcfjmagkinpaeaaGreatGTE
set_option maxHeartbeats 16000000
set_option maxRecDepth 100000
open Go.Proofs.Tryz
namespace Go.Proofs.YtcfjmagkinpaeaaGreat
open Go.RowKit Go.Deep
structure Ak where
 who:Zy_
 verb:Int
 kd:Zy_
 nm:Zy_
 tm:Zy_
 vs:List Zy_
 hs:List Zy_
 seen:Int
 hold:Zy_
 tw:Zy_
 vb:List Int
 rk:Zy_
 rt:Zy_
 rp:Zy_
 num:Int
def Ak.ru (A:Ak):Ru:=⟨A.vb,A.rk,A.rt,A.rp⟩
structure ZmY (A:Ak):Prop where
 who:A.who.size≤maxLen
 kd:A.kd.size≤maxLen
 nm:A.nm.size≤maxLen
 tm:A.tm.size≤maxLen
 hold:A.hold.size≤maxLen
 tw:A.tw.size≤maxLen
 rk:A.rk.size≤maxLen
 rt:A.rt.size≤maxLen
 rp:A.rp.size≤maxLen
def Zj0 (A:Ak):Prop:=A.vs.length≤1048576∧A.hs.length≤1048576∧A.vb.length≤1048576
structure Za6 (lo:Nat) (w:World) (va ha qa:Value) (A:Ak):Prop where
 vs:Zan lo w va A.vs
 hs:Zan lo w ha A.hs
 vb:Zap lo w qa A.vb
 sz:ZmY A
theorem Za6.below {lo:Nat} {w w':World} {va ha qa:Value} {A:Ak} (h:Za6 lo w va ha qa A) (hb:Zw_ w w'):Za6 lo w' va ha qa A:=⟨h.vs.below hb,h.hs.below hb,h.vb.below hb,h.sz⟩
theorem Za6.mono {lo lo':Nat} {w:World} {va ha qa:Value} {A:Ak} (h:Za6 lo w va ha qa A) (hl:lo'≤lo):Za6 lo' w va ha qa A:=⟨h.vs.mono hl,h.hs.mono hl,h.vb.mono hl,h.sz⟩
theorem ZmY.ru {A:Ak} (h:ZmY A):Zdk A.ru:=⟨h.rk,h.rt,h.rp⟩
section
variable (lo:Nat) (va ha qa:Value) (A:Ak) (w:World)
theorem Zol (left:Int) (h0:0≤left) (h1:left≤1048576) (h:Za6 lo w va ha qa A) :
 Calls prog 196 #[.agg #[.string A.who,.int .i64 A.verb,.string A.kd,.string A.nm,.string A.tm,va,ha,.int .i64 A.seen,.string A.hold,.string A.tw,qa,.string A.rk,.string A.rt,.string A.rp,.int .i64 A.num],.int .i64 left] w
  fun e w'=>∃ r:Int,e=.returned (.int .i64 r)∧Zw_ w w'∧-1≤r∧r≤left∧(0≤r→Zj0 A):=by
 have HL:=Zab h;obtain⟨y1,y2,y3,y4,y5,y6,y7,y8,y9⟩:=h.sz;unfold maxLen at y1 y2 y3 y4 y5 y6 y7 y8 y9;obtain⟨a0,k0,rfl⟩:=h.vs.at.form';obtain⟨a1,k1,rfl⟩:=h.hs.at.form';obtain⟨a2,k2,rfl⟩:=h.vb.form;clear h;have HW:∀ o,Hid (Zw_ w (w.alloc o)):=fun o=>Zac _ _
 by_cases n1:left - (A.who.size:Int) < 0
 · go_enter func196,ntmps196
   go_wp2;go_ret;exact⟨-1,rfl,(HW _).out,by omega,by omega,fun h=>by omega⟩
 by_cases n2:left - (A.who.size:Int) - (A.kd.size:Int) < 0
 · go_enter func196,ntmps196
   go_wp2;go_ret;exact⟨-1,rfl,(HW _).out,by omega,by omega,fun h=>by omega⟩
 by_cases n3:left - (A.who.size:Int) - (A.kd.size:Int) - (A.nm.size:Int) < 0
 · go_enter func196,ntmps196
   go_wp2;go_ret;exact⟨-1,rfl,(HW _).out,by omega,by omega,fun h=>by omega⟩
 by_cases n4:left - (A.who.size:Int) - (A.kd.size:Int) - (A.nm.size:Int) - (A.tm.size:Int) < 0
 · go_enter func196,ntmps196
   go_wp2;go_ret;exact⟨-1,rfl,(HW _).out,by omega,by omega,fun h=>by omega⟩
 go_enter func196,ntmps196;go_wp2_with fail;refine (ZdE _ A.vs _ _ (by omega) (by omega) (HL.out.below (HW _).out).vs.at).mono ?_;rintro e w1 ⟨q1,rfl,rfl,p1,p2,p3⟩;have Q1:=Zab p3;clear p3
 by_cases m1:q1 < 0
 · go_wp2
   go_ret;exact⟨-1,rfl,(HW _).out,by omega,by omega,fun h=>by omega⟩
 go_wp2_with fail;refine (ZdE _ A.hs _ _ (by omega) (by omega) (HL.out.below (HW _).out).hs.at).mono ?_;rintro e w1 ⟨q2,rfl,rfl,p4,p5,p6⟩;have Q2:=Zab p6;clear p6
 by_cases m2:q2 < 0
 · go_wp2
   go_ret;exact⟨-1,rfl,(HW _).out,by omega,by omega,fun h=>by omega⟩
 by_cases m3:q2 - (A.hold.size:Int) < 0
 · go_wp2
   go_ret;exact⟨-1,rfl,(HW _).out,by omega,by omega,fun h=>by omega⟩
 by_cases m4:q2 - (A.hold.size:Int) - (A.tw.size:Int) < 0
 · go_wp2
   go_ret;exact⟨-1,rfl,(HW _).out,by omega,by omega,fun h=>by omega⟩
 go_wp2_with fail;refine (ZhR lo A.ru _ _ _ (by omega) (by omega) (HL.out.below (HW _).out).vb HL.out.sz.ru).mono ?_;rintro e w2 ⟨q3,rfl,hb2,p7,p8,p9⟩;have Q3:=Zab p9;have HB2:=Zab ((HW _).out.trans (hb2.mono (HW _).out.size));clear p9 hb2
 by_cases m5:q3 < 0
 · go_wp2
   go_ret;exact⟨-1,rfl,HB2.out,by omega,by omega,fun h=>by omega⟩
 go_wp2;go_ret;refine⟨_,rfl,HB2.out,by omega,by omega,fun h=>⟨?_,?_,?_⟩⟩
 · have:=Q1.out (by omega);omega
 · have:=Q2.out (by omega);omega
 · have:(A.ru.vb.length:Int)≤_:=Q3.out (by omega)
   show A.vb.length≤1048576
   unfold Ak.ru at this;simp only [] at this
   omega
theorem ZlK (lo':Nat) (va' ha' qa':Value) (h:Za6 lo w va ha qa A) (h':Za6 lo' w va' ha' qa' A) :
 Calls prog 222 #[.agg #[.string A.who,.int .i64 A.verb,.string A.kd,.string A.nm,.string A.tm,va,ha,.int .i64 A.seen,.string A.hold,.string A.tw,qa,.string A.rk,.string A.rt,.string A.rp,.int .i64 A.num],.agg #[.string A.who,.int .i64 A.verb,.string A.kd,.string A.nm,.string A.tm,va',ha',.int .i64 A.seen,.string A.hold,.string A.tw,qa',.string A.rk,.string A.rt,.string A.rp,.int .i64 A.num]] w fun e w'=>e=.returned (.bool true)∧Zw_ w w':=by
 have HL:=Zab h;have HR:=Zab h';obtain⟨a0,k0,rfl⟩:=h.vs.at.form';obtain⟨a1,k1,rfl⟩:=h.hs.at.form';obtain⟨a2,k2,rfl⟩:=h.vb.form;obtain⟨d0,e0,rfl⟩:=h'.vs.at.form';obtain⟨d1,e1,rfl⟩:=h'.hs.at.form';obtain⟨d2,e2,rfl⟩:=h'.vb.form;clear h h';go_enter func222,ntmps222;go_wp2_with fail;generalize hWa:(World.alloc (w.alloc _) _)=Wa;have HB0:Hid (Zw_ w Wa):=by rw [← hWa];exact (Zac w _).alloc (by simp) _
 have HX0:Hid (Box Wa w.heap.size #[.string A.who,.int .i64 A.verb,.string A.kd,.string A.nm,.string A.tm,.slice a0 A.vs.length k0,.slice a1 A.hs.length k1,.int .i64 A.seen,.string A.hold,.string A.tw,.slice a2 A.vb.length k2,.string A.rk,.string A.rt,.string A.rp,.int .i64 A.num]):=by rw [← hWa];exact (Box.new _ _ _ _ rfl).on (Zac _ _)
 have HY0:Hid (Box Wa (w.heap.size+1) #[.string A.who,.int .i64 A.verb,.string A.kd,.string A.nm,.string A.tm,.slice d0 A.vs.length e0,.slice d1 A.hs.length e1,.int .i64 A.seen,.string A.hold,.string A.tw,.slice d2 A.vb.length e2,.string A.rk,.string A.rt,.string A.rp,.int .i64 A.num]):=by rw [← hWa];exact Box.new _ _ _ _ (by simp)
 clear hWa;refine (Zc2 _ _ A.vs _ (HL.out.below HB0.out).vs.at (HR.out.below HB0.out).vs.at).mono ?_;rintro e w1 ⟨rfl,hb1⟩;have HX1:=Zab (HX0.out.on hb1);have HY1:=Zab (HY0.out.on hb1);have HB1:Hid (Zw_ w w1):=HB0.out.trans (hb1.mono HB0.out.size);clear hb1 HB0 HX0 HY0;have c1:=HX1.out.cell 6;have e1:=HY1.out.cell 6;simp at c1 e1;go_wp2_with fail;clear c1 e1;refine (Zc2 _ _ A.hs _ (HL.out.below HB1.out).hs.at (HR.out.below HB1.out).hs.at).mono ?_;rintro e w2 ⟨rfl,hb2⟩;have HX2:=Zab (HX1.out.on hb2);have HY2:=Zab (HY1.out.on hb2);have HB2:Hid (Zw_ w w2):=HB1.out.trans (hb2.mono HB1.out.size);clear hb2 HB1 HX1 HY1;have c7:=HX2.out.cell 7;have e7:=HY2.out.cell 7;have c8:=HX2.out.cell 8;have e8:=HY2.out.cell 8;have c9:=HX2.out.cell 9;have e9:=HY2.out.cell 9;have c10:=HX2.out.cell 10;have e10:=HY2.out.cell 10;have c11:=HX2.out.cell 11
 have e11:=HY2.out.cell 11;have c12:=HX2.out.cell 12;have e12:=HY2.out.cell 12;have c13:=HX2.out.cell 13;have e13:=HY2.out.cell 13;simp at c7 e7 c8 e8 c9 e9 c10 e10 c11 e11 c12 e12 c13 e13;go_wp2_with fail;clear c7 e7 c8 e8 c9 e9 c10 e10 c11 e11 c12 e12 c13 e13;refine (Zgt lo lo' A.ru _ _ _ (HL.out.below HB2.out).vb (HR.out.below HB2.out).vb).mono ?_;rintro e w3 ⟨rfl,hb3⟩;have HX3:=Zab (HX2.out.on hb3);have HY3:=Zab (HY2.out.on hb3);have HB3:Hid (Zw_ w w3):=HB2.out.trans (hb3.mono HB2.out.size);clear hb3 HB2 HX2 HY2;have c1:=HX3.out.cell 14;have e1:=HY3.out.cell 14;simp at c1 e1;go_wp2;go_ret;exact⟨rfl,HB3.out⟩
theorem ZoE (h:Za6 lo w va ha qa A) (hn:Zj0 A) :
 Calls prog 206 #[.agg #[.string A.who,.int .i64 A.verb,.string A.kd,.string A.nm,.string A.tm,va,ha,.int .i64 A.seen,.string A.hold,.string A.tw,qa,.string A.rk,.string A.rt,.string A.rp,.int .i64 A.num]] w
  fun e w'=>∃ b0 m0 b1 m1 b2 m2,e=.returned (.agg #[.string A.who,.int .i64 A.verb,.string A.kd,.string A.nm,.string A.tm,.slice b0 A.vs.length m0,.slice b1 A.hs.length m1,.int .i64 A.seen,.string A.hold,.string A.tw,.slice b2 A.vb.length m2,.string A.rk,.string A.rt,.string A.rp,.int .i64 A.num])∧Zw_ w w'∧
   Za6 w.heap.size w' (.slice b0 A.vs.length m0) (.slice b1 A.hs.length m1) (.slice b2 A.vb.length m2) A:=by
 have HL:=Zab h;have HSZ:=Zab h.sz;obtain⟨a0,k0,rfl⟩:=h.vs.at.form';obtain⟨a1,k1,rfl⟩:=h.hs.at.form';obtain⟨a2,k2,rfl⟩:=h.vb.form;obtain⟨hn0,hn1,hn2⟩:=hn;clear h;go_enter func206,ntmps206;go_wp2_with fail
 obtain⟨wz,hwz,HX0,HR0,HO0,HB0⟩:∃ wz,wz=((w.alloc (.cells #[.string A.who,.int .i64 A.verb,.string A.kd,.string A.nm,.string A.tm,.slice a0 A.vs.length k0,.slice a1 A.hs.length k1,.int .i64 A.seen,.string A.hold,.string A.tw,.slice a2 A.vb.length k2,.string A.rk,.string A.rt,.string A.rp,.int .i64 A.num] 239)).alloc (.cells #[.string ⟨#[]⟩,.int .i64 0,.string ⟨#[]⟩,.string ⟨#[]⟩,.string ⟨#[]⟩,.slice none 0 0,.slice none 0 0,.int .i64 0,.string ⟨#[]⟩,.string ⟨#[]⟩,.slice none 0 0,.string ⟨#[]⟩,.string ⟨#[]⟩,.string ⟨#[]⟩,.int .i64 0] 122)).alloc (.cells #[.string A.who,.int .i64 A.verb,.string A.kd,.string A.nm,.string A.tm,.slice none 0 0,.slice none 0 0,.int .i64 0,.string ⟨#[]⟩,.string ⟨#[]⟩,.slice none 0 0,.string ⟨#[]⟩,.string ⟨#[]⟩,.string ⟨#[]⟩,.int .i64 0] 122)∧
  Hid (Box wz w.heap.size #[.string A.who,.int .i64 A.verb,.string A.kd,.string A.nm,.string A.tm,.slice a0 A.vs.length k0,.slice a1 A.hs.length k1,.int .i64 A.seen,.string A.hold,.string A.tw,.slice a2 A.vb.length k2,.string A.rk,.string A.rt,.string A.rp,.int .i64 A.num])∧Hid (Box wz (w.heap.size+1) #[.string ⟨#[]⟩,.int .i64 0,.string ⟨#[]⟩,.string ⟨#[]⟩,.string ⟨#[]⟩,.slice none 0 0,.slice none 0 0,.int .i64 0,.string ⟨#[]⟩,.string ⟨#[]⟩,.slice none 0 0,.string ⟨#[]⟩,.string ⟨#[]⟩,.string ⟨#[]⟩,.int .i64 0])∧Hid (Box wz (w.heap.size+1+1) #[.string A.who,.int .i64 A.verb,.string A.kd,.string A.nm,.string A.tm,.slice none 0 0,.slice none 0 0,.int .i64 0,.string ⟨#[]⟩,.string ⟨#[]⟩,.slice none 0 0,.string ⟨#[]⟩,.string ⟨#[]⟩,.string ⟨#[]⟩,.int .i64 0])∧Hid (Zw_ w wz):=
  ⟨_,rfl,((Box.new w _ _ _ rfl).on (Zac _ _)).on (Zac _ _),(Box.new _ _ _ _ (by simp)).on (Zac _ _),Box.new _ _ _ _ (by simp),((Zac _ _).trans ((Zac _ _).mono (by simp))).trans ((Zac _ _).mono (by simp;omega))⟩
 rw [← hwz];clear hwz;generalize wz=v0 at*;have hz0:w.heap.size+3≤v0.heap.size:=by have:=HO0.out.lt;omega
 refine (ZdI _ A.vs _ (HL.out.below HB0.out).vs.at hn0).mono ?_;rintro e w0 ⟨u0,rfl,hb0,hs0⟩;obtain⟨b0,m0,rfl⟩:=hs0.at.form';have GX:=Zab (HX0.out.on hb0);have GR:=Zab (HR0.out.on hb0);have GO:=Zab (HO0.out.on hb0);have GB:=Zab (HB0.out.trans (hb0.mono HB0.out.size));have GN:Hid (Zan (w.heap.size+3) w0 (.slice b0 A.vs.length m0) A.vs):=hs0.mono hz0;clear hb0 hs0 HX0 HR0 HO0 HB0 hz0;have o0:=GO.out.cell 5;have f0:=GO.out.free 5;have x1:=GX.out.cell 6;simp at o0 f0 x1;go_wp2_with fail;clear o0 f0 x1
 obtain⟨v1,hwq,HX1,HR1,HO1,HB1,HS0⟩:∃ wq,wq=w0.setCell ⟨w.heap.size+1+1,5,none⟩ (.slice b0 A.vs.length m0)∧
  Hid (Box wq w.heap.size #[.string A.who,.int .i64 A.verb,.string A.kd,.string A.nm,.string A.tm,.slice a0 A.vs.length k0,.slice a1 A.hs.length k1,.int .i64 A.seen,.string A.hold,.string A.tw,.slice a2 A.vb.length k2,.string A.rk,.string A.rt,.string A.rp,.int .i64 A.num])∧Hid (Box wq (w.heap.size+1) #[.string ⟨#[]⟩,.int .i64 0,.string ⟨#[]⟩,.string ⟨#[]⟩,.string ⟨#[]⟩,.slice none 0 0,.slice none 0 0,.int .i64 0,.string ⟨#[]⟩,.string ⟨#[]⟩,.slice none 0 0,.string ⟨#[]⟩,.string ⟨#[]⟩,.string ⟨#[]⟩,.int .i64 0])∧
  Hid (Box wq (w.heap.size+1+1) #[.string A.who,.int .i64 A.verb,.string A.kd,.string A.nm,.string A.tm,.slice b0 A.vs.length m0,.slice none 0 0,.int .i64 0,.string ⟨#[]⟩,.string ⟨#[]⟩,.slice none 0 0,.string ⟨#[]⟩,.string ⟨#[]⟩,.string ⟨#[]⟩,.int .i64 0])∧Hid (Zw_ w wq)∧Hid (Zan (w.heap.size+3) wq (.slice b0 A.vs.length m0) A.vs):=
  ⟨_,rfl,GX.out.setFar (by simp only [];omega) _,GR.out.setFar (by simp only [];omega) _,GO.out.set (k:=5) (.slice b0 A.vs.length m0) (by simp),GB.out.setCell (by simp only [];omega) _,GN.out.setCell (by simp only [];omega) _⟩
 rw [← hwq];clear hwq GX GR GO GB GN;have hz1:w.heap.size+3≤v1.heap.size:=by have:=HO1.out.lt;omega
 refine (ZdI _ A.hs _ (HL.out.below HB1.out).hs.at hn1).mono ?_;rintro e w1 ⟨u1,rfl,hb1,hs1⟩;obtain⟨b1,m1,rfl⟩:=hs1.at.form';have GX:=Zab (HX1.out.on hb1);have GR:=Zab (HR1.out.on hb1);have GO:=Zab (HO1.out.on hb1);have GB:=Zab (HB1.out.trans (hb1.mono HB1.out.size));have GN:Hid (Zan (w.heap.size+3) w1 (.slice b1 A.hs.length m1) A.hs):=hs1.mono hz1;have G0:=Zab (HS0.out.below hb1);clear hb1 hs1 HX1 HR1 HO1 HB1 hz1 HS0;have o0:=GO.out.cell;have f0:=GO.out.free;have x1:=GX.out.cell;go_wp2_with fail;clear o0 f0 x1
 obtain⟨v2,hwq,HX2,HR2,HO2,HB2,HS1,HS0⟩:∃ wq,wq=(((w1.setCell ⟨w.heap.size+1+1,6,none⟩ (.slice b1 A.hs.length m1)).setCell ⟨w.heap.size+1+1,7,none⟩ (.int .i64 A.seen)).setCell ⟨w.heap.size+1+1,8,none⟩ (.string A.hold)).setCell ⟨w.heap.size+1+1,9,none⟩ (.string A.tw)∧
  Hid (Box wq w.heap.size #[.string A.who,.int .i64 A.verb,.string A.kd,.string A.nm,.string A.tm,.slice a0 A.vs.length k0,.slice a1 A.hs.length k1,.int .i64 A.seen,.string A.hold,.string A.tw,.slice a2 A.vb.length k2,.string A.rk,.string A.rt,.string A.rp,.int .i64 A.num])∧Hid (Box wq (w.heap.size+1) #[.string ⟨#[]⟩,.int .i64 0,.string ⟨#[]⟩,.string ⟨#[]⟩,.string ⟨#[]⟩,.slice none 0 0,.slice none 0 0,.int .i64 0,.string ⟨#[]⟩,.string ⟨#[]⟩,.slice none 0 0,.string ⟨#[]⟩,.string ⟨#[]⟩,.string ⟨#[]⟩,.int .i64 0])∧
  Hid (Box wq (w.heap.size+1+1) #[.string A.who,.int .i64 A.verb,.string A.kd,.string A.nm,.string A.tm,.slice b0 A.vs.length m0,.slice b1 A.hs.length m1,.int .i64 A.seen,.string A.hold,.string A.tw,.slice none 0 0,.string ⟨#[]⟩,.string ⟨#[]⟩,.string ⟨#[]⟩,.int .i64 0])∧Hid (Zw_ w wq)∧Hid (Zan (w.heap.size+3) wq (.slice b1 A.hs.length m1) A.hs)∧Hid (Zan (w.heap.size+3) wq (.slice b0 A.vs.length m0) A.vs):=
  ⟨_,rfl,((((GX.out.setFar (by simp only [];omega) (.slice b1 A.hs.length m1)).setFar (by simp only [];omega) (.int .i64 A.seen)).setFar (by simp only [];omega) (.string A.hold)).setFar (by simp only [];omega) (.string A.tw)),((((GR.out.setFar (by simp only [];omega) (.slice b1 A.hs.length m1)).setFar (by simp only [];omega) (.int .i64 A.seen)).setFar (by simp only [];omega) (.string A.hold)).setFar (by simp only [];omega) (.string A.tw)),((((GO.out.set (k:=6) (.slice b1 A.hs.length m1) (by simp)).set (k:=7) (.int .i64 A.seen) (by simp)).set (k:=8) (.string A.hold) (by simp)).set (k:=9) (.string A.tw) (by simp)),((((GB.out.setCell (by simp only [];omega) (.slice b1 A.hs.length m1)).setCell (by simp only [];omega) (.int .i64 A.seen)).setCell (by simp only [];omega) (.string A.hold)).setCell (by simp only [];omega) (.string A.tw)),((((GN.out.setCell (by simp only [];omega) (.slice b1 A.hs.length m1)).setCell (by simp only [];omega) (.int .i64 A.seen)).setCell (by simp only [];omega) (.string A.hold)).setCell (by simp only [];omega) (.string A.tw)),((((G0.out.setCell (by simp only [];omega) (.slice b1 A.hs.length m1)).setCell (by simp only [];omega) (.int .i64 A.seen)).setCell (by simp only [];omega) (.string A.hold)).setCell (by simp only [];omega) (.string A.tw))⟩
 rw [← hwq];clear hwq GX GR GO GB GN G0;have hz2:w.heap.size+3≤v2.heap.size:=by have:=HO2.out.lt;omega
 refine (ZhT lo A.ru _ _ (HL.out.below HB2.out).vb hn2).mono ?_;rintro e w2 ⟨u2,rfl,hb2,hs2⟩;obtain⟨b2,m2,rfl⟩:=hs2.form;have GX:=Zab (HX2.out.on hb2);have GR:=Zab (HR2.out.on hb2);have GO:=Zab (HO2.out.on hb2);have GB:=Zab (HB2.out.trans (hb2.mono HB2.out.size));have GN:Hid (Zap (w.heap.size+3) w2 (.slice b2 A.vb.length m2) A.vb):=hs2.mono hz2;have G0:=Zab (HS0.out.below hb2);have G1:=Zab (HS1.out.below hb2);clear hb2 hs2 HX2 HR2 HO2 HB2 hz2 HS0 HS1;have x14:=GX.out.cell 14;have o0:=GO.out.cell 0;have f0:=GO.out.free 0;have r0:=GR.out.cell 0;have g0:=GR.out.free 0;have o1:=GO.out.cell 1;have f1:=GO.out.free 1;have r1:=GR.out.cell 1;have g1:=GR.out.free 1;have o2:=GO.out.cell 2;have f2:=GO.out.free 2;have r2:=GR.out.cell 2;have g2:=GR.out.free 2;have o3:=GO.out.cell 3;have f3:=GO.out.free 3;have r3:=GR.out.cell 3;have g3:=GR.out.free 3;have o4:=GO.out.cell 4
 have f4:=GO.out.free 4;have r4:=GR.out.cell 4;have g4:=GR.out.free 4;have o5:=GO.out.cell 5;have f5:=GO.out.free 5;have r5:=GR.out.cell 5;have g5:=GR.out.free 5;have o6:=GO.out.cell 6;have f6:=GO.out.free 6;have r6:=GR.out.cell 6;have g6:=GR.out.free 6;have o7:=GO.out.cell 7;have f7:=GO.out.free 7;have r7:=GR.out.cell 7;have g7:=GR.out.free 7;have o8:=GO.out.cell 8;have f8:=GO.out.free 8;have r8:=GR.out.cell 8;have g8:=GR.out.free 8;have o9:=GO.out.cell 9;have f9:=GO.out.free 9;have r9:=GR.out.cell 9;have g9:=GR.out.free 9;have o10:=GO.out.cell 10;have f10:=GO.out.free 10;have r10:=GR.out.cell 10;have g10:=GR.out.free 10;have o11:=GO.out.cell 11;have f11:=GO.out.free 11;have r11:=GR.out.cell 11;have g11:=GR.out.free 11;have o12:=GO.out.cell 12;have f12:=GO.out.free 12;have r12:=GR.out.cell 12;have g12:=GR.out.free 12;have o13:=GO.out.cell 13;have f13:=GO.out.free 13
 have r13:=GR.out.cell 13;have g13:=GR.out.free 13;have o14:=GO.out.cell 14;have f14:=GO.out.free 14;have r14:=GR.out.cell 14;have g14:=GR.out.free 14;simp at x14 o0 r0 o1 r1 o2 r2 o3 r3 o4 r4 o5 r5 o6 r6 o7 r7 o8 r8 o9 r9 o10 r10 o11 r11 o12 r12 o13 r13 o14 r14;go_wp2;refine bodyPost_ret (v:=.agg #[.string A.who,.int .i64 A.verb,.string A.kd,.string A.nm,.string A.tm,.slice b0 A.vs.length m0,.slice b1 A.hs.length m1,.int .i64 A.seen,.string A.hold,.string A.tw,.slice b2 A.vb.length m2,.string A.rk,.string A.rt,.string A.rp,.int .i64 A.num]) (by simp [results,results206,go_sem,Ak.ru,r0,r1,r2,r3,r4,r5,r6,r7,r8,r9,r10,r11,r12,r13,r14]) rfl ⟨_,_,_,_,_,_,rfl,?_,?_,?_,?_,HSZ.out⟩
 · repeat (refine Below.setCell ?_ (by simp only [];omega) _)
   exact GB.out
 · refine Zan.mono (lo:=w.heap.size+3) ?_ (by omega)
   repeat (refine Zan.setCell ?_ (by simp only [];omega) _)
   exact G0.out
 · refine Zan.mono (lo:=w.heap.size+3) ?_ (by omega)
   repeat (refine Zan.setCell ?_ (by simp only [];omega) _)
   exact G1.out
 · refine Zap.mono (lo:=w.heap.size+3) ?_ (by omega)
   repeat (refine Zap.setCell ?_ (by simp only [];omega) _)
   exact GN.out
end
end Go.Proofs.YtcfjmagkinpaeaaGreat
