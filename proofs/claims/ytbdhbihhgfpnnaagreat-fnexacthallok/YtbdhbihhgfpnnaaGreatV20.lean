import Derived.Test.YtbdhbihhgfpnnaaGreatV19
import Derived.Deep.MidRow
set_option maxHeartbeats 16000000
set_option maxRecDepth 100000
open Go.Proofs.Tryz
namespace Go.Proofs.YtbdhbihhgfpnnaaGreat
open Go.RowKit Go.Deep
variable {lo:Nat} {w w':World} {B:Bk} {T:Sb} {cs:List Value}
def hdL (B:Bk) (T:Sb) (a0 a1 a2 a3 a4 a5 a6:Option Addr) (k0 k1 k2 k3 k4 k5 k6:Nat):List Value:=[.int .i64 B.now,.int .i64 B.tick,.int .i64 B.given,.slice a0 B.os.length k0,.slice a1 B.gs.length k1,.slice a2 B.ls.length k2,.slice a3 B.ps.length k3,.int .i64 T.now,.slice a4 T.ss.length k4,.slice a5 T.cs.length k5,.slice a6 T.bs.length k6]
structure ZpP (lo:Nat) (w:World) (v0 v1 v2 v3 v4 v5 v6:Value) (B:Bk) (T:Sb):Prop where
 g:Za2 lo w v0 v1 v2 v3 B
 s:Zc5 lo w v4 v5 v6 T
def HdC (lo:Nat) (w:World) (cs:List Value) (B:Bk) (T:Sb):Prop:=∃ a0 k0 a1 k1 a2 k2 a3 k3 a4 k4 a5 k5 a6 k6,cs=hdL B T a0 a1 a2 a3 a4 a5 a6 k0 k1 k2 k3 k4 k5 k6/\ZpP lo w (.slice a0 B.os.length k0) (.slice a1 B.gs.length k1) (.slice a2 B.ls.length k2) (.slice a3 B.ps.length k3) (.slice a4 T.ss.length k4) (.slice a5 T.cs.length k5) (.slice a6 T.bs.length k6) B T
theorem ZpP.below {v0 v1 v2 v3 v4 v5 v6:Value} (h:ZpP lo w v0 v1 v2 v3 v4 v5 v6 B T) (hb:Zw_ w w'):ZpP lo w' v0 v1 v2 v3 v4 v5 v6 B T:=⟨h.g.below hb,h.s.below hb⟩
theorem HdC.below (h:HdC lo w cs B T) (hb:Zw_ w w'):HdC lo w' cs B T:=by
 obtain⟨a0,k0,a1,k1,a2,k2,a3,k3,a4,k4,a5,k5,a6,k6,h1,h2⟩:=h;exact⟨a0,k0,a1,k1,a2,k2,a3,k3,a4,k4,a5,k5,a6,k6,h1,h2.below hb⟩
theorem HdC.mono {lo':Nat} (h:HdC lo w cs B T) (hl:lo'<=lo):HdC lo' w cs B T:=by
 obtain⟨a0,k0,a1,k1,a2,k2,a3,k3,a4,k4,a5,k5,a6,k6,h1,h2⟩:=h;exact⟨a0,k0,a1,k1,a2,k2,a3,k3,a4,k4,a5,k5,a6,k6,h1,⟨h2.g.mono hl,h2.s.mono hl⟩⟩
theorem Za2.setLow {ov gv lv pv:Value} (h:Za2 lo w ov gv lv pv B) {p:Addr} (hp:p.block < lo) (u:Value):Za2 lo (w.setCell p u) ov gv lv pv B:=⟨h.obs.set hp u,h.grs.set hp u,h.les.set hp u,h.pus.set hp u⟩
theorem Zso (lo:Nat) (cs:List Value) (B:Bk) (T:Sb) (left:Int) (w:World) (h0:0<=left) (h1:left<=1048576) (h:HdC lo w cs B T) :
 Calls prog 5 #[.agg cs.toArray,.int .i64 left] w
  fun e w'=>∃ r:Int,e=.returned (.int .i64 r)/\Zw_ w w'/\-1<=r/\r<=left/\(0<=r->Zbl B/\Zdz T):=by
 obtain⟨a0,k0,a1,k1,a2,k2,a3,k3,a4,k4,a5,k5,a6,k6,rfl,h⟩:=h
 show Calls prog 5 #[.agg #[.int .i64 B.now,.int .i64 B.tick,.int .i64 B.given,.slice a0 B.os.length k0,.slice a1 B.gs.length k1,.slice a2 B.ls.length k2,.slice a3 B.ps.length k3,.int .i64 T.now,.slice a4 T.ss.length k4,.slice a5 T.cs.length k5,.slice a6 T.bs.length k6],.int .i64 left] w _
 have HL:=Zab h;clear h;go_enter func5,ntmps5;go_wp2_with fail;generalize hWa:w.alloc _=Wa;have HB:Hd (Zw_ w Wa):=by unfold Hd;rw [<- hWa];exact Zac _ _
 have FX:Hd (Box Wa w.heap.size #[.int .i64 B.now,.int .i64 B.tick,.int .i64 B.given,.slice a0 B.os.length k0,.slice a1 B.gs.length k1,.slice a2 B.ls.length k2,.slice a3 B.ps.length k3,.int .i64 T.now,.slice a4 T.ss.length k4,.slice a5 T.cs.length k5,.slice a6 T.bs.length k6]):=by unfold Hd;rw [<- hWa];exact Box.new _ _ _ _ rfl
 clear hWa;refine (ZmB lo _ _ _ _ B _ _ (by omega) (by omega) ((HL.o.below HB.o).g)).mono ?_;rintro e w0 ⟨q0,rfl,hb,p0a,p0b,p0c⟩;have Q0:=Zab p0c;replace HB:=Zab (bt HB.o hb);replace FX:=Zab (FX.o.on hb);clear hb p0c
 by_cases m0:q0 < 0
 . go_wp2
   go_ret;exact⟨-1,rfl,HB.o,by omega,by omega,fun h=>by omega⟩
 have g0:=FX.o.cell;go_wp2_with fail;clear g0;refine (ZpA lo _ _ _ T _ _ (by omega) (by omega) ((HL.o.below HB.o).s)).mono ?_;rintro e w1 ⟨q1,rfl,hb,p1a,p1b,p1c⟩;have Q1:=Zab p1c;replace HB:=Zab (bt HB.o hb);replace FX:=Zab (FX.o.on hb);clear hb p1c
 by_cases m1:q1 < 0
 . go_wp2
   go_ret;exact⟨-1,rfl,HB.o,by omega,by omega,fun h=>by omega⟩
 go_wp2;go_ret;exact⟨_,rfl,HB.o,by omega,by omega,fun h=>⟨Q0.o (by omega),Q1.o (by omega)⟩⟩
theorem ZrQ (lo lo':Nat) (cs cs':List Value) (B:Bk) (T:Sb) (w:World) (h:HdC lo w cs B T) (h':HdC lo' w cs' B T) :
 Calls prog 11 #[.agg cs.toArray,.agg cs'.toArray] w fun e w'=>e=.returned (.bool true)/\Zw_ w w':=by
 obtain⟨a0,k0,a1,k1,a2,k2,a3,k3,a4,k4,a5,k5,a6,k6,rfl,h⟩:=h;obtain⟨d0,e0,d1,e1,d2,e2,d3,e3,d4,e4,d5,e5,d6,e6,rfl,h'⟩:=h'
 show Calls prog 11 #[.agg #[.int .i64 B.now,.int .i64 B.tick,.int .i64 B.given,.slice a0 B.os.length k0,.slice a1 B.gs.length k1,.slice a2 B.ls.length k2,.slice a3 B.ps.length k3,.int .i64 T.now,.slice a4 T.ss.length k4,.slice a5 T.cs.length k5,.slice a6 T.bs.length k6],.agg #[.int .i64 B.now,.int .i64 B.tick,.int .i64 B.given,.slice d0 B.os.length e0,.slice d1 B.gs.length e1,.slice d2 B.ls.length e2,.slice d3 B.ps.length e3,.int .i64 T.now,.slice d4 T.ss.length e4,.slice d5 T.cs.length e5,.slice d6 T.bs.length e6]] w _
 have HL:=Zab h;have HR:=Zab h';clear h h';go_enter func11,ntmps11;go_wp2_with fail;generalize hWa:(World.alloc (w.alloc _) _)=Wa;have HB:Hd (Zw_ w Wa):=by unfold Hd;rw [<- hWa];exact (Zac w _).alloc (by simp) _
 have FX:Hd (Box Wa w.heap.size #[.int .i64 B.now,.int .i64 B.tick,.int .i64 B.given,.slice a0 B.os.length k0,.slice a1 B.gs.length k1,.slice a2 B.ls.length k2,.slice a3 B.ps.length k3,.int .i64 T.now,.slice a4 T.ss.length k4,.slice a5 T.cs.length k5,.slice a6 T.bs.length k6]):=by unfold Hd;rw [<- hWa];exact (Box.new _ _ _ _ rfl).on (Zac _ _)
 have FY:Hd (Box Wa (w.heap.size+1) #[.int .i64 B.now,.int .i64 B.tick,.int .i64 B.given,.slice d0 B.os.length e0,.slice d1 B.gs.length e1,.slice d2 B.ls.length e2,.slice d3 B.ps.length e3,.int .i64 T.now,.slice d4 T.ss.length e4,.slice d5 T.cs.length e5,.slice d6 T.bs.length e6]):=by unfold Hd;rw [<- hWa];exact Box.new _ _ _ _ (by simp)
 clear hWa;refine (Zkh lo _ _ _ _ B _ lo' _ _ _ _ ((HL.o.below HB.o).g) ((HR.o.below HB.o).g)).mono ?_;rintro e w0 ⟨rfl,hb⟩;replace HB:=Zab (bt HB.o hb);replace FX:=Zab (FX.o.on hb);replace FY:=Zab (FY.o.on hb);clear hb;have g0:=FX.o.cell;have g1:=FY.o.cell;go_wp2_with fail;clear g0 g1;refine (Znt lo _ _ _ T _ lo' _ _ _ ((HL.o.below HB.o).s) ((HR.o.below HB.o).s)).mono ?_;rintro e w1 ⟨rfl,hb⟩;replace HB:=Zab (bt HB.o hb);clear hb FX FY;go_wp2;go_ret;exact⟨rfl,HB.o⟩
theorem Zox (lo:Nat) (cs:List Value) (B:Bk) (T:Sb) (w:World) (h:HdC lo w cs B T) (hn:Zbl B/\Zdz T) :
 Calls prog 8 #[.agg cs.toArray] w
  fun e w'=>∃ cs',e=.returned (.agg cs'.toArray)/\Zw_ w w'/\HdC w.heap.size w' cs' B T:=by
 obtain⟨a0,k0,a1,k1,a2,k2,a3,k3,a4,k4,a5,k5,a6,k6,rfl,h⟩:=h
 show Calls prog 8 #[.agg #[.int .i64 B.now,.int .i64 B.tick,.int .i64 B.given,.slice a0 B.os.length k0,.slice a1 B.gs.length k1,.slice a2 B.ls.length k2,.slice a3 B.ps.length k3,.int .i64 T.now,.slice a4 T.ss.length k4,.slice a5 T.cs.length k5,.slice a6 T.bs.length k6]] w _
 have HL:=Zab h;obtain⟨hn0,hn1⟩:=hn;clear h;go_enter func8,ntmps8;go_wp2_with fail
 obtain⟨wz,hwz,FX,FR,FO,HB⟩:∃ wz,wz=((w.alloc (.cells #[.int .i64 B.now,.int .i64 B.tick,.int .i64 B.given,.slice a0 B.os.length k0,.slice a1 B.gs.length k1,.slice a2 B.ls.length k2,.slice a3 B.ps.length k3,.int .i64 T.now,.slice a4 T.ss.length k4,.slice a5 T.cs.length k5,.slice a6 T.bs.length k6] 37)).alloc (.cells #[.int .i64 0,.int .i64 0,.int .i64 0,.slice none 0 0,.slice none 0 0,.slice none 0 0,.slice none 0 0,.int .i64 0,.slice none 0 0,.slice none 0 0,.slice none 0 0] 57)).alloc (.cells #[.int .i64 0,.int .i64 0,.int .i64 0,.slice none 0 0,.slice none 0 0,.slice none 0 0,.slice none 0 0,.int .i64 0,.slice none 0 0,.slice none 0 0,.slice none 0 0] 57)/\
  Hd (Box wz w.heap.size #[.int .i64 B.now,.int .i64 B.tick,.int .i64 B.given,.slice a0 B.os.length k0,.slice a1 B.gs.length k1,.slice a2 B.ls.length k2,.slice a3 B.ps.length k3,.int .i64 T.now,.slice a4 T.ss.length k4,.slice a5 T.cs.length k5,.slice a6 T.bs.length k6])/\Hd (Box wz (w.heap.size+1) #[.int .i64 0,.int .i64 0,.int .i64 0,.slice none 0 0,.slice none 0 0,.slice none 0 0,.slice none 0 0,.int .i64 0,.slice none 0 0,.slice none 0 0,.slice none 0 0])/\Hd (Box wz (w.heap.size+1+1) #[.int .i64 0,.int .i64 0,.int .i64 0,.slice none 0 0,.slice none 0 0,.slice none 0 0,.slice none 0 0,.int .i64 0,.slice none 0 0,.slice none 0 0,.slice none 0 0])/\Hd (Zw_ w wz):=
  ⟨_,rfl,((Box.new w _ _ _ rfl).on (Zac _ _)).on (Zac _ _),(Box.new _ _ _ _ (by simp)).on (Zac _ _),Box.new _ _ _ _ (by simp),((Zac _ _).trans ((Zac _ _).mono (by simp))).trans ((Zac _ _).mono (by simp;omega))⟩
 rw [<- hwz];clear hwz;generalize wz=v0 at*;have hz0:w.heap.size+3<=v0.heap.size:=by have:=FO.o.lt;omega
 refine (ZmH lo _ _ _ _ B _ ((HL.o.below HB.o).g) hn0).mono ?_;rintro e x0 ⟨b0,m0,b1,m1,b2,m2,b3,m3,rfl,hb,hs⟩;have N0:=Zab (hs.mono hz0);replace FX:=Zab (FX.o.on hb);replace FR:=Zab (FR.o.on hb);replace FO:=Zab (FO.o.on hb);replace HB:=Zab (bt HB.o hb);clear hb hs hz0;have g0:=FO.o.cell;have g1:=FO.o.free;have g2:=FX.o.cell;go_wp2_with fail;clear g0 g1 g2;generalize hwq:(((((((x0.setCell _ _).setCell _ _).setCell _ _).setCell _ _).setCell _ _).setCell _ _).setCell _ _)=v1
 replace HB:Hd (Zw_ w v1):=by
  unfold Hd;rw [<- hwq]
  repeat (refine Below.setCell ?_ (by simp only [];omega) _)
  exact HB.o
 have GX:Hd (Box v1 w.heap.size #[.int .i64 B.now,.int .i64 B.tick,.int .i64 B.given,.slice a0 B.os.length k0,.slice a1 B.gs.length k1,.slice a2 B.ls.length k2,.slice a3 B.ps.length k3,.int .i64 T.now,.slice a4 T.ss.length k4,.slice a5 T.cs.length k5,.slice a6 T.bs.length k6]):=by
  unfold Hd;rw [<- hwq]
  repeat (refine Box.setFar ?_ (by simp only [];omega) _)
  exact FX.o
 have GR:Hd (Box v1 (w.heap.size+1) #[.int .i64 0,.int .i64 0,.int .i64 0,.slice none 0 0,.slice none 0 0,.slice none 0 0,.slice none 0 0,.int .i64 0,.slice none 0 0,.slice none 0 0,.slice none 0 0]):=by
  unfold Hd;rw [<- hwq]
  repeat (refine Box.setFar ?_ (by simp only [];omega) _)
  exact FR.o
 have GO:Hd (Box v1 (w.heap.size+1+1) #[.int .i64 B.now,.int .i64 B.tick,.int .i64 B.given,.slice b0 B.os.length m0,.slice b1 B.gs.length m1,.slice b2 B.ls.length m2,.slice b3 B.ps.length m3,.int .i64 0,.slice none 0 0,.slice none 0 0,.slice none 0 0]):=by
  unfold Hd;rw [<- hwq];exact (((((((FO.o.set (k:=0) _ (by simp)).set (k:=1) _ (by simp)).set (k:=2) _ (by simp)).set (k:=3) _ (by simp)).set (k:=4) _ (by simp)).set (k:=5) _ (by simp)).set (k:=6) _ (by simp))
 have M0:Hd (Za2 (w.heap.size+3) v1 (.slice b0 B.os.length m0) (.slice b1 B.gs.length m1) (.slice b2 B.ls.length m2) (.slice b3 B.ps.length m3) B):=by
  unfold Hd;rw [<- hwq]
  repeat (refine Za2.setLow ?_ (by simp only [];omega) _)
  exact N0.o
 clear hwq FX FR FO N0;have hz1:w.heap.size+3<=v1.heap.size:=by have:=GO.o.lt;omega
 refine (ZpL lo _ _ _ T _ ((HL.o.below HB.o).s) hn1).mono ?_;rintro e x1 ⟨b4,m4,b5,m5,b6,m6,rfl,hb,hs⟩;have N1:=Zab (hs.mono hz1);replace GX:=Zab (GX.o.on hb);replace GR:=Zab (GR.o.on hb);replace GO:=Zab (GO.o.on hb);replace HB:=Zab (bt HB.o hb);replace M0:=Zab (M0.o.below hb);clear hb hs hz1;have g0:=GO.o.cell;have g1:=GO.o.free;have g2:=GR.o.cell;have g3:=GR.o.free;have g4:=GX.o.cell;go_wp2;refine bodyPost_ret (v:=.agg #[.int .i64 B.now,.int .i64 B.tick,.int .i64 B.given,.slice b0 B.os.length m0,.slice b1 B.gs.length m1,.slice b2 B.ls.length m2,.slice b3 B.ps.length m3,.int .i64 T.now,.slice b4 T.ss.length m4,.slice b5 T.cs.length m5,.slice b6 T.bs.length m6]) (by simp [results,results8,go_sem,g2]) rfl ⟨hdL B T b0 b1 b2 b3 b4 b5 b6 m0 m1 m2 m3 m4 m5 m6,rfl,?_,b0,m0,b1,m1,b2,m2,b3,m3,b4,m4,b5,m5,b6,m6,rfl,⟨?_,?_⟩⟩
 . repeat (refine Below.setCell ?_ (by simp only [];omega) _)
   exact HB.o
 . refine Za2.mono (lo:=w.heap.size+3) ?_ (by omega)
   repeat (refine Za2.setLow ?_ (by simp only [];omega) _)
   exact M0.o
 . refine Zc5.mono (lo:=w.heap.size+3) ?_ (by omega)
   repeat (refine Zc5.set ?_ (by simp only [];omega) _)
   exact N1.o
end Go.Proofs.YtbdhbihhgfpnnaaGreat
