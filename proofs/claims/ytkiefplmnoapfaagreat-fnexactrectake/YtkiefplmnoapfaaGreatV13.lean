import Derived.Test.YtkiefplmnoapfaaGreatV03
import Derived.Test.YtkiefplmnoapfaaGreatV05
import Derived.Test.YtkiefplmnoapfaaGreatV07
set_option maxHeartbeats 16000000
set_option maxRecDepth 100000
open Go.Proofs.Tryz
namespace Go.Proofs.YtkiefplmnoapfaaGreat
open Go.RowKit Go.Deep
variable {lo lo':Nat} {w w':World} {v0 v1 v2 v3 v4 v5 v6:Value} {cs:List Value}
structure Rr where
 nu:Int
 of:Int
 up:Bool
 sf:Rd
 dk:Rd
 he:List Rm
 wi:List Zy_
 ld:Bool
 ty:Bool
 ba:Int
 ye:List Int
 be:List Rs
 ac:List Ra
 hd:Int
variable {U:Rr}
def Zbd (U:Rr):Prop:=Zcx U.sf/\Zcx U.dk/\ZbQ U.he/\Zbf U.wi/\ZaN U.ye/\Zbe U.be/\Zb3 U.ac
structure ZfY (lo:Nat) (w:World) (v0 v1 v2 v3 v4 v5 v6:Value) (U:Rr):Prop where
 l0:Zaq lo w v0 U.sf.sl
 l1:Zaq lo w v1 U.dk.sl
 l2:Zbg lo w v2 U.he
 l3:Za2 lo w v3 U.wi
 l4:ZaJ lo w v4 U.ye
 l5:Zaq lo w v5 U.be
 l6:Zbm lo w v6 U.ac
theorem ZfY.below (h:ZfY lo w v0 v1 v2 v3 v4 v5 v6 U) (hb:Zw_ w w'):ZfY lo w' v0 v1 v2 v3 v4 v5 v6 U:=⟨h.l0.below hb,h.l1.below hb,h.l2.below hb,h.l3.below hb,h.l4.below hb,h.l5.below hb,h.l6.below hb⟩
theorem ZfY.mono (h:ZfY lo w v0 v1 v2 v3 v4 v5 v6 U) (hl:lo'<=lo):ZfY lo' w v0 v1 v2 v3 v4 v5 v6 U:=⟨h.l0.mono hl,h.l1.mono hl,h.l2.mono hl,h.l3.mono hl,h.l4.mono hl,h.l5.mono hl,h.l6.mono hl⟩
def rrL (U:Rr) (a0:Option Addr) (k0:Nat) (a1:Option Addr) (k1:Nat) (a2:Option Addr) (k2:Nat) (a3:Option Addr) (k3:Nat) (a4:Option Addr) (k4:Nat) (a5:Option Addr) (k5:Nat) (a6:Option Addr) (k6:Nat):List Value:=[.int .i64 U.nu,.int .i64 U.of,.bool U.up,.int .i64 U.sf.pr,.int .i64 U.sf.kn,.slice a0 U.sf.sl.length k0,.int .i64 U.dk.pr,.int .i64 U.dk.kn,.slice a1 U.dk.sl.length k1,.slice a2 U.he.length k2,.slice a3 U.wi.length k3,.bool U.ld,.bool U.ty,.int .i64 U.ba,.slice a4 U.ye.length k4,.slice a5 U.be.length k5,.slice a6 U.ac.length k6,.int .i64 U.hd]
def RrC (lo:Nat) (w:World) (cs:List Value) (U:Rr):Prop:=∃ a0 k0 a1 k1 a2 k2 a3 k3 a4 k4 a5 k5 a6 k6,cs=rrL U a0 k0 a1 k1 a2 k2 a3 k3 a4 k4 a5 k5 a6 k6/\ZfY lo w (.slice a0 U.sf.sl.length k0) (.slice a1 U.dk.sl.length k1) (.slice a2 U.he.length k2) (.slice a3 U.wi.length k3) (.slice a4 U.ye.length k4) (.slice a5 U.be.length k5) (.slice a6 U.ac.length k6) U
theorem RrC.below (h:RrC lo w cs U) (hb:Zw_ w w'):RrC lo w' cs U:=by
 obtain⟨a0,k0,a1,k1,a2,k2,a3,k3,a4,k4,a5,k5,a6,k6,h1,h2⟩:=h;exact⟨a0,k0,a1,k1,a2,k2,a3,k3,a4,k4,a5,k5,a6,k6,h1,h2.below hb⟩
theorem RrC.mono (h:RrC lo w cs U) (hl:lo'<=lo):RrC lo' w cs U:=by
 obtain⟨a0,k0,a1,k1,a2,k2,a3,k3,a4,k4,a5,k5,a6,k6,h1,h2⟩:=h;exact⟨a0,k0,a1,k1,a2,k2,a3,k3,a4,k4,a5,k5,a6,k6,h1,h2.mono hl⟩
theorem RrC.len (h:RrC lo w cs U):cs.length=18:=by
 obtain⟨a0,k0,a1,k1,a2,k2,a3,k3,a4,k4,a5,k5,a6,k6,h1,h2⟩:=h;rw [h1];rfl
theorem RrC.one (h:RrC lo w cs U):Array.all cs.toArray (·.oneCell')=true:=by
 obtain⟨a0,k0,a1,k1,a2,k2,a3,k3,a4,k4,a5,k5,a6,k6,h1,h2⟩:=h;rw [h1];unfold rrL;simp [Value.oneCell']
theorem ZkM (lo:Nat) (cs:List Value) (U:Rr) (left:Int) (w:World) (h0:0<=left) (h1:left<=1048576) (h:RrC lo w cs U) :
 Calls prog 5 #[.agg cs.toArray,.int .i64 left] w
  fun e w'=>∃ r:Int,e=.returned (.int .i64 r)/\Zw_ w w'/\-1<=r/\r<=left/\(0<=r->Zbd U):=by
 obtain⟨a0,k0,a1,k1,a2,k2,a3,k3,a4,k4,a5,k5,a6,k6,rfl,h⟩:=h
 show Calls prog 5 #[.agg #[.int .i64 U.nu,.int .i64 U.of,.bool U.up,.int .i64 U.sf.pr,.int .i64 U.sf.kn,.slice a0 U.sf.sl.length k0,.int .i64 U.dk.pr,.int .i64 U.dk.kn,.slice a1 U.dk.sl.length k1,.slice a2 U.he.length k2,.slice a3 U.wi.length k3,.bool U.ld,.bool U.ty,.int .i64 U.ba,.slice a4 U.ye.length k4,.slice a5 U.be.length k5,.slice a6 U.ac.length k6,.int .i64 U.hd],.int .i64 left] w _
 have HL:=Zaa h;clear h;go_enter func5,ntmps5;go_wp2_with fail;generalize hWa:w.alloc _=Wa;have HB:Hd (Zw_ w Wa):=by unfold Hd;rw [<- hWa];exact Zab _ _
 have FX:Hd (Box Wa w.heap.size #[.int .i64 U.nu,.int .i64 U.of,.bool U.up,.int .i64 U.sf.pr,.int .i64 U.sf.kn,.slice a0 U.sf.sl.length k0,.int .i64 U.dk.pr,.int .i64 U.dk.kn,.slice a1 U.dk.sl.length k1,.slice a2 U.he.length k2,.slice a3 U.wi.length k3,.bool U.ld,.bool U.ty,.int .i64 U.ba,.slice a4 U.ye.length k4,.slice a5 U.be.length k5,.slice a6 U.ac.length k6,.int .i64 U.hd]):=by unfold Hd;rw [<- hWa];exact Box.new _ _ _ _ rfl
 clear hWa;refine (ZjZ lo _ U.sf _ _ (by omega) (by omega) (⟨_,_,rfl,⟨(HL.o.below HB.o).l0⟩⟩)).mono ?_;rintro e w0 ⟨q0,rfl,hb,p0a,p0b,p0c⟩;have Q0:=Zaa p0c;replace HB:=Zaa (bt HB.o hb);replace FX:=Zaa (FX.o.on hb);clear hb p0c
 by_cases m0:q0 < 0
 . go_wp2
   go_ret;exact⟨-1,rfl,HB.o,by omega,by omega,fun h=>by omega⟩
 have g0:=FX.o.cell;go_wp2_with fail;clear g0;refine (ZjZ lo _ U.dk _ _ (by omega) (by omega) (⟨_,_,rfl,⟨(HL.o.below HB.o).l1⟩⟩)).mono ?_;rintro e w1 ⟨q1,rfl,hb,p1a,p1b,p1c⟩;have Q1:=Zaa p1c;replace HB:=Zaa (bt HB.o hb);replace FX:=Zaa (FX.o.on hb);clear hb p1c
 by_cases m1:q1 < 0
 . go_wp2
   go_ret;exact⟨-1,rfl,HB.o,by omega,by omega,fun h=>by omega⟩
 have g0:=FX.o.cell;go_wp2_with fail;clear g0;refine (ZiK lo _ U.he _ _ (by omega) (by omega) ((HL.o.below HB.o).l2)).mono ?_;rintro e w2 ⟨q2,rfl,hb,p2a,p2b,p2c⟩;have Q2:=Zaa p2c;replace HB:=Zaa (bt HB.o hb);replace FX:=Zaa (FX.o.on hb);clear hb p2c
 by_cases m2:q2 < 0
 . go_wp2
   go_ret;exact⟨-1,rfl,HB.o,by omega,by omega,fun h=>by omega⟩
 have g0:=FX.o.cell;go_wp2_with fail;clear g0;refine (ZiL lo _ U.wi _ _ (by omega) (by omega) ((HL.o.below HB.o).l3)).mono ?_;rintro e w3 ⟨q3,rfl,hb,p3a,p3b,p3c⟩;have Q3:=Zaa p3c;replace HB:=Zaa (bt HB.o hb);replace FX:=Zaa (FX.o.on hb);clear hb p3c
 by_cases m3:q3 < 0
 . go_wp2
   go_ret;exact⟨-1,rfl,HB.o,by omega,by omega,fun h=>by omega⟩
 have g0:=FX.o.cell;go_wp2_with fail;clear g0;refine (ZfP lo _ U.ye _ _ (by omega) (by omega) ((HL.o.below HB.o).l4)).mono ?_;rintro e w4 ⟨q4,rfl,hb,p4a,p4b,p4c⟩;have Q4:=Zaa p4c;replace HB:=Zaa (bt HB.o hb);replace FX:=Zaa (FX.o.on hb);clear hb p4c
 by_cases m4:q4 < 0
 . go_wp2
   go_ret;exact⟨-1,rfl,HB.o,by omega,by omega,fun h=>by omega⟩
 have g0:=FX.o.cell;go_wp2_with fail;clear g0;refine (Zen lo _ U.be _ _ (by omega) (by omega) ((HL.o.below HB.o).l5)).mono ?_;rintro e w5 ⟨q5,rfl,hb,p5a,p5b,p5c⟩;have Q5:=Zaa p5c;replace HB:=Zaa (bt HB.o hb);replace FX:=Zaa (FX.o.on hb);clear hb p5c
 by_cases m5:q5 < 0
 . go_wp2
   go_ret;exact⟨-1,rfl,HB.o,by omega,by omega,fun h=>by omega⟩
 have g0:=FX.o.cell;go_wp2_with fail;clear g0;refine (ZiJ lo _ U.ac _ _ (by omega) (by omega) ((HL.o.below HB.o).l6)).mono ?_;rintro e w6 ⟨q6,rfl,hb,p6a,p6b,p6c⟩;have Q6:=Zaa p6c;replace HB:=Zaa (bt HB.o hb);replace FX:=Zaa (FX.o.on hb);clear hb p6c
 by_cases m6:q6 < 0
 . go_wp2
   go_ret;exact⟨-1,rfl,HB.o,by omega,by omega,fun h=>by omega⟩
 go_wp2;go_ret;exact⟨_,rfl,HB.o,by omega,by omega,fun h=>⟨Q0.o (by omega),Q1.o (by omega),Q2.o (by omega),Q3.o (by omega),Q4.o (by omega),Q5.o (by omega),Q6.o (by omega)⟩⟩
theorem ZgC (lo lo':Nat) (cs cs':List Value) (U:Rr) (w:World) (h:RrC lo w cs U) (h':RrC lo' w cs' U) :
 Calls prog 11 #[.agg cs.toArray,.agg cs'.toArray] w fun e w'=>e=.returned (.bool true)/\Zw_ w w':=by
 obtain⟨a0,k0,a1,k1,a2,k2,a3,k3,a4,k4,a5,k5,a6,k6,rfl,h⟩:=h;obtain⟨d0,e0,d1,e1,d2,e2,d3,e3,d4,e4,d5,e5,d6,e6,rfl,h'⟩:=h'
 show Calls prog 11 #[.agg #[.int .i64 U.nu,.int .i64 U.of,.bool U.up,.int .i64 U.sf.pr,.int .i64 U.sf.kn,.slice a0 U.sf.sl.length k0,.int .i64 U.dk.pr,.int .i64 U.dk.kn,.slice a1 U.dk.sl.length k1,.slice a2 U.he.length k2,.slice a3 U.wi.length k3,.bool U.ld,.bool U.ty,.int .i64 U.ba,.slice a4 U.ye.length k4,.slice a5 U.be.length k5,.slice a6 U.ac.length k6,.int .i64 U.hd],.agg #[.int .i64 U.nu,.int .i64 U.of,.bool U.up,.int .i64 U.sf.pr,.int .i64 U.sf.kn,.slice d0 U.sf.sl.length e0,.int .i64 U.dk.pr,.int .i64 U.dk.kn,.slice d1 U.dk.sl.length e1,.slice d2 U.he.length e2,.slice d3 U.wi.length e3,.bool U.ld,.bool U.ty,.int .i64 U.ba,.slice d4 U.ye.length e4,.slice d5 U.be.length e5,.slice d6 U.ac.length e6,.int .i64 U.hd]] w _
 have HL:=Zaa h;have HR:=Zaa h';clear h h';go_enter func11,ntmps11;go_wp2_with fail;generalize hWa:(World.alloc (w.alloc _) _)=Wa;have HB:Hd (Zw_ w Wa):=by unfold Hd;rw [<- hWa];exact (Zab w _).alloc (by simp) _
 have FX:Hd (Box Wa w.heap.size #[.int .i64 U.nu,.int .i64 U.of,.bool U.up,.int .i64 U.sf.pr,.int .i64 U.sf.kn,.slice a0 U.sf.sl.length k0,.int .i64 U.dk.pr,.int .i64 U.dk.kn,.slice a1 U.dk.sl.length k1,.slice a2 U.he.length k2,.slice a3 U.wi.length k3,.bool U.ld,.bool U.ty,.int .i64 U.ba,.slice a4 U.ye.length k4,.slice a5 U.be.length k5,.slice a6 U.ac.length k6,.int .i64 U.hd]):=by unfold Hd;rw [<- hWa];exact (Box.new _ _ _ _ rfl).on (Zab _ _)
 have FY:Hd (Box Wa (w.heap.size+1) #[.int .i64 U.nu,.int .i64 U.of,.bool U.up,.int .i64 U.sf.pr,.int .i64 U.sf.kn,.slice d0 U.sf.sl.length e0,.int .i64 U.dk.pr,.int .i64 U.dk.kn,.slice d1 U.dk.sl.length e1,.slice d2 U.he.length e2,.slice d3 U.wi.length e3,.bool U.ld,.bool U.ty,.int .i64 U.ba,.slice d4 U.ye.length e4,.slice d5 U.be.length e5,.slice d6 U.ac.length e6,.int .i64 U.hd]):=by unfold Hd;rw [<- hWa];exact Box.new _ _ _ _ (by simp)
 clear hWa;refine (ZjU lo lo' _ _ U.sf _ (⟨_,_,rfl,⟨(HL.o.below HB.o).l0⟩⟩) (⟨_,_,rfl,⟨(HR.o.below HB.o).l0⟩⟩)).mono ?_;rintro e w0 ⟨rfl,hb⟩;replace HB:=Zaa (bt HB.o hb);replace FX:=Zaa (FX.o.on hb);replace FY:=Zaa (FY.o.on hb);clear hb;have g0:=FX.o.cell;have g1:=FY.o.cell;go_wp2_with fail;clear g0 g1;refine (ZjU lo lo' _ _ U.dk _ (⟨_,_,rfl,⟨(HL.o.below HB.o).l1⟩⟩) (⟨_,_,rfl,⟨(HR.o.below HB.o).l1⟩⟩)).mono ?_;rintro e w1 ⟨rfl,hb⟩;replace HB:=Zaa (bt HB.o hb);replace FX:=Zaa (FX.o.on hb);replace FY:=Zaa (FY.o.on hb);clear hb;have g0:=FX.o.cell;have g1:=FY.o.cell;go_wp2_with fail;clear g0 g1;refine (Zg2 lo lo' _ _ U.he _ ((HL.o.below HB.o).l2) ((HR.o.below HB.o).l2)).mono ?_;rintro e w2 ⟨rfl,hb⟩;replace HB:=Zaa (bt HB.o hb);replace FX:=Zaa (FX.o.on hb);replace FY:=Zaa (FY.o.on hb);clear hb;have g0:=FX.o.cell
 have g1:=FY.o.cell;go_wp2_with fail;clear g0 g1;refine (Zg3 lo lo' _ _ U.wi _ ((HL.o.below HB.o).l3) ((HR.o.below HB.o).l3)).mono ?_;rintro e w3 ⟨rfl,hb⟩;replace HB:=Zaa (bt HB.o hb);replace FX:=Zaa (FX.o.on hb);replace FY:=Zaa (FY.o.on hb);clear hb;have g0:=FX.o.cell;have g1:=FY.o.cell;go_wp2_with fail;clear g0 g1;refine (ZeE lo lo' _ _ U.ye _ ((HL.o.below HB.o).l4) ((HR.o.below HB.o).l4)).mono ?_;rintro e w4 ⟨rfl,hb⟩;replace HB:=Zaa (bt HB.o hb);replace FX:=Zaa (FX.o.on hb);replace FY:=Zaa (FY.o.on hb);clear hb;have g0:=FX.o.cell;have g1:=FY.o.cell;go_wp2_with fail;clear g0 g1;refine (ZdD lo lo' _ _ U.be _ ((HL.o.below HB.o).l5) ((HR.o.below HB.o).l5)).mono ?_;rintro e w5 ⟨rfl,hb⟩;replace HB:=Zaa (bt HB.o hb);replace FX:=Zaa (FX.o.on hb);replace FY:=Zaa (FY.o.on hb);clear hb;have g0:=FX.o.cell
 have g1:=FY.o.cell;go_wp2_with fail;clear g0 g1;refine (Zg1 lo lo' _ _ U.ac _ ((HL.o.below HB.o).l6) ((HR.o.below HB.o).l6)).mono ?_;rintro e w6 ⟨rfl,hb⟩;replace HB:=Zaa (bt HB.o hb);replace FX:=Zaa (FX.o.on hb);replace FY:=Zaa (FY.o.on hb);clear hb;have g0:=FX.o.cell;have g1:=FY.o.cell;go_wp2;go_ret;exact⟨rfl,HB.o⟩
end Go.Proofs.YtkiefplmnoapfaaGreat
