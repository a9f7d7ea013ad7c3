import Derived.Test.YtkiefplmnoapfaaGreatV01
import Derived.Test.YtkiefplmnoapfaaGreatV02
set_option maxHeartbeats 16000000
set_option maxRecDepth 100000
open Go.Proofs.Tryz
namespace Go.Proofs.YtkiefplmnoapfaaGreat
open Go.RowKit Go.Deep
variable {lo lo':Nat} {w w':World} {v0:Value} {cs:List Value}
structure Rm where
 kd:Int
 fr:Int
 tt:Int
 ba:Int
 ix:Int
 kn:Int
 tx:Zy_
 sl:List Rs
variable {U:Rm}
def Zcz (U:Rm):Prop:=Zbe U.sl
structure Zi9 (lo:Nat) (w:World) (v0:Value) (U:Rm):Prop where
 l0:Zaq lo w v0 U.sl
 s0:U.tx.size<=maxLen
theorem Zi9.below (h:Zi9 lo w v0 U) (hb:Zw_ w w'):Zi9 lo w' v0 U:=⟨h.l0.below hb,h.s0⟩
theorem Zi9.mono (h:Zi9 lo w v0 U) (hl:lo'<=lo):Zi9 lo' w v0 U:=⟨h.l0.mono hl,h.s0⟩
theorem Zi9.set (h:Zi9 lo w v0 U) {p:Addr} (hp:p.block < lo) (u:Value):Zi9 lo (w.setCell p u) v0 U:=⟨h.l0.set hp u,h.s0⟩
def rmL (U:Rm) (a0:Option Addr) (k0:Nat):List Value:=[.int .i64 U.kd,.int .i64 U.fr,.int .i64 U.tt,.int .i64 U.ba,.int .i64 U.ix,.int .i64 U.kn,.string U.tx,.slice a0 U.sl.length k0]
def RmC (lo:Nat) (w:World) (cs:List Value) (U:Rm):Prop:=∃ a0 k0,cs=rmL U a0 k0/\Zi9 lo w (.slice a0 U.sl.length k0) U
theorem RmC.below (h:RmC lo w cs U) (hb:Zw_ w w'):RmC lo w' cs U:=by
 obtain⟨a0,k0,h1,h2⟩:=h;exact⟨a0,k0,h1,h2.below hb⟩
theorem RmC.mono (h:RmC lo w cs U) (hl:lo'<=lo):RmC lo' w cs U:=by
 obtain⟨a0,k0,h1,h2⟩:=h;exact⟨a0,k0,h1,h2.mono hl⟩
theorem RmC.set (h:RmC lo w cs U) {p:Addr} (hp:p.block < lo) (u:Value):RmC lo (w.setCell p u) cs U:=by
 obtain⟨a0,k0,h1,h2⟩:=h;exact⟨a0,k0,h1,h2.set hp u⟩
theorem RmC.len (h:RmC lo w cs U):cs.length=8:=by
 obtain⟨a0,k0,h1,h2⟩:=h;rw [h1];rfl
theorem RmC.one (h:RmC lo w cs U):Array.all cs.toArray (·.oneCell')=true:=by
 obtain⟨a0,k0,h1,h2⟩:=h;rw [h1];unfold rmL;simp [Value.oneCell']
theorem Zj0 (lo:Nat) (cs:List Value) (U:Rm) (left:Int) (w:World) (h0:0<=left) (h1:left<=1048576) (h:RmC lo w cs U) :
 Calls prog 6 #[.agg cs.toArray,.int .i64 left] w
  fun e w'=>∃ r:Int,e=.returned (.int .i64 r)/\Zw_ w w'/\-1<=r/\r<=left/\(0<=r->Zcz U):=by
 obtain⟨a0,k0,rfl,h⟩:=h
 show Calls prog 6 #[.agg #[.int .i64 U.kd,.int .i64 U.fr,.int .i64 U.tt,.int .i64 U.ba,.int .i64 U.ix,.int .i64 U.kn,.string U.tx,.slice a0 U.sl.length k0],.int .i64 left] w _
 have HL:=Zaa h;have y0:=h.s0;unfold maxLen at y0;clear h
 by_cases z0:left - (U.tx.size:Int) < 0
 . go_enter func6,ntmps6
   go_wp2;go_ret;exact⟨-1,rfl,Zab _ _,by omega,by omega,fun h=>by omega⟩
 go_enter func6,ntmps6;go_wp2_with fail;generalize hWa:w.alloc _=Wa;have HB:Hd (Zw_ w Wa):=by unfold Hd;rw [<- hWa];exact Zab _ _
 have FX:Hd (Box Wa w.heap.size #[.int .i64 U.kd,.int .i64 U.fr,.int .i64 U.tt,.int .i64 U.ba,.int .i64 U.ix,.int .i64 U.kn,.string U.tx,.slice a0 U.sl.length k0]):=by unfold Hd;rw [<- hWa];exact Box.new _ _ _ _ rfl
 clear hWa;refine (Zen lo _ U.sl _ _ (by omega) (by omega) ((HL.o.below HB.o).l0)).mono ?_;rintro e w0 ⟨q0,rfl,hb,p0a,p0b,p0c⟩;have Q0:=Zaa p0c;replace HB:=Zaa (bt HB.o hb);replace FX:=Zaa (FX.o.on hb);clear hb p0c
 by_cases m0:q0 < 0
 . go_wp2
   go_ret;exact⟨-1,rfl,HB.o,by omega,by omega,fun h=>by omega⟩
 go_wp2;go_ret;exact⟨_,rfl,HB.o,by omega,by omega,fun h=>Q0.o (by omega)⟩
theorem ZjV (lo lo':Nat) (cs cs':List Value) (U:Rm) (w:World) (h:RmC lo w cs U) (h':RmC lo' w cs' U) :
 Calls prog 12 #[.agg cs.toArray,.agg cs'.toArray] w fun e w'=>e=.returned (.bool true)/\Zw_ w w':=by
 obtain⟨a0,k0,rfl,h⟩:=h;obtain⟨d0,e0,rfl,h'⟩:=h'
 show Calls prog 12 #[.agg #[.int .i64 U.kd,.int .i64 U.fr,.int .i64 U.tt,.int .i64 U.ba,.int .i64 U.ix,.int .i64 U.kn,.string U.tx,.slice a0 U.sl.length k0],.agg #[.int .i64 U.kd,.int .i64 U.fr,.int .i64 U.tt,.int .i64 U.ba,.int .i64 U.ix,.int .i64 U.kn,.string U.tx,.slice d0 U.sl.length e0]] w _
 have HL:=Zaa h;have HR:=Zaa h';clear h h';have r0:=ZgX U.tx;go_enter func12,ntmps12;go_wp2_with fail;generalize hWa:(World.alloc (w.alloc _) _)=Wa;have HB:Hd (Zw_ w Wa):=by unfold Hd;rw [<- hWa];exact (Zab w _).alloc (by simp) _
 have FX:Hd (Box Wa w.heap.size #[.int .i64 U.kd,.int .i64 U.fr,.int .i64 U.tt,.int .i64 U.ba,.int .i64 U.ix,.int .i64 U.kn,.string U.tx,.slice a0 U.sl.length k0]):=by unfold Hd;rw [<- hWa];exact (Box.new _ _ _ _ rfl).on (Zab _ _)
 have FY:Hd (Box Wa (w.heap.size+1) #[.int .i64 U.kd,.int .i64 U.fr,.int .i64 U.tt,.int .i64 U.ba,.int .i64 U.ix,.int .i64 U.kn,.string U.tx,.slice d0 U.sl.length e0]):=by unfold Hd;rw [<- hWa];exact Box.new _ _ _ _ (by simp)
 clear hWa;refine (ZdD lo lo' _ _ U.sl _ ((HL.o.below HB.o).l0) ((HR.o.below HB.o).l0)).mono ?_;rintro e w0 ⟨rfl,hb⟩;replace HB:=Zaa (bt HB.o hb);replace FX:=Zaa (FX.o.on hb);replace FY:=Zaa (FY.o.on hb);clear hb;have g0:=FX.o.cell;have g1:=FY.o.cell;go_wp2;go_ret;exact⟨rfl,HB.o⟩
theorem ZdP (lo:Nat) (cs:List Value) (U:Rm) (w:World) (h:RmC lo w cs U) (hn:Zcz U) :
 Calls prog 9 #[.agg cs.toArray] w
  fun e w'=>∃ cs',e=.returned (.agg cs'.toArray)/\Zw_ w w'/\RmC w.heap.size w' cs' U:=by
 obtain⟨a0,k0,rfl,h⟩:=h
 show Calls prog 9 #[.agg #[.int .i64 U.kd,.int .i64 U.fr,.int .i64 U.tt,.int .i64 U.ba,.int .i64 U.ix,.int .i64 U.kn,.string U.tx,.slice a0 U.sl.length k0]] w _
 have HL:=Zaa h;have hn0:=hn;clear h;go_enter func9,ntmps9;go_wp2_with fail
 obtain⟨wz,hwz,FX,FR,FO,HB⟩:∃ wz,wz=((w.alloc (.cells #[.int .i64 U.kd,.int .i64 U.fr,.int .i64 U.tt,.int .i64 U.ba,.int .i64 U.ix,.int .i64 U.kn,.string U.tx,.slice a0 U.sl.length k0] 32)).alloc (.cells #[.int .i64 0,.int .i64 0,.int .i64 0,.int .i64 0,.int .i64 0,.int .i64 0,.string ⟨#[]⟩,.slice none 0 0] 45)).alloc (.cells #[.int .i64 U.kd,.int .i64 U.fr,.int .i64 U.tt,.int .i64 U.ba,.int .i64 U.ix,.int .i64 U.kn,.string U.tx,.slice none 0 0] 45)/\
  Hd (Box wz w.heap.size #[.int .i64 U.kd,.int .i64 U.fr,.int .i64 U.tt,.int .i64 U.ba,.int .i64 U.ix,.int .i64 U.kn,.string U.tx,.slice a0 U.sl.length k0])/\Hd (Box wz (w.heap.size+1) #[.int .i64 0,.int .i64 0,.int .i64 0,.int .i64 0,.int .i64 0,.int .i64 0,.string ⟨#[]⟩,.slice none 0 0])/\Hd (Box wz (w.heap.size+1+1) #[.int .i64 U.kd,.int .i64 U.fr,.int .i64 U.tt,.int .i64 U.ba,.int .i64 U.ix,.int .i64 U.kn,.string U.tx,.slice none 0 0])/\Hd (Zw_ w wz):=
  ⟨_,rfl,((Box.new w _ _ _ rfl).on (Zab _ _)).on (Zab _ _),(Box.new _ _ _ _ (by simp)).on (Zab _ _),Box.new _ _ _ _ (by simp),((Zab _ _).trans ((Zab _ _).mono (by simp))).trans ((Zab _ _).mono (by simp;omega))⟩
 rw [<- hwz];clear hwz;generalize wz=v0 at*;have hz0:w.heap.size+3<=v0.heap.size:=by have:=FO.o.lt;omega
 refine (Zep lo _ U.sl _ ((HL.o.below HB.o).l0) hn0).mono ?_;rintro e x0 ⟨u,rfl,hb,hs⟩;obtain⟨b0,m0,rfl⟩:=hs.form;have N0:=Zaa (hs.mono hz0);replace FX:=Zaa (FX.o.on hb);replace FR:=Zaa (FR.o.on hb);replace FO:=Zaa (FO.o.on hb);replace HB:=Zaa (bt HB.o hb);clear hb hs hz0;have g0:=FO.o.cell;have g1:=FO.o.free;have g2:=FR.o.cell;have g3:=FR.o.free;have g4:=FX.o.cell;go_wp2;refine bodyPost_ret (v:=.agg #[.int .i64 U.kd,.int .i64 U.fr,.int .i64 U.tt,.int .i64 U.ba,.int .i64 U.ix,.int .i64 U.kn,.string U.tx,.slice b0 U.sl.length m0]) (by simp [results,results9,go_sem,g2]) rfl ⟨rmL U b0 m0,rfl,?_,b0,m0,rfl,⟨?_,HL.o.s0⟩⟩
 . repeat (refine Below.setCell ?_ (by simp only [];omega) _)
   exact HB.o
 . refine Zaq.mono (lo:=w.heap.size+3) ?_ (by omega)
   repeat (refine Zaq.set ?_ (by simp only [];omega) _)
   exact N0.o
end Go.Proofs.YtkiefplmnoapfaaGreat
