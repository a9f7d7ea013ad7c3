import Derived.Test.YtdeammfdkaomlaaGreatM06
import Derived.Test.YtdeammfdkaomlaaGreatM08
set_option maxHeartbeats 16000000
set_option maxRecDepth 100000
open Go.Proofs.Tryz
namespace Go.Proofs.YtdeammfdkaomlaaGreat
open Go.RowKit Go.Deep
theorem ZfG (lo:Nat) (cs:List Value) (U:Rd) (w:World) (h:RdC lo w cs U) (hn:Zcx U) :
 Calls prog 64 #[.agg cs.toArray] w
  fun e w'=>∃ b0 m0,e=.returned (.agg (rdL U b0 m0).toArray)/\Zw_ w w'/\Zap w.heap.size w'.heap.size w' (.slice b0 U.sl.length m0) U.sl:=by
 obtain⟨a0,k0,rfl,h⟩:=h
 show Calls prog 64 #[.agg #[.int .i64 U.pr,.int .i64 U.kn,.slice a0 U.sl.length k0]] w _
 have HL:=Zaa h;have hn0:=hn;clear h;go_enter func64,ntmps64;go_wp2_with fail
 obtain⟨wz,hwz,FX,FR,FO,HB⟩:∃ wz,wz=((w.alloc (.cells #[.int .i64 U.pr,.int .i64 U.kn,.slice a0 U.sl.length k0] 48)).alloc (.cells #[.int .i64 0,.int .i64 0,.slice none 0 0] 58)).alloc (.cells #[.int .i64 U.pr,.int .i64 U.kn,.slice none 0 0] 58)/\
  Hd (Box wz w.heap.size #[.int .i64 U.pr,.int .i64 U.kn,.slice a0 U.sl.length k0])/\Hd (Box wz (w.heap.size+1) #[.int .i64 0,.int .i64 0,.slice none 0 0])/\Hd (Box wz (w.heap.size+1+1) #[.int .i64 U.pr,.int .i64 U.kn,.slice none 0 0])/\Hd (Zw_ w wz):=
  ⟨_,rfl,((Box.new w _ _ _ rfl).on (Zab _ _)).on (Zab _ _),(Box.new _ _ _ _ (by simp)).on (Zab _ _),Box.new _ _ _ _ (by simp),((Zab _ _).trans ((Zab _ _).mono (by simp))).trans ((Zab _ _).mono (by simp;omega))⟩
 rw [<- hwz];clear hwz;generalize wz=v0 at*;have hz0:w.heap.size+3<=v0.heap.size:=by have:=FO.o.lt;omega
 refine (ZdG lo _ U.sl _ ((HL.o.below HB.o).l0) hn0).mono ?_;rintro e x0 ⟨u,rfl,hb,hs⟩;obtain⟨b0,m0,rfl⟩:=hs.form;have N0:=Zaa (hs.wide hz0 Zl_);replace FX:=Zaa (FX.o.on hb);replace FR:=Zaa (FR.o.on hb);replace FO:=Zaa (FO.o.on hb);replace HB:=Zaa (bt HB.o hb);clear hb hs hz0;have g0:=FO.o.cell;have g1:=FO.o.free;have g2:=FR.o.cell;have g3:=FR.o.free;have g4:=FX.o.cell;go_wp2;refine bodyPost_ret (v:=.agg #[.int .i64 U.pr,.int .i64 U.kn,.slice b0 U.sl.length m0]) (by simp [results,results64,go_sem,g2]) rfl ⟨b0,m0,rfl,?_,?_⟩
 . repeat (refine Below.setCell ?_ (by simp only [];omega) _)
   exact HB.o
 . refine Zap.wide (lo:=w.heap.size+3) (hi:=x0.heap.size) ?_ (by omega) (by simp [World.setCell])
   repeat (refine Zap.set ?_ (by simp only [];omega) _)
   exact N0.o
theorem Zf3 (lo hi:Nat) (v:Value) (Xl:List Rs) (k:Int) (w:World) (hv:Zap lo hi w v Xl) (hn:Zbn Xl) (h0:0<=k) (hk:k<=2000000000000000000) :
 Calls prog 82 #[v,.int .i64 k] w fun e w'=>e=.returned (.int .i64 (k+2*(Xl.length:Int)))/\Zad lo hi w w'/\Zap lo hi w' v (Zcr k Xl):=by
 have:=ZcW lo hi v Xl k w hv hn h0 hk;rw [ZeI] at this
 simpa using this
theorem ZfY (lo hi:Nat) (v:Value) (Xl:List Rs) (k:Int) (w:World) (hv:Zap lo hi w v (Zcr k Xl)) (hn:Zbn Xl) (h0:0<=k) (hk:k<=2000000000000000000) :
 Calls prog 88 #[v,.int .i64 k] w fun e w'=>e=.returned (.int .i64 (k+2*(Xl.length:Int)))/\Zw_ w w':=by
 have:=ZcV lo hi v Xl k w hv hn h0 hk;rw [ZeI] at this
 simpa using this
section
variable {rest:List Oper} {op:Oper} {a:Act} {w:World}
theorem ZaA:(prog.info? 61).map (·.size)=some 18:=by kernel_rfl
abbrev zR:Array Value:=#[.int .i64 0,.int .i64 0,.bool false,.int .i64 0,.int .i64 0,.slice none 0 0,.int .i64 0,.int .i64 0,.slice none 0 0,.slice none 0 0,.slice none 0 0,.bool false,.bool false,.int .i64 0,.slice none 0 0,.slice none 0 0,.slice none 0 0,.int .i64 0]
theorem ldR {ops:Array Oper}{Q:Exit->Act->World->Prop} (x:Operand) (b o:Nat) (cs:List Value) (hc:w.rangeAt b o cs) (hi:(prog.info? 61).map (·.size)=some cs.length)
 (h:wpList prog ops Q rest (a.put op.dst (.agg cs.toArray)) w) (hgd:op.guard=none:=by with_reducible rfl) (ho:op.op=.load 61 x:=by with_reducible rfl) (hx:a.eval x=.pointer (some ⟨b,o,none⟩):=by with_unfolding_all rfl):wpList prog ops Q (op :: rest) a w:=
 wpList_load_mid hgd _ x ho b o hx cs _ hc underlying61 rfl hi h
theorem stR {ops:Array Oper}{Q:Exit->Act->World->Prop} (x y:Operand) (b o:Nat) (cells:Array Value) (ht:w.there b o cells.size) (hi:(prog.info? 61).map (·.size)=some cells.size) (h1:cells.all (·.oneCell')=true)
 (h:wpList prog ops Q rest (a.put op.dst undef) (w.setCells b o cells.toList)) (hgd:op.guard=none:=by with_reducible rfl) (ho:op.op=.store 61 x y:=by with_reducible rfl) (hx:a.eval x=.pointer (some ⟨b,o,none⟩):=by with_unfolding_all rfl) (hy:a.eval y=.agg cells:=by with_unfolding_all rfl):wpList prog ops Q (op :: rest) a w:=
 wpList_store_mid hgd _ x y ho b o cells hx hy ht hi h1 h
theorem ZdL {P:Program}{fn:Func}{p:Tmp}{ty:TypeId} (h:fn.results=#[.cell p ty]) (tmps:Array Value) (w:World) (b o:Nat) (cs:List Value) (d:TypeDesc)
 (hp:tmps.getD p undef=.pointer (some ⟨b,o,none⟩)) (hc:w.rangeAt b o cs) (hu:P.underlying ty=some d) (hd:d.isRow=true) (hi:(P.info? ty).map (·.size)=some cs.length) :
 (results fn tmps).run P w=.ok (.agg cs.toArray) w:=by
 have hp':tmps[p]?.getD undef=.pointer (some ⟨b,o,none⟩):=by simpa using hp
 simp [results,h,hp',asAddr,run_loadVar_mid w b o ty cs d hc hu hd hi]
theorem Za4 {P:World->Prop}{lo b:Nat} (h:∀ (w:World) (p:Addr) (u:Value),p.block < lo->P w->P (w.setCell p u)) (hb:b < lo):∀ (vs:List Value) (o:Nat) (w:World),P w->P (w.setCells b o vs)
 | [],_,_,hP=>hP
 | v :: vs,o,w,hP=>Za4 h hb vs (o+1) _ (h w ⟨b,o,none⟩ v hb hP)
end
variable {w:World} {lo hi:Nat} {U:Rr}
theorem Box.tch2 {w':World}{β:Nat}{cs:Array Value} (h:Box w β cs) (ht:Zad lo hi w w') (ho:β < lo\/hi<=β):Box w' β cs:=
 ⟨Zk_ h.lt ht.size,fun i=>(ht.cell (p:=⟨β,i,none⟩) h.lt ho).trans (h.cell i),fun i=>(ht.frozen (p:=⟨β,i,none⟩) h.lt ho).trans (h.free i)⟩
structure RrO (lo hi:Nat) (w:World) (c:Nat->Nat×Nat) (v0 v1 v2 v3 v4 v5 v6:Value) (U:Rr):Prop where
 seg:∀ i,i < 7->lo<=(c i).1/\(c i).2<=hi
 ap:∀ i j,i < 7->j < 7->i≠j->(c i).2<=(c j).1\/(c j).2<=(c i).1
 o0:Zap (c 0).1 (c 0).2 w v0 U.sf.sl
 o1:Zap (c 1).1 (c 1).2 w v1 U.dk.sl
 o2:Zbm (c 2).1 (c 2).2 w v2 U.he
 o3:ZaX (c 3).1 (c 3).2 w v3 U.wi
 o4:ZaD (c 4).1 (c 4).2 w v4 U.ye
 o5:Zap (c 5).1 (c 5).2 w v5 U.be
 o6:ZbV (c 6).1 (c 6).2 w v6 U.ac
def Zhy (lo hi:Nat) (w:World) (cs:List Value) (U:Rr):Prop:=∃ a0 k0 a1 k1 a2 k2 a3 k3 a4 k4 a5 k5 a6 k6 c,cs=rrL U a0 k0 a1 k1 a2 k2 a3 k3 a4 k4 a5 k5 a6 k6/\RrO lo hi w c (.slice a0 U.sf.sl.length k0) (.slice a1 U.dk.sl.length k1) (.slice a2 U.he.length k2) (.slice a3 U.wi.length k3) (.slice a4 U.ye.length k4) (.slice a5 U.be.length k5) (.slice a6 U.ac.length k6) U
theorem Zhy.at {cs:List Value} (h:Zhy lo hi w cs U):RrC lo w cs U:=by
 obtain⟨a0,k0,a1,k1,a2,k2,a3,k3,a4,k4,a5,k5,a6,k6,c,h1,h2⟩:=h;exact⟨a0,k0,a1,k1,a2,k2,a3,k3,a4,k4,a5,k5,a6,k6,h1,⟨h2.o0.at.mono (h2.seg 0 (by omega)).1,h2.o1.at.mono (h2.seg 1 (by omega)).1,h2.o2.at.mono (h2.seg 2 (by omega)).1,h2.o3.at.mono (h2.seg 3 (by omega)).1,h2.o4.at.mono (h2.seg 4 (by omega)).1,h2.o5.at.mono (h2.seg 5 (by omega)).1,h2.o6.at.mono (h2.seg 6 (by omega)).1⟩⟩
def kR0 (k:Int) (_U:Rr):Int:=k
def kR1 (k:Int) (U:Rr):Int:=kR0 k U+(Zbr U.sf.sl U.sf.sl.length:Int)
def kR2 (k:Int) (U:Rr):Int:=kR1 k U+(Zbr U.dk.sl U.dk.sl.length:Int)
def kR3 (k:Int) (U:Rr):Int:=kR2 k U+(ZbX U.he U.he.length:Int)
def kR4 (k:Int) (U:Rr):Int:=kR3 k U+(U.wi.length:Int)
def kR5 (k:Int) (U:Rr):Int:=kR4 k U+(U.ye.length:Int)
def kR6 (k:Int) (U:Rr):Int:=kR5 k U+(Zbr U.be U.be.length:Int)
def kR7 (k:Int) (U:Rr):Int:=kR6 k U+(Zb0 U.ac U.ac.length:Int)
def Ze9 (k:Int) (U:Rr):Rr:={ U with sf:={ U.sf with sl:=Zcr (kR0 k U) U.sf.sl },dk:={ U.dk with sl:=Zcr (kR1 k U) U.dk.sl },he:=Zfs (kR2 k U) U.he,wi:=Zdg (kR3 k U) U.wi.length,ye:=Zct (kR4 k U) U.ye.length,be:=Zcr (kR5 k U) U.be,ac:=Zfq (kR6 k U) U.ac }
theorem ZjY (k:Int) (U:Rr) (a0:Option Addr) (k0:Nat) ( a1:Option Addr) (k1:Nat) ( a2:Option Addr) (k2:Nat) ( a3:Option Addr) (k3:Nat) ( a4:Option Addr) (k4:Nat) ( a5:Option Addr) (k5:Nat) (a6:Option Addr) (k6:Nat):rrL (Ze9 k U) a0 k0 a1 k1 a2 k2 a3 k3 a4 k4 a5 k5 a6 k6=rrL U a0 k0 a1 k1 a2 k2 a3 k3 a4 k4 a5 k5 a6 k6:=by
 simp [rrL,Ze9,ZaP,Zbi,Za5,ZaZ,Zbh]
theorem Zji {k:Int} (hn:Zba U) (h0:0<=k) (hk:k<=1000000000000000):(0<=kR1 k U/\kR1 k U<=10000000000000000)/\(0<=kR2 k U/\kR2 k U<=20000000000000000)/\(0<=kR3 k U/\kR3 k U<=30000000000000000)/\(0<=kR4 k U/\kR4 k U<=40000000000000000)/\(0<=kR5 k U/\kR5 k U<=50000000000000000)/\(0<=kR6 k U/\kR6 k U<=60000000000000000)/\(0<=kR7 k U/\kR7 k U<=70000000000000000):=by
 obtain⟨n0,n1,n2,n3,n4,n5,n6⟩:=hn;unfold Zcx at n0 n1;have p0:=Zdf n0 Zl_;have p1:=Zdf n1 Zl_;have p2:=ZdV n2 Zl_;have p5:=Zdf n5 Zl_;have p6:=Ze4 n6 Zl_;have q0:=n0.1;have q1:=n1.1;have q2:=n2.1;have q5:=n5.1;have q6:=n6.1;unfold Zbo at n3;unfold ZaS at n4;unfold kR7 kR6 kR5 kR4 kR3 kR2 kR1 kR0
 omega
end Go.Proofs.YtdeammfdkaomlaaGreat
