import Derived.Test.YtdeammfdkaomlaaGreatM10
import Derived.Test.YtdeammfdkaomlaaGreatM13
set_option maxHeartbeats 16000000
set_option maxRecDepth 100000
open Go.Proofs.Tryz
namespace Go.Proofs.YtdeammfdkaomlaaGreat
open Go.RowKit Go.Deep
variable {w:World} {v:Value} {lo hi g:Nat}
theorem Zae {P:Program}{w':World}{v1 v2:Value}{ops:Array Oper}{o:Oper}{a:Act}{K:Act->World->Prop}{Q:Exit->Act->World->Prop}{E:Prop} (hgd:o.guard=none) (s x:Operand) (t:TypeId)
 (ho:o.op=.call { callee:=.builtin .append,args:=#[s,x],argTypes:=#[t,t] }) (hs:a.eval s=v1) (hx:a.eval x=v2) (hr:(Builtin.append_ #[t,t] o.type #[v1,v2]).run P w=.ok v w') (h:K (a.put o.dst v) w') :
 if Region.wanted o (yielded ops a.tmps)=true then Oper.wp P o a w K Q else E:=by
 have hw:Region.wanted o (yielded ops a.tmps)=true:=by simp [Region.wanted,hgd]
 rw [if_pos hw];unfold Oper.wp execOp;simp only [ho,resolve,invoke,builtin,Sem.run_bind,Sem.run_pure,Result.andThen_ok,List.map_toArray,List.map_cons,List.map_nil,hs,hx,hr];exact h
theorem MR.set {L:List MX} (h:MR w lo hi g v L) {p:Addr} (hp:p.block < lo) (u:Value):MR (w.setCell p u) lo hi g v L:=
 h.touch (Zad.setCell p.block (p.block+1) w p u ⟨Nat.le_refl _,Nat.lt_succ_self _⟩) (Or.inr hp)
theorem AR.set {L:List AX} (h:AR w lo hi g v L) {p:Addr} (hp:p.block < lo) (u:Value):AR (w.setCell p u) lo hi g v L:=
 h.touch (Zad.setCell p.block (p.block+1) w p u ⟨Nat.le_refl _,Nat.lt_succ_self _⟩) (Or.inr hp)
structure Cpy (w:World) (lo:Nat) (c:Nat->Nat×Nat) (v0 v1 v2 v3 v4 v5 v6:Value) (U:Rr):Prop where
 seg:∀ i,i < 7->lo<=(c i).1/\(c i).2<=w.heap.size
 ap:∀ i j,i < 7->j < 7->i≠j->(c i).2<=(c j).1\/(c j).2<=(c i).1
 o0:ZaH rsL 2 w (c 0).1 (c 0).2 v0 U.sf.sl
 o1:ZaH rsL 2 w (c 1).1 (c 1).2 v1 U.dk.sl
 o2:∃ g L,MR w (c 2).1 (c 2).2 g v2 L/\L.map (·.1)=U.he
 o3:ZaH tyL 1 w (c 3).1 (c 3).2 v3 U.wi
 o4:ZaH inL 1 w (c 4).1 (c 4).2 v4 U.ye
 o5:ZaH rsL 2 w (c 5).1 (c 5).2 v5 U.be
 o6:∃ g L,AR w (c 6).1 (c 6).2 g v6 L/\L.map (·.1)=U.ac
theorem Zd5 (lo:Nat) (cs:List Value) (U:Rr) (w:World) (h:RrC lo w cs U) (hn:Zba U) :
 Calls prog 54 #[.agg cs.toArray] w
  fun e w'=>∃ b0 m0 b1 m1 b2 m2 b3 m3 b4 m4 b5 m5 b6 m6 c,e=.returned (.agg (rrL U b0 m0 b1 m1 b2 m2 b3 m3 b4 m4 b5 m5 b6 m6).toArray)/\Zw_ w w'/\Cpy w' w.heap.size c (.slice b0 U.sf.sl.length m0) (.slice b1 U.dk.sl.length m1) (.slice b2 U.he.length m2) (.slice b3 U.wi.length m3) (.slice b4 U.ye.length m4) (.slice b5 U.be.length m5) (.slice b6 U.ac.length m6) U:=by
 obtain⟨a0,k0,a1,k1,a2,k2,a3,k3,a4,k4,a5,k5,a6,k6,rfl,h⟩:=h;have HL:=Zaa h;obtain⟨hn0,hn1,hn2,hn3,hn4,hn5,hn6⟩:=hn;have HN2:=Zaa hn2;have HN6:=Zaa hn6;have q0:=hn0.1;have q1:=hn1.1;have q3:=hn3;have q4:=hn4;have q5:=hn5.1;have q6:=hn6.1;unfold Zbo at q3;unfold ZaS at q4;clear h hn0 hn1 hn2 hn3 hn4 hn5 hn6;obtain⟨cs,hcs⟩:∃ cs,cs=rrL U a0 k0 a1 k1 a2 k2 a3 k3 a4 k4 a5 k5 a6 k6:=⟨_,rfl⟩
 rw [<- hcs];go_enter func54,ntmps54;have HCS:=Zaa hcs;have c3:cs[3]?=some (.int .i64 U.sf.pr):=by rw [hcs];rfl
 have c4:cs[4]?=some (.int .i64 U.sf.kn):=by rw [hcs];rfl
 have c5:cs[5]?=some (.slice a0 U.sf.sl.length k0):=by rw [hcs];rfl
 clear hcs;go_wp2_with fail;clear c3 c4 c5
 obtain⟨v0,hv0,FB,RB,HB⟩:∃ wz,wz=(w.alloc (.cells cs.toArray 61)).alloc (.cells zR 61)/\
  Hd (Box wz w.heap.size (rrL U a0 k0 a1 k1 a2 k2 a3 k3 a4 k4 a5 k5 a6 k6).toArray)/\Hd (Box wz (w.heap.size+1) zR)/\Hd (Zw_ w wz):=
  ⟨_,rfl,by unfold Hd;rw [<- HCS.o];exact (Box.new w _ _ _ rfl).on (Zab _ _),Box.new _ _ _ _ (by simp),(Zab _ _).trans ((Zab _ _).mono (by simp))⟩
 rw [<- hv0];clear hv0;have hz0:w.heap.size+2<=v0.heap.size:=by have:=RB.o.lt;omega
 refine (Zd7 lo U.sf a0 k0 _ (HL.o.below HB.o).l0 q0).mono ?_;rintro e x0 ⟨b0,m0,rfl,hb,hs⟩;have hx0:v0.heap.size<=x0.heap.size:=hb.size;replace FB:=Zaa (FB.o.on hb);replace RB:=Zaa (RB.o.on hb);replace HB:=Zaa (bt HB.o hb);clear hb;have N0:=Zaa hs;clear hs;have g3:x0.cell? ⟨w.heap.size,3,none⟩=some (.int .i64 U.sf.pr):=FB.o.cell 3;have g4:x0.cell? ⟨w.heap.size,4,none⟩=some (.int .i64 U.sf.kn):=FB.o.cell 4;have g5:x0.cell? ⟨w.heap.size,5,none⟩=some (.slice a0 U.sf.sl.length k0):=FB.o.cell 5;have gf:=FB.o.free;have y6:x0.cell? ⟨w.heap.size,6,none⟩=some (.int .i64 U.dk.pr):=FB.o.cell 6;have y7:x0.cell? ⟨w.heap.size,7,none⟩=some (.int .i64 U.dk.kn):=FB.o.cell 7;have y8:x0.cell? ⟨w.heap.size,8,none⟩=some (.slice a1 U.dk.sl.length k1):=FB.o.cell 8;go_wp2_with fail;clear g3 g4 g5 gf y6 y7 y8
 obtain⟨v1,hwq,GF,GR,GB,GN0⟩:∃ wq,wq=(((x0.setCell ⟨w.heap.size,3,none⟩ (.int .i64 U.sf.pr)).setCell ⟨w.heap.size,4,none⟩ (.int .i64 U.sf.kn)).setCell ⟨w.heap.size,5,none⟩ (.slice b0 U.sf.sl.length m0))/\Hd (Box wq w.heap.size (rrL U b0 m0 a1 k1 a2 k2 a3 k3 a4 k4 a5 k5 a6 k6).toArray)/\Hd (Box wq (w.heap.size+1) zR)/\Hd (Zw_ w wq)/\Hd (ZaH rsL 2 wq v0.heap.size x0.heap.size (.slice b0 U.sf.sl.length m0) U.sf.sl):=
  ⟨_,rfl,(((FB.o.set (k:=3) (.int .i64 U.sf.pr) (by show 3 < 18;omega)).set (k:=4) (.int .i64 U.sf.kn) (by show 4 < 18;omega)).set (k:=5) (.slice b0 U.sf.sl.length m0) (by show 5 < 18;omega)),(((RB.o.setFar (by simp only [];omega) _).setFar (by simp only [];omega) _).setFar (by simp only [];omega) _),(((HB.o.setCell (by simp only [];omega) _).setCell (by simp only [];omega) _).setCell (by simp only [];omega) _),(((N0.o.set (by simp only [];omega) _).set (by simp only [];omega) _).set (by simp only [];omega) _)⟩
 have hv1:v1.heap.size=x0.heap.size:=by rw [hwq];simp [World.setCell]
 rw [<- hwq];clear hwq FB RB HB N0;have FB:=GF;have RB:=GR;have HB:=GB;have N0:=GN0;clear GF GR GB GN0;have g6:v1.cell? ⟨w.heap.size,6,none⟩=some (.int .i64 U.dk.pr):=FB.o.cell 6;have g7:v1.cell? ⟨w.heap.size,7,none⟩=some (.int .i64 U.dk.kn):=FB.o.cell 7;have g8:v1.cell? ⟨w.heap.size,8,none⟩=some (.slice a1 U.dk.sl.length k1):=FB.o.cell 8;go_wp2_with fail;clear g6 g7 g8;refine (Zd7 lo U.dk a1 k1 _ (HL.o.below HB.o).l1 q1).mono ?_;rintro e x1 ⟨b1,m1,rfl,hb,hs⟩;have hx1:v1.heap.size<=x1.heap.size:=hb.size;replace FB:=Zaa (FB.o.on hb);replace RB:=Zaa (RB.o.on hb);replace HB:=Zaa (bt HB.o hb);replace N0:=Zaa (N0.o.below hb);clear hb;have N1:=Zaa hs;clear hs;have g6:x1.cell? ⟨w.heap.size,6,none⟩=some (.int .i64 U.dk.pr):=FB.o.cell 6;have g7:x1.cell? ⟨w.heap.size,7,none⟩=some (.int .i64 U.dk.kn):=FB.o.cell 7
 have g8:x1.cell? ⟨w.heap.size,8,none⟩=some (.slice a1 U.dk.sl.length k1):=FB.o.cell 8;have gf:=FB.o.free;have y9:x1.cell? ⟨w.heap.size,9,none⟩=some (.slice a2 U.he.length k2):=FB.o.cell 9;go_wp2_with fail;clear g6 g7 g8 gf y9
 obtain⟨v2,hwq,GF,GR,GB,GN0,GN1⟩:∃ wq,wq=(((x1.setCell ⟨w.heap.size,6,none⟩ (.int .i64 U.dk.pr)).setCell ⟨w.heap.size,7,none⟩ (.int .i64 U.dk.kn)).setCell ⟨w.heap.size,8,none⟩ (.slice b1 U.dk.sl.length m1))/\Hd (Box wq w.heap.size (rrL U b0 m0 b1 m1 a2 k2 a3 k3 a4 k4 a5 k5 a6 k6).toArray)/\Hd (Box wq (w.heap.size+1) zR)/\Hd (Zw_ w wq)/\Hd (ZaH rsL 2 wq v0.heap.size x0.heap.size (.slice b0 U.sf.sl.length m0) U.sf.sl)/\Hd (ZaH rsL 2 wq v1.heap.size x1.heap.size (.slice b1 U.dk.sl.length m1) U.dk.sl):=
  ⟨_,rfl,(((FB.o.set (k:=6) (.int .i64 U.dk.pr) (by show 6 < 18;omega)).set (k:=7) (.int .i64 U.dk.kn) (by show 7 < 18;omega)).set (k:=8) (.slice b1 U.dk.sl.length m1) (by show 8 < 18;omega)),(((RB.o.setFar (by simp only [];omega) _).setFar (by simp only [];omega) _).setFar (by simp only [];omega) _),(((HB.o.setCell (by simp only [];omega) _).setCell (by simp only [];omega) _).setCell (by simp only [];omega) _),(((N0.o.set (by simp only [];omega) _).set (by simp only [];omega) _).set (by simp only [];omega) _),(((N1.o.set (by simp only [];omega) _).set (by simp only [];omega) _).set (by simp only [];omega) _)⟩
 have hv2:v2.heap.size=x1.heap.size:=by rw [hwq];simp [World.setCell]
 rw [<- hwq];clear hwq FB RB HB N0 N1;have FB:=GF;have RB:=GR;have HB:=GB;have N0:=GN0;have N1:=GN1;clear GF GR GB GN0 GN1;refine (Zem lo _ U.he _ (HL.o.below HB.o).l2 HN2.o).mono ?_;rintro e x2 ⟨u2,g2,L2,rfl,hb,hs,hl2⟩;have HL2:=Zaa hl2;have hlen2:L2.length=U.he.length:=by rw [<- hl2,List.length_map]
 obtain⟨gg2,m2,hu2,hfr2⟩:=hs.row;rw [hlen2] at hu2;subst hu2;obtain⟨b2,hb2⟩:∃ b2:Option Addr,b2=some ⟨gg2,0,none⟩:=⟨_,rfl⟩
 rw [<- hb2] at hs;rw [<- hb2];clear hfr2 hlen2 hl2 hb2;have hx2:v2.heap.size<=x2.heap.size:=hb.size;replace FB:=Zaa (FB.o.on hb);replace RB:=Zaa (RB.o.on hb);replace HB:=Zaa (bt HB.o hb);replace N0:=Zaa (N0.o.below hb);replace N1:=Zaa (N1.o.below hb);clear hb;have N2:=Zaa hs;clear hs;have g9:x2.cell? ⟨w.heap.size,9,none⟩=some (.slice a2 U.he.length k2):=FB.o.cell 9;have y10:∀ u o,((x2.setCell ⟨w.heap.size,9,none⟩ u).alloc o).cell? ⟨w.heap.size,10,none⟩=some (.slice a3 U.wi.length k3):=fun u o=>((FB.o.set (k:=9) u (by show 9 < 18;omega)).on (Zab _ _)).cell 10
 have gf:=FB.o.free;go_wp2_with (at_builtin;refine Hd.o ?_);clear g9 gf y10
 obtain⟨v3,hwq,GF,GR,GB,GN0,GN1,GN2⟩:∃ wq,wq=(x2.setCell ⟨w.heap.size,9,none⟩ (.slice b2 U.he.length m2))/\Hd (Box wq w.heap.size (rrL U b0 m0 b1 m1 b2 m2 a3 k3 a4 k4 a5 k5 a6 k6).toArray)/\Hd (Box wq (w.heap.size+1) zR)/\Hd (Zw_ w wq)/\Hd (ZaH rsL 2 wq v0.heap.size x0.heap.size (.slice b0 U.sf.sl.length m0) U.sf.sl)/\Hd (ZaH rsL 2 wq v1.heap.size x1.heap.size (.slice b1 U.dk.sl.length m1) U.dk.sl)/\Hd (MR wq v2.heap.size x2.heap.size g2 (.slice b2 U.he.length m2) L2):=
  ⟨_,rfl,(FB.o.set (k:=9) (.slice b2 U.he.length m2) (by show 9 < 18;omega)),(RB.o.setFar (by simp only [];omega) _),(HB.o.setCell (by simp only [];omega) _),(N0.o.set (by simp only [];omega) _),(N1.o.set (by simp only [];omega) _),(N2.o.set (by simp only [];omega) _)⟩
 have hv3:v3.heap.size=x2.heap.size:=by rw [hwq];simp [World.setCell]
 rw [<- hwq];clear hwq FB RB HB N0 N1 N2;have FB:=GF;have RB:=GR;have HB:=GB;have N0:=GN0;have N1:=GN1;have N2:=GN2;clear GF GR GB GN0 GN1 GN2;rw [<- hv3];refine Zaa ?_;have HO3:Hd (∀ o,Below v3.heap.size v3 (v3.alloc o)):=fun o=>Zab _ o
 have HP3:=Zaa (HL.o.below HB.o).l3;refine Zcl ZbN (by decide) underlying50 Zh2 rfl (w:=v3.alloc _) (lo:=v3.heap.size) (hi':=v3.heap.size+1) (L:=[]) U.wi rfl (.tmp 17) (.tmp 19) rfl rfl ⟨v3.heap.size,0,rfl,Zbb tyL 1 v3 _ _ 0 rfl Zz_⟩ a3 U.wi.length k3 rfl rfl (fun e=>HP3.o.nilN e) ((HP3.o.below (HO3.o _)).src) (Zgj _) (by simp;omega) (by decide) ?_;intro u3 x3 h1 h2;have hsz3:v3.heap.size+1<=x3.heap.size:=by have:=h1.size;simp at this;omega
 have hb:Below v3.heap.size v3 x3:=(HO3.o _).trans (h1.under (by simp));rw [List.nil_append] at h2;have hs:ZaH tyL 1 x3 v3.heap.size x3.heap.size u3 U.wi:=ZaH.fresh (by simpa using h2) hsz3;obtain⟨gg3,m3,rfl,hfr3⟩:=hs;have hs:ZaH tyL 1 x3 v3.heap.size x3.heap.size (.slice (some ⟨gg3,0,none⟩) U.wi.length m3) U.wi:=⟨gg3,m3,rfl,hfr3⟩;obtain⟨b3,hbb3⟩:∃ b:Option Addr,b=some ⟨gg3,0,none⟩:=⟨_,rfl⟩
 rw [<- hbb3] at hs;rw [<- hbb3];clear hfr3 hbb3 h1 h2 hsz3 HO3 HP3;have hx3:v3.heap.size<=x3.heap.size:=hb.size;replace FB:=Zaa (FB.o.on hb);replace RB:=Zaa (RB.o.on hb);replace HB:=Zaa (bt HB.o hb);replace N0:=Zaa (N0.o.below hb);replace N1:=Zaa (N1.o.below hb);replace N2:=Zaa (N2.o.below hb);clear hb;have N3:=Zaa hs;clear hs;have g10:x3.cell? ⟨w.heap.size,10,none⟩=some (.slice a3 U.wi.length k3):=FB.o.cell 10;have y14:∀ u o,((x3.setCell ⟨w.heap.size,10,none⟩ u).alloc o).cell? ⟨w.heap.size,14,none⟩=some (.slice a4 U.ye.length k4):=fun u o=>((FB.o.set (k:=10) u (by show 10 < 18;omega)).on (Zab _ _)).cell 14
 have gf:=FB.o.free;go_wp2_with (at_builtin;refine Hd.o ?_);clear g10 gf y14
 obtain⟨v4,hwq,GF,GR,GB,GN0,GN1,GN2,GN3⟩:∃ wq,wq=(x3.setCell ⟨w.heap.size,10,none⟩ (.slice b3 U.wi.length m3))/\Hd (Box wq w.heap.size (rrL U b0 m0 b1 m1 b2 m2 b3 m3 a4 k4 a5 k5 a6 k6).toArray)/\Hd (Box wq (w.heap.size+1) zR)/\Hd (Zw_ w wq)/\Hd (ZaH rsL 2 wq v0.heap.size x0.heap.size (.slice b0 U.sf.sl.length m0) U.sf.sl)/\Hd (ZaH rsL 2 wq v1.heap.size x1.heap.size (.slice b1 U.dk.sl.length m1) U.dk.sl)/\Hd (MR wq v2.heap.size x2.heap.size g2 (.slice b2 U.he.length m2) L2)/\Hd (ZaH tyL 1 wq v3.heap.size x3.heap.size (.slice b3 U.wi.length m3) U.wi):=
  ⟨_,rfl,(FB.o.set (k:=10) (.slice b3 U.wi.length m3) (by show 10 < 18;omega)),(RB.o.setFar (by simp only [];omega) _),(HB.o.setCell (by simp only [];omega) _),(N0.o.set (by simp only [];omega) _),(N1.o.set (by simp only [];omega) _),(N2.o.set (by simp only [];omega) _),(N3.o.set (by simp only [];omega) _)⟩
 have hv4:v4.heap.size=x3.heap.size:=by rw [hwq];simp [World.setCell]
 rw [<- hwq];clear hwq FB RB HB N0 N1 N2 N3;have FB:=GF;have RB:=GR;have HB:=GB;have N0:=GN0;have N1:=GN1;have N2:=GN2;have N3:=GN3;clear GF GR GB GN0 GN1 GN2 GN3;rw [<- hv4];refine Zaa ?_;have HO4:Hd (∀ o,Below v4.heap.size v4 (v4.alloc o)):=fun o=>Zab _ o
 have HP4:=Zaa (HL.o.below HB.o).l4;refine Zcl ZaE (by decide) underlying51 Zbe rfl (w:=v4.alloc _) (lo:=v4.heap.size) (hi':=v4.heap.size+1) (L:=[]) U.ye rfl (.tmp 22) (.tmp 24) rfl rfl ⟨v4.heap.size,0,rfl,Zbb inL 1 v4 _ _ 0 rfl Zz_⟩ a4 U.ye.length k4 rfl rfl (fun e=>HP4.o.nilN e) ((HP4.o.below (HO4.o _)).src) (ZaO _) (by simp;omega) (by decide) ?_;intro u4 x4 h1 h2;have hsz4:v4.heap.size+1<=x4.heap.size:=by have:=h1.size;simp at this;omega
 have hb:Below v4.heap.size v4 x4:=(HO4.o _).trans (h1.under (by simp));rw [List.nil_append] at h2;have hs:ZaH inL 1 x4 v4.heap.size x4.heap.size u4 U.ye:=ZaH.fresh (by simpa using h2) hsz4;obtain⟨gg4,m4,rfl,hfr4⟩:=hs;have hs:ZaH inL 1 x4 v4.heap.size x4.heap.size (.slice (some ⟨gg4,0,none⟩) U.ye.length m4) U.ye:=⟨gg4,m4,rfl,hfr4⟩;obtain⟨b4,hbb4⟩:∃ b:Option Addr,b=some ⟨gg4,0,none⟩:=⟨_,rfl⟩
 rw [<- hbb4] at hs;rw [<- hbb4];clear hfr4 hbb4 h1 h2 hsz4 HO4 HP4;have hx4:v4.heap.size<=x4.heap.size:=hb.size;replace FB:=Zaa (FB.o.on hb);replace RB:=Zaa (RB.o.on hb);replace HB:=Zaa (bt HB.o hb);replace N0:=Zaa (N0.o.below hb);replace N1:=Zaa (N1.o.below hb);replace N2:=Zaa (N2.o.below hb);replace N3:=Zaa (N3.o.below hb);clear hb;have N4:=Zaa hs;clear hs;have g14:x4.cell? ⟨w.heap.size,14,none⟩=some (.slice a4 U.ye.length k4):=FB.o.cell 14;have y15:x4.cell? ⟨w.heap.size,15,none⟩=some (.slice a5 U.be.length k5):=FB.o.cell 15;have gf:=FB.o.free;go_wp2_with fail;clear g14 gf y15
 obtain⟨v5,hwq,GF,GR,GB,GN0,GN1,GN2,GN3,GN4⟩:∃ wq,wq=(x4.setCell ⟨w.heap.size,14,none⟩ (.slice b4 U.ye.length m4))/\Hd (Box wq w.heap.size (rrL U b0 m0 b1 m1 b2 m2 b3 m3 b4 m4 a5 k5 a6 k6).toArray)/\Hd (Box wq (w.heap.size+1) zR)/\Hd (Zw_ w wq)/\Hd (ZaH rsL 2 wq v0.heap.size x0.heap.size (.slice b0 U.sf.sl.length m0) U.sf.sl)/\Hd (ZaH rsL 2 wq v1.heap.size x1.heap.size (.slice b1 U.dk.sl.length m1) U.dk.sl)/\Hd (MR wq v2.heap.size x2.heap.size g2 (.slice b2 U.he.length m2) L2)/\Hd (ZaH tyL 1 wq v3.heap.size x3.heap.size (.slice b3 U.wi.length m3) U.wi)/\Hd (ZaH inL 1 wq v4.heap.size x4.heap.size (.slice b4 U.ye.length m4) U.ye):=
  ⟨_,rfl,(FB.o.set (k:=14) (.slice b4 U.ye.length m4) (by show 14 < 18;omega)),(RB.o.setFar (by simp only [];omega) _),(HB.o.setCell (by simp only [];omega) _),(N0.o.set (by simp only [];omega) _),(N1.o.set (by simp only [];omega) _),(N2.o.set (by simp only [];omega) _),(N3.o.set (by simp only [];omega) _),(N4.o.set (by simp only [];omega) _)⟩
 have hv5:v5.heap.size=x4.heap.size:=by rw [hwq];simp [World.setCell]
 rw [<- hwq];clear hwq FB RB HB N0 N1 N2 N3 N4;have FB:=GF;have RB:=GR;have HB:=GB;have N0:=GN0;have N1:=GN1;have N2:=GN2;have N3:=GN3;have N4:=GN4;clear GF GR GB GN0 GN1 GN2 GN3 GN4;refine (ZdB lo _ U.be _ (HL.o.below HB.o).l5 q5).mono ?_;rintro e x5 ⟨u5,rfl,hb,hs⟩;obtain⟨gg5,m5,rfl,hfr5⟩:=hs;have hs:ZaH rsL 2 x5 v5.heap.size x5.heap.size (.slice (some ⟨gg5,0,none⟩) U.be.length m5) U.be:=⟨gg5,m5,rfl,hfr5⟩;obtain⟨b5,hbb5⟩:∃ b:Option Addr,b=some ⟨gg5,0,none⟩:=⟨_,rfl⟩
 rw [<- hbb5] at hs;rw [<- hbb5];clear hfr5 hbb5;have hx5:v5.heap.size<=x5.heap.size:=hb.size;replace FB:=Zaa (FB.o.on hb);replace RB:=Zaa (RB.o.on hb);replace HB:=Zaa (bt HB.o hb);replace N0:=Zaa (N0.o.below hb);replace N1:=Zaa (N1.o.below hb);replace N2:=Zaa (N2.o.below hb);replace N3:=Zaa (N3.o.below hb);replace N4:=Zaa (N4.o.below hb);clear hb;have N5:=Zaa hs;clear hs;have g15:x5.cell? ⟨w.heap.size,15,none⟩=some (.slice a5 U.be.length k5):=FB.o.cell 15;have gf:=FB.o.free;go_wp2;clear g15 gf
 obtain⟨v6,hwq,GF,GR,GB,GN0,GN1,GN2,GN3,GN4,GN5⟩:∃ wq,wq=(x5.setCell ⟨w.heap.size,15,none⟩ (.slice b5 U.be.length m5))/\Hd (Box wq w.heap.size (rrL U b0 m0 b1 m1 b2 m2 b3 m3 b4 m4 b5 m5 a6 k6).toArray)/\Hd (Box wq (w.heap.size+1) zR)/\Hd (Zw_ w wq)/\Hd (ZaH rsL 2 wq v0.heap.size x0.heap.size (.slice b0 U.sf.sl.length m0) U.sf.sl)/\Hd (ZaH rsL 2 wq v1.heap.size x1.heap.size (.slice b1 U.dk.sl.length m1) U.dk.sl)/\Hd (MR wq v2.heap.size x2.heap.size g2 (.slice b2 U.he.length m2) L2)/\Hd (ZaH tyL 1 wq v3.heap.size x3.heap.size (.slice b3 U.wi.length m3) U.wi)/\Hd (ZaH inL 1 wq v4.heap.size x4.heap.size (.slice b4 U.ye.length m4) U.ye)/\Hd (ZaH rsL 2 wq v5.heap.size x5.heap.size (.slice b5 U.be.length m5) U.be):=
  ⟨_,rfl,(FB.o.set (k:=15) (.slice b5 U.be.length m5) (by show 15 < 18;omega)),(RB.o.setFar (by simp only [];omega) _),(HB.o.setCell (by simp only [];omega) _),(N0.o.set (by simp only [];omega) _),(N1.o.set (by simp only [];omega) _),(N2.o.set (by simp only [];omega) _),(N3.o.set (by simp only [];omega) _),(N4.o.set (by simp only [];omega) _),(N5.o.set (by simp only [];omega) _)⟩
 have hv6:v6.heap.size=x5.heap.size:=by rw [hwq];simp [World.setCell]
 rw [<- hwq];clear hwq FB RB HB N0 N1 N2 N3 N4 N5;have FB:=GF;have RB:=GR;have HB:=GB;have N0:=GN0;have N1:=GN1;have N2:=GN2;have N3:=GN3;have N4:=GN4;have N5:=GN5;clear GF GR GB GN0 GN1 GN2 GN3 GN4 GN5;rw [<- hv6];have HV1:=Zaa hv1;have HV2:=Zaa hv2;have HV3:=Zaa hv3;have HV4:=Zaa hv4;have HV5:=Zaa hv5;have HV6:=Zaa hv6;clear hv1 hv2 hv3 hv4 hv5 hv6;have HP6:=Zaa (HL.o.below HB.o).l6;have hm6:=HP6.o.max;unfold maxLen at hm6
 go_loopw [3,4] (fun o i wr=>∃ (k g:Nat) (L:List AX),i=.int .i64 k/\k<=U.ac.length/\Below v6.heap.size v6 wr/\AR wr v6.heap.size wr.heap.size g o L/\L.map (·.1)=U.ac.take k) (fun _ i _=>U.ac.length - (intOf i).toNat)
 case atStart=>
  exact⟨0,v6.heap.size,[],rfl,by omega,Zab _ _,⟨⟨v6.heap.size,0,rfl,(Zbb axL 2 v6 _ _ 0 rfl Zz_).own⟩,Nat.le_refl _,by simp,⟨fun _=>(0,0),fun i hi=>absurd hi (Nat.not_lt_zero _),fun i j hi=>absurd hi (Nat.not_lt_zero _),fun i hi=>absurd hi (Nat.not_lt_zero _)⟩⟩,by simp⟩
 case round=>
  obtain⟨k,g,L,rfl,hk,hb,hm,hL⟩:=hrel;have HBr:=Zaa hb;have HM:=Zaa hm;have HLk:=Zaa hL
  have HLl:Hd (L.length=k):=by
   unfold Hd;have:=congrArg List.length hL;rw [List.length_map,List.length_take] at this
   omega
  have y16:wr.cell? ⟨w.heap.size,16,none⟩=some (.slice a6 U.ac.length k6):=(FB.o.on hb).cell 16;clear hb hm hL;obtain⟨gg,cp,ho,hfr⟩:=HM.o.row;subst ho;clear hfr
  by_cases hlt:k < U.ac.length
  . obtain⟨b,off,hab,hbw,-,hc⟩:=HP6.o.full' (by omega)
    subst hab;obtain⟨x,hx⟩:∃ x,x=U.ac[k]:=⟨_,rfl⟩
    obtain⟨xs,hr,z0,n0,rfl,hf⟩:=hc k hlt;rw [<- hx] at hf hr;have HS:Hd (x.fr.length<=1048576):=by unfold Hd;rw [hx];exact HN6.o.2 k hlt
    have HF:=Zaa hf.l0;have HX:=Zaa hx;have R0:Hd (v6.cell? ⟨b,off+k*2,none⟩=some (.int .i64 x.ix)):=hr 0 _ rfl;have R1:Hd (v6.cell? ⟨b,off+k*2+1,none⟩=some (.slice z0 x.fr.length n0)):=hr 1 _ rfl;have R2:Hd (v6.cell? ⟨w.heap.size,16,none⟩=some (.slice (some ⟨b,off,none⟩) U.ac.length k6)):=FB.o.cell 16;have KP:Hd (∀ W,Below v6.heap.size v6 W->W.cell? ⟨w.heap.size,16,none⟩=some (.slice (some ⟨b,off,none⟩) U.ac.length k6)/\W.cell? ⟨b,off+k*2,none⟩=some (.int .i64 x.ix)/\W.cell? ⟨b,off+k*2+1,none⟩=some (.slice z0 x.fr.length n0)):=fun W hW=>⟨(hW.cell (p:=⟨w.heap.size,16,none⟩) FB.o.lt).trans R2.o,(hW.cell (p:=⟨b,off+k*2,none⟩) hbw).trans R0.o,(hW.cell (p:=⟨b,off+k*2+1,none⟩) hbw).trans R1.o⟩
    have i0:(0:Int)<=(k:Int):=by omega
    have i1:(k:Int) < (U.ac.length:Int):=by omega
    clear hc hr hf hx R0 R1 R2;go_wp2;clear y16;refine wp_region_held_drew (S:=fun W=>W.cell? ⟨w.heap.size,16,none⟩=some (.slice (some ⟨b,off,none⟩) U.ac.length k6)/\W.cell? ⟨b,off+k*2,none⟩=some (.int .i64 x.ix)/\W.cell? ⟨b,off+k*2+1,none⟩=some (.slice z0 x.fr.length n0)) (by kernel_rfl) (KP.o _ (HBr.o.drew)) (fun hHeld=>?_);refine tH 0 (.slice (some ⟨gg,0,none⟩) L.length cp) rfl hHeld ?_;simp only [Act.put,List.setIfInBounds_toArray];refine tH 1 (.pointer (some ⟨w.heap.size,16,none⟩)) rfl hHeld ?_;simp only [Act.put];refine tH 2 (.slice (some ⟨b,off,none⟩) U.ac.length k6) rfl hHeld ?_;simp only [Act.put];refine tH 3 (.int .i64 k) rfl hHeld ?_;simp only [Act.put];refine tH 4 (.pointer (some ⟨b,off+k*2,none⟩)) rfl hHeld ?_;simp only [Act.put];refine tH 5 (.pointer (some ⟨b,off+k*2,none⟩)) rfl hHeld ?_;simp only [Act.put];refine tH 6 (.int .i64 x.ix) rfl hHeld ?_;simp only [Act.put]
    refine tH 8 (.pointer (some ⟨w.heap.size,16,none⟩)) rfl hHeld ?_;simp only [Act.put];refine tH 9 (.slice (some ⟨b,off,none⟩) U.ac.length k6) rfl hHeld ?_;simp only [Act.put];refine tH 10 (.int .i64 k) rfl hHeld ?_;simp only [Act.put];refine tH 11 (.pointer (some ⟨b,off+k*2,none⟩)) rfl hHeld ?_;simp only [Act.put];refine tH 12 (.pointer (some ⟨b,off+k*2+1,none⟩)) rfl hHeld ?_;simp only [Act.put];refine tH 13 (.slice z0 x.fr.length n0) rfl hHeld ?_;simp only [Act.put];refine wpAnyH_ready (rs:=[7]) (by kernel_rfl) (by simp) ?_;refine AllReadyH.cons rfl (fun KK hK=>?_) AllReadyH.nil
    go_simp
    obtain⟨y1,hy1⟩:∃ y1,y1=(wr.alloc (.cells #[] 3)).drew:=⟨_,rfl⟩
    have HBy1:Hd (Below wr.heap.size wr y1):=by unfold Hd;rw [hy1];exact (Zab _ _).drew
    have HI1:Hd (FR inL 1 y1 wr.heap.size (wr.heap.size+1) wr.heap.size 0 ([]:List Int)):=by unfold Hd;rw [hy1];exact (Zbb inL 1 wr _ _ 0 rfl Zz_).below (Zb_.drew)
    rw [<- hy1];clear hy1;refine hK.out _ _ (KP.o _ (bt HBr.o HBy1.o)) (fun hHeld=>?_);clear hK KK
    try simp only [Act.put,List.setIfInBounds_toArray,List.set_cons_zero,List.set_cons_succ]
    have HF1:=Zaa (HF.o.below (bt HBr.o HBy1.o));obtain⟨u1,y2,hrun,ht1,hf1⟩:=ZeK ZaE (by decide) underlying51 Zbe rfl (w:=y1) (lo:=wr.heap.size) (hi':=wr.heap.size+1) (v:=.slice (some ⟨wr.heap.size,0,none⟩) 0 0) (L:=[]) (M:=x.fr) 51 ⟨wr.heap.size,0,rfl,HI1.o⟩ z0 x.fr.length n0 rfl (fun e=>HF1.o.nilN e) HF1.o.src (ZaO _) (by have:=HS.o;simp;omega) (by decide);have HT1:=Zaa ht1;have HR1:=Zaa hf1;clear ht1 hf1;refine wpAnyH_ready (rs:=[14]) (by kernel_rfl) (by simp) ?_;refine AllReadyH.cons rfl (fun KK hK=>?_) AllReadyH.nil;refine Zae rfl (.tmp 46) (.tmp 52) 51 rfl rfl rfl hrun ?_;have hsz1:wr.heap.size+1<=y1.heap.size:=by have:=HI1.o.lt;omega
    have HBy2:Hd (Below wr.heap.size wr y2):=HBy1.o.trans (HT1.o.under (by omega));have hy2:y1.heap.size<=y2.heap.size:=HT1.o.size;refine hK.out _ _ (KP.o _ (bt HBr.o HBy2.o)) (fun hHeld=>?_);clear hK KK hrun
    try simp only [Act.put,List.setIfInBounds_toArray]
    have HJ:Hd (ZaH inL 1 y2 wr.heap.size y2.heap.size u1 x.fr):=by
     unfold Hd;have:=HR1.o;rw [List.nil_append] at this
     rcases this with h | h
     . exact h.wide Zl_ (by omega)
     . exact h.wide (by omega) Zl_
    obtain⟨ga,na,hu1,hga⟩:=HJ.o;subst hu1;clear hga;refine tH 15 (.agg #[.int .i64 x.ix,.slice (some ⟨ga,0,none⟩) x.fr.length na]) rfl hHeld ?_;simp only [Act.put];refine wpAnyH_ready (rs:=[16]) (by kernel_rfl) (by simp) ?_;refine AllReadyH.cons rfl (fun KK hK=>?_) AllReadyH.nil
    go_simp
    obtain⟨y3,hy3⟩:∃ y3,y3=y2.alloc (.cells #[.int .i64 x.ix,.slice (some ⟨ga,0,none⟩) x.fr.length na] 170):=⟨_,rfl⟩
    have HBx:Hd (Box y3 y2.heap.size #[.int .i64 x.ix,.slice (some ⟨ga,0,none⟩) x.fr.length na]):=by unfold Hd;rw [hy3];exact Box.new _ _ _ _ rfl
    have HB23:Hd (Below y2.heap.size y2 y3):=by unfold Hd;rw [hy3];exact Zab _ _
    rw [<- hy3];clear hy3;have HBy3:Hd (Below wr.heap.size wr y3):=bt HBy2.o HB23.o;have hs23:y2.heap.size<=y3.heap.size:=HB23.o.size;refine hK.out _ _ (KP.o _ (bt HBr.o HBy3.o)) (fun hHeld=>?_);clear hK KK
    try simp only [Act.put,List.setIfInBounds_toArray,List.set_cons_zero,List.set_cons_succ]
    have hwr:v6.heap.size<=wr.heap.size:=HBr.o.size;have HM3:Hd (AR y3 v6.heap.size wr.heap.size g (.slice (some ⟨gg,0,none⟩) L.length cp) L):=HM.o.below HBy3.o;have hsw3:=HBy3.o.size;have HI3:Hd (InA y3 wr.heap.size y3.heap.size g (x,some ⟨ga,0,none⟩,na)):=⟨wr.heap.size,y2.heap.size,Nat.le_refl _,HBy2.o.size,hs23,Or.inl HM.o.up,HJ.o.below HB23.o⟩
    obtain⟨u2,y4,hrun,ht2,hf2⟩:=ZeK Zar (by decide) underlying59 ZaT rfl (w:=y3) (lo:=g) (hi':=g+1) (v:=.slice (some ⟨gg,0,none⟩) L.length cp) (L:=L) (M:=[(x,some ⟨ga,0,none⟩,na)]) 59 HM3.o.row (some ⟨y2.heap.size,0,none⟩) 1 1 rfl (fun e=>by cases e) (fun ad e j u hu=>by
     injection e with e
     subst e;rw [Addr.add_lit,Nat.zero_add,HBx.o.cell j]
     simpa [Zai,axL,raL] using hu) (ZaV _) (by have:=HLl.o;simp;omega) (by decide)
    have HT2:=Zaa ht2;have HR2:=Zaa hf2;clear ht2 hf2;refine wpAnyH_ready (rs:=[17]) (by kernel_rfl) (by simp) ?_;refine AllReadyH.cons rfl (fun KK hK=>?_) AllReadyH.nil;refine Zae rfl (.tmp 39) (.tmp 55) 59 rfl rfl rfl hrun ?_;have hgl:=HM3.o.low;have hgu:=HM3.o.lt;have HBy4:Hd (Below v6.heap.size v6 y4):=(bt HBr.o HBy3.o).trans ((HT2.o.under (by omega)).mono hgl);refine hK.out _ _ (KP.o _ HBy4.o) (fun hHeld=>?_);clear hK KK hrun
    try simp only [Act.put,List.setIfInBounds_toArray]
    obtain⟨g',hg'⟩:=HM3.o.snoc hsw3 HI3.o HT2.o HR2.o hwr;have HG:=Zaa hg';clear hg';refine tH 18 (u2) rfl hHeld ?_;simp only [Act.put];refine wpAnyH_done (by kernel_rfl) ?_ _;go_wp2;go_roundw
    . 
     have hrel:∃ (kk gq:Nat) (LL:List AX),(.int .i64 ((k:Int)+1):Value)=.int .i64 kk/\kk<=U.ac.length/\Below v6.heap.size v6 y4/\AR y4 v6.heap.size y4.heap.size gq u2 LL/\LL.map (·.1)=U.ac.take kk:=⟨k+1,g',L ++ [(x,some ⟨ga,0,none⟩,na)],by go_num,by omega,HBy4.o,HG.o,by rw [List.map_append,HLk.o,List.take_succ_eq_append_getElem hlt,HX.o];rfl⟩
     first
     | exact hrel
     | ((repeat apply Exists.intro);exact⟨hrel,rfl⟩)
    . simp [intOf];omega
  . have hkl:k=U.ac.length:=by omega
    subst hkl;have hL6:L.map (·.1)=U.ac:=by rw [HLk.o,List.take_length]
    have HL6:=Zaa hL6;have hlen6:L.length=U.ac.length:=HLl.o;clear hL6;rw [hlen6] at HM;rw [hlen6];obtain⟨b6,hb6⟩:∃ b6:Option Addr,b6=some ⟨gg,0,none⟩:=⟨_,rfl⟩
    rw [<- hb6] at HM;rw [<- hb6];clear hb6 hlen6;have FB7:=Zaa (FB.o.on HBr.o);have RB7:=Zaa (RB.o.on HBr.o);have HB7:=Zaa (bt HB.o HBr.o);have hwr:v6.heap.size<=wr.heap.size:=HBr.o.size;replace N0:=Zaa (N0.o.below HBr.o);replace N1:=Zaa (N1.o.below HBr.o);replace N2:=Zaa (N2.o.below HBr.o);replace N3:=Zaa (N3.o.below HBr.o);replace N4:=Zaa (N4.o.below HBr.o);replace N5:=Zaa (N5.o.below HBr.o);obtain⟨ll,hll⟩:∃ ll,ll=rrL U b0 m0 b1 m1 b2 m2 b3 m3 b4 m4 b5 m5 b6 cp:=⟨_,rfl⟩
    have HLL:=Zaa hll;have FB8:Hd (Box (wr.setCell ⟨w.heap.size,16,none⟩ (.slice b6 U.ac.length cp)) w.heap.size ll.toArray):=by unfold Hd;rw [hll];exact FB7.o.set (k:=16) (.slice b6 U.ac.length cp) (by show 16 < 18;omega)
    have RB8:Hd (Box (wr.setCell ⟨w.heap.size,16,none⟩ (.slice b6 U.ac.length cp)) (w.heap.size+1) zR):=RB7.o.setFar (by simp only [];omega) _;have h18:ll.toArray.size=18:=by rw [hll];rfl
    have HS:Hd ((prog.info? 61).map (·.size)=some ll.length):=by unfold Hd;rw [hll];exact ZaA
    have HSA:Hd ((prog.info? 61).map (·.size)=some ll.toArray.size):=by unfold Hd;rw [hll];exact ZaA
    have HON:Hd (ll.toArray.all (·.oneCell')=true):=by unfold Hd;rw [hll];simp [rrL,Value.oneCell']
    have HTH:Hd (World.there (wr.setCell ⟨w.heap.size,16,none⟩ (.slice b6 U.ac.length cp)) (w.heap.size+1) 0 ll.toArray.size):=by unfold Hd;rw [h18];exact RB8.o.there rfl
    have HRA:Hd (World.rangeAt (wr.setCell ⟨w.heap.size,16,none⟩ (.slice b6 U.ac.length cp)) w.heap.size 0 ll):=FB8.o.range rfl;have gf:wr.frozen? ⟨w.heap.size,16,none⟩=false:=FB7.o.free 16;have H18:=Zaa h18;clear hll h18
    go_wp2_with (first
     | (with_reducible refine ldR (.tmp 1) w.heap.size 0 ll HRA.o HS.o ?_)
     | (with_reducible refine stR (.tmp 2) (.tmp 59) (w.heap.size+1) 0 ll.toArray HTH.o HSA.o HON.o ?_;refine Hd.o ?_))
    clear y16 gf;generalize hW:World.setCells _ _ _ _=W9;have FR9:Hd (Box W9 (w.heap.size+1) ll.toArray):=by unfold Hd;rw [<- hW];exact RB8.o.full (by rw [H18.o];rfl)
    have h9:W9.heap.size=wr.heap.size:=by rw [<- hW,Za6];simp [World.setCell]
    have HB9:Hd (Zw_ w W9):=by unfold Hd;rw [<- hW];exact Below.sets (by omega) _ _ (HB7.o.setCell (by simp only [];omega) _)
    have V1:=HV1.o;have V2:=HV2.o;have V3:=HV3.o;have V4:=HV4.o;have V5:=HV5.o;have V6:=HV6.o;have M0:Hd (ZaH rsL 2 W9 v0.heap.size x0.heap.size (.slice b0 U.sf.sl.length m0) U.sf.sl):=by unfold Hd;rw [<- hW];exact Za4 (P:=fun W=>ZaH rsL 2 W v0.heap.size x0.heap.size (.slice b0 U.sf.sl.length m0) U.sf.sl) (fun _ _ u hp h=>h.set hp u) (show w.heap.size+1 < v0.heap.size by omega) _ _ _ (N0.o.set (show w.heap.size < v0.heap.size by omega) _)
    have M1:Hd (ZaH rsL 2 W9 v1.heap.size x1.heap.size (.slice b1 U.dk.sl.length m1) U.dk.sl):=by unfold Hd;rw [<- hW];exact Za4 (P:=fun W=>ZaH rsL 2 W v1.heap.size x1.heap.size (.slice b1 U.dk.sl.length m1) U.dk.sl) (fun _ _ u hp h=>h.set hp u) (show w.heap.size+1 < v1.heap.size by omega) _ _ _ (N1.o.set (show w.heap.size < v1.heap.size by omega) _)
    have M2:Hd (MR W9 v2.heap.size x2.heap.size g2 (.slice b2 U.he.length m2) L2):=by unfold Hd;rw [<- hW];exact Za4 (P:=fun W=>MR W v2.heap.size x2.heap.size g2 (.slice b2 U.he.length m2) L2) (fun _ _ u hp h=>h.set hp u) (show w.heap.size+1 < v2.heap.size by omega) _ _ _ (N2.o.set (show w.heap.size < v2.heap.size by omega) _)
    have M3:Hd (ZaH tyL 1 W9 v3.heap.size x3.heap.size (.slice b3 U.wi.length m3) U.wi):=by unfold Hd;rw [<- hW];exact Za4 (P:=fun W=>ZaH tyL 1 W v3.heap.size x3.heap.size (.slice b3 U.wi.length m3) U.wi) (fun _ _ u hp h=>h.set hp u) (show w.heap.size+1 < v3.heap.size by omega) _ _ _ (N3.o.set (show w.heap.size < v3.heap.size by omega) _)
    have M4:Hd (ZaH inL 1 W9 v4.heap.size x4.heap.size (.slice b4 U.ye.length m4) U.ye):=by unfold Hd;rw [<- hW];exact Za4 (P:=fun W=>ZaH inL 1 W v4.heap.size x4.heap.size (.slice b4 U.ye.length m4) U.ye) (fun _ _ u hp h=>h.set hp u) (show w.heap.size+1 < v4.heap.size by omega) _ _ _ (N4.o.set (show w.heap.size < v4.heap.size by omega) _)
    have M5:Hd (ZaH rsL 2 W9 v5.heap.size x5.heap.size (.slice b5 U.be.length m5) U.be):=by unfold Hd;rw [<- hW];exact Za4 (P:=fun W=>ZaH rsL 2 W v5.heap.size x5.heap.size (.slice b5 U.be.length m5) U.be) (fun _ _ u hp h=>h.set hp u) (show w.heap.size+1 < v5.heap.size by omega) _ _ _ (N5.o.set (show w.heap.size < v5.heap.size by omega) _)
    have M6:Hd (AR W9 v6.heap.size wr.heap.size g (.slice b6 U.ac.length cp) L):=by unfold Hd;rw [<- hW];exact Za4 (P:=fun W=>AR W v6.heap.size wr.heap.size g (.slice b6 U.ac.length cp) L) (fun _ _ u hp h=>h.set hp u) (show w.heap.size+1 < v6.heap.size by omega) _ _ _ (HM.o.set (show w.heap.size < v6.heap.size by omega) _)
    clear hW;refine Zaa ?_;go_wp2;refine bodyPost_ret (v:=.agg ll.toArray) (ZdL (p:=2) (ty:=61) results54 _ _ (w.heap.size+1) 0 ll _ rfl (FR9.o.range rfl) underlying61 rfl HS.o) rfl ⟨b0,m0,b1,m1,b2,m2,b3,m3,b4,m4,b5,m5,b6,cp,fun i=>(lo7 v0.heap.size v1.heap.size v2.heap.size v3.heap.size v4.heap.size v5.heap.size v6.heap.size i,lo7 x0.heap.size x1.heap.size x2.heap.size x3.heap.size x4.heap.size x5.heap.size wr.heap.size i),by rw [HLL.o],HB9.o,⟨fun i hi=>?_,fun i j hi hj hne=>ZgS (a:=lo7 v0.heap.size v1.heap.size v2.heap.size v3.heap.size v4.heap.size v5.heap.size v6.heap.size) (b:=lo7 x0.heap.size x1.heap.size x2.heap.size x3.heap.size x4.heap.size x5.heap.size wr.heap.size) ?_ ?_ i j hi hj hne,M0.o,M1.o,⟨g2,L2,M2.o,HL2.o⟩,M3.o,M4.o,M5.o,⟨g,L,M6.o,HL6.o⟩⟩⟩
    . match i,hi with
      | 0,_=>simp only [lo7];omega
      | 1,_=>simp only [lo7];omega
      | 2,_=>simp only [lo7];omega
      | 3,_=>simp only [lo7];omega
      | 4,_=>simp only [lo7];omega
      | 5,_=>simp only [lo7];omega
      | 6,_=>simp only [lo7];omega
    . intro i hi
      match i,hi with
      | 0,_=>simp only [lo7];omega
      | 1,_=>simp only [lo7];omega
      | 2,_=>simp only [lo7];omega
      | 3,_=>simp only [lo7];omega
      | 4,_=>simp only [lo7];omega
      | 5,_=>simp only [lo7];omega
    . intro i hi
      match i,hi with
      | 0,_=>simp only [lo7];omega
      | 1,_=>simp only [lo7];omega
      | 2,_=>simp only [lo7];omega
      | 3,_=>simp only [lo7];omega
      | 4,_=>simp only [lo7];omega
      | 5,_=>simp only [lo7];omega
      | 6,_=>simp only [lo7];omega
end Go.Proofs.YtdeammfdkaomlaaGreat
