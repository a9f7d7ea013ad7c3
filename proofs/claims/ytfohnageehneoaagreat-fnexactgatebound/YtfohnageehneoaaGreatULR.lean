import Derived.Test.YtfohnageehneoaaGreatUQB
set_option maxHeartbeats 16000000
set_option maxRecDepth 100000
open Go.Proofs.Tryz
namespace Go.Proofs.YtfohnageehneoaaGreat
open Go.RowKit Go.Deep
variable {W0 W X Y:World} {b1 b2:Nat} {cs1 cs2:Array Value} {o:Obj} {t t1 t2 t3 t4:TypeId}
theorem ZaB.alloc (h:ZaB W0 b1 cs1 b2 cs2 W) (o:Obj):ZaB W0 b1 cs1 b2 cs2 (W.alloc o):=h.on (Zac _ _)
theorem ZaB.set (h:ZaB W0 b1 cs1 b2 cs2 W) {p:Addr} (hp:W0.heap.size<=p.block) (u:Value):ZaB W0 b1 cs1 b2 cs2 (W.setCell p u):=by
 obtain⟨h1,h2,h3,h4,h5⟩:=h;exact⟨fun i=>(Zas _ _ _ _ (by show b1≠p.block;omega)).trans (h1 i),fun i=>(Zas _ _ _ _ (by show b2≠p.block;omega)).trans (h2 i),h3.setCell hp u,h4,h5⟩
theorem ZaB.swap (h:ZaB W0 b1 cs1 b2 cs2 (W.alloc o)) (hb:Below W0.heap.size W0 W) (o':Obj):ZaB W0 b1 cs1 b2 cs2 (W.alloc o'):=by
 obtain⟨h1,h2,h3,h4,h5⟩:=h;have hs:=hb.size;exact ZaB.alloc ⟨fun i=>((Zac W o).cell (p:=⟨b1,i,none⟩) (by dsimp;omega)).symm.trans (h1 i),fun i=>((Zac W o).cell (p:=⟨b2,i,none⟩) (by dsimp;omega)).symm.trans (h2 i),hb,h4,h5⟩ o'
def Zl4 (w:World) (β:Nat) (B:Bk):Prop:=∃ b0 m0 b1 m1 b2 m2 b3 m3,Box w β (#[Value.int .i64 B.now,.int .i64 B.tick,.int .i64 B.given,.slice b0 B.os.length m0,.slice b1 B.gs.length m1,.slice b2 B.ls.length m2,.slice b3 B.ps.length m3])/\ZaY 0 w (.slice b0 B.os.length m0) (.slice b1 B.gs.length m1) (.slice b2 B.ls.length m2) (.slice b3 B.ps.length m3) B
theorem Zl4.new {lo hi:Nat} {w5:World} {B:Bk} {b0 m0 b1 m1 b2 m2 b3 m3} (ho:Zax lo hi w5 (.slice b0 B.os.length m0) (.slice b1 B.gs.length m1) (.slice b2 B.ls.length m2) (.slice b3 B.ps.length m3) B) (t:TypeId):Zl4 (w5.alloc (.cells (#[Value.int .i64 B.now,.int .i64 B.tick,.int .i64 B.given,.slice b0 B.os.length m0,.slice b1 B.gs.length m1,.slice b2 B.ls.length m2,.slice b3 B.ps.length m3]) t)) w5.heap.size B:=
 ⟨_,_,_,_,_,_,_,_,Box.new _ _ _ _ rfl,(ho.below (Zac _ _)).at.mono Zz_⟩
theorem Zl4.set {lo hi β:Nat} {w5:World} {B:Bk} {b0 m0 b1 m1 b2 m2 b3 m3} (hx:Box w5 β #[Value.int .i64 0,.int .i64 0,.int .i64 0,.slice none 0 0,.slice none 0 0,.slice none 0 0,.slice none 0 0]) (ho:Zax lo hi w5 (.slice b0 B.os.length m0) (.slice b1 B.gs.length m1) (.slice b2 B.ls.length m2) (.slice b3 B.ps.length m3) B) (hb:β < lo) :
 Zl4 (((((((w5.setCell ⟨β,0,none⟩ (.int .i64 B.now)).setCell ⟨β,1,none⟩ (.int .i64 B.tick)).setCell ⟨β,2,none⟩ (.int .i64 B.given)).setCell ⟨β,3,none⟩ (.slice b0 B.os.length m0)).setCell ⟨β,4,none⟩ (.slice b1 B.gs.length m1)).setCell ⟨β,5,none⟩ (.slice b2 B.ls.length m2)).setCell ⟨β,6,none⟩ (.slice b3 B.ps.length m3)) β B:=
 ⟨_,_,_,_,_,_,_,_,(((((((hx.set (k:=0) (.int .i64 B.now) (by simp)).set (k:=1) (.int .i64 B.tick) (by simp)).set (k:=2) (.int .i64 B.given) (by simp)).set (k:=3) (.slice b0 B.os.length m0) (by simp)).set (k:=4) (.slice b1 B.gs.length m1) (by simp)).set (k:=5) (.slice b2 B.ls.length m2) (by simp)).set (k:=6) (.slice b3 B.ps.length m3) (by simp)),((((((((ho.setLow hb _).setLow hb _).setLow hb _).setLow hb _).setLow hb _).setLow hb _).setLow hb _).at).mono Zz_⟩
theorem ZcC {n β:Nat}{a w5:World} (h:Below n a w5) (hb:n<=β) (v0 v1 v2 v3 v4 v5 v6:Value):Below n a (((((((w5.setCell ⟨β,0,none⟩ v0).setCell ⟨β,1,none⟩ v1).setCell ⟨β,2,none⟩ v2).setCell ⟨β,3,none⟩ v3).setCell ⟨β,4,none⟩ v4).setCell ⟨β,5,none⟩ v5).setCell ⟨β,6,none⟩ v6):=
 ((((((h.setCell hb _).setCell hb _).setCell hb _).setCell hb _).setCell hb _).setCell hb _).setCell hb _
theorem ZlP (h:Below X.drew.heap.size X.drew Y):Below X.heap.size X Y:=bt (Zb_.drew) h
theorem Zhm (h:Below (X.alloc o).drew.heap.size (X.alloc o).drew Y):Below X.heap.size X Y:=bt ((Zac X o).drew) h
theorem ZaB.aldrew (h1:Box W0 b1 cs1) (h2:Box W0 b2 cs2) (o:Obj):ZaB W0 b1 cs1 b2 cs2 (W0.alloc o).drew:=⟨(h1.on (Zac _ _)).cell,(h2.on (Zac _ _)).cell,(Zac _ _).drew,h1.lt,h2.lt⟩
theorem Zic (h:Below (X.alloc o).heap.size (X.alloc o) Y):Below X.heap.size X Y:=bt (Zac _ _) h
theorem Zhn {k:Int}{B:Bk} (h:0<=k):¬ (Zny k B < 0):=by unfold Zny;omega
theorem ZpX (sv mv tv ov gv lv pv:Value) (Ss:List Sh) (Ms:List Md) (Ts:List Tm) (B:Bk) (t r:Zy_) (mo:Int) (w:World)
 (hL:ZbC 0 w sv mv tv Ss Ms Ts) (hB:ZaY 0 w ov gv lv pv B) (s0:t.size<=maxLen) (s1:r.size<=maxLen) :
 Calls prog 5 #[.agg #[sv,mv,tv],.agg #[.int .i64 B.now,.int .i64 B.tick,.int .i64 B.given,ov,gv,lv,pv],.string t,.string r,.int .i64 mo] w fun e w'=>e=.returned (.bool true)/\Zw_ w w':=by
 obtain⟨FF,hFF⟩:=Zb1.exists Ss Ms B.os;have HSH:=Zab hFF;clear hFF;have HL:=Zab hL;have HK:=Zab hB;obtain⟨a,cap,rfl⟩:=hL.shs.form;obtain⟨a1,cap1,rfl⟩:=hL.mds.form;obtain⟨a2,cap2,rfl⟩:=hL.tms.form;obtain⟨oa0,oc0,rfl⟩:=hB.obs.form;obtain⟨oa1,oc1,rfl⟩:=hB.grs.form;obtain⟨oa2,oc2,rfl⟩:=hB.les.form;obtain⟨oa3,oc3,rfl⟩:=hB.pus.form;clear hL hB;have HZ0:=Zab s0;have HZ1:=Zab s1;unfold maxLen at s0 s1
 by_cases hr0:1048576 < t.size
 . go_enter func5,ntmps5
   go_wp2;go_ret;exact⟨rfl,(Zac w _).alloc (by simp) _⟩
 by_cases hr1:1048576 < r.size
 . go_enter func5,ntmps5
   go_wp2;go_ret;exact⟨rfl,(Zac w _).alloc (by simp) _⟩
 go_enter func5,ntmps5;go_wp2_with fail;clear hr0 s0 hr1 s1;generalize hWa:(World.alloc (w.alloc _) _)=Wa;have HBa:Hd (Zw_ w Wa):=by rw [<- hWa];exact (Zac w _).alloc (by simp) _
 have FA:Hd (Box Wa w.heap.size (#[Value.slice a Ss.length cap,.slice a1 Ms.length cap1,.slice a2 Ts.length cap2])):=by rw [<- hWa];exact (Box.new _ _ _ _ rfl).on (Zac _ _)
 have FB:Hd (Box Wa (w.heap.size+1) (#[Value.int .i64 B.now,.int .i64 B.tick,.int .i64 B.given,.slice oa0 B.os.length oc0,.slice oa1 B.gs.length oc1,.slice oa2 B.ls.length oc2,.slice oa3 B.ps.length oc3])):=by rw [<- hWa];exact Box.new _ _ _ _ (by simp)
 clear hWa;refine (Zpl 0 _ _ _ Ss Ms Ts _ _ (by omega) (by omega) (HL.o.below HBa.o)).mono ?_;rintro e w1 ⟨q,rfl,hb1,hr0,hr1,hr2⟩;have HB1:Hd (Zw_ w w1):=bt HBa.o hb1;replace FA:=Zab (FA.o.on hb1);replace FB:=Zab (FB.o.on hb1);have HQ:=Zab hr2;clear hb1 hr2 HBa
 by_cases hneg:q < 0
 . go_wp2
   go_ret;exact⟨rfl,HB1.o⟩
 have hLm:Hd (Zfi Ss Ms Ts):=HQ.o (by omega);clear HQ hr0;have g1:=FB.o.cell;have gm:=FB.o.lt;go_wp2_with fail;clear g1 gm;refine (ZnA 0 _ _ _ _ B _ _ (by omega) (by omega) (HK.o.below HB1.o)).mono ?_;rintro e w2 ⟨q2,rfl,hb2,hr0,hr2,hr3⟩;have HB:Hd (Zw_ w w2):=bt HB1.o hb2;replace FA:=Zab (FA.o.on hb2);replace FB:=Zab (FB.o.on hb2);have HQ:=Zab hr3;clear hb2 hr3 HB1
 by_cases hneg2:q2 < 0
 . go_wp2
   go_ret;exact⟨rfl,HB.o⟩
 have hBm:Hd (ZaE B):=HQ.o (by omega);clear HQ hr0 hr1 hr2 hneg;obtain⟨Bq,c,hAN,hSM⟩:∃ (Bq:Bk) (c:Int),Zdk Ss Ms Ts B FF t r mo=(Bq,c)/\ZaE Bq:=⟨_,_,rfl,ZjN t r mo hBm.o⟩
 have HAN:=Zab hAN;have HSM:=Zab hSM;clear hAN hSM;go_wp2;clear hneg2
 go_cut [12,13] (fun p q wc=>∃ β,p=.pointer (some ⟨β,0,none⟩)/\q=.int .i64 c/\w2.heap.size<=β/\Zl4 wc β Bq/\Below w2.heap.size w2 wc)
 case first=>
  have hltA:w.heap.size < w2.heap.size:=FA.o.lt
  have HLr:=Zab (HL.o.below HB.o);have HKr:=Zab (HK.o.below HB.o)
  go_region_held3 (ZaB w2 w.heap.size (#[Value.slice a Ss.length cap,.slice a1 Ms.length cap1,.slice a2 Ts.length cap2]) (w.heap.size+1) (#[Value.int .i64 B.now,.int .i64 B.tick,.int .i64 B.given,.slice oa0 B.os.length oc0,.slice oa1 B.gs.length oc1,.slice oa2 B.ls.length oc2,.slice oa3 B.ps.length oc3]))
   (first
     | (with_reducible exact ZaB.drew FA.o FB.o)
     | (with_reducible exact ZaB.aldrew FA.o FB.o _)
     | (with_reducible exact ZaB.on (by assumption) (by assumption))
     | (with_reducible (refine ZaB.alloc ?_ _;assumption))
     | (with_reducible exact ZaB.swap (by assumption) HD5.o _)
     | (refine ZaB.set ?_ (by dsimp;omega) _
        refine ZaB.set ?_ (by dsimp;omega) _;refine ZaB.set ?_ (by dsimp;omega) _;refine ZaB.set ?_ (by dsimp;omega) _;refine ZaB.set ?_ (by dsimp;omega) _;refine ZaB.set ?_ (by dsimp;omega) _;refine ZaB.set ?_ (by dsimp;omega) _
        with_reducible assumption))
   (first
     | (go_at_call 10
        refine (ZgH 0 _ _ _ Ss Ms Ts _ (by first | exact HLr.o.below (Zb_.drew) | exact HLr.o.below ((Zac _ _).drew)) hLm.o).mono ?_;rintro e w3 ⟨x0,y0,x1,y1,x2,y2,rfl,hb3,hs3⟩
        try (have HX:Hd (Box w3 w2.heap.size #[Value.int .i64 0,.int .i64 0,.int .i64 0,.slice none 0 0,.slice none 0 0,.slice none 0 0,.slice none 0 0]):=by with_reducible exact Zab (Box.on (Box.drew (Box.new w2 _ 40 _ rfl)) hb3))
        first|(have HD3:Hd (Below w2.heap.size w2 w3):=by with_reducible exact Zab (ZlP hb3))|(have HD3:Hd (Below w2.heap.size w2 w3):=by with_reducible exact Zab (Zhm hb3))
        have HS3:=Zab (hs3.mono Zz_);have hz3:w2.heap.size<=w3.heap.size:=HD3.o.size;clear hs3)
     | (go_at_call 11
        refine (ZfM 0 _ _ _ _ B _ (by first | exact HKr.o.below HD3.o | exact HKr.o.below (bt HD3.o (Zac _ _))) hBm.o).mono ?_;rintro e w4 ⟨z0,t0,z1,t1,z2,t2,z3,t3,rfl,hb4,hs4⟩
        first|(have HX4:Hd (Box w4 w3.heap.size #[Value.int .i64 0,.int .i64 0,.int .i64 0,.slice none 0 0,.slice none 0 0,.slice none 0 0,.slice none 0 0]):=by with_reducible exact Zab (Box.on (Box.new w3 _ 40 _ rfl) hb4))|(have HX4:=Zab (HX.o.on hb4)) | skip
        first|(have HD4:Hd (Below w2.heap.size w2 w4):=by with_reducible exact Zab (bt HD3.o hb4))|(have HD4:Hd (Below w2.heap.size w2 w4):=by with_reducible exact Zab (bt HD3.o (Zic hb4)))
        have HS4:Hd (ZbC 0 w4 _ _ _ Ss Ms Ts):=HS3.o.below (by first | exact hb4 | exact Zic hb4);have HK4:=Zab (hs4.mono Zz_);have hz4:w2.heap.size<=w4.heap.size:=HD4.o.size;clear hs4 HS3)
     | (go_at_call 20
        refine (Zi4 _ _ _ _ _ _ _ Ss Ms Ts B FF t r mo _ (by first | exact HS4.o | exact HS4.o.below (Zac _ _)) (by first | exact HK4.o | exact HK4.o.below (Zac _ _)) hBm.o HSH.o HZ0.o HZ1.o).mono ?_;intro e w5 hans;rw [HAN.o] at hans;obtain⟨b0,m0,b1,m1,b2,m2,b3,m3,rfl,hb5,ho5⟩:=hans
        first|(have HX5:Hd (Box w5 w4.heap.size #[Value.int .i64 0,.int .i64 0,.int .i64 0,.slice none 0 0,.slice none 0 0,.slice none 0 0,.slice none 0 0]):=by with_reducible exact Zab (Box.on (Box.new w4 _ 40 _ rfl) hb5))|(have HX5:=Zab (HX4.o.on hb5)) | skip
        first|(have HD5:Hd (Below w2.heap.size w2 w5):=by with_reducible exact Zab (bt HD4.o hb5))|(have HD5:Hd (Below w2.heap.size w2 w5):=by with_reducible exact Zab (bt HD4.o (Zic hb5)))
        have HO5:=Zab ho5
        try (have rr:=HX5.o.cell
             have rf:=HX5.o.free;have rl:=HX5.o.lt;have r0:_=some (Value.int .i64 0):=rr 0;have r1:_=some (Value.int .i64 0):=rr 1;have r2:_=some (Value.int .i64 0):=rr 2;have r3:_=some (Value.slice none 0 0):=rr 3;have r4:_=some (Value.slice none 0 0):=rr 4;have r5:_=some (Value.slice none 0 0):=rr 5;have r6:_=some (Value.slice none 0 0):=rr 6;clear rr)
        clear ho5))
  all_goals (go_wp2_with fail)
  all_goals go_meet
  . exact⟨_,rfl,rfl,HD5.o.size,Zl4.new HO5.o _,HD5.o.alloc HD5.o.size _⟩
  . exact⟨_,rfl,rfl,HD4.o.size,Zl4.set HX5.o HO5.o (by simp),ZcC HD5.o HD4.o.size _ _ _ _ _ _ _⟩
  . exact⟨_,rfl,rfl,HD3.o.size,Zl4.set HX5.o HO5.o HX4.o.lt,ZcC HD5.o HD3.o.size _ _ _ _ _ _ _⟩
  . exact⟨_,rfl,rfl,Nat.le_refl _,Zl4.set HX5.o HO5.o HX4.o.lt,ZcC HD5.o Zl_ _ _ _ _ _ _ _⟩
 case rest=>
 revert wc;intro Wc hcut;obtain⟨β,rfl,rfl,hβ,⟨b0,m0,b1,m1,b2,m2,b3,m3,hx5,ho5⟩,hbc⟩:=hcut;have hzβ:=hx5.lt;have hzw:w.heap.size+1 < w2.heap.size:=FB.o.lt
 have hzc:=hbc.size;have FC:Hd (Below Wc.heap.size Wc Wc):=Below.refl _ _;have HW0:=Zab ho5;have FO:=Zab ho5;have FW:=Zab hx5;have FA:Hd (Box Wc w.heap.size (#[Value.slice a Ss.length cap,.slice a1 Ms.length cap1,.slice a2 Ts.length cap2])):=FA.o.on hbc;have FB:Hd (Box Wc (w.heap.size+1) (#[Value.int .i64 B.now,.int .i64 B.tick,.int .i64 B.given,.slice oa0 B.os.length oc0,.slice oa1 B.gs.length oc1,.slice oa2 B.ls.length oc2,.slice oa3 B.ps.length oc3])):=FB.o.on hbc;have HB:Hd (Zw_ w Wc):=bt HB.o hbc;clear hx5 ho5 hbc;have g1:=FA.o.cell;go_wp2_with fail;clear g1;refine (ZnJ 0 _ _ _ Ss Ms Ts _ (HL.o.below HB.o) hLm.o).mono ?_;rintro e w6 ⟨c0,d0,c1,d1,c2,d2,rfl,hb6,ho6⟩;have hz6:=hb6.size;replace FC:=Zab (FC.o.trans (hb6.mono FC.o.size));replace FA:=Zab (FA.o.on hb6);replace FB:=Zab (FB.o.on hb6);replace FW:=Zab (FW.o.on hb6)
 replace HB:=Zab (HB.o.trans (hb6.mono HB.o.size));replace FO:=Zab (FO.o.below hb6);have OX:=Zab ho6;clear hb6 ho6;have g0:=FB.o.cell;have gl:=FB.o.lt;have g1:∀ o i,(w6.alloc o).cell? ⟨w.heap.size+1,i,none⟩=_:=fun o i=>(Zak _ _ _ _ gl).trans (g0 i)
 go_wp2_with fail;clear g0 gl g1;generalize hWn:w6.alloc _=W6;have hbn:Below w6.heap.size w6 W6:=by rw [<- hWn];exact Zac _ _
 have FX:Hd (Box W6 w6.heap.size (#[Value.slice c0 Ss.length d0,.slice c1 Ms.length d1,.slice c2 Ts.length d2])):=by rw [<- hWn];exact Box.new _ _ _ _ rfl
 have hzW6:W6.heap.size=w6.heap.size+1:=by rw [<- hWn];simp
 replace FC:=Zab (FC.o.trans (hbn.mono FC.o.size));replace FA:=Zab (FA.o.on hbn);replace FB:=Zab (FB.o.on hbn);replace FW:=Zab (FW.o.on hbn);replace HB:=Zab (HB.o.trans (hbn.mono HB.o.size));replace FO:=Zab (FO.o.below hbn);replace OX:=Zab (OX.o.below hbn);clear hbn hWn;refine (Zlx 0 _ _ _ _ B _ (HK.o.below HB.o) hBm.o).mono ?_;rintro e w7 ⟨x0,y0,x1,y1,x2,y2,x3,y3,rfl,hb7,ho7⟩;have hz7:=hb7.size;replace FC:=Zab (FC.o.trans (hb7.mono FC.o.size));replace FA:=Zab (FA.o.on hb7);replace FB:=Zab (FB.o.on hb7);replace FW:=Zab (FW.o.on hb7);replace HB:=Zab (HB.o.trans (hb7.mono HB.o.size));replace FO:=Zab (FO.o.below hb7);replace OX:=Zab (OX.o.below hb7);replace FX:=Zab (FX.o.on hb7);have OY:=Zab ho7;clear hb7 ho7;have g0:=FX.o.cell;have gl:=FX.o.lt
 have g1:∀ o i,(w7.alloc o).cell? ⟨w6.heap.size,i,none⟩=_:=fun o i=>(Zak _ _ _ _ gl).trans (g0 i)
 go_wp2_with fail;clear g0 gl g1;generalize hWn:w7.alloc _=W7;have hbn:Below w7.heap.size w7 W7:=by rw [<- hWn];exact Zac _ _
 have FY:Hd (Box W7 w7.heap.size (#[Value.int .i64 B.now,.int .i64 B.tick,.int .i64 B.given,.slice x0 B.os.length y0,.slice x1 B.gs.length y1,.slice x2 B.ls.length y2,.slice x3 B.ps.length y3])):=by rw [<- hWn];exact Box.new _ _ _ _ rfl
 have hzW7:W7.heap.size=w7.heap.size+1:=by rw [<- hWn];simp
 replace FC:=Zab (FC.o.trans (hbn.mono FC.o.size));replace FA:=Zab (FA.o.on hbn);replace FB:=Zab (FB.o.on hbn);replace FW:=Zab (FW.o.on hbn);replace HB:=Zab (HB.o.trans (hbn.mono HB.o.size));replace FO:=Zab (FO.o.below hbn);replace OX:=Zab (OX.o.below hbn);replace FX:=Zab (FX.o.on hbn);replace OY:=Zab (OY.o.below hbn);clear hbn hWn;refine (Zfk _ _ _ _ _ _ _ Ss Ms Ts B FF t r mo _ (OX.o.at.mono Zz_) (OY.o.at.mono Zz_) hBm.o HSH.o HZ0.o HZ1.o).mono ?_;intro e w8 hans;rw [HAN.o] at hans;obtain⟨z0,t0,z1,t1,z2,t2,z3,t3,rfl,hb8,ho8⟩:=hans;have hz8:=hb8.size;replace FC:=Zab (FC.o.trans (hb8.mono FC.o.size));replace FA:=Zab (FA.o.on hb8);replace FB:=Zab (FB.o.on hb8);replace FW:=Zab (FW.o.on hb8);replace HB:=Zab (HB.o.trans (hb8.mono HB.o.size));replace FO:=Zab (FO.o.below hb8)
 replace OX:=Zab (OX.o.below hb8);replace FX:=Zab (FX.o.on hb8);replace OY:=Zab (OY.o.below hb8);replace FY:=Zab (FY.o.on hb8);have OG:=Zab ho8;clear hb8 ho8;have g0:=FW.o.cell;have gl:=FW.o.lt;have g1:∀ o i,(w8.alloc o).cell? ⟨β,i,none⟩=_:=fun o i=>(Zak _ _ _ _ gl).trans (g0 i)
 go_wp2_with fail;clear g0 gl g1;generalize hWn:w8.alloc _=W8;have hbn:Below w8.heap.size w8 W8:=by rw [<- hWn];exact Zac _ _
 have FG:Hd (Box W8 w8.heap.size (#[Value.int .i64 Bq.now,.int .i64 Bq.tick,.int .i64 Bq.given,.slice z0 Bq.os.length t0,.slice z1 Bq.gs.length t1,.slice z2 Bq.ls.length t2,.slice z3 Bq.ps.length t3])):=by rw [<- hWn];exact Box.new _ _ _ _ rfl
 have hzW8:W8.heap.size=w8.heap.size+1:=by rw [<- hWn];simp
 replace FC:=Zab (FC.o.trans (hbn.mono FC.o.size));replace FA:=Zab (FA.o.on hbn);replace FB:=Zab (FB.o.on hbn);replace FW:=Zab (FW.o.on hbn);replace HB:=Zab (HB.o.trans (hbn.mono HB.o.size));replace FO:=Zab (FO.o.below hbn);replace OX:=Zab (OX.o.below hbn);replace FX:=Zab (FX.o.on hbn);replace OY:=Zab (OY.o.below hbn);replace FY:=Zab (FY.o.on hbn);replace OG:=Zab (OG.o.below hbn);clear hbn hWn;refine (Zd8 _ _ _ _ _ Bq _ _ _ _ _ _ OG.o.at FO.o).mono ?_;rintro e w9 ⟨rfl,hbe⟩;have hzw9:=hbe.size;replace FC:=Zab (FC.o.trans (hbe.mono FC.o.size));replace FA:=Zab (FA.o.on hbe);replace FB:=Zab (FB.o.on hbe);replace FW:=Zab (FW.o.on hbe);replace HB:=Zab (HB.o.trans (hbe.mono HB.o.size));replace FO:=Zab (FO.o.below hbe);replace OX:=Zab (OX.o.below hbe);replace FX:=Zab (FX.o.on hbe);replace OY:=Zab (OY.o.below hbe)
 replace FY:=Zab (FY.o.on hbe);replace OG:=Zab (OG.o.below hbe);replace FG:=Zab (FG.o.on hbe);clear hbe;go_wp2_with fail;have HLb:=Zab (HL.o.below HB.o)
 go_region_held3 (ZaB w9 w6.heap.size (#[Value.slice c0 Ss.length d0,.slice c1 Ms.length d1,.slice c2 Ts.length d2]) w.heap.size (#[Value.slice a Ss.length cap,.slice a1 Ms.length cap1,.slice a2 Ts.length cap2]))
  (first
    | (with_reducible exact ZaB.drew FX.o FA.o)
    | (with_reducible exact ZaB.on (by assumption) (by assumption)))
  (first
    | (go_at_call 10
       refine (ZgH 0 _ _ _ Ss Ms Ts _ (HLb.o.below (Zb_.drew)) hLm.o).mono ?_;rintro e we ⟨f0,j0,f1,j1,f2,j2,rfl,hbe,hse⟩;have HC8:Hd (Below w9.heap.size w9 we):=bt (Zb_.drew) hbe;have HSe:=Zab hse;clear hse)
    | (go_at_call 14
       refine (Zns _ _ _ _ Ss Ms Ts _ _ _ _ _ (OX.o.below HC8.o).at HSe.o).mono ?_;rintro e w10 ⟨rfl,hbf⟩;have HC9:Hd (Below w9.heap.size w9 w10):=bt HC8.o hbf))
 have hb10:=HC9.o;have hz10:=hb10.size;replace FC:=Zab (FC.o.trans (hb10.mono FC.o.size));replace FA:=Zab (FA.o.on hb10);replace FB:=Zab (FB.o.on hb10);replace FW:=Zab (FW.o.on hb10);replace HB:=Zab (HB.o.trans (hb10.mono HB.o.size));replace FO:=Zab (FO.o.below hb10);replace OX:=Zab (OX.o.below hb10);replace FX:=Zab (FX.o.on hb10);replace OY:=Zab (OY.o.below hb10);replace FY:=Zab (FY.o.on hb10);replace OG:=Zab (OG.o.below hb10);replace FG:=Zab (FG.o.on hb10);clear hb10 HC9 HC8 HSe HLb hbe hbf;go_wp2_with fail;have HKb:=Zab (HK.o.below HB.o)
 go_region_held3 (ZaB w10 w7.heap.size (#[Value.int .i64 B.now,.int .i64 B.tick,.int .i64 B.given,.slice x0 B.os.length y0,.slice x1 B.gs.length y1,.slice x2 B.ls.length y2,.slice x3 B.ps.length y3]) (w.heap.size+1) (#[Value.int .i64 B.now,.int .i64 B.tick,.int .i64 B.given,.slice oa0 B.os.length oc0,.slice oa1 B.gs.length oc1,.slice oa2 B.ls.length oc2,.slice oa3 B.ps.length oc3]))
  (first
    | (with_reducible exact ZaB.drew FY.o FB.o)
    | (with_reducible exact ZaB.on (by assumption) (by assumption)))
  (first
    | (go_at_call 11
       refine (ZfM 0 _ _ _ _ B _ (HKb.o.below (Zb_.drew)) hBm.o).mono ?_;rintro e we ⟨f0,j0,f1,j1,f2,j2,f3,j3,rfl,hbe,hse⟩;have HC8:Hd (Below w10.heap.size w10 we):=bt (Zb_.drew) hbe;have HSe:=Zab hse;clear hse)
    | (go_at_call 13
       refine (Zd8 _ _ _ _ _ B _ _ _ _ _ _ (OY.o.below HC8.o).at HSe.o).mono ?_;rintro e w11 ⟨rfl,hbf⟩;have HC9:Hd (Below w10.heap.size w10 w11):=bt HC8.o hbf))
 have hb11:=HC9.o;have hz11:=hb11.size;replace FC:=Zab (FC.o.trans (hb11.mono FC.o.size));replace FA:=Zab (FA.o.on hb11);replace FB:=Zab (FB.o.on hb11);replace FW:=Zab (FW.o.on hb11);replace HB:=Zab (HB.o.trans (hb11.mono HB.o.size));replace FO:=Zab (FO.o.below hb11);replace OX:=Zab (OX.o.below hb11);replace FX:=Zab (FX.o.on hb11);replace OY:=Zab (OY.o.below hb11);replace FY:=Zab (FY.o.on hb11);replace OG:=Zab (OG.o.below hb11);replace FG:=Zab (FG.o.on hb11);clear hb11 HC9 HC8 HSe HKb hbe hbf;have g1:=FX.o.cell;go_wp2_with fail;clear g1;refine (Zlc _ _ _ _ _ Ss Ms Ts _ OX.o hLm.o (by omega)).mono ?_;rintro e w12 ⟨k1,rfl,hk1,hk2,ht12⟩;have hz12:=ht12.size;replace FC:=Zab (FC.o.trans ((ht12.under (by omega)).mono (by omega)));replace FA:=Zab (FA.o.touch ht12 (by omega));replace FB:=Zab (FB.o.touch ht12 (by omega))
 replace FW:=Zab (FW.o.touch ht12 (by omega));replace HB:=Zab (HB.o.trans ((ht12.under (by omega)).mono (by omega)));replace FO:=Zab (HW0.o.below FC.o);replace FX:=Zab (FX.o.touch ht12 (by omega));replace OY:=Zab (OY.o.touch ht12 (by omega));replace FY:=Zab (FY.o.touch ht12 (by omega));replace OG:=Zab (OG.o.touch ht12 (by omega));replace FG:=Zab (FG.o.touch ht12 (by omega));clear OX FX ht12;have g1:=FY.o.cell;go_wp2_with fail;clear g1;refine (Zgj _ _ _ _ _ _ B _ k1 OY.o hBm.o (by omega) (by omega) (by omega)).mono ?_;rintro e w13 ⟨rfl,ht13,hm13⟩;have hz13:=ht13.size;replace FC:=Zab (FC.o.trans ((ht13.under (by omega)).mono (by omega)));replace FA:=Zab (FA.o.touch ht13 (by omega));replace FB:=Zab (FB.o.touch ht13 (by omega));replace FW:=Zab (FW.o.touch ht13 (by omega))
 replace HB:=Zab (HB.o.trans ((ht13.under (by omega)).mono (by omega)));replace FO:=Zab (HW0.o.below FC.o);replace FY:=Zab (FY.o.touch ht13 (by omega));replace OG:=Zab (OG.o.touch ht13 (by omega));replace FG:=Zab (FG.o.touch ht13 (by omega));clear OY FY ht13 hm13;have hke:=Zhn (k:=k1) (B:=B) (by omega);have g1:=FG.o.cell;have g2:=FW.o.cell;generalize Zny k1 B=K1 at hke |-;go_wp2_with fail;clear g1 g2;refine (Zd8 _ _ _ _ _ Bq _ _ _ _ _ _ OG.o.at FO.o).mono ?_;rintro e w14 ⟨rfl,hbe⟩;have hzw14:=hbe.size;replace FC:=Zab (FC.o.trans (hbe.mono FC.o.size));replace FA:=Zab (FA.o.on hbe);replace FB:=Zab (FB.o.on hbe);replace FW:=Zab (FW.o.on hbe);replace HB:=Zab (HB.o.trans (hbe.mono HB.o.size));replace FO:=Zab (FO.o.below hbe);replace OG:=Zab (OG.o.below hbe);replace FG:=Zab (FG.o.on hbe);clear hbe;have g1:=FG.o.cell
 go_wp2_with fail;clear g1 hke;refine (Zgj _ _ _ _ _ _ Bq _ 1 OG.o HSM.o (by omega) (by omega) (by omega)).mono ?_;rintro e w15 ⟨rfl,ht15,hm15⟩;have hz15:=ht15.size;replace FC:=Zab (FC.o.trans ((ht15.under (by omega)).mono (by omega)));replace FA:=Zab (FA.o.touch ht15 (by omega));replace FB:=Zab (FB.o.touch ht15 (by omega));replace FW:=Zab (FW.o.touch ht15 (by omega));replace HB:=Zab (HB.o.trans ((ht15.under (by omega)).mono (by omega)));replace FO:=Zab (HW0.o.below FC.o);replace FG:=Zab (FG.o.touch ht15 (by omega));have OM:=Zab hm15;clear OG ht15 hm15;have hke:=Zhn (k:=1) (B:=Bq) (by omega);have g1:=FG.o.cell;generalize hK2:Zny 1 Bq=K2 at hke |-;have HK2:=Zab hK2;clear hK2;go_wp2_with fail;clear g1;refine (Zgi _ _ _ _ _ _ Bq _ 1 OM.o HSM.o (by omega) (by omega)).mono ?_;rintro e w16 ⟨rfl,hb16⟩;have hz16:=hb16.size
 replace FC:=Zab (FC.o.trans (hb16.mono FC.o.size));replace FA:=Zab (FA.o.on hb16);replace FB:=Zab (FB.o.on hb16);replace FW:=Zab (FW.o.on hb16);replace HB:=Zab (HB.o.trans (hb16.mono HB.o.size));replace FO:=Zab (FO.o.below hb16);replace FG:=Zab (FG.o.on hb16);replace OM:=Zab (OM.o.below hb16);clear hb16;rw [HK2.o];go_wp2_with fail
 go_cut [21,22] (fun p q wc=>∃ β,p=.pointer (some ⟨β,0,none⟩)/\q=.int .i64 c/\w16.heap.size<=β/\Zl4 wc β Bq/\Below w16.heap.size w16 wc)
 case first=>
  have hltA:w.heap.size < w16.heap.size:=FA.o.lt
  have HLr:=Zab (HL.o.below HB.o);have HKr:=Zab (HK.o.below HB.o)
  go_region_held3 (ZaB w16 w.heap.size (#[Value.slice a Ss.length cap,.slice a1 Ms.length cap1,.slice a2 Ts.length cap2]) (w.heap.size+1) (#[Value.int .i64 B.now,.int .i64 B.tick,.int .i64 B.given,.slice oa0 B.os.length oc0,.slice oa1 B.gs.length oc1,.slice oa2 B.ls.length oc2,.slice oa3 B.ps.length oc3]))
   (first
     | (with_reducible exact ZaB.drew FA.o FB.o)
     | (with_reducible exact ZaB.aldrew FA.o FB.o _)
     | (with_reducible exact ZaB.on (by assumption) (by assumption))
     | (with_reducible (refine ZaB.alloc ?_ _;assumption))
     | (with_reducible exact ZaB.swap (by assumption) HD5.o _)
     | (refine ZaB.set ?_ (by dsimp;omega) _
        refine ZaB.set ?_ (by dsimp;omega) _;refine ZaB.set ?_ (by dsimp;omega) _;refine ZaB.set ?_ (by dsimp;omega) _;refine ZaB.set ?_ (by dsimp;omega) _;refine ZaB.set ?_ (by dsimp;omega) _;refine ZaB.set ?_ (by dsimp;omega) _
        with_reducible assumption))
   (first
     | (go_at_call 10
        refine (ZgH 0 _ _ _ Ss Ms Ts _ (by first | exact HLr.o.below (Zb_.drew) | exact HLr.o.below ((Zac _ _).drew)) hLm.o).mono ?_;rintro e w3 ⟨x0,y0,x1,y1,x2,y2,rfl,hb3,hs3⟩
        try (have HX:Hd (Box w3 w16.heap.size #[Value.int .i64 0,.int .i64 0,.int .i64 0,.slice none 0 0,.slice none 0 0,.slice none 0 0,.slice none 0 0]):=by with_reducible exact Zab (Box.on (Box.drew (Box.new w16 _ 40 _ rfl)) hb3))
        first|(have HD3:Hd (Below w16.heap.size w16 w3):=by with_reducible exact Zab (ZlP hb3))|(have HD3:Hd (Below w16.heap.size w16 w3):=by with_reducible exact Zab (Zhm hb3))
        have HS3:=Zab (hs3.mono Zz_);have hz3:w16.heap.size<=w3.heap.size:=HD3.o.size;clear hs3)
     | (go_at_call 11
        refine (ZfM 0 _ _ _ _ B _ (by first | exact HKr.o.below HD3.o | exact HKr.o.below (bt HD3.o (Zac _ _))) hBm.o).mono ?_;rintro e w4 ⟨z0,t0,z1,t1,z2,t2,z3,t3,rfl,hb4,hs4⟩
        first|(have HX4:Hd (Box w4 w3.heap.size #[Value.int .i64 0,.int .i64 0,.int .i64 0,.slice none 0 0,.slice none 0 0,.slice none 0 0,.slice none 0 0]):=by with_reducible exact Zab (Box.on (Box.new w3 _ 40 _ rfl) hb4))|(have HX4:=Zab (HX.o.on hb4)) | skip
        first|(have HD4:Hd (Below w16.heap.size w16 w4):=by with_reducible exact Zab (bt HD3.o hb4))|(have HD4:Hd (Below w16.heap.size w16 w4):=by with_reducible exact Zab (bt HD3.o (Zic hb4)))
        have HS4:Hd (ZbC 0 w4 _ _ _ Ss Ms Ts):=HS3.o.below (by first | exact hb4 | exact Zic hb4);have HK4:=Zab (hs4.mono Zz_);have hz4:w16.heap.size<=w4.heap.size:=HD4.o.size;clear hs4 HS3)
     | (go_at_call 21
        refine (Zfk _ _ _ _ _ _ _ Ss Ms Ts B FF t r mo _ (by first | exact HS4.o | exact HS4.o.below (Zac _ _)) (by first | exact HK4.o | exact HK4.o.below (Zac _ _)) hBm.o HSH.o HZ0.o HZ1.o).mono ?_;intro e w5 hans;rw [HAN.o] at hans;obtain⟨b0,m0,b1,m1,b2,m2,b3,m3,rfl,hb5,ho5⟩:=hans
        first|(have HX5:Hd (Box w5 w4.heap.size #[Value.int .i64 0,.int .i64 0,.int .i64 0,.slice none 0 0,.slice none 0 0,.slice none 0 0,.slice none 0 0]):=by with_reducible exact Zab (Box.on (Box.new w4 _ 40 _ rfl) hb5))|(have HX5:=Zab (HX4.o.on hb5)) | skip
        first|(have HD5:Hd (Below w16.heap.size w16 w5):=by with_reducible exact Zab (bt HD4.o hb5))|(have HD5:Hd (Below w16.heap.size w16 w5):=by with_reducible exact Zab (bt HD4.o (Zic hb5)))
        have HO5:=Zab ho5
        try (have rr:=HX5.o.cell
             have rf:=HX5.o.free;have rl:=HX5.o.lt;have r0:_=some (Value.int .i64 0):=rr 0;have r1:_=some (Value.int .i64 0):=rr 1;have r2:_=some (Value.int .i64 0):=rr 2;have r3:_=some (Value.slice none 0 0):=rr 3;have r4:_=some (Value.slice none 0 0):=rr 4;have r5:_=some (Value.slice none 0 0):=rr 5;have r6:_=some (Value.slice none 0 0):=rr 6;clear rr)
        clear ho5))
  all_goals (go_wp2_with fail)
  all_goals go_meet
  . exact⟨_,rfl,rfl,HD5.o.size,Zl4.new HO5.o _,HD5.o.alloc HD5.o.size _⟩
  . exact⟨_,rfl,rfl,HD4.o.size,Zl4.set HX5.o HO5.o (by simp),ZcC HD5.o HD4.o.size _ _ _ _ _ _ _⟩
  . exact⟨_,rfl,rfl,HD3.o.size,Zl4.set HX5.o HO5.o HX4.o.lt,ZcC HD5.o HD3.o.size _ _ _ _ _ _ _⟩
  . exact⟨_,rfl,rfl,Nat.le_refl _,Zl4.set HX5.o HO5.o HX4.o.lt,ZcC HD5.o Zl_ _ _ _ _ _ _ _⟩
 case rest=>
 obtain⟨β2,rfl,rfl,hβ2,⟨n0,o0,n1,o1,n2,o2,n3,o3,hx2,ho2⟩,hbc⟩:=hcut;have hz17:=hbc.size;have HX2:=Zab hx2;have HO2:=Zab ho2;replace FC:=Zab (FC.o.trans (hbc.mono FC.o.size));replace FA:=Zab (FA.o.on hbc);replace FB:=Zab (FB.o.on hbc);replace FW:=Zab (FW.o.on hbc);replace HB:=Zab (HB.o.trans (hbc.mono HB.o.size));replace FO:=Zab (FO.o.below hbc);replace FG:=Zab (FG.o.on hbc);replace OM:=Zab (OM.o.below hbc);clear hx2 ho2 hbc;have g1:=HX2.o.cell;have g2:=FW.o.cell;go_wp2_with fail;clear g1 g2;refine (Zd8 _ _ _ _ _ Bq _ _ _ _ _ _ HO2.o FO.o).mono ?_;rintro e w18 ⟨rfl,hbe⟩;have hzw18:=hbe.size;replace FC:=Zab (FC.o.trans (hbe.mono FC.o.size));replace FA:=Zab (FA.o.on hbe);replace FB:=Zab (FB.o.on hbe);replace FW:=Zab (FW.o.on hbe);replace HB:=Zab (HB.o.trans (hbe.mono HB.o.size));replace FO:=Zab (FO.o.below hbe)
 replace FG:=Zab (FG.o.on hbe);replace OM:=Zab (OM.o.below hbe);clear hbe;have g1:=FG.o.cell;go_wp2_with fail;clear g1;refine (Zgi _ _ _ _ _ _ Bq _ 1 OM.o HSM.o (by omega) (by omega)).mono ?_;rintro e w19 ⟨rfl,hb19⟩;replace FC:=Zab (FC.o.trans (hb19.mono FC.o.size));replace FA:=Zab (FA.o.on hb19);replace FB:=Zab (FB.o.on hb19);replace FW:=Zab (FW.o.on hb19);replace HB:=Zab (HB.o.trans (hb19.mono HB.o.size));replace FO:=Zab (FO.o.below hb19);replace FG:=Zab (FG.o.on hb19);replace OM:=Zab (OM.o.below hb19);clear hb19;rw [HK2.o];go_wp2;go_ret;exact⟨rfl,HB.o⟩
open Go.ChangeShapes Go.WideShapes Go.ChangeAt Go.RowKit Go.Deep
open Go.ChangeMaps (open_string shut_string)
section
variable {H:Type} {enc:TypeId×Value->H} {P:Program} {w:World} {base:Nat} {spare:Nat->Bool} {held:Bool}
theorem Zjp {args:Array Value}{ds:List (DataW H)}{ps:List MemPlace} (h:DataW.TrodAll enc P w base spare held [t,t1,t2,t3,t4] args.toList ds ps) :
 ∃ v v1 v2 v3 v4 d d1 d2 d3 d4 p p1 p2 p3 p4,args=#[v,v1,v2,v3,v4]/\ds=[d,d1,d2,d3,d4]/\ps=p ++ p1 ++ p2 ++ p3 ++ p4/\DataW.Trod enc P w base spare held t v d p/\DataW.Trod enc P w base spare held t1 v1 d1 p1/\DataW.Trod enc P w base spare held t2 v2 d2 p2/\DataW.Trod enc P w base spare held t3 v3 d3 p3/\DataW.Trod enc P w base spare held t4 v4 d4 p4:=by
 obtain⟨v,vs,d,ds0,p,q,hargs,rfl,rfl,hd,hr⟩:=trodAll_cons h;obtain⟨v1,vs1,d1,ds1,p1,q1,rfl,rfl,rfl,hd1,hr1⟩:=trodAll_cons hr;obtain⟨v2,vs2,d2,ds2,p2,q2,rfl,rfl,rfl,hd2,hr2⟩:=trodAll_cons hr1;obtain⟨v3,vs3,d3,ds3,p3,q3,rfl,rfl,rfl,hd3,hr3⟩:=trodAll_cons hr2;obtain⟨v4,vs4,d4,ds4,p4,q4,rfl,rfl,rfl,hd4,hr4⟩:=trodAll_cons hr3;obtain⟨rfl,rfl,rfl⟩:=trodAll_nil hr4;exact⟨v,v1,v2,v3,v4,d,d1,d2,d3,d4,p,p1,p2,p3,p4,by cases args;simp_all,rfl,by simp,hd,hd1,hd2,hd3,hd4⟩
theorem ZkO {v v1 v2 v3 v4:Value}{d d1 d2 d3 d4:DataW H}{p p1 p2 p3 p4:List MemPlace} (h:DataW.Trod enc P w base spare held t v d p) (h1:DataW.Trod enc P w base spare held t1 v1 d1 p1) (h2:DataW.Trod enc P w base spare held t2 v2 d2 p2) (h3:DataW.Trod enc P w base spare held t3 v3 d3 p3) (h4:DataW.Trod enc P w base spare held t4 v4 d4 p4) :
 DataW.TrodAll enc P w base spare held [t,t1,t2,t3,t4] [v,v1,v2,v3,v4] [d,d1,d2,d3,d4] (p ++ (p1 ++ (p2 ++ (p3 ++ p4)))):=⟨p,p1 ++ (p2 ++ (p3 ++ p4)),h,trodAll_mk4 h1 h2 h3 h4,rfl⟩
end
theorem Zkt (os:Os) (started:os.Started) (H:Type) (enc:TypeId×Value->H) :
 ReturnsInHanded {} Tryz.checked os 5 .any (Rows.fnExactGateBoundSpec.pre6 enc prog f5 Rows.fnExactGateBoundRow.domain false) (Rows.fnExactGateBoundSpec.post enc prog f5 false true false false):=by
 refine returnsInHanded_of_change (C:=Tryz.checked) Tryz.own started (by kernel_rfl) func5
  (ChangeSpec.witness6 (enc:=enc) (C:=Tryz.checked) false ⟨#[],#[.agg #[.slice none 0 0,.slice none 0 0,.slice none 0 0],.agg #[.int .i64 0,.int .i64 0,.int .i64 0,.slice none 0 0,.slice none 0 0,.slice none 0 0,.slice none 0 0],.string .empty,.string .empty,.int .i64 0],[]⟩ 8 (by kernel_rfl) (by kernel_rfl) (by kernel_rfl) (by kernel_rfl)) ?_
 intro W base args ds gs before hval0 hW hcnd _;have hval:∀ (j:Nat) t v,f5.params[j]?=some t->args[j]?=some v->Value.okWide prog W .any base t v:=hval0
 have hW':=hW;obtain⟨p,q,hA0,hV,rfl,hfz,hnd⟩:=hW;have hA:DataW.TrodAll enc prog W 0 (fun _=>true) true f5.params.toList args.toList ds p:=hA0;rw [params5] at hA hval;obtain⟨v0,v1,v2,v3,v4,d0,d1,d2,d3,d4,p0,p1,p2,p3,p4,rfl,rfl,rfl,h0,h1,h2,h3,h4⟩:=Zjp hA;obtain⟨rfl,rfl⟩:=trodVars_none hV;have h0k:=h0;have h1k:=h1;obtain⟨x2,rfl,rfl,rfl,s2⟩:=open_string underlying9 (hval 2 9 v2 rfl rfl) h2;obtain⟨x3,rfl,rfl,rfl,s3⟩:=open_string underlying9 (hval 3 9 v3 rfl rfl) h3;obtain⟨x4,rfl,rfl,rfl,s4⟩:=open_int underlying3 (hval 4 3 v4 rfl rfl) h4;clear hA0 hval0;simp only [List.append_nil] at hW';have hlt0:∀ x ∈ p0,x.block < W.heap.size:=fun x hx=>by simpa using hW'.lt x (by simp [hx])
 have hlt1:∀ x ∈ p1,x.block < W.heap.size:=fun x hx=>by simpa using hW'.lt x (by simp [hx])
 obtain⟨sv,mv,tv,Ss,Ms,Ts,rfl,hL⟩:=ZqF (hval 0 26 v0 rfl rfl) h0;obtain⟨ov,gv,lv,pv,B,rfl,hB⟩:=Zpz (hval 1 32 v1 rfl rfl) h1;refine (ZpX _ _ _ _ _ _ _ Ss Ms Ts B x2 x3 x4 W hL hB s2 s3).mono fun e W' ⟨he,hb⟩=>?_
 subst he;have hargs0:=Below.trod Tryz.laidOut (by kernel_rfl) (of_decide_eq_true (by kernel_rfl)) h0k hb hlt0;have hargs1:=Below.trod Tryz.laidOut (by kernel_rfl) (of_decide_eq_true (by kernel_rfl)) h1k hb hlt1;exact⟨_,rfl,⟨_,_,_,[],_,[],hW',trodAll_mk1 (shut_bool underlying4 true),ZkO hargs0 hargs1 (shut_string underlying9 s2) (shut_string underlying9 s3) (shut_int underlying3 s4),rfl,hb.frame _,fun h=>by cases h⟩⟩
theorem ZkR:Tryz.pinned.checked.prog.funcNamed Rows.fnExactGateBoundRow.func=some 5:=by kernel_rfl
theorem Zcl {a b:Bool} (ha:a=true) (hb:b=true):(a&&b)=true:=by rw [ha,hb];rfl
theorem ZqA:(Rows.fnExactGateBoundRow.wf (OpenSpec.ofChange Rows.fnExactGateBoundSpec))=true:=by kernel_rfl
theorem Zqx:(laidOutB Tryz.pinned.checked.prog)=true:=by kernel_rfl
theorem Zqk:(mapsRowed Tryz.pinned.checked.prog)=true:=by kernel_rfl
theorem Zqv:(f5.params.all (Tryz.pinned.checked.prog.readableRec ·))=true:=by kernel_rfl
theorem Zqe:(namedTie Tryz.pinned.checked.prog Rows.fnExactGateBoundRow.named Rows.fnExactGateBoundSpec.vars)=true:=by kernel_rfl
theorem ZqY:((Rows.fnExactGateBoundRow.stops == []))=true:=by kernel_rfl
theorem ZqE:((Tryz.pinned.checked.prog.stops == []))=true:=by kernel_rfl
theorem Zqs:((Rows.fnExactGateBoundRow.knobs == []))=true:=by kernel_rfl
theorem Zqm:((Tryz.pinned.checked.prog.stopKnobs == []))=true:=by kernel_rfl
theorem Zqy:((Rows.fnExactGateBoundRow.inPlace == Tryz.pinned.checked.prog.inPlace 5))=true:=by kernel_rfl
theorem ZnY:((Rows.fnExactGateBoundRow.unfollowed == Tryz.pinned.checked.prog.unfollowed 5))=true:=by kernel_rfl
theorem ZpQ:((Rows.fnExactGateBoundRow.recurses == Tryz.pinned.checked.prog.recurses 5))=true:=by kernel_rfl
theorem ZoB:((Rows.fnExactGateBoundRow.named == Tryz.pinned.checked.prog.varsNamed 5))=true:=by kernel_rfl
theorem ZoL:((Rows.fnExactGateBoundRow.maps == (f5.params.toList ++ Rows.fnExactGateBoundSpec.plain.varTypes Tryz.pinned.checked.prog).any (Tryz.pinned.checked.prog.mapsRec ·)))=true:=by kernel_rfl
theorem Zpn:((Rows.fnExactGateBoundRow.ifaces == (f5.params.toList ++ Rows.fnExactGateBoundSpec.plain.varTypes Tryz.pinned.checked.prog).any (Tryz.pinned.checked.prog.ifacesRec ·)))=true:=by kernel_rfl
theorem ZoA:((Rows.fnExactGateBoundRow.mapsOut == Tryz.pinned.checked.prog.mapsAmong f5.resultTypes.toList))=true:=by kernel_rfl
theorem ZpV:((Rows.fnExactGateBoundRow.loops == (f5.params.toList ++ Rows.fnExactGateBoundSpec.plain.varTypes Tryz.pinned.checked.prog).any (Tryz.pinned.checked.prog.loopsFrom ·)))=true:=by kernel_rfl
theorem ZpC:((Rows.fnExactGateBoundRow.wideKeys == (f5.params.toList ++ Rows.fnExactGateBoundSpec.plain.varTypes Tryz.pinned.checked.prog ++ f5.resultTypes.toList).any (Tryz.pinned.checked.prog.wideKeysFrom ·)))=true:=by kernel_rfl
theorem ZoT:(Rows.fnExactGateBoundSpec.vars.all (Tryz.pinned.checked.prog.varReadable ·))=true:=by kernel_rfl
theorem Zou:(f5.resultTypes.all (fun t=>Tryz.pinned.checked.prog.readableRec t&&decide (t < Tryz.pinned.checked.prog.types.size)))=true:=by kernel_rfl
theorem Zn6:((Rows.fnExactGateBoundRow.ifacesOut == f5.resultTypes.toList.any (Tryz.pinned.checked.prog.ifacesRec ·)))=true:=by kernel_rfl
theorem ZoW:((Rows.fnExactGateBoundRow.loopsOut == f5.resultTypes.toList.any (Tryz.pinned.checked.prog.loopsFrom ·)))=true:=by kernel_rfl
theorem ZpK:((Rows.fnExactGateBoundRow.plainKeys == Tryz.pinned.checked.prog.plainKeys))=true:=by kernel_rfl
theorem ZoV:(Rows.fnExactGateBoundRow.shortTexts.isNone)=true:=by kernel_rfl
theorem ZoP:(Tryz.pinned.checked.prog.stopsHeard)=true:=by kernel_rfl
theorem Zob:(Tryz.pinned.checked.prog.mayEnter)=true:=by kernel_rfl
theorem Zol:((Rows.fnExactGateBoundRow.lifted == Tryz.pinned.checked.prog.liftsFinal))=true:=by kernel_rfl
theorem ZpS:((Tryz.pinned.checked.prog.make == some Rows.fnExactGateBoundRow.make))=true:=by kernel_rfl
theorem ZpO:((Rows.fnExactGateBoundRow.kinds == (if Rows.fnExactGateBoundRow.domain.isEmpty then [] else f5.params.toList.map fun t=>match Tryz.pinned.checked.prog.underlying t with | some (.int k)=>some k | _=>none)))=true:=by kernel_rfl
theorem Zox:((Rows.fnExactGateBoundRow.pinned == Rows.fnExactGateBoundRow.pinnedBy))=true:=by kernel_rfl
theorem ZoR:((Rows.fnExactGateBoundRow.veiled == (f5.params.toList ++ Rows.fnExactGateBoundSpec.plain.varTypes Tryz.pinned.checked.prog ++ f5.resultTypes.toList).any (Tryz.pinned.checked.prog.veiledRec ·)))=true:=by kernel_rfl
theorem Zo1:(Rows.fnExactGateBoundRow.veiledFits Tryz.pinned.checked.prog f5.params.toList (f5.params.toList ++ Rows.fnExactGateBoundSpec.plain.varTypes Tryz.pinned.checked.prog ++ f5.resultTypes.toList))=true:=by kernel_rfl
theorem ZjO:joinedFacts Tryz.pinned.checked.prog 5 f5 Rows.fnExactGateBoundSpec Rows.fnExactGateBoundRow=true:=Zcl (Zcl (Zcl (Zcl (Zcl (Zcl (Zcl (Zcl (Zcl (Zcl (Zcl (Zcl (Zcl (Zcl (Zcl (Zcl (Zcl (Zcl (Zcl (Zcl (Zcl (Zcl (Zcl (Zcl (Zcl (Zcl (Zcl (Zcl (Zcl (Zcl (Zcl ZqA Zqx) Zqk) Zqv) Zqe) ZqY) ZqE) Zqs) Zqm) Zqy) ZnY) ZpQ) ZoB) ZoL) Zpn) ZoA) ZpV) ZpC) ZoT) Zou) Zn6) ZoW) ZpK) ZoV) ZoP) Zob) Zol) ZpS) ZpO) Zox) ZoR) Zo1
theorem Zm8:f5.isInstance Tryz.pinned.checked.prog Rows.fnExactGateBoundRow.origin Rows.fnExactGateBoundRow.targs:=of_decide_eq_true (by kernel_rfl)
theorem Zmz:f5.isWrapper Tryz.pinned.checked.prog Rows.fnExactGateBoundRow.wrapper Rows.fnExactGateBoundRow.mainSum:=by unfold Func.isWrapper;first|(rw [if_pos (by decide +kernel)];kernel_rfl)|(rw [if_neg (by decide +kernel)];exact⟨rfl,rfl⟩)
theorem bound_holds:Rows.FnExactGateBoundSaid:=
 OpenClaim.holds_of_wide 5 f5 rfl rfl rfl rfl rfl rfl rfl ⟨rfl,rfl,rfl,rfl,rfl⟩ rfl rfl rfl rfl rfl ZkR func5 ZjO Zm8 Zmz
  (fun os started H enc _=>Zkt os started H enc)
end Go.Proofs.YtfohnageehneoaaGreat
