import Derived.Test.YtmappejlmapboaaGreatD34
import Derived.Test.YtmappejlmapboaaGreatD44
import Derived.Test.YtmappejlmapboaaGreatD45
set_option maxHeartbeats 16000000
set_option maxRecDepth 100000
open Go.Proofs.Tryz
namespace Go.Proofs.YtmappejlmapboaaGreat
open Go.RowKit Go.Deep Go.Maps
def Zey (Ss:List Sh) (Ts:List Tm) (B:Bk) (FF:Nat->List Zy_):Bool:=Zd4 B&&(Zas Ss Ts B FF&&(ZaT B&&Zhq Ss Ts B))
def Zdh (Ss:List Sh) (Ms:List Md) (Ts:List Tm) (B:Bk) (FF:Nat->List Zy_):Bool:=Zkq Ss Ms Ts&&Zey Ss Ts B FF
theorem Zk3 {Ss:List Sh}{Ms:List Md}{Ts:List Tm} (h:Zkq Ss Ms Ts=true):Zax Ss Ms=true:=by
 unfold Zkq at h;rw [Bool.and_eq_true] at h;exact h.1
theorem Zjp {B:Bk} (h:Zd4 B=true):inB 0 1000000 B.tick=true:=by
 unfold Zd4 at h;rw [Bool.and_eq_true,Bool.and_eq_true] at h;exact h.1.2
theorem Zmb {Ts:List Tm}{Ls:List Le} (h:ZaO Ts Ls=true):ZdN Zdt Ls=true:=by
 unfold ZaO at h;rw [Bool.and_eq_true,Bool.and_eq_true] at h;exact h.1.2
theorem Zcw.exists (Ss:List Sh) (Ms:List Md) (Os:List Ob):∃ FF,Zcw Ss Ms Os FF:=by
 have h:∀ i,∃ F,∀ (h:i < Os.length),ZcF Ss Ms Os[i].kd Os[i].vs F:=fun i=>by
  by_cases hi:i < Os.length
  . obtain⟨F,hF⟩:=ZcF.exists Ss Ms Os[i].kd Os[i].vs
    exact⟨F,fun _=>hF⟩
  . exact⟨[],fun h=>absurd h hi⟩
 exact⟨fun i=>(h i).choose,fun i hi=>(h i).choose_spec hi⟩
section
variable (lo:Nat) (sv mv tv ov gv lv pv:Value) (Ss:List Sh) (Ms:List Md) (Ts:List Tm) (B:Bk) (FF:Nat->List Zy_) (w:World)
theorem ZjC (hl:ZbH lo w sv mv tv Ss Ms Ts) (hmb:Zax Ss Ms=true) (h:ZaU lo w ov gv lv pv B) (hn:Zbp B) (hsh:Zcw Ss Ms B.os FF) :
 Calls prog 142 #[.agg #[sv,mv,tv],.agg #[.int .i64 B.now,.int .i64 B.tick,.int .i64 B.given,ov,gv,lv,pv]] w fun e w'=>e=.returned (.bool (Zey Ss Ts B FF))/\Zw_ w w':=by
 have HL:=Zab hl;have HK:=Zab h;have HN:=Zab hn;have HSH:=Zab hsh;have HMB:=Zab hmb;have HLL:Hd (B.ls.length<=1048576):=hn.2.2.1.1;have HI:Hd (Zey Ss Ts B FF=(Zd4 B&&(Zas Ss Ts B FF&&(ZaT B&&(ZaO Ts B.ls&&(Za4 B&&Zlr Ss Ts B)))))):=rfl;obtain⟨sa,sc,rfl⟩:=hl.shs.form;obtain⟨ma,mc,rfl⟩:=hl.mds.form;obtain⟨ta,tc,rfl⟩:=hl.tms.form;obtain⟨a0,k0,rfl⟩:=h.obs.form;obtain⟨a1,k1,rfl⟩:=h.grs.form;obtain⟨a2,k2,rfl⟩:=h.les.form;obtain⟨a3,k3,rfl⟩:=h.pus.form;clear hl hmb h hn hsh;go_enter func142,ntmps142;go_wp2_with fail;generalize hWa:(World.alloc (w.alloc _) _)=w0;have HB0:Hd (Zw_ w w0):=by rw [<- hWa];exact (Zac w _).alloc (by simp) _
 have HX0:Hd (Box w0 w.heap.size #[.slice sa Ss.length sc,.slice ma Ms.length mc,.slice ta Ts.length tc]):=by rw [<- hWa];exact (Box.new _ _ _ _ rfl).on (Zac _ _)
 have HY0:Hd (Box w0 (w.heap.size+1) #[.int .i64 B.now,.int .i64 B.tick,.int .i64 B.given,.slice a0 B.os.length k0,.slice a1 B.gs.length k1,.slice a2 B.ls.length k2,.slice a3 B.ps.length k3]):=by rw [<- hWa];exact Box.new _ _ _ _ (by simp)
 clear hWa;refine (ZmI lo _ _ _ _ B _ (HK.o.below HB0.o)).mono ?_;rintro e w1 ⟨rfl,hb⟩;have HB1:Hd (Zw_ w w1):=HB0.o.trans (hb.mono HB0.o.size);have HX1:=Zab (HX0.o.on hb);have HY1:=Zab (HY0.o.on hb);clear hb HB0 HX0 HY0
 cases h0:Zd4 B with
 | false=>
  have HE:Hd (Zey Ss Ts B FF=false):=by unfold Hd;rw [HI.o,h0];rfl
  go_wp2;go_ret;exact⟨Zaa HE.o.symm,HB1.o⟩
 | true=>
  have l0:=HX1.o.cell 0;have l1:=HX1.o.cell 1;have l2:=HX1.o.cell 2;have b0:=HY1.o.cell 0;have b1:=HY1.o.cell 1;have b2:=HY1.o.cell 2;have b3:=HY1.o.cell 3;have b4:=HY1.o.cell 4;have b5:=HY1.o.cell 5;have b6:=HY1.o.cell 6;simp at l0 l1 l2 b0 b1 b2 b3 b4 b5 b6;go_wp2_with fail;clear l0 l1 l2 b0 b1 b2 b3 b4 b5 b6;refine (ZhS lo _ _ _ _ _ _ _ Ss Ms Ts B FF _ (HL.o.below HB1.o) HMB.o (HK.o.below HB1.o) HN.o.1 HSH.o).mono ?_;rintro e w2 ⟨rfl,hb⟩;have HB2:Hd (Zw_ w w2):=HB1.o.trans (hb.mono HB1.o.size);have HX2:=Zab (HX1.o.on hb);have HY2:=Zab (HY1.o.on hb);clear hb HB1 HX1 HY1
  cases h1:Zas Ss Ts B FF with
  | false=>
   have HE:Hd (Zey Ss Ts B FF=false):=by unfold Hd;rw [HI.o,h0,h1];rfl
   go_wp2;go_ret;exact⟨Zaa HE.o.symm,HB2.o⟩
  | true=>
   have l0:=HX2.o.cell 0;have l1:=HX2.o.cell 1;have l2:=HX2.o.cell 2;have b0:=HY2.o.cell 0;have b1:=HY2.o.cell 1;have b2:=HY2.o.cell 2;have b3:=HY2.o.cell 3;have b4:=HY2.o.cell 4;have b5:=HY2.o.cell 5;have b6:=HY2.o.cell 6;simp at l0 l1 l2 b0 b1 b2 b3 b4 b5 b6;go_wp2_with fail;clear l0 l1 l2 b0 b1 b2 b3 b4 b5 b6;refine (Ziw lo _ _ _ _ B _ (HK.o.below HB2.o)).mono ?_;rintro e w3 ⟨rfl,hb⟩;have HB3:Hd (Zw_ w w3):=HB2.o.trans (hb.mono HB2.o.size);have HX3:=Zab (HX2.o.on hb);have HY3:=Zab (HY2.o.on hb);clear hb HB2 HX2 HY2
   cases h2:ZaT B with
   | false=>
    have HE:Hd (Zey Ss Ts B FF=false):=by unfold Hd;rw [HI.o,h0,h1,h2];rfl
    go_wp2;go_ret;exact⟨Zaa HE.o.symm,HB3.o⟩
   | true=>
    have l0:=HX3.o.cell 0;have l1:=HX3.o.cell 1;have l2:=HX3.o.cell 2;have b0:=HY3.o.cell 0;have b1:=HY3.o.cell 1;have b2:=HY3.o.cell 2;have b3:=HY3.o.cell 3;have b4:=HY3.o.cell 4;have b5:=HY3.o.cell 5;have b6:=HY3.o.cell 6;simp at l0 l1 l2 b0 b1 b2 b3 b4 b5 b6;go_wp2_with fail;clear l0 l1 l2 b0 b1 b2 b3 b4 b5 b6;refine (ZhR lo _ _ _ _ Ss Ms Ts B.ls _ (HL.o.below HB3.o) (HK.o.below HB3.o).les).mono ?_;rintro e w4 ⟨rfl,hb⟩;have HB4:Hd (Zw_ w w4):=HB3.o.trans (hb.mono HB3.o.size);have HX4:=Zab (HX3.o.on hb);have HY4:=Zab (HY3.o.on hb);clear hb HB3 HX3 HY3
    cases h3:ZaO Ts B.ls with
    | false=>
     have HE:Hd (Zey Ss Ts B FF=false):=by unfold Hd;rw [HI.o,h0,h1,h2,h3];rfl
     go_wp2;go_ret;exact⟨Zaa HE.o.symm,HB4.o⟩
    | true=>
     have l0:=HX4.o.cell 0;have l1:=HX4.o.cell 1;have l2:=HX4.o.cell 2;have b0:=HY4.o.cell 0;have b1:=HY4.o.cell 1;have b2:=HY4.o.cell 2;have b3:=HY4.o.cell 3;have b4:=HY4.o.cell 4;have b5:=HY4.o.cell 5;have b6:=HY4.o.cell 6;simp at l0 l1 l2 b0 b1 b2 b3 b4 b5 b6;go_wp2_with fail;clear l0 l1 l2 b0 b1 b2 b3 b4 b5 b6;refine (Zix lo _ _ _ _ B _ (HK.o.below HB4.o) HLL.o (Zmb h3) (Zjp h0)).mono ?_;rintro e w5 ⟨rfl,hb⟩;have HB5:Hd (Zw_ w w5):=HB4.o.trans (hb.mono HB4.o.size);have HX5:=Zab (HX4.o.on hb);have HY5:=Zab (HY4.o.on hb);clear hb HB4 HX4 HY4
     cases h4:Za4 B with
     | false=>
      have HE:Hd (Zey Ss Ts B FF=false):=by unfold Hd;rw [HI.o,h0,h1,h2,h3,h4];rfl
      go_wp2;go_ret;exact⟨Zaa HE.o.symm,HB5.o⟩
     | true=>
      have l0:=HX5.o.cell 0;have l1:=HX5.o.cell 1;have l2:=HX5.o.cell 2;have b0:=HY5.o.cell 0;have b1:=HY5.o.cell 1;have b2:=HY5.o.cell 2;have b3:=HY5.o.cell 3;have b4:=HY5.o.cell 4;have b5:=HY5.o.cell 5;have b6:=HY5.o.cell 6;simp at l0 l1 l2 b0 b1 b2 b3 b4 b5 b6;go_wp2_with fail;clear l0 l1 l2 b0 b1 b2 b3 b4 b5 b6;refine (ZkR lo _ _ _ _ _ _ _ Ss Ms Ts B _ (HL.o.below HB5.o) (HK.o.below HB5.o) HN.o).mono ?_;rintro e w6 ⟨rfl,hb⟩;have HB6:Hd (Zw_ w w6):=HB5.o.trans (hb.mono HB5.o.size);have HX6:=Zab (HX5.o.on hb);have HY6:=Zab (HY5.o.on hb);clear hb HB5 HX5 HY5;have HE:Hd (Zey Ss Ts B FF=Zlr Ss Ts B):=by unfold Hd;rw [HI.o,h0,h1,h2,h3,h4];rfl
      go_wp2;go_ret;exact⟨Zaa HE.o.symm,HB6.o⟩
theorem ZkP (hl:ZbH lo w sv mv tv Ss Ms Ts) (h:ZaU lo w ov gv lv pv B) (hn:Zbp B) (hsh:Zcw Ss Ms B.os FF) :
 Calls prog 93 #[.agg #[sv,mv,tv],.agg #[.int .i64 B.now,.int .i64 B.tick,.int .i64 B.given,ov,gv,lv,pv]] w fun e w'=>e=.returned (.bool (Zdh Ss Ms Ts B FF))/\Zw_ w w':=by
 have HL:=Zab hl;have HK:=Zab h;have HN:=Zab hn;have HSH:=Zab hsh;have HI:Hd (Zdh Ss Ms Ts B FF=(Zkq Ss Ms Ts&&Zey Ss Ts B FF)):=rfl;obtain⟨sa,sc,rfl⟩:=hl.shs.form;obtain⟨ma,mc,rfl⟩:=hl.mds.form;obtain⟨ta,tc,rfl⟩:=hl.tms.form;obtain⟨a0,k0,rfl⟩:=h.obs.form;obtain⟨a1,k1,rfl⟩:=h.grs.form;obtain⟨a2,k2,rfl⟩:=h.les.form;obtain⟨a3,k3,rfl⟩:=h.pus.form;clear hl h hn hsh;go_enter func93,ntmps93;go_wp2_with fail;generalize hWa:(World.alloc (w.alloc _) _)=w0;have HB0:Hd (Zw_ w w0):=by rw [<- hWa];exact (Zac w _).alloc (by simp) _
 have HX0:Hd (Box w0 w.heap.size #[.slice sa Ss.length sc,.slice ma Ms.length mc,.slice ta Ts.length tc]):=by rw [<- hWa];exact (Box.new _ _ _ _ rfl).on (Zac _ _)
 have HY0:Hd (Box w0 (w.heap.size+1) #[.int .i64 B.now,.int .i64 B.tick,.int .i64 B.given,.slice a0 B.os.length k0,.slice a1 B.gs.length k1,.slice a2 B.ls.length k2,.slice a3 B.ps.length k3]):=by rw [<- hWa];exact Box.new _ _ _ _ (by simp)
 clear hWa;refine (ZjS lo _ _ _ Ss Ms Ts _ (HL.o.below HB0.o)).mono ?_;rintro e w1 ⟨rfl,hb⟩;have HB1:Hd (Zw_ w w1):=HB0.o.trans (hb.mono HB0.o.size);have HX1:=Zab (HX0.o.on hb);have HY1:=Zab (HY0.o.on hb);clear hb HB0 HX0 HY0
 cases h0:Zkq Ss Ms Ts with
 | false=>
  have HE:Hd (Zdh Ss Ms Ts B FF=false):=by unfold Hd;rw [HI.o,h0];rfl
  go_wp2;go_ret;exact⟨Zaa HE.o.symm,HB1.o⟩
 | true=>
  have HE:Hd (Zdh Ss Ms Ts B FF=Zey Ss Ts B FF):=by unfold Hd;rw [HI.o,h0];rfl
  have l0:=HX1.o.cell 0;have l1:=HX1.o.cell 1;have l2:=HX1.o.cell 2;have b0:=HY1.o.cell 0;have b1:=HY1.o.cell 1;have b2:=HY1.o.cell 2;have b3:=HY1.o.cell 3;have b4:=HY1.o.cell 4;have b5:=HY1.o.cell 5;have b6:=HY1.o.cell 6;simp at l0 l1 l2 b0 b1 b2 b3 b4 b5 b6;go_wp2_with fail;clear l0 l1 l2 b0 b1 b2 b3 b4 b5 b6;refine (ZjC lo _ _ _ _ _ _ _ Ss Ms Ts B FF _ (HL.o.below HB1.o) (Zk3 h0) (HK.o.below HB1.o) HN.o HSH.o).mono ?_;rintro e w2 ⟨rfl,hb⟩;have HB2:Hd (Zw_ w w2):=HB1.o.trans (hb.mono HB1.o.size);go_wp2;go_ret;exact⟨Zaa HE.o.symm,HB2.o⟩
theorem Zlp (hl:ZbH lo w sv mv tv Ss Ms Ts) (h:ZaU lo w ov gv lv pv B) (hn:Zbp B) (hsh:Zcw Ss Ms B.os FF) :
 Calls prog 34 #[.agg #[sv,mv,tv],.agg #[.int .i64 B.now,.int .i64 B.tick,.int .i64 B.given,ov,gv,lv,pv]] w fun e w'=>e=.returned (.bool (Zdh Ss Ms Ts B FF))/\Zw_ w w':=by
 have HL:=Zab hl;have HK:=Zab h;have HN:=Zab hn;have HSH:=Zab hsh;have HI:Hd (Zdh Ss Ms Ts B FF=(Zkq Ss Ms Ts&&(Zd4 B&&(Zas Ss Ts B FF&&(ZaT B&&Zhq Ss Ts B))))):=rfl;have HTI:Hd (Zd4 B=(inB 0 1000000 B.now&&inB 0 1000000 B.tick&&inB 0 B.now B.given)):=rfl;obtain⟨sa,sc,rfl⟩:=hl.shs.form;obtain⟨ma,mc,rfl⟩:=hl.mds.form;obtain⟨ta,tc,rfl⟩:=hl.tms.form;obtain⟨a0,k0,rfl⟩:=h.obs.form;obtain⟨a1,k1,rfl⟩:=h.grs.form;obtain⟨a2,k2,rfl⟩:=h.les.form;obtain⟨a3,k3,rfl⟩:=h.pus.form;clear hl h hn hsh;go_enter func34,ntmps34;go_wp2_with fail;generalize hWa:(World.alloc (w.alloc _) _)=w0;have HB0:Hd (Zw_ w w0):=by rw [<- hWa];exact (Zac w _).alloc (by simp) _
 have HX0:Hd (Box w0 w.heap.size #[.slice sa Ss.length sc,.slice ma Ms.length mc,.slice ta Ts.length tc]):=by rw [<- hWa];exact (Box.new _ _ _ _ rfl).on (Zac _ _)
 have HY0:Hd (Box w0 (w.heap.size+1) #[.int .i64 B.now,.int .i64 B.tick,.int .i64 B.given,.slice a0 B.os.length k0,.slice a1 B.gs.length k1,.slice a2 B.ls.length k2,.slice a3 B.ps.length k3]):=by rw [<- hWa];exact Box.new _ _ _ _ (by simp)
 clear hWa;refine (Zkh lo _ _ _ Ss Ms Ts _ (HL.o.below HB0.o)).mono ?_;rintro e w1 ⟨rfl,hb⟩;have HB1:Hd (Zw_ w w1):=HB0.o.trans (hb.mono HB0.o.size);have HX1:=Zab (HX0.o.on hb);have HY1:=Zab (HY0.o.on hb);clear hb HB0 HX0 HY0;have b0:=HY1.o.cell 0;have b1:=HY1.o.cell 1;have b2:=HY1.o.cell 2;simp at b0 b1 b2
 cases h0:Zkq Ss Ms Ts with
 | false=>
  have HE:Hd (Zdh Ss Ms Ts B FF=false):=by unfold Hd;rw [HI.o,h0];rfl
  go_wp2;go_ret;exact⟨Zaa HE.o.symm,HB1.o⟩
 | true=>
  cases i0:inB 0 1000000 B.now with
  | false=>
   have HE:Hd (Zdh Ss Ms Ts B FF=false):=by unfold Hd;rw [HI.o,h0,HTI.o,i0];rfl
   go_wp2_with (go_at_call 82;refine (Zao _ _ _ _).mono ?_;rintro e w' ⟨rfl,rfl⟩);go_ret;exact⟨Zaa HE.o.symm,HB1.o⟩
  | true=>
   cases i1:inB 0 1000000 B.tick with
   | false=>
    have HE:Hd (Zdh Ss Ms Ts B FF=false):=by unfold Hd;rw [HI.o,h0,HTI.o,i0,i1];rfl
    go_wp2_with (go_at_call 82;refine (Zao _ _ _ _).mono ?_;rintro e w' ⟨rfl,rfl⟩);go_ret;exact⟨Zaa HE.o.symm,HB1.o⟩
   | true=>
    cases i2:inB 0 B.now B.given with
    | false=>
     have HE:Hd (Zdh Ss Ms Ts B FF=false):=by unfold Hd;rw [HI.o,h0,HTI.o,i0,i1,i2];rfl
     go_wp2_with (go_at_call 82;refine (Zao _ _ _ _).mono ?_;rintro e w' ⟨rfl,rfl⟩);go_ret;exact⟨Zaa HE.o.symm,HB1.o⟩
    | true=>
     have HT:Hd (Zd4 B=true):=by unfold Hd;rw [HTI.o,i0,i1,i2];rfl
     have l0:=HX1.o.cell 0;have l1:=HX1.o.cell 1;have l2:=HX1.o.cell 2;have b3:=HY1.o.cell 3;have b4:=HY1.o.cell 4;have b5:=HY1.o.cell 5;have b6:=HY1.o.cell 6;simp at l0 l1 l2 b3 b4 b5 b6;go_wp2_with (go_at_call 82;refine (Zao _ _ _ _).mono ?_;rintro e w' ⟨rfl,rfl⟩);clear l0 l1 l2 b0 b1 b2 b3 b4 b5 b6;refine (Zie lo _ _ _ _ _ _ _ Ss Ms Ts B FF _ (HL.o.below HB1.o) (Zk3 h0) (HK.o.below HB1.o) HN.o.1 HSH.o).mono ?_;rintro e w2 ⟨rfl,hb⟩;have HB2:Hd (Zw_ w w2):=HB1.o.trans (hb.mono HB1.o.size);have HX2:=Zab (HX1.o.on hb);have HY2:=Zab (HY1.o.on hb);clear hb HB1 HX1 HY1
     cases h1:Zas Ss Ts B FF with
     | false=>
      have HE:Hd (Zdh Ss Ms Ts B FF=false):=by unfold Hd;rw [HI.o,h0,HT.o,h1];rfl
      go_wp2;go_ret;exact⟨Zaa HE.o.symm,HB2.o⟩
     | true=>
      have l0:=HX2.o.cell 0;have l1:=HX2.o.cell 1;have l2:=HX2.o.cell 2;have b0:=HY2.o.cell 0;have b1:=HY2.o.cell 1;have b2:=HY2.o.cell 2;have b3:=HY2.o.cell 3;have b4:=HY2.o.cell 4;have b5:=HY2.o.cell 5;have b6:=HY2.o.cell 6;simp at l0 l1 l2 b0 b1 b2 b3 b4 b5 b6;go_wp2_with fail;clear l0 l1 l2 b0 b1 b2 b3 b4 b5 b6;refine (ZiF lo _ _ _ _ B _ (HK.o.below HB2.o)).mono ?_;rintro e w3 ⟨rfl,hb⟩;have HB3:Hd (Zw_ w w3):=HB2.o.trans (hb.mono HB2.o.size);have HX3:=Zab (HX2.o.on hb);have HY3:=Zab (HY2.o.on hb);clear hb HB2 HX2 HY2
      cases h2:ZaT B with
      | false=>
       have HE:Hd (Zdh Ss Ms Ts B FF=false):=by unfold Hd;rw [HI.o,h0,HT.o,h1,h2];rfl
       go_wp2;go_ret;exact⟨Zaa HE.o.symm,HB3.o⟩
      | true=>
       have l0:=HX3.o.cell 0;have l1:=HX3.o.cell 1;have l2:=HX3.o.cell 2;have b0:=HY3.o.cell 0;have b1:=HY3.o.cell 1;have b2:=HY3.o.cell 2;have b3:=HY3.o.cell 3;have b4:=HY3.o.cell 4;have b5:=HY3.o.cell 5;have b6:=HY3.o.cell 6;simp at l0 l1 l2 b0 b1 b2 b3 b4 b5 b6;go_wp2_with fail;clear l0 l1 l2 b0 b1 b2 b3 b4 b5 b6;refine (Zlq lo _ _ _ _ _ _ _ Ss Ms Ts B _ (HL.o.below HB3.o) (HK.o.below HB3.o) HN.o.1 (Zjp HT.o)).mono ?_;rintro e w4 ⟨rfl,hb⟩;have HB4:Hd (Zw_ w w4):=HB3.o.trans (hb.mono HB3.o.size);have HX4:=Zab (HX3.o.on hb);have HY4:=Zab (HY3.o.on hb);clear hb HB3 HX3 HY3;have HE:Hd (Zdh Ss Ms Ts B FF=Zhq Ss Ts B):=by unfold Hd;rw [HI.o,h0,HT.o,h1,h2];rfl
       go_wp2;go_ret;exact⟨Zaa HE.o.symm,HB4.o⟩
end
end Go.Proofs.YtmappejlmapboaaGreat
