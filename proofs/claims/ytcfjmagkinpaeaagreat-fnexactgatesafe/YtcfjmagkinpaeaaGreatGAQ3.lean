import Derived.Test.YtcfjmagkinpaeaaGreatGAQ2
set_option maxHeartbeats 16000000
set_option maxRecDepth 100000
open Go.Proofs.Tryz
namespace Go.Proofs.YtcfjmagkinpaeaaGreat
open Go.RowKit Go.Deep
section
variable (sv mv tv va ha qa:Value) (Ss:List Sh) (Ms:List Md) (Ts:List Tm) (A:Ak) (w:World)
theorem ZoQ (hl:ZaO 0 w sv mv tv Ss Ms Ts) (h:Za6 0 w va ha qa A) :
 Calls prog 290 #[.agg #[],.agg #[sv,mv,tv],.agg #[.string A.who,.int .i64 A.verb,.string A.kd,.string A.nm,.string A.tm,va,ha,.int .i64 A.seen,.string A.hold,.string A.tw,qa,.string A.rk,.string A.rt,.string A.rp,.int .i64 A.num]] w fun e w'=>e=.returned (.bool (ZiR Ss Ts A))∧Zw_ w w':=by
 have HL:=Zab hl;have HA:=Zab h;have HZ:=Zab h.sz;obtain⟨a,cap,rfl⟩:=hl.shs.form;obtain⟨a1,cap1,rfl⟩:=hl.mds.form;obtain⟨a2,cap2,rfl⟩:=hl.tms.form;obtain⟨b0,k0,rfl⟩:=h.vs.at.form';obtain⟨b1,k1,rfl⟩:=h.hs.at.form';obtain⟨b2,k2,rfl⟩:=h.vb.form;clear hl h;go_enter func290,ntmps290;go_wp2_with fail;generalize hWa:World.alloc (World.alloc (w.alloc _) _) _=Wa;have HB0:Hid (Zw_ w Wa):=by rw [← hWa];exact ((Zac w _).alloc (by simp) _).alloc (by simp;omega) _
 have FA0:Hid (Box Wa (w.heap.size+1) #[.slice a Ss.length cap,.slice a1 Ms.length cap1,.slice a2 Ts.length cap2]):=by rw [← hWa];exact (Box.new _ _ _ _ (by simp)).on (Zac _ _)
 have FB0:Hid (Box Wa (w.heap.size+2) #[.string A.who,.int .i64 A.verb,.string A.kd,.string A.nm,.string A.tm,.slice b0 A.vs.length k0,.slice b1 A.hs.length k1,.int .i64 A.seen,.string A.hold,.string A.tw,.slice b2 A.vb.length k2,.string A.rk,.string A.rt,.string A.rp,.int .i64 A.num]):=by rw [← hWa];exact Box.new _ _ _ _ (by simp)
 clear hWa;refine (Zcg _ _ _ _ _ _ Ss Ms Ts A _ (HL.out.below HB0.out) (HA.out.below HB0.out)).mono ?_;rintro e w1 ⟨rfl,hb1⟩;have HB1:Hid (Zw_ w w1):=bt HB0.out hb1;have FA1:=Zab (FA0.out.on hb1);have FB1:=Zab (FB0.out.on hb1);clear hb1 FA0 FB0 HB0
 cases q0:Zcy Ss A with
 | false=>
  go_wp2;go_ret;exact⟨Zaa (by unfold ZiR;simp [q0]),HB1.out⟩
 | true=>
  have g0:=FA1.out.cell;have g1:=FB1.out.cell;go_wp2_with fail;clear g0 g1;refine (ZeI _ _ _ _ _ _ Ss Ms Ts A _ (HL.out.below HB1.out) (HA.out.below HB1.out)).mono ?_;rintro e w2 ⟨rfl,hb2⟩;have HB2:Hid (Zw_ w w2):=bt HB1.out hb2;have FA2:=Zab (FA1.out.on hb2);have FB2:=Zab (FB1.out.on hb2);clear hb2 FA1 FB1 HB1
  cases q1:ZfA Ss A with
  | false=>
   go_wp2;go_ret;exact⟨Zaa (by unfold ZiR;simp [q0,q1]),HB2.out⟩
  | true=>
   have g0:=FA2.out.cell;have g1:=FB2.out.cell;go_wp2_with fail;clear g0 g1;refine (ZbR 0 _ Ts A.tm _ (HL.out.below HB2.out).tms).mono ?_;rintro e w3 ⟨rfl,hb3⟩;have HB3:Hid (Zw_ w w3):=bt HB2.out hb3;have FA3:=Zab (FA2.out.on hb3);have FB3:=Zab (FB2.out.on hb3);clear hb3 FA2 FB2 HB2;have hp:=ZnV Ts A.tm
   cases q2:ZeL Ts A.tm with
   | false=>
    rw [q2] at hp;go_wp2;go_ret;exact⟨Zaa (by unfold ZiR;simp [q0,q1,q2]),HB3.out⟩
   | true=>
    rw [q2] at hp
    cases q3:decide (A.hs.length≤3) with
    | false=>
     have hd:decide ((A.hs.length:Int)≤3)=false:=by rw [← q3];exact Zit _
     have g0:=FA3.out.cell;have g1:=FB3.out.cell;go_wp2;go_ret;exact⟨Zaa (by unfold ZiR;simp [q0,q1,q2,q3]),HB3.out⟩
    | true=>
     have hd3:decide ((A.hs.length:Int)≤3)=true:=by rw [← q3];exact Zit _
     have g0:=FA3.out.cell;have g1:=FB3.out.cell;go_wp2_with fail;clear g0 g1;refine (Zd5 _ A.hs _ (HA.out.below HB3.out).hs.at).mono ?_;rintro e w94 ⟨rfl,rfl⟩;go_wp2;go_ret;exact⟨Zaa (by unfold ZiR;simp [q0,q1,q2,q3]),HB3.out⟩
theorem ZoR (hl:ZaO 0 w sv mv tv Ss Ms Ts) (h:Za6 0 w va ha qa A) :
 Calls prog 296 #[.agg #[],.agg #[sv,mv,tv],.agg #[.string A.who,.int .i64 A.verb,.string A.kd,.string A.nm,.string A.tm,va,ha,.int .i64 A.seen,.string A.hold,.string A.tw,qa,.string A.rk,.string A.rt,.string A.rp,.int .i64 A.num]] w fun e w'=>e=.returned (.bool (ZjY Ss A))∧Zw_ w w':=by
 have HL:=Zab hl;have HA:=Zab h;have HZ:=Zab h.sz;obtain⟨a,cap,rfl⟩:=hl.shs.form;obtain⟨a1,cap1,rfl⟩:=hl.mds.form;obtain⟨a2,cap2,rfl⟩:=hl.tms.form;obtain⟨b0,k0,rfl⟩:=h.vs.at.form';obtain⟨b1,k1,rfl⟩:=h.hs.at.form';obtain⟨b2,k2,rfl⟩:=h.vb.form;clear hl h;go_enter func296,ntmps296;go_wp2_with fail;generalize hWa:World.alloc (World.alloc (w.alloc _) _) _=Wa;have HB0:Hid (Zw_ w Wa):=by rw [← hWa];exact ((Zac w _).alloc (by simp) _).alloc (by simp;omega) _
 have FA0:Hid (Box Wa (w.heap.size+1) #[.slice a Ss.length cap,.slice a1 Ms.length cap1,.slice a2 Ts.length cap2]):=by rw [← hWa];exact (Box.new _ _ _ _ (by simp)).on (Zac _ _)
 have FB0:Hid (Box Wa (w.heap.size+2) #[.string A.who,.int .i64 A.verb,.string A.kd,.string A.nm,.string A.tm,.slice b0 A.vs.length k0,.slice b1 A.hs.length k1,.int .i64 A.seen,.string A.hold,.string A.tw,.slice b2 A.vb.length k2,.string A.rk,.string A.rt,.string A.rp,.int .i64 A.num]):=by rw [← hWa];exact Box.new _ _ _ _ (by simp)
 clear hWa;refine (Zcg _ _ _ _ _ _ Ss Ms Ts A _ (HL.out.below HB0.out) (HA.out.below HB0.out)).mono ?_;rintro e w1 ⟨rfl,hb1⟩;have HB1:Hid (Zw_ w w1):=bt HB0.out hb1;have FA1:=Zab (FA0.out.on hb1);have FB1:=Zab (FB0.out.on hb1);clear hb1 FA0 FB0 HB0
 cases q0:Zcy Ss A with
 | false=>
  go_wp2;go_ret;exact⟨Zaa (by unfold ZjY;simp [q0]),HB1.out⟩
 | true=>
  have g0:=FA1.out.cell;have g1:=FB1.out.cell;go_wp2_with fail;clear g0 g1;refine (ZeI _ _ _ _ _ _ Ss Ms Ts A _ (HL.out.below HB1.out) (HA.out.below HB1.out)).mono ?_;rintro e w2 ⟨rfl,hb2⟩;have HB2:Hid (Zw_ w w2):=bt HB1.out hb2;have FA2:=Zab (FA1.out.on hb2);have FB2:=Zab (FB1.out.on hb2);clear hb2 FA1 FB1 HB1
  cases q1:ZfA Ss A with
  | false=>
   go_wp2;go_ret;exact⟨Zaa (by unfold ZjY;simp [q0,q1]),HB2.out⟩
  | true=>
   cases q2:decide (0≤A.seen) with
   | false=>
    have hd:decide (0≤A.seen)=false:=by rw [← q2]
    have g0:=FA2.out.cell;have g1:=FB2.out.cell;go_wp2;go_ret;exact⟨Zaa (by unfold ZjY;simp [q0,q1,q2]),HB2.out⟩
   | true=>
    have hd:decide (0≤A.seen)=true:=by rw [← q2]
    have g0:=FA2.out.cell;have g1:=FB2.out.cell;go_wp2;go_ret;exact⟨Zaa (by unfold ZjY;simp [q0,q1,q2]),HB2.out⟩
theorem ZoS (hl:ZaO 0 w sv mv tv Ss Ms Ts) (h:Za6 0 w va ha qa A) :
 Calls prog 300 #[.agg #[],.agg #[sv,mv,tv],.agg #[.string A.who,.int .i64 A.verb,.string A.kd,.string A.nm,.string A.tm,va,ha,.int .i64 A.seen,.string A.hold,.string A.tw,qa,.string A.rk,.string A.rt,.string A.rp,.int .i64 A.num]] w fun e w'=>e=.returned (.bool (ZkN Ss A))∧Zw_ w w':=by
 have HL:=Zab hl;have HA:=Zab h;have HZ:=Zab h.sz;obtain⟨a,cap,rfl⟩:=hl.shs.form;obtain⟨a1,cap1,rfl⟩:=hl.mds.form;obtain⟨a2,cap2,rfl⟩:=hl.tms.form;obtain⟨b0,k0,rfl⟩:=h.vs.at.form';obtain⟨b1,k1,rfl⟩:=h.hs.at.form';obtain⟨b2,k2,rfl⟩:=h.vb.form;clear hl h;go_enter func300,ntmps300;go_wp2_with fail;generalize hWa:World.alloc (World.alloc (w.alloc _) _) _=Wa;have HB0:Hid (Zw_ w Wa):=by rw [← hWa];exact ((Zac w _).alloc (by simp) _).alloc (by simp;omega) _
 have FA0:Hid (Box Wa (w.heap.size+1) #[.slice a Ss.length cap,.slice a1 Ms.length cap1,.slice a2 Ts.length cap2]):=by rw [← hWa];exact (Box.new _ _ _ _ (by simp)).on (Zac _ _)
 have FB0:Hid (Box Wa (w.heap.size+2) #[.string A.who,.int .i64 A.verb,.string A.kd,.string A.nm,.string A.tm,.slice b0 A.vs.length k0,.slice b1 A.hs.length k1,.int .i64 A.seen,.string A.hold,.string A.tw,.slice b2 A.vb.length k2,.string A.rk,.string A.rt,.string A.rp,.int .i64 A.num]):=by rw [← hWa];exact Box.new _ _ _ _ (by simp)
 clear hWa;refine (Zcg _ _ _ _ _ _ Ss Ms Ts A _ (HL.out.below HB0.out) (HA.out.below HB0.out)).mono ?_;rintro e w1 ⟨rfl,hb1⟩;have HB1:Hid (Zw_ w w1):=bt HB0.out hb1;have FA1:=Zab (FA0.out.on hb1);have FB1:=Zab (FB0.out.on hb1);clear hb1 FA0 FB0 HB0
 cases q0:Zcy Ss A with
 | false=>
  go_wp2;go_ret;exact⟨Zaa (by unfold ZkN;simp [q0]),HB1.out⟩
 | true=>
  cases q1:decide (0≤A.seen) with
  | false=>
   have hd:decide (0≤A.seen)=false:=by rw [← q1]
   have g0:=FA1.out.cell;have g1:=FB1.out.cell;go_wp2;go_ret;exact⟨Zaa (by unfold ZkN;simp [q0,q1]),HB1.out⟩
  | true=>
   have hd:decide (0≤A.seen)=true:=by rw [← q1]
   have g0:=FA1.out.cell;have g1:=FB1.out.cell;go_wp2;go_ret;exact⟨Zaa (by unfold ZkN;simp [q0,q1]),HB1.out⟩
theorem ZoT (hl:ZaO 0 w sv mv tv Ss Ms Ts) (h:Za6 0 w va ha qa A) :
 Calls prog 304 #[.agg #[],.agg #[sv,mv,tv],.agg #[.string A.who,.int .i64 A.verb,.string A.kd,.string A.nm,.string A.tm,va,ha,.int .i64 A.seen,.string A.hold,.string A.tw,qa,.string A.rk,.string A.rt,.string A.rp,.int .i64 A.num]] w fun e w'=>e=.returned (.bool (Zls Ss A))∧Zw_ w w':=by
 have HL:=Zab hl;have HA:=Zab h;have HZ:=Zab h.sz;obtain⟨a,cap,rfl⟩:=hl.shs.form;obtain⟨a1,cap1,rfl⟩:=hl.mds.form;obtain⟨a2,cap2,rfl⟩:=hl.tms.form;obtain⟨b0,k0,rfl⟩:=h.vs.at.form';obtain⟨b1,k1,rfl⟩:=h.hs.at.form';obtain⟨b2,k2,rfl⟩:=h.vb.form;clear hl h;go_enter func304,ntmps304;go_wp2_with fail;generalize hWa:World.alloc (World.alloc (w.alloc _) _) _=Wa;have HB0:Hid (Zw_ w Wa):=by rw [← hWa];exact ((Zac w _).alloc (by simp) _).alloc (by simp;omega) _
 have FA0:Hid (Box Wa (w.heap.size+1) #[.slice a Ss.length cap,.slice a1 Ms.length cap1,.slice a2 Ts.length cap2]):=by rw [← hWa];exact (Box.new _ _ _ _ (by simp)).on (Zac _ _)
 have FB0:Hid (Box Wa (w.heap.size+2) #[.string A.who,.int .i64 A.verb,.string A.kd,.string A.nm,.string A.tm,.slice b0 A.vs.length k0,.slice b1 A.hs.length k1,.int .i64 A.seen,.string A.hold,.string A.tw,.slice b2 A.vb.length k2,.string A.rk,.string A.rt,.string A.rp,.int .i64 A.num]):=by rw [← hWa];exact Box.new _ _ _ _ (by simp)
 clear hWa;refine (Zcg _ _ _ _ _ _ Ss Ms Ts A _ (HL.out.below HB0.out) (HA.out.below HB0.out)).mono ?_;rintro e w1 ⟨rfl,hb1⟩;have HB1:Hid (Zw_ w w1):=bt HB0.out hb1;have FA1:=Zab (FA0.out.on hb1);have FB1:=Zab (FB0.out.on hb1);clear hb1 FA0 FB0 HB0
 cases q0:Zcy Ss A with
 | false=>
  go_wp2;go_ret;exact⟨Zaa (by unfold Zls;simp [q0]),HB1.out⟩
 | true=>
  have g0:=FA1.out.cell;have g1:=FB1.out.cell;go_wp2_with fail;clear g0 g1;refine (Zag _ _ HZ.out.hold).mono ?_;rintro e w91 ⟨rfl,rfl⟩;go_wp2;go_ret;exact⟨Zaa (by unfold Zls;simp [q0]),HB1.out⟩
theorem ZoU (hl:ZaO 0 w sv mv tv Ss Ms Ts) (h:Za6 0 w va ha qa A) :
 Calls prog 308 #[.agg #[],.agg #[sv,mv,tv],.agg #[.string A.who,.int .i64 A.verb,.string A.kd,.string A.nm,.string A.tm,va,ha,.int .i64 A.seen,.string A.hold,.string A.tw,qa,.string A.rk,.string A.rt,.string A.rp,.int .i64 A.num]] w fun e w'=>e=.returned (.bool (ZmX A))∧Zw_ w w':=by
 have HL:=Zab hl;have HA:=Zab h;have HZ:=Zab h.sz;obtain⟨a,cap,rfl⟩:=hl.shs.form;obtain⟨a1,cap1,rfl⟩:=hl.mds.form;obtain⟨a2,cap2,rfl⟩:=hl.tms.form;obtain⟨b0,k0,rfl⟩:=h.vs.at.form';obtain⟨b1,k1,rfl⟩:=h.hs.at.form';obtain⟨b2,k2,rfl⟩:=h.vb.form;clear hl h;go_enter func308,ntmps308;go_wp2_with fail;generalize hWa:World.alloc (World.alloc (w.alloc _) _) _=Wa;have HB0:Hid (Zw_ w Wa):=by rw [← hWa];exact ((Zac w _).alloc (by simp) _).alloc (by simp;omega) _
 have FA0:Hid (Box Wa (w.heap.size+1) #[.slice a Ss.length cap,.slice a1 Ms.length cap1,.slice a2 Ts.length cap2]):=by rw [← hWa];exact (Box.new _ _ _ _ (by simp)).on (Zac _ _)
 have FB0:Hid (Box Wa (w.heap.size+2) #[.string A.who,.int .i64 A.verb,.string A.kd,.string A.nm,.string A.tm,.slice b0 A.vs.length k0,.slice b1 A.hs.length k1,.int .i64 A.seen,.string A.hold,.string A.tw,.slice b2 A.vb.length k2,.string A.rk,.string A.rt,.string A.rp,.int .i64 A.num]):=by rw [← hWa];exact Box.new _ _ _ _ (by simp)
 clear hWa;refine (Zag _ _ HZ.out.tw).mono ?_;rintro e w90 ⟨rfl,rfl⟩
 cases q0:Zaj A.tw with
 | false=>
  go_wp2;go_ret;exact⟨Zaa (by unfold ZmX;simp [q0]),HB0.out⟩
 | true=>
  have g0:=FA0.out.cell;have g1:=FB0.out.cell;go_wp2_with fail;clear g0 g1;refine (ZfO 0 A.ru _ _ (HA.out.below HB0.out).vb HZ.out.ru).mono ?_;rintro e w1 ⟨rfl,hb1⟩;have HB1:Hid (Zw_ w w1):=bt HB0.out hb1;have FA1:=Zab (FA0.out.on hb1);have FB1:=Zab (FB0.out.on hb1);clear hb1 FA0 FB0 HB0;go_wp2;go_ret;exact⟨Zaa (by unfold ZmX;simp [q0]),HB1.out⟩
theorem ZoV (hl:ZaO 0 w sv mv tv Ss Ms Ts) (h:Za6 0 w va ha qa A) :
 Calls prog 312 #[.agg #[],.agg #[sv,mv,tv],.agg #[.string A.who,.int .i64 A.verb,.string A.kd,.string A.nm,.string A.tm,va,ha,.int .i64 A.seen,.string A.hold,.string A.tw,qa,.string A.rk,.string A.rt,.string A.rp,.int .i64 A.num]] w fun e w'=>e=.returned (.bool (ZqW A))∧Zw_ w w':=by
 have HL:=Zab hl;have HA:=Zab h;have HZ:=Zab h.sz;obtain⟨a,cap,rfl⟩:=hl.shs.form;obtain⟨a1,cap1,rfl⟩:=hl.mds.form;obtain⟨a2,cap2,rfl⟩:=hl.tms.form;obtain⟨b0,k0,rfl⟩:=h.vs.at.form';obtain⟨b1,k1,rfl⟩:=h.hs.at.form';obtain⟨b2,k2,rfl⟩:=h.vb.form;clear hl h;go_enter func312,ntmps312;go_wp2;go_ret;exact⟨rfl,((Zac w _).alloc (by simp) _).alloc (by simp;omega) _⟩
end
end Go.Proofs.YtcfjmagkinpaeaaGreat
