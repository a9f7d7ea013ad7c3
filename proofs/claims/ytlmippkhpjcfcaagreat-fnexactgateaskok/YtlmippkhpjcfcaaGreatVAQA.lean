import Derived.Test.YtlmippkhpjcfcaaGreatVAQ
import Derived.Test.YtlmippkhpjcfcaaGreatVHC
set_option maxHeartbeats 16000000
set_option maxRecDepth 100000
open Go.Proofs.Tryz
namespace Go.Proofs.YtlmippkhpjcfcaaGreat
open Go.RowKit Go.Deep
theorem Zp0 (Ts:List Tm) (s:Zy_):decide (0≤Zdg Ts s)=Zfa Ts s:=by
 have h:=Zgi Ts s
 cases hh:Zfa Ts s with
 | false=>
  rw [hh] at h;simp at h ⊢
  omega
 | true=>
  rw [hh] at h;simp at h ⊢
  omega
def ZcP (Ss:List Sh) (A:Ak):Bool:=(Zcf Ss A.kd).isSome&&Zao A.nm
def Zf6 (Ss:List Sh) (A:Ak):Bool:=match Zcf Ss A.kd with
 | some x=>decide (A.vs.length=x.fields.length)
 | none=>false
theorem ZeH {Ss:List Sh} {A:Ak} {x:Sh} (h:Zcf Ss A.kd=some x):Zf6 Ss A=decide (A.vs.length=x.fields.length):=by unfold Zf6;rw [h]
theorem ZpU {Ss:List Sh} {A:Ak} (h:Zcf Ss A.kd=none):Zf6 Ss A=false:=by unfold Zf6;rw [h]
theorem Zb0 {Ss:List Sh} {A:Ak} {x:Sh} (h:Zcf Ss A.kd=some x):ZcP Ss A=Zao A.nm:=by unfold ZcP;rw [h];rfl
theorem ZdZ {Ss:List Sh} {A:Ak} (h:Zcf Ss A.kd=none):ZcP Ss A=false:=by unfold ZcP;rw [h];rfl
def Zjp (Ss:List Sh) (Ts:List Tm) (A:Ak):Bool:=ZcP Ss A&&(Zf6 Ss A&&(Zfa Ts A.tm&&(decide (A.hs.length≤3)&&Zng A.hs)))
def Zk3 (Ss:List Sh) (A:Ak):Bool:=ZcP Ss A&&(Zf6 Ss A&&decide (0≤A.seen))
def Zl4 (Ss:List Sh) (A:Ak):Bool:=ZcP Ss A&&decide (0≤A.seen)
def ZmB (Ss:List Sh) (A:Ak):Bool:=ZcP Ss A&&Zao A.hold
def Zom (A:Ak):Bool:=Zao A.tw&&Za0 A.ru
def Zrp (A:Ak):Bool:=decide (1≤A.num)
theorem ZjG (n:Nat):decide ((n:Int)≤3)=decide (n≤3):=by
 by_cases h:n≤3
 · rw [decide_eq_true h];simp;omega
 · rw [decide_eq_false h];simp;omega
theorem Zhs (n m:Nat):((n:Int) == (m:Int))=decide (n=m):=by
 by_cases h:n=m
 · subst h;simp
 · rw [decide_eq_false h];simp;omega
section
variable (sv mv tv va ha qa:Value) (Ss:List Sh) (Ms:List Md) (Ts:List Tm) (A:Ak) (w:World)
theorem Zct (hl:ZaS 0 w sv mv tv Ss Ms Ts) (h:ZbE 0 w va ha qa A) :
 Calls prog 293 #[.agg #[sv,mv,tv],.agg #[.string A.who,.int .i64 A.verb,.string A.kd,.string A.nm,.string A.tm,va,ha,.int .i64 A.seen,.string A.hold,.string A.tw,qa,.string A.rk,.string A.rt,.string A.rp,.int .i64 A.num]] w fun e w'=>e=.returned (.bool (ZcP Ss A))∧Zw_ w w':=by
 have HL:=Zab hl;have HA:=Zab h;have HZ:=Zab h.sz;obtain⟨a,cap,rfl⟩:=hl.shs.form;obtain⟨a1,cap1,rfl⟩:=hl.mds.form;obtain⟨a2,cap2,rfl⟩:=hl.tms.form;obtain⟨b0,k0,rfl⟩:=h.vs.at.form';obtain⟨b1,k1,rfl⟩:=h.hs.at.form';obtain⟨b2,k2,rfl⟩:=h.vb.form;clear hl h;go_enter func293,ntmps293;go_wp2_with fail;generalize hWa:World.alloc (w.alloc _) _=Wa;have HB0:Hid (Zw_ w Wa):=by rw [← hWa];exact (Zac w _).alloc (by simp) _
 have FA0:Hid (Box Wa w.heap.size #[.slice a Ss.length cap,.slice a1 Ms.length cap1,.slice a2 Ts.length cap2]):=by rw [← hWa];exact (Box.new _ _ _ _ rfl).on (Zac _ _)
 have FB0:Hid (Box Wa (w.heap.size+1) #[.string A.who,.int .i64 A.verb,.string A.kd,.string A.nm,.string A.tm,.slice b0 A.vs.length k0,.slice b1 A.hs.length k1,.int .i64 A.seen,.string A.hold,.string A.tw,.slice b2 A.vb.length k2,.string A.rk,.string A.rt,.string A.rp,.int .i64 A.num]):=by rw [← hWa];exact Box.new _ _ _ _ (by simp)
 clear hWa;refine (Zfj 0 _ Ss A.kd _ (HL.out.below HB0.out).shs).mono ?_;rintro e w1 ⟨hb1,hsh⟩;have HB1:Hid (Zw_ w w1):=bt HB0.out hb1;have FB1:=Zab (FB0.out.on hb1);clear hb1 FA0 FB0 HB0;have hlt:=FB1.out.lt;have c3:∀ o,(w1.alloc o).cell? ⟨w.heap.size+1,3,none⟩=some (.string A.nm):=fun o=>(Zai _ _ _ _ hlt).trans ((FB1.out.cell 3).trans (by simp))
 have c5:∀ o,(w1.alloc o).cell? ⟨w.heap.size+1,5,none⟩=some (.slice b0 A.vs.length k0):=fun o=>(Zai _ _ _ _ hlt).trans ((FB1.out.cell 5).trans (by simp))
 have hsn:A.nm.size≤maxLen:=HZ.out.nm
 rcases hsh with ⟨x,fv,hx,rfl,hf⟩ | ⟨hx,rfl⟩
 · obtain⟨fa,fc,rfl⟩:=hf.form
   have HR:=Zab (Zb0 hx);clear hf hx;go_wp2_with (go_at_call 135;refine (Zan _ _ (by with_reducible assumption)).mono ?_;rintro e w' ⟨rfl,rfl⟩);go_ret;exact⟨Zaa (by rw [HR.out]),bt HB1.out (Zac _ _)⟩
 · have HR:=Zab (ZdZ hx)
   clear hx;go_wp2;go_ret;exact⟨Zaa (by rw [HR.out]),bt HB1.out (Zac _ _)⟩
theorem Ze9 (hl:ZaS 0 w sv mv tv Ss Ms Ts) (h:ZbE 0 w va ha qa A) :
 Calls prog 294 #[.agg #[sv,mv,tv],.agg #[.string A.who,.int .i64 A.verb,.string A.kd,.string A.nm,.string A.tm,va,ha,.int .i64 A.seen,.string A.hold,.string A.tw,qa,.string A.rk,.string A.rt,.string A.rp,.int .i64 A.num]] w fun e w'=>e=.returned (.bool (Zf6 Ss A))∧Zw_ w w':=by
 have HL:=Zab hl;have HA:=Zab h;have HZ:=Zab h.sz;obtain⟨a,cap,rfl⟩:=hl.shs.form;obtain⟨a1,cap1,rfl⟩:=hl.mds.form;obtain⟨a2,cap2,rfl⟩:=hl.tms.form;obtain⟨b0,k0,rfl⟩:=h.vs.at.form';obtain⟨b1,k1,rfl⟩:=h.hs.at.form';obtain⟨b2,k2,rfl⟩:=h.vb.form;clear hl h;go_enter func294,ntmps294;go_wp2_with fail;generalize hWa:World.alloc (w.alloc _) _=Wa;have HB0:Hid (Zw_ w Wa):=by rw [← hWa];exact (Zac w _).alloc (by simp) _
 have FA0:Hid (Box Wa w.heap.size #[.slice a Ss.length cap,.slice a1 Ms.length cap1,.slice a2 Ts.length cap2]):=by rw [← hWa];exact (Box.new _ _ _ _ rfl).on (Zac _ _)
 have FB0:Hid (Box Wa (w.heap.size+1) #[.string A.who,.int .i64 A.verb,.string A.kd,.string A.nm,.string A.tm,.slice b0 A.vs.length k0,.slice b1 A.hs.length k1,.int .i64 A.seen,.string A.hold,.string A.tw,.slice b2 A.vb.length k2,.string A.rk,.string A.rt,.string A.rp,.int .i64 A.num]):=by rw [← hWa];exact Box.new _ _ _ _ (by simp)
 clear hWa;refine (Zfj 0 _ Ss A.kd _ (HL.out.below HB0.out).shs).mono ?_;rintro e w1 ⟨hb1,hsh⟩;have HB1:Hid (Zw_ w w1):=bt HB0.out hb1;have FB1:=Zab (FB0.out.on hb1);clear hb1 FA0 FB0 HB0;have hlt:=FB1.out.lt;have c3:∀ o,(w1.alloc o).cell? ⟨w.heap.size+1,3,none⟩=some (.string A.nm):=fun o=>(Zai _ _ _ _ hlt).trans ((FB1.out.cell 3).trans (by simp))
 have c5:∀ o,(w1.alloc o).cell? ⟨w.heap.size+1,5,none⟩=some (.slice b0 A.vs.length k0):=fun o=>(Zai _ _ _ _ hlt).trans ((FB1.out.cell 5).trans (by simp))
 have hsn:A.nm.size≤maxLen:=HZ.out.nm
 rcases hsh with ⟨x,fv,hx,rfl,hf⟩ | ⟨hx,rfl⟩
 · obtain⟨fa,fc,rfl⟩:=hf.form
   have HR:=Zab (ZeH hx);clear hf hx;go_wp2_with (go_at_call 135;refine (Zan _ _ (by with_reducible assumption)).mono ?_;rintro e w' ⟨rfl,rfl⟩);go_ret;exact⟨Zaa (by rw [HR.out];exact Zhs _ _),bt HB1.out (Zac _ _)⟩
 · have HR:=Zab (ZpU hx)
   clear hx;go_wp2;go_ret;exact⟨Zaa (by rw [HR.out]),bt HB1.out (Zac _ _)⟩
end
section
variable (sv mv tv va ha qa:Value) (Ss:List Sh) (Ms:List Md) (Ts:List Tm) (A:Ak) (w:World)
theorem Zpz (hl:ZaS 0 w sv mv tv Ss Ms Ts) (h:ZbE 0 w va ha qa A) :
 Calls prog 291 #[.agg #[],.agg #[sv,mv,tv],.agg #[.string A.who,.int .i64 A.verb,.string A.kd,.string A.nm,.string A.tm,va,ha,.int .i64 A.seen,.string A.hold,.string A.tw,qa,.string A.rk,.string A.rt,.string A.rp,.int .i64 A.num]] w fun e w'=>e=.returned (.bool (Zjp Ss Ts A))∧Zw_ w w':=by
 have HL:=Zab hl;have HA:=Zab h;have HZ:=Zab h.sz;obtain⟨a,cap,rfl⟩:=hl.shs.form;obtain⟨a1,cap1,rfl⟩:=hl.mds.form;obtain⟨a2,cap2,rfl⟩:=hl.tms.form;obtain⟨b0,k0,rfl⟩:=h.vs.at.form';obtain⟨b1,k1,rfl⟩:=h.hs.at.form';obtain⟨b2,k2,rfl⟩:=h.vb.form;clear hl h;go_enter func291,ntmps291;go_wp2_with fail;generalize hWa:World.alloc (World.alloc (w.alloc _) _) _=Wa;have HB0:Hid (Zw_ w Wa):=by rw [← hWa];exact ((Zac w _).alloc (by simp) _).alloc (by simp;omega) _
 have FA0:Hid (Box Wa (w.heap.size+1) #[.slice a Ss.length cap,.slice a1 Ms.length cap1,.slice a2 Ts.length cap2]):=by rw [← hWa];exact (Box.new _ _ _ _ (by simp)).on (Zac _ _)
 have FB0:Hid (Box Wa (w.heap.size+2) #[.string A.who,.int .i64 A.verb,.string A.kd,.string A.nm,.string A.tm,.slice b0 A.vs.length k0,.slice b1 A.hs.length k1,.int .i64 A.seen,.string A.hold,.string A.tw,.slice b2 A.vb.length k2,.string A.rk,.string A.rt,.string A.rp,.int .i64 A.num]):=by rw [← hWa];exact Box.new _ _ _ _ (by simp)
 clear hWa;refine (Zct _ _ _ _ _ _ Ss Ms Ts A _ (HL.out.below HB0.out) (HA.out.below HB0.out)).mono ?_;rintro e w1 ⟨rfl,hb1⟩;have HB1:Hid (Zw_ w w1):=bt HB0.out hb1;have FA1:=Zab (FA0.out.on hb1);have FB1:=Zab (FB0.out.on hb1);clear hb1 FA0 FB0 HB0
 cases q0:ZcP Ss A with
 | false=>
  go_wp2;go_ret;exact⟨Zaa (by unfold Zjp;simp [q0]),HB1.out⟩
 | true=>
  have g0:=FA1.out.cell;have g1:=FB1.out.cell;go_wp2_with fail;clear g0 g1;refine (Ze9 _ _ _ _ _ _ Ss Ms Ts A _ (HL.out.below HB1.out) (HA.out.below HB1.out)).mono ?_;rintro e w2 ⟨rfl,hb2⟩;have HB2:Hid (Zw_ w w2):=bt HB1.out hb2;have FA2:=Zab (FA1.out.on hb2);have FB2:=Zab (FB1.out.on hb2);clear hb2 FA1 FB1 HB1
  cases q1:Zf6 Ss A with
  | false=>
   go_wp2;go_ret;exact⟨Zaa (by unfold Zjp;simp [q0,q1]),HB2.out⟩
  | true=>
   have g0:=FA2.out.cell;have g1:=FB2.out.cell;go_wp2_with fail;clear g0 g1;refine (Zb3 0 _ Ts A.tm _ (HL.out.below HB2.out).tms).mono ?_;rintro e w3 ⟨rfl,hb3⟩;have HB3:Hid (Zw_ w w3):=bt HB2.out hb3;have FA3:=Zab (FA2.out.on hb3);have FB3:=Zab (FB2.out.on hb3);clear hb3 FA2 FB2 HB2;have hp:=Zp0 Ts A.tm
   cases q2:Zfa Ts A.tm with
   | false=>
    rw [q2] at hp;go_wp2;go_ret;exact⟨Zaa (by unfold Zjp;simp [q0,q1,q2]),HB3.out⟩
   | true=>
    rw [q2] at hp
    cases q3:decide (A.hs.length≤3) with
    | false=>
     have hd:decide ((A.hs.length:Int)≤3)=false:=by rw [← q3];exact ZjG _
     have g0:=FA3.out.cell;have g1:=FB3.out.cell;go_wp2;go_ret;exact⟨Zaa (by unfold Zjp;simp [q0,q1,q2,q3]),HB3.out⟩
    | true=>
     have hd3:decide ((A.hs.length:Int)≤3)=true:=by rw [← q3];exact ZjG _
     have g0:=FA3.out.cell;have g1:=FB3.out.cell;go_wp2_with fail;clear g0 g1;refine (Zeo _ A.hs _ (HA.out.below HB3.out).hs.at).mono ?_;rintro e w94 ⟨rfl,rfl⟩;go_wp2;go_ret;exact⟨Zaa (by unfold Zjp;simp [q0,q1,q2,q3]),HB3.out⟩
theorem Zpt (hl:ZaS 0 w sv mv tv Ss Ms Ts) (h:ZbE 0 w va ha qa A) :
 Calls prog 297 #[.agg #[],.agg #[sv,mv,tv],.agg #[.string A.who,.int .i64 A.verb,.string A.kd,.string A.nm,.string A.tm,va,ha,.int .i64 A.seen,.string A.hold,.string A.tw,qa,.string A.rk,.string A.rt,.string A.rp,.int .i64 A.num]] w fun e w'=>e=.returned (.bool (Zk3 Ss A))∧Zw_ w w':=by
 have HL:=Zab hl;have HA:=Zab h;have HZ:=Zab h.sz;obtain⟨a,cap,rfl⟩:=hl.shs.form;obtain⟨a1,cap1,rfl⟩:=hl.mds.form;obtain⟨a2,cap2,rfl⟩:=hl.tms.form;obtain⟨b0,k0,rfl⟩:=h.vs.at.form';obtain⟨b1,k1,rfl⟩:=h.hs.at.form';obtain⟨b2,k2,rfl⟩:=h.vb.form;clear hl h;go_enter func297,ntmps297;go_wp2_with fail;generalize hWa:World.alloc (World.alloc (w.alloc _) _) _=Wa;have HB0:Hid (Zw_ w Wa):=by rw [← hWa];exact ((Zac w _).alloc (by simp) _).alloc (by simp;omega) _
 have FA0:Hid (Box Wa (w.heap.size+1) #[.slice a Ss.length cap,.slice a1 Ms.length cap1,.slice a2 Ts.length cap2]):=by rw [← hWa];exact (Box.new _ _ _ _ (by simp)).on (Zac _ _)
 have FB0:Hid (Box Wa (w.heap.size+2) #[.string A.who,.int .i64 A.verb,.string A.kd,.string A.nm,.string A.tm,.slice b0 A.vs.length k0,.slice b1 A.hs.length k1,.int .i64 A.seen,.string A.hold,.string A.tw,.slice b2 A.vb.length k2,.string A.rk,.string A.rt,.string A.rp,.int .i64 A.num]):=by rw [← hWa];exact Box.new _ _ _ _ (by simp)
 clear hWa;refine (Zct _ _ _ _ _ _ Ss Ms Ts A _ (HL.out.below HB0.out) (HA.out.below HB0.out)).mono ?_;rintro e w1 ⟨rfl,hb1⟩;have HB1:Hid (Zw_ w w1):=bt HB0.out hb1;have FA1:=Zab (FA0.out.on hb1);have FB1:=Zab (FB0.out.on hb1);clear hb1 FA0 FB0 HB0
 cases q0:ZcP Ss A with
 | false=>
  go_wp2;go_ret;exact⟨Zaa (by unfold Zk3;simp [q0]),HB1.out⟩
 | true=>
  have g0:=FA1.out.cell;have g1:=FB1.out.cell;go_wp2_with fail;clear g0 g1;refine (Ze9 _ _ _ _ _ _ Ss Ms Ts A _ (HL.out.below HB1.out) (HA.out.below HB1.out)).mono ?_;rintro e w2 ⟨rfl,hb2⟩;have HB2:Hid (Zw_ w w2):=bt HB1.out hb2;have FA2:=Zab (FA1.out.on hb2);have FB2:=Zab (FB1.out.on hb2);clear hb2 FA1 FB1 HB1
  cases q1:Zf6 Ss A with
  | false=>
   go_wp2;go_ret;exact⟨Zaa (by unfold Zk3;simp [q0,q1]),HB2.out⟩
  | true=>
   cases q2:decide (0≤A.seen) with
   | false=>
    have hd:decide (0≤A.seen)=false:=by rw [← q2]
    have g0:=FA2.out.cell;have g1:=FB2.out.cell;go_wp2;go_ret;exact⟨Zaa (by unfold Zk3;simp [q0,q1,q2]),HB2.out⟩
   | true=>
    have hd:decide (0≤A.seen)=true:=by rw [← q2]
    have g0:=FA2.out.cell;have g1:=FB2.out.cell;go_wp2;go_ret;exact⟨Zaa (by unfold Zk3;simp [q0,q1,q2]),HB2.out⟩
theorem ZoZ (hl:ZaS 0 w sv mv tv Ss Ms Ts) (h:ZbE 0 w va ha qa A) :
 Calls prog 301 #[.agg #[],.agg #[sv,mv,tv],.agg #[.string A.who,.int .i64 A.verb,.string A.kd,.string A.nm,.string A.tm,va,ha,.int .i64 A.seen,.string A.hold,.string A.tw,qa,.string A.rk,.string A.rt,.string A.rp,.int .i64 A.num]] w fun e w'=>e=.returned (.bool (Zl4 Ss A))∧Zw_ w w':=by
 have HL:=Zab hl;have HA:=Zab h;have HZ:=Zab h.sz;obtain⟨a,cap,rfl⟩:=hl.shs.form;obtain⟨a1,cap1,rfl⟩:=hl.mds.form;obtain⟨a2,cap2,rfl⟩:=hl.tms.form;obtain⟨b0,k0,rfl⟩:=h.vs.at.form';obtain⟨b1,k1,rfl⟩:=h.hs.at.form';obtain⟨b2,k2,rfl⟩:=h.vb.form;clear hl h;go_enter func301,ntmps301;go_wp2_with fail;generalize hWa:World.alloc (World.alloc (w.alloc _) _) _=Wa;have HB0:Hid (Zw_ w Wa):=by rw [← hWa];exact ((Zac w _).alloc (by simp) _).alloc (by simp;omega) _
 have FA0:Hid (Box Wa (w.heap.size+1) #[.slice a Ss.length cap,.slice a1 Ms.length cap1,.slice a2 Ts.length cap2]):=by rw [← hWa];exact (Box.new _ _ _ _ (by simp)).on (Zac _ _)
 have FB0:Hid (Box Wa (w.heap.size+2) #[.string A.who,.int .i64 A.verb,.string A.kd,.string A.nm,.string A.tm,.slice b0 A.vs.length k0,.slice b1 A.hs.length k1,.int .i64 A.seen,.string A.hold,.string A.tw,.slice b2 A.vb.length k2,.string A.rk,.string A.rt,.string A.rp,.int .i64 A.num]):=by rw [← hWa];exact Box.new _ _ _ _ (by simp)
 clear hWa;refine (Zct _ _ _ _ _ _ Ss Ms Ts A _ (HL.out.below HB0.out) (HA.out.below HB0.out)).mono ?_;rintro e w1 ⟨rfl,hb1⟩;have HB1:Hid (Zw_ w w1):=bt HB0.out hb1;have FA1:=Zab (FA0.out.on hb1);have FB1:=Zab (FB0.out.on hb1);clear hb1 FA0 FB0 HB0
 cases q0:ZcP Ss A with
 | false=>
  go_wp2;go_ret;exact⟨Zaa (by unfold Zl4;simp [q0]),HB1.out⟩
 | true=>
  cases q1:decide (0≤A.seen) with
  | false=>
   have hd:decide (0≤A.seen)=false:=by rw [← q1]
   have g0:=FA1.out.cell;have g1:=FB1.out.cell;go_wp2;go_ret;exact⟨Zaa (by unfold Zl4;simp [q0,q1]),HB1.out⟩
  | true=>
   have hd:decide (0≤A.seen)=true:=by rw [← q1]
   have g0:=FA1.out.cell;have g1:=FB1.out.cell;go_wp2;go_ret;exact⟨Zaa (by unfold Zl4;simp [q0,q1]),HB1.out⟩
theorem Zot (hl:ZaS 0 w sv mv tv Ss Ms Ts) (h:ZbE 0 w va ha qa A) :
 Calls prog 305 #[.agg #[],.agg #[sv,mv,tv],.agg #[.string A.who,.int .i64 A.verb,.string A.kd,.string A.nm,.string A.tm,va,ha,.int .i64 A.seen,.string A.hold,.string A.tw,qa,.string A.rk,.string A.rt,.string A.rp,.int .i64 A.num]] w fun e w'=>e=.returned (.bool (ZmB Ss A))∧Zw_ w w':=by
 have HL:=Zab hl;have HA:=Zab h;have HZ:=Zab h.sz;obtain⟨a,cap,rfl⟩:=hl.shs.form;obtain⟨a1,cap1,rfl⟩:=hl.mds.form;obtain⟨a2,cap2,rfl⟩:=hl.tms.form;obtain⟨b0,k0,rfl⟩:=h.vs.at.form';obtain⟨b1,k1,rfl⟩:=h.hs.at.form';obtain⟨b2,k2,rfl⟩:=h.vb.form;clear hl h;go_enter func305,ntmps305;go_wp2_with fail;generalize hWa:World.alloc (World.alloc (w.alloc _) _) _=Wa;have HB0:Hid (Zw_ w Wa):=by rw [← hWa];exact ((Zac w _).alloc (by simp) _).alloc (by simp;omega) _
 have FA0:Hid (Box Wa (w.heap.size+1) #[.slice a Ss.length cap,.slice a1 Ms.length cap1,.slice a2 Ts.length cap2]):=by rw [← hWa];exact (Box.new _ _ _ _ (by simp)).on (Zac _ _)
 have FB0:Hid (Box Wa (w.heap.size+2) #[.string A.who,.int .i64 A.verb,.string A.kd,.string A.nm,.string A.tm,.slice b0 A.vs.length k0,.slice b1 A.hs.length k1,.int .i64 A.seen,.string A.hold,.string A.tw,.slice b2 A.vb.length k2,.string A.rk,.string A.rt,.string A.rp,.int .i64 A.num]):=by rw [← hWa];exact Box.new _ _ _ _ (by simp)
 clear hWa;refine (Zct _ _ _ _ _ _ Ss Ms Ts A _ (HL.out.below HB0.out) (HA.out.below HB0.out)).mono ?_;rintro e w1 ⟨rfl,hb1⟩;have HB1:Hid (Zw_ w w1):=bt HB0.out hb1;have FA1:=Zab (FA0.out.on hb1);have FB1:=Zab (FB0.out.on hb1);clear hb1 FA0 FB0 HB0
 cases q0:ZcP Ss A with
 | false=>
  go_wp2;go_ret;exact⟨Zaa (by unfold ZmB;simp [q0]),HB1.out⟩
 | true=>
  have g0:=FA1.out.cell;have g1:=FB1.out.cell;go_wp2_with fail;clear g0 g1;refine (Zan _ _ HZ.out.hold).mono ?_;rintro e w91 ⟨rfl,rfl⟩;go_wp2;go_ret;exact⟨Zaa (by unfold ZmB;simp [q0]),HB1.out⟩
theorem Zps (hl:ZaS 0 w sv mv tv Ss Ms Ts) (h:ZbE 0 w va ha qa A) :
 Calls prog 309 #[.agg #[],.agg #[sv,mv,tv],.agg #[.string A.who,.int .i64 A.verb,.string A.kd,.string A.nm,.string A.tm,va,ha,.int .i64 A.seen,.string A.hold,.string A.tw,qa,.string A.rk,.string A.rt,.string A.rp,.int .i64 A.num]] w fun e w'=>e=.returned (.bool (Zom A))∧Zw_ w w':=by
 have HL:=Zab hl;have HA:=Zab h;have HZ:=Zab h.sz;obtain⟨a,cap,rfl⟩:=hl.shs.form;obtain⟨a1,cap1,rfl⟩:=hl.mds.form;obtain⟨a2,cap2,rfl⟩:=hl.tms.form;obtain⟨b0,k0,rfl⟩:=h.vs.at.form';obtain⟨b1,k1,rfl⟩:=h.hs.at.form';obtain⟨b2,k2,rfl⟩:=h.vb.form;clear hl h;go_enter func309,ntmps309;go_wp2_with fail;generalize hWa:World.alloc (World.alloc (w.alloc _) _) _=Wa;have HB0:Hid (Zw_ w Wa):=by rw [← hWa];exact ((Zac w _).alloc (by simp) _).alloc (by simp;omega) _
 have FA0:Hid (Box Wa (w.heap.size+1) #[.slice a Ss.length cap,.slice a1 Ms.length cap1,.slice a2 Ts.length cap2]):=by rw [← hWa];exact (Box.new _ _ _ _ (by simp)).on (Zac _ _)
 have FB0:Hid (Box Wa (w.heap.size+2) #[.string A.who,.int .i64 A.verb,.string A.kd,.string A.nm,.string A.tm,.slice b0 A.vs.length k0,.slice b1 A.hs.length k1,.int .i64 A.seen,.string A.hold,.string A.tw,.slice b2 A.vb.length k2,.string A.rk,.string A.rt,.string A.rp,.int .i64 A.num]):=by rw [← hWa];exact Box.new _ _ _ _ (by simp)
 clear hWa;refine (Zan _ _ HZ.out.tw).mono ?_;rintro e w90 ⟨rfl,rfl⟩
 cases q0:Zao A.tw with
 | false=>
  go_wp2;go_ret;exact⟨Zaa (by unfold Zom;simp [q0]),HB0.out⟩
 | true=>
  have g0:=FA0.out.cell;have g1:=FB0.out.cell;go_wp2_with fail;clear g0 g1;refine (Zgn 0 A.ru _ _ (HA.out.below HB0.out).vb HZ.out.ru).mono ?_;rintro e w1 ⟨rfl,hb1⟩;have HB1:Hid (Zw_ w w1):=bt HB0.out hb1;have FA1:=Zab (FA0.out.on hb1);have FB1:=Zab (FB0.out.on hb1);clear hb1 FA0 FB0 HB0;go_wp2;go_ret;exact⟨Zaa (by unfold Zom;simp [q0]),HB1.out⟩
theorem ZpY (hl:ZaS 0 w sv mv tv Ss Ms Ts) (h:ZbE 0 w va ha qa A) :
 Calls prog 313 #[.agg #[],.agg #[sv,mv,tv],.agg #[.string A.who,.int .i64 A.verb,.string A.kd,.string A.nm,.string A.tm,va,ha,.int .i64 A.seen,.string A.hold,.string A.tw,qa,.string A.rk,.string A.rt,.string A.rp,.int .i64 A.num]] w fun e w'=>e=.returned (.bool (Zrp A))∧Zw_ w w':=by
 have HL:=Zab hl;have HA:=Zab h;have HZ:=Zab h.sz;obtain⟨a,cap,rfl⟩:=hl.shs.form;obtain⟨a1,cap1,rfl⟩:=hl.mds.form;obtain⟨a2,cap2,rfl⟩:=hl.tms.form;obtain⟨b0,k0,rfl⟩:=h.vs.at.form';obtain⟨b1,k1,rfl⟩:=h.hs.at.form';obtain⟨b2,k2,rfl⟩:=h.vb.form;clear hl h;go_enter func313,ntmps313;go_wp2;go_ret;exact⟨rfl,((Zac w _).alloc (by simp) _).alloc (by simp;omega) _⟩
end
section
variable (b0 b1 b2:Option Addr) (k0 k1 k2:Nat) (A:Ak) (w:World)
theorem Zj3:Calls prog 292 #[.agg #[],.agg #[.string A.who,.int .i64 A.verb,.string A.kd,.string A.nm,.string A.tm,.slice b0 A.vs.length k0,.slice b1 A.hs.length k1,.int .i64 A.seen,.string A.hold,.string A.tw,.slice b2 A.vb.length k2,.string A.rk,.string A.rt,.string A.rp,.int .i64 A.num]] w fun e w'=>e=.returned (.agg #[.string A.who,.int .i64 A.verb,.string ⟨#[]⟩,.string ⟨#[]⟩,.string ⟨#[]⟩,.slice none 0 0,.slice none 0 0,.int .i64 A.seen,.string A.hold,.string A.tw,.slice b2 A.vb.length k2,.string A.rk,.string A.rt,.string A.rp,.int .i64 A.num])∧Zw_ w w':=by
 go_enter func292,ntmps292;go_wp2;refine bodyPost_ret (v:=.agg #[.string A.who,.int .i64 A.verb,.string ⟨#[]⟩,.string ⟨#[]⟩,.string ⟨#[]⟩,.slice none 0 0,.slice none 0 0,.int .i64 A.seen,.string A.hold,.string A.tw,.slice b2 A.vb.length k2,.string A.rk,.string A.rt,.string A.rp,.int .i64 A.num]) (by simp [results,results292,go_sem]) rfl ⟨rfl,?_⟩;exact ((Zac w _).alloc (by simp) _).alloc (by simp;omega) _
theorem ZkP:Calls prog 298 #[.agg #[],.agg #[.string A.who,.int .i64 A.verb,.string A.kd,.string A.nm,.string A.tm,.slice b0 A.vs.length k0,.slice b1 A.hs.length k1,.int .i64 A.seen,.string A.hold,.string A.tw,.slice b2 A.vb.length k2,.string A.rk,.string A.rt,.string A.rp,.int .i64 A.num]] w fun e w'=>e=.returned (.agg #[.string A.who,.int .i64 A.verb,.string ⟨#[]⟩,.string ⟨#[]⟩,.string A.tm,.slice none 0 0,.slice b1 A.hs.length k1,.int .i64 0,.string A.hold,.string A.tw,.slice b2 A.vb.length k2,.string A.rk,.string A.rt,.string A.rp,.int .i64 A.num])∧Zw_ w w':=by
 go_enter func298,ntmps298;go_wp2;refine bodyPost_ret (v:=.agg #[.string A.who,.int .i64 A.verb,.string ⟨#[]⟩,.string ⟨#[]⟩,.string A.tm,.slice none 0 0,.slice b1 A.hs.length k1,.int .i64 0,.string A.hold,.string A.tw,.slice b2 A.vb.length k2,.string A.rk,.string A.rt,.string A.rp,.int .i64 A.num]) (by simp [results,results298,go_sem]) rfl ⟨rfl,?_⟩;exact ((Zac w _).alloc (by simp) _).alloc (by simp;omega) _
theorem ZjV:Calls prog 302 #[.agg #[],.agg #[.string A.who,.int .i64 A.verb,.string A.kd,.string A.nm,.string A.tm,.slice b0 A.vs.length k0,.slice b1 A.hs.length k1,.int .i64 A.seen,.string A.hold,.string A.tw,.slice b2 A.vb.length k2,.string A.rk,.string A.rt,.string A.rp,.int .i64 A.num]] w fun e w'=>e=.returned (.agg #[.string A.who,.int .i64 A.verb,.string ⟨#[]⟩,.string ⟨#[]⟩,.string A.tm,.slice b0 A.vs.length k0,.slice b1 A.hs.length k1,.int .i64 0,.string A.hold,.string A.tw,.slice b2 A.vb.length k2,.string A.rk,.string A.rt,.string A.rp,.int .i64 A.num])∧Zw_ w w':=by
 go_enter func302,ntmps302;go_wp2;refine bodyPost_ret (v:=.agg #[.string A.who,.int .i64 A.verb,.string ⟨#[]⟩,.string ⟨#[]⟩,.string A.tm,.slice b0 A.vs.length k0,.slice b1 A.hs.length k1,.int .i64 0,.string A.hold,.string A.tw,.slice b2 A.vb.length k2,.string A.rk,.string A.rt,.string A.rp,.int .i64 A.num]) (by simp [results,results302,go_sem]) rfl ⟨rfl,?_⟩;exact ((Zac w _).alloc (by simp) _).alloc (by simp;omega) _
theorem ZkM:Calls prog 306 #[.agg #[],.agg #[.string A.who,.int .i64 A.verb,.string A.kd,.string A.nm,.string A.tm,.slice b0 A.vs.length k0,.slice b1 A.hs.length k1,.int .i64 A.seen,.string A.hold,.string A.tw,.slice b2 A.vb.length k2,.string A.rk,.string A.rt,.string A.rp,.int .i64 A.num]] w fun e w'=>e=.returned (.agg #[.string A.who,.int .i64 A.verb,.string ⟨#[]⟩,.string ⟨#[]⟩,.string A.tm,.slice b0 A.vs.length k0,.slice b1 A.hs.length k1,.int .i64 A.seen,.string ⟨#[]⟩,.string A.tw,.slice b2 A.vb.length k2,.string A.rk,.string A.rt,.string A.rp,.int .i64 A.num])∧Zw_ w w':=by
 go_enter func306,ntmps306;go_wp2;refine bodyPost_ret (v:=.agg #[.string A.who,.int .i64 A.verb,.string ⟨#[]⟩,.string ⟨#[]⟩,.string A.tm,.slice b0 A.vs.length k0,.slice b1 A.hs.length k1,.int .i64 A.seen,.string ⟨#[]⟩,.string A.tw,.slice b2 A.vb.length k2,.string A.rk,.string A.rt,.string A.rp,.int .i64 A.num]) (by simp [results,results306,go_sem]) rfl ⟨rfl,?_⟩;exact ((Zac w _).alloc (by simp) _).alloc (by simp;omega) _
theorem Zj1:Calls prog 310 #[.agg #[],.agg #[.string A.who,.int .i64 A.verb,.string A.kd,.string A.nm,.string A.tm,.slice b0 A.vs.length k0,.slice b1 A.hs.length k1,.int .i64 A.seen,.string A.hold,.string A.tw,.slice b2 A.vb.length k2,.string A.rk,.string A.rt,.string A.rp,.int .i64 A.num]] w fun e w'=>e=.returned (.agg #[.string A.who,.int .i64 A.verb,.string A.kd,.string A.nm,.string A.tm,.slice b0 A.vs.length k0,.slice b1 A.hs.length k1,.int .i64 A.seen,.string A.hold,.string ⟨#[]⟩,.slice none 0 0,.string ⟨#[]⟩,.string ⟨#[]⟩,.string ⟨#[]⟩,.int .i64 A.num])∧Zw_ w w':=by
 go_enter func310,ntmps310;go_wp2;refine bodyPost_ret (v:=.agg #[.string A.who,.int .i64 A.verb,.string A.kd,.string A.nm,.string A.tm,.slice b0 A.vs.length k0,.slice b1 A.hs.length k1,.int .i64 A.seen,.string A.hold,.string ⟨#[]⟩,.slice none 0 0,.string ⟨#[]⟩,.string ⟨#[]⟩,.string ⟨#[]⟩,.int .i64 A.num]) (by simp [results,results310,go_sem]) rfl ⟨rfl,?_⟩;exact ((Zac w _).alloc (by simp) _).alloc (by simp;omega) _
theorem ZkJ:Calls prog 314 #[.agg #[],.agg #[.string A.who,.int .i64 A.verb,.string A.kd,.string A.nm,.string A.tm,.slice b0 A.vs.length k0,.slice b1 A.hs.length k1,.int .i64 A.seen,.string A.hold,.string A.tw,.slice b2 A.vb.length k2,.string A.rk,.string A.rt,.string A.rp,.int .i64 A.num]] w fun e w'=>e=.returned (.agg #[.string A.who,.int .i64 A.verb,.string A.kd,.string A.nm,.string A.tm,.slice b0 A.vs.length k0,.slice b1 A.hs.length k1,.int .i64 A.seen,.string A.hold,.string A.tw,.slice b2 A.vb.length k2,.string A.rk,.string A.rt,.string A.rp,.int .i64 0])∧Zw_ w w':=by
 go_enter func314,ntmps314;go_wp2;refine bodyPost_ret (v:=.agg #[.string A.who,.int .i64 A.verb,.string A.kd,.string A.nm,.string A.tm,.slice b0 A.vs.length k0,.slice b1 A.hs.length k1,.int .i64 A.seen,.string A.hold,.string A.tw,.slice b2 A.vb.length k2,.string A.rk,.string A.rt,.string A.rp,.int .i64 0]) (by simp [results,results314,go_sem]) rfl ⟨rfl,?_⟩;exact ((Zac w _).alloc (by simp) _).alloc (by simp;omega) _
end
def no1 (A:Ak):Bool:=noB ⟨#[]⟩ ⟨#[]⟩ ⟨#[]⟩ 0 0 A.seen A.hold A.tw A.vb.length A.rk A.rt A.rp A.num
def no2 (A:Ak):Bool:=noB ⟨#[]⟩ ⟨#[]⟩ A.tm 0 A.hs.length 0 A.hold A.tw A.vb.length A.rk A.rt A.rp A.num
def no3 (A:Ak):Bool:=noB ⟨#[]⟩ ⟨#[]⟩ A.tm A.vs.length A.hs.length 0 A.hold A.tw A.vb.length A.rk A.rt A.rp A.num
def no4 (A:Ak):Bool:=noB ⟨#[]⟩ ⟨#[]⟩ A.tm A.vs.length A.hs.length A.seen ⟨#[]⟩ A.tw A.vb.length A.rk A.rt A.rp A.num
def no5 (A:Ak):Bool:=noB A.kd A.nm A.tm A.vs.length A.hs.length A.seen A.hold ⟨#[]⟩ 0 ⟨#[]⟩ ⟨#[]⟩ ⟨#[]⟩ A.num
def no6 (A:Ak):Bool:=noB A.kd A.nm A.tm A.vs.length A.hs.length A.seen A.hold A.tw A.vb.length A.rk A.rt A.rp 0
def ZhS (Ss:List Sh) (Ts:List Tm) (A:Ak):Bool:=Zao A.who&&(if A.verb=1 then Zjp Ss Ts A&&no1 A else if A.verb=2 then Zk3 Ss A&&no2 A else if A.verb=3 then Zl4 Ss A&&no3 A else if A.verb=4 then ZmB Ss A&&no4 A else if A.verb=5 then Zom A&&no5 A else if A.verb=6 then Zrp A&&no6 A else false)
theorem Zte {Ss:List Sh} {Ts:List Tm} {A:Ak} (hv:A.verb=1):ZhS Ss Ts A=(Zao A.who&&(Zjp Ss Ts A&&no1 A)):=by unfold ZhS;simp [hv]
theorem ZsY {Ss:List Sh} {Ts:List Tm} {A:Ak} (hv:A.verb=2):ZhS Ss Ts A=(Zao A.who&&(Zk3 Ss A&&no2 A)):=by unfold ZhS;simp [hv]
theorem Zta {Ss:List Sh} {Ts:List Tm} {A:Ak} (hv:A.verb=3):ZhS Ss Ts A=(Zao A.who&&(Zl4 Ss A&&no3 A)):=by unfold ZhS;simp [hv]
theorem ZsS {Ss:List Sh} {Ts:List Tm} {A:Ak} (hv:A.verb=4):ZhS Ss Ts A=(Zao A.who&&(ZmB Ss A&&no4 A)):=by unfold ZhS;simp [hv]
theorem ZsX {Ss:List Sh} {Ts:List Tm} {A:Ak} (hv:A.verb=5):ZhS Ss Ts A=(Zao A.who&&(Zom A&&no5 A)):=by unfold ZhS;simp [hv]
theorem ZsM {Ss:List Sh} {Ts:List Tm} {A:Ak} (hv:A.verb=6):ZhS Ss Ts A=(Zao A.who&&(Zrp A&&no6 A)):=by unfold ZhS;simp [hv]
theorem ZpT {Ss:List Sh} {Ts:List Tm} {A:Ak} (h:inB 1 6 A.verb=false):ZhS Ss Ts A=false:=by
 have e:∀ k:Int,1≤k→k≤6→¬ A.verb=k:=fun k h1 h2 hk=>by
  rw [hk,Zeh] at h;simp at h
  omega
 unfold ZhS;rw [if_neg (e 1 (by decide) (by decide)),if_neg (e 2 (by decide) (by decide)),if_neg (e 3 (by decide) (by decide)),if_neg (e 4 (by decide) (by decide)),if_neg (e 5 (by decide) (by decide)),if_neg (e 6 (by decide) (by decide)),Bool.and_false]
theorem Zml {Ss:List Sh} {Ts:List Tm} {A:Ak} (h:Zao A.who=false):ZhS Ss Ts A=false:=by unfold ZhS;rw [h];rfl
theorem ZoQ {A:Ak} (h:inB 1 6 A.verb=true):A.verb=1∨A.verb=2∨A.verb=3∨A.verb=4∨A.verb=5∨A.verb=6:=by
 rw [Zeh] at h;simp at h
 omega
theorem Zd2 (w:World):Calls prog 137 #[] w fun e w'=>e=.returned (.agg #[.nilIface,.iface 237 (.agg #[]),.iface 238 (.agg #[]),.iface 239 (.agg #[]),.iface 240 (.agg #[]),.iface 241 (.agg #[]),.iface 242 (.agg #[])])∧Zw_ w w':=by
 go_enter func137,ntmps137;go_wp2;refine bodyPost_ret (v:=.agg #[.nilIface,.iface 237 (.agg #[]),.iface 238 (.agg #[]),.iface 239 (.agg #[]),.iface 240 (.agg #[]),.iface 241 (.agg #[]),.iface 242 (.agg #[])]) (by simp [results,results137,go_sem]) rfl ⟨rfl,Zac _ _⟩
section
variable (sv mv tv va ha qa:Value) (Ss:List Sh) (Ms:List Md) (Ts:List Tm) (A:Ak) (w:World)
theorem ZtD (hl:ZaS 0 w sv mv tv Ss Ms Ts) (h:ZbE 0 w va ha qa A) (hv:A.verb=1) (hn:Zao A.who=true) :
 Calls prog 73 #[.agg #[sv,mv,tv],.agg #[.string A.who,.int .i64 A.verb,.string A.kd,.string A.nm,.string A.tm,va,ha,.int .i64 A.seen,.string A.hold,.string A.tw,qa,.string A.rk,.string A.rt,.string A.rp,.int .i64 A.num]] w fun e w'=>e=.returned (.bool (Zjp Ss Ts A&&no1 A))∧Zw_ w w':=by
 have HL:=Zab hl;have HA:=Zab h;have HZ:=Zab h.sz;obtain⟨a,cap,rfl⟩:=hl.shs.form;obtain⟨a1,cap1,rfl⟩:=hl.mds.form;obtain⟨a2,cap2,rfl⟩:=hl.tms.form;obtain⟨b0,k0,rfl⟩:=h.vs.at.form';obtain⟨b1,k1,rfl⟩:=h.hs.at.form';obtain⟨b2,k2,rfl⟩:=h.vb.form;clear hl h;have hidx:∀ u:World,(Instr.index 198 (.agg #[.nilIface,.iface 237 (.agg #[]),.iface 238 (.agg #[]),.iface 239 (.agg #[]),.iface 240 (.agg #[]),.iface 241 (.agg #[]),.iface 242 (.agg #[])]) (.int .i64 A.verb)).run prog u=.ok (.iface 237 (.agg #[])) u:=fun u=>by rw [hv];rfl
 have hin:inB 1 6 A.verb=true:=by rw [hv];decide
 clear hv;go_enter func73,ntmps73;go_wp2_with (first|(go_at_call 135;refine (Zan _ _ HZ.out.who).mono ?_;rintro e w' ⟨rfl,rfl⟩)|(go_at_call 136;refine (Zay _ _ _ _).mono ?_;rintro e w' ⟨rfl,rfl⟩));generalize hWa:World.alloc (w.alloc _) _=Wa;have HB0:Hid (Zw_ w Wa):=by rw [← hWa];exact (Zac w _).alloc (by simp) _
 have FA0:Hid (Box Wa w.heap.size #[.slice a Ss.length cap,.slice a1 Ms.length cap1,.slice a2 Ts.length cap2]):=by rw [← hWa];exact (Box.new _ _ _ _ rfl).on (Zac _ _)
 have FB0:Hid (Box Wa (w.heap.size+1) #[.string A.who,.int .i64 A.verb,.string A.kd,.string A.nm,.string A.tm,.slice b0 A.vs.length k0,.slice b1 A.hs.length k1,.int .i64 A.seen,.string A.hold,.string A.tw,.slice b2 A.vb.length k2,.string A.rk,.string A.rt,.string A.rp,.int .i64 A.num]):=by rw [← hWa];exact Box.new _ _ _ _ (by simp)
 clear hWa
 go_region_held3 (Zat Wa w.heap.size #[.slice a Ss.length cap,.slice a1 Ms.length cap1,.slice a2 Ts.length cap2] (w.heap.size+1) #[.string A.who,.int .i64 A.verb,.string A.kd,.string A.nm,.string A.tm,.slice b0 A.vs.length k0,.slice b1 A.hs.length k1,.int .i64 A.seen,.string A.hold,.string A.tw,.slice b2 A.vb.length k2,.string A.rk,.string A.rt,.string A.rp,.int .i64 A.num])
  (first
    | (with_reducible exact Zat.drew FA0.out FB0.out)
    | (with_reducible exact Zat.on (by assumption) (by assumption))
    | assumption)
  (first
    | (go_at_call 137
       refine (Zd2 _).mono ?_;rintro e w2 ⟨rfl,hb2⟩;have HC2:Hid (Below Wa.heap.size Wa w2):=bt (Zb_.drew) hb2))
 all_goals
  have FA1:=Zab (FA0.out.on HC2.out);have FB1:=Zab (FB0.out.on HC2.out);have HB1:Hid (Zw_ w w2):=bt HB0.out HC2.out;clear FA0 FB0 HB0 HC2 hidx;have g0:=FA1.out.cell;have g1:=FB1.out.cell;go_wp2_with fail;clear g0 g1;refine (Zpz _ _ _ _ _ _ Ss Ms Ts A _ (HL.out.below HB1.out) (HA.out.below HB1.out)).mono ?_;rintro e w3 ⟨rfl,hb3⟩;have HB3:Hid (Zw_ w w3):=bt HB1.out hb3;have FB3:=Zab (FB1.out.on hb3);clear hb3 FA1 FB1 HB1
  cases q1:Zjp Ss Ts A with
  | false=>
   go_wp2;go_ret;exact⟨Zaa (by rw [q1];rfl),HB3.out⟩
  | true=>
   have g1:=FB3.out.cell;go_wp2_with fail;clear g1;refine (Zj3 _ _ _ _ _ _ A _).mono ?_;rintro e w4 ⟨rfl,hb4⟩;have HB4:Hid (Zw_ w w4):=bt HB3.out hb4;clear hb4 FB3 HB3;go_wp2_with fail;refine (Zbt _ _ _ _ _ _ _ _ _ _ _ _ _ _ _ _ _ _ _ _ _ _).mono ?_;rintro e w5 ⟨rfl,hb5⟩;have HB5:Hid (Zw_ w w5):=bt HB4.out hb5;clear hb5 HB4;go_wp2;go_ret;exact⟨Zaa (by rw [q1];rfl),HB5.out⟩
theorem ZtK (hl:ZaS 0 w sv mv tv Ss Ms Ts) (h:ZbE 0 w va ha qa A) (hv:A.verb=2) (hn:Zao A.who=true) :
 Calls prog 73 #[.agg #[sv,mv,tv],.agg #[.string A.who,.int .i64 A.verb,.string A.kd,.string A.nm,.string A.tm,va,ha,.int .i64 A.seen,.string A.hold,.string A.tw,qa,.string A.rk,.string A.rt,.string A.rp,.int .i64 A.num]] w fun e w'=>e=.returned (.bool (Zk3 Ss A&&no2 A))∧Zw_ w w':=by
 have HL:=Zab hl;have HA:=Zab h;have HZ:=Zab h.sz;obtain⟨a,cap,rfl⟩:=hl.shs.form;obtain⟨a1,cap1,rfl⟩:=hl.mds.form;obtain⟨a2,cap2,rfl⟩:=hl.tms.form;obtain⟨b0,k0,rfl⟩:=h.vs.at.form';obtain⟨b1,k1,rfl⟩:=h.hs.at.form';obtain⟨b2,k2,rfl⟩:=h.vb.form;clear hl h;have hidx:∀ u:World,(Instr.index 198 (.agg #[.nilIface,.iface 237 (.agg #[]),.iface 238 (.agg #[]),.iface 239 (.agg #[]),.iface 240 (.agg #[]),.iface 241 (.agg #[]),.iface 242 (.agg #[])]) (.int .i64 A.verb)).run prog u=.ok (.iface 238 (.agg #[])) u:=fun u=>by rw [hv];rfl
 have hin:inB 1 6 A.verb=true:=by rw [hv];decide
 clear hv;go_enter func73,ntmps73;go_wp2_with (first|(go_at_call 135;refine (Zan _ _ HZ.out.who).mono ?_;rintro e w' ⟨rfl,rfl⟩)|(go_at_call 136;refine (Zay _ _ _ _).mono ?_;rintro e w' ⟨rfl,rfl⟩));generalize hWa:World.alloc (w.alloc _) _=Wa;have HB0:Hid (Zw_ w Wa):=by rw [← hWa];exact (Zac w _).alloc (by simp) _
 have FA0:Hid (Box Wa w.heap.size #[.slice a Ss.length cap,.slice a1 Ms.length cap1,.slice a2 Ts.length cap2]):=by rw [← hWa];exact (Box.new _ _ _ _ rfl).on (Zac _ _)
 have FB0:Hid (Box Wa (w.heap.size+1) #[.string A.who,.int .i64 A.verb,.string A.kd,.string A.nm,.string A.tm,.slice b0 A.vs.length k0,.slice b1 A.hs.length k1,.int .i64 A.seen,.string A.hold,.string A.tw,.slice b2 A.vb.length k2,.string A.rk,.string A.rt,.string A.rp,.int .i64 A.num]):=by rw [← hWa];exact Box.new _ _ _ _ (by simp)
 clear hWa
 go_region_held3 (Zat Wa w.heap.size #[.slice a Ss.length cap,.slice a1 Ms.length cap1,.slice a2 Ts.length cap2] (w.heap.size+1) #[.string A.who,.int .i64 A.verb,.string A.kd,.string A.nm,.string A.tm,.slice b0 A.vs.length k0,.slice b1 A.hs.length k1,.int .i64 A.seen,.string A.hold,.string A.tw,.slice b2 A.vb.length k2,.string A.rk,.string A.rt,.string A.rp,.int .i64 A.num])
  (first
    | (with_reducible exact Zat.drew FA0.out FB0.out)
    | (with_reducible exact Zat.on (by assumption) (by assumption))
    | assumption)
  (first
    | (go_at_call 137
       refine (Zd2 _).mono ?_;rintro e w2 ⟨rfl,hb2⟩;have HC2:Hid (Below Wa.heap.size Wa w2):=bt (Zb_.drew) hb2))
 all_goals
  have FA1:=Zab (FA0.out.on HC2.out);have FB1:=Zab (FB0.out.on HC2.out);have HB1:Hid (Zw_ w w2):=bt HB0.out HC2.out;clear FA0 FB0 HB0 HC2 hidx;have g0:=FA1.out.cell;have g1:=FB1.out.cell;go_wp2_with fail;clear g0 g1;refine (Zpt _ _ _ _ _ _ Ss Ms Ts A _ (HL.out.below HB1.out) (HA.out.below HB1.out)).mono ?_;rintro e w3 ⟨rfl,hb3⟩;have HB3:Hid (Zw_ w w3):=bt HB1.out hb3;have FB3:=Zab (FB1.out.on hb3);clear hb3 FA1 FB1 HB1
  cases q1:Zk3 Ss A with
  | false=>
   go_wp2;go_ret;exact⟨Zaa (by rw [q1];rfl),HB3.out⟩
  | true=>
   have g1:=FB3.out.cell;go_wp2_with fail;clear g1;refine (ZkP _ _ _ _ _ _ A _).mono ?_;rintro e w4 ⟨rfl,hb4⟩;have HB4:Hid (Zw_ w w4):=bt HB3.out hb4;clear hb4 FB3 HB3;go_wp2_with fail;refine (Zbt _ _ _ _ _ _ _ _ _ _ _ _ _ _ _ _ _ _ _ _ _ _).mono ?_;rintro e w5 ⟨rfl,hb5⟩;have HB5:Hid (Zw_ w w5):=bt HB4.out hb5;clear hb5 HB4;go_wp2;go_ret;exact⟨Zaa (by rw [q1];rfl),HB5.out⟩
theorem Zts (hl:ZaS 0 w sv mv tv Ss Ms Ts) (h:ZbE 0 w va ha qa A) (hv:A.verb=3) (hn:Zao A.who=true) :
 Calls prog 73 #[.agg #[sv,mv,tv],.agg #[.string A.who,.int .i64 A.verb,.string A.kd,.string A.nm,.string A.tm,va,ha,.int .i64 A.seen,.string A.hold,.string A.tw,qa,.string A.rk,.string A.rt,.string A.rp,.int .i64 A.num]] w fun e w'=>e=.returned (.bool (Zl4 Ss A&&no3 A))∧Zw_ w w':=by
 have HL:=Zab hl;have HA:=Zab h;have HZ:=Zab h.sz;obtain⟨a,cap,rfl⟩:=hl.shs.form;obtain⟨a1,cap1,rfl⟩:=hl.mds.form;obtain⟨a2,cap2,rfl⟩:=hl.tms.form;obtain⟨b0,k0,rfl⟩:=h.vs.at.form';obtain⟨b1,k1,rfl⟩:=h.hs.at.form';obtain⟨b2,k2,rfl⟩:=h.vb.form;clear hl h;have hidx:∀ u:World,(Instr.index 198 (.agg #[.nilIface,.iface 237 (.agg #[]),.iface 238 (.agg #[]),.iface 239 (.agg #[]),.iface 240 (.agg #[]),.iface 241 (.agg #[]),.iface 242 (.agg #[])]) (.int .i64 A.verb)).run prog u=.ok (.iface 239 (.agg #[])) u:=fun u=>by rw [hv];rfl
 have hin:inB 1 6 A.verb=true:=by rw [hv];decide
 clear hv;go_enter func73,ntmps73;go_wp2_with (first|(go_at_call 135;refine (Zan _ _ HZ.out.who).mono ?_;rintro e w' ⟨rfl,rfl⟩)|(go_at_call 136;refine (Zay _ _ _ _).mono ?_;rintro e w' ⟨rfl,rfl⟩));generalize hWa:World.alloc (w.alloc _) _=Wa;have HB0:Hid (Zw_ w Wa):=by rw [← hWa];exact (Zac w _).alloc (by simp) _
 have FA0:Hid (Box Wa w.heap.size #[.slice a Ss.length cap,.slice a1 Ms.length cap1,.slice a2 Ts.length cap2]):=by rw [← hWa];exact (Box.new _ _ _ _ rfl).on (Zac _ _)
 have FB0:Hid (Box Wa (w.heap.size+1) #[.string A.who,.int .i64 A.verb,.string A.kd,.string A.nm,.string A.tm,.slice b0 A.vs.length k0,.slice b1 A.hs.length k1,.int .i64 A.seen,.string A.hold,.string A.tw,.slice b2 A.vb.length k2,.string A.rk,.string A.rt,.string A.rp,.int .i64 A.num]):=by rw [← hWa];exact Box.new _ _ _ _ (by simp)
 clear hWa
 go_region_held3 (Zat Wa w.heap.size #[.slice a Ss.length cap,.slice a1 Ms.length cap1,.slice a2 Ts.length cap2] (w.heap.size+1) #[.string A.who,.int .i64 A.verb,.string A.kd,.string A.nm,.string A.tm,.slice b0 A.vs.length k0,.slice b1 A.hs.length k1,.int .i64 A.seen,.string A.hold,.string A.tw,.slice b2 A.vb.length k2,.string A.rk,.string A.rt,.string A.rp,.int .i64 A.num])
  (first
    | (with_reducible exact Zat.drew FA0.out FB0.out)
    | (with_reducible exact Zat.on (by assumption) (by assumption))
    | assumption)
  (first
    | (go_at_call 137
       refine (Zd2 _).mono ?_;rintro e w2 ⟨rfl,hb2⟩;have HC2:Hid (Below Wa.heap.size Wa w2):=bt (Zb_.drew) hb2))
 all_goals
  have FA1:=Zab (FA0.out.on HC2.out);have FB1:=Zab (FB0.out.on HC2.out);have HB1:Hid (Zw_ w w2):=bt HB0.out HC2.out;clear FA0 FB0 HB0 HC2 hidx;have g0:=FA1.out.cell;have g1:=FB1.out.cell;go_wp2_with fail;clear g0 g1;refine (ZoZ _ _ _ _ _ _ Ss Ms Ts A _ (HL.out.below HB1.out) (HA.out.below HB1.out)).mono ?_;rintro e w3 ⟨rfl,hb3⟩;have HB3:Hid (Zw_ w w3):=bt HB1.out hb3;have FB3:=Zab (FB1.out.on hb3);clear hb3 FA1 FB1 HB1
  cases q1:Zl4 Ss A with
  | false=>
   go_wp2;go_ret;exact⟨Zaa (by rw [q1];rfl),HB3.out⟩
  | true=>
   have g1:=FB3.out.cell;go_wp2_with fail;clear g1;refine (ZjV _ _ _ _ _ _ A _).mono ?_;rintro e w4 ⟨rfl,hb4⟩;have HB4:Hid (Zw_ w w4):=bt HB3.out hb4;clear hb4 FB3 HB3;go_wp2_with fail;refine (Zbt _ _ _ _ _ _ _ _ _ _ _ _ _ _ _ _ _ _ _ _ _ _).mono ?_;rintro e w5 ⟨rfl,hb5⟩;have HB5:Hid (Zw_ w w5):=bt HB4.out hb5;clear hb5 HB4;go_wp2;go_ret;exact⟨Zaa (by rw [q1];rfl),HB5.out⟩
theorem Ztv (hl:ZaS 0 w sv mv tv Ss Ms Ts) (h:ZbE 0 w va ha qa A) (hv:A.verb=4) (hn:Zao A.who=true) :
 Calls prog 73 #[.agg #[sv,mv,tv],.agg #[.string A.who,.int .i64 A.verb,.string A.kd,.string A.nm,.string A.tm,va,ha,.int .i64 A.seen,.string A.hold,.string A.tw,qa,.string A.rk,.string A.rt,.string A.rp,.int .i64 A.num]] w fun e w'=>e=.returned (.bool (ZmB Ss A&&no4 A))∧Zw_ w w':=by
 have HL:=Zab hl;have HA:=Zab h;have HZ:=Zab h.sz;obtain⟨a,cap,rfl⟩:=hl.shs.form;obtain⟨a1,cap1,rfl⟩:=hl.mds.form;obtain⟨a2,cap2,rfl⟩:=hl.tms.form;obtain⟨b0,k0,rfl⟩:=h.vs.at.form';obtain⟨b1,k1,rfl⟩:=h.hs.at.form';obtain⟨b2,k2,rfl⟩:=h.vb.form;clear hl h;have hidx:∀ u:World,(Instr.index 198 (.agg #[.nilIface,.iface 237 (.agg #[]),.iface 238 (.agg #[]),.iface 239 (.agg #[]),.iface 240 (.agg #[]),.iface 241 (.agg #[]),.iface 242 (.agg #[])]) (.int .i64 A.verb)).run prog u=.ok (.iface 240 (.agg #[])) u:=fun u=>by rw [hv];rfl
 have hin:inB 1 6 A.verb=true:=by rw [hv];decide
 clear hv;go_enter func73,ntmps73;go_wp2_with (first|(go_at_call 135;refine (Zan _ _ HZ.out.who).mono ?_;rintro e w' ⟨rfl,rfl⟩)|(go_at_call 136;refine (Zay _ _ _ _).mono ?_;rintro e w' ⟨rfl,rfl⟩));generalize hWa:World.alloc (w.alloc _) _=Wa;have HB0:Hid (Zw_ w Wa):=by rw [← hWa];exact (Zac w _).alloc (by simp) _
 have FA0:Hid (Box Wa w.heap.size #[.slice a Ss.length cap,.slice a1 Ms.length cap1,.slice a2 Ts.length cap2]):=by rw [← hWa];exact (Box.new _ _ _ _ rfl).on (Zac _ _)
 have FB0:Hid (Box Wa (w.heap.size+1) #[.string A.who,.int .i64 A.verb,.string A.kd,.string A.nm,.string A.tm,.slice b0 A.vs.length k0,.slice b1 A.hs.length k1,.int .i64 A.seen,.string A.hold,.string A.tw,.slice b2 A.vb.length k2,.string A.rk,.string A.rt,.string A.rp,.int .i64 A.num]):=by rw [← hWa];exact Box.new _ _ _ _ (by simp)
 clear hWa
 go_region_held3 (Zat Wa w.heap.size #[.slice a Ss.length cap,.slice a1 Ms.length cap1,.slice a2 Ts.length cap2] (w.heap.size+1) #[.string A.who,.int .i64 A.verb,.string A.kd,.string A.nm,.string A.tm,.slice b0 A.vs.length k0,.slice b1 A.hs.length k1,.int .i64 A.seen,.string A.hold,.string A.tw,.slice b2 A.vb.length k2,.string A.rk,.string A.rt,.string A.rp,.int .i64 A.num])
  (first
    | (with_reducible exact Zat.drew FA0.out FB0.out)
    | (with_reducible exact Zat.on (by assumption) (by assumption))
    | assumption)
  (first
    | (go_at_call 137
       refine (Zd2 _).mono ?_;rintro e w2 ⟨rfl,hb2⟩;have HC2:Hid (Below Wa.heap.size Wa w2):=bt (Zb_.drew) hb2))
 all_goals
  have FA1:=Zab (FA0.out.on HC2.out);have FB1:=Zab (FB0.out.on HC2.out);have HB1:Hid (Zw_ w w2):=bt HB0.out HC2.out;clear FA0 FB0 HB0 HC2 hidx;have g0:=FA1.out.cell;have g1:=FB1.out.cell;go_wp2_with fail;clear g0 g1;refine (Zot _ _ _ _ _ _ Ss Ms Ts A _ (HL.out.below HB1.out) (HA.out.below HB1.out)).mono ?_;rintro e w3 ⟨rfl,hb3⟩;have HB3:Hid (Zw_ w w3):=bt HB1.out hb3;have FB3:=Zab (FB1.out.on hb3);clear hb3 FA1 FB1 HB1
  cases q1:ZmB Ss A with
  | false=>
   go_wp2;go_ret;exact⟨Zaa (by rw [q1];rfl),HB3.out⟩
  | true=>
   have g1:=FB3.out.cell;go_wp2_with fail;clear g1;refine (ZkM _ _ _ _ _ _ A _).mono ?_;rintro e w4 ⟨rfl,hb4⟩;have HB4:Hid (Zw_ w w4):=bt HB3.out hb4;clear hb4 FB3 HB3;go_wp2_with fail;refine (Zbt _ _ _ _ _ _ _ _ _ _ _ _ _ _ _ _ _ _ _ _ _ _).mono ?_;rintro e w5 ⟨rfl,hb5⟩;have HB5:Hid (Zw_ w w5):=bt HB4.out hb5;clear hb5 HB4;go_wp2;go_ret;exact⟨Zaa (by rw [q1];rfl),HB5.out⟩
theorem ZtG (hl:ZaS 0 w sv mv tv Ss Ms Ts) (h:ZbE 0 w va ha qa A) (hv:A.verb=5) (hn:Zao A.who=true) :
 Calls prog 73 #[.agg #[sv,mv,tv],.agg #[.string A.who,.int .i64 A.verb,.string A.kd,.string A.nm,.string A.tm,va,ha,.int .i64 A.seen,.string A.hold,.string A.tw,qa,.string A.rk,.string A.rt,.string A.rp,.int .i64 A.num]] w fun e w'=>e=.returned (.bool (Zom A&&no5 A))∧Zw_ w w':=by
 have HL:=Zab hl;have HA:=Zab h;have HZ:=Zab h.sz;obtain⟨a,cap,rfl⟩:=hl.shs.form;obtain⟨a1,cap1,rfl⟩:=hl.mds.form;obtain⟨a2,cap2,rfl⟩:=hl.tms.form;obtain⟨b0,k0,rfl⟩:=h.vs.at.form';obtain⟨b1,k1,rfl⟩:=h.hs.at.form';obtain⟨b2,k2,rfl⟩:=h.vb.form;clear hl h;have hidx:∀ u:World,(Instr.index 198 (.agg #[.nilIface,.iface 237 (.agg #[]),.iface 238 (.agg #[]),.iface 239 (.agg #[]),.iface 240 (.agg #[]),.iface 241 (.agg #[]),.iface 242 (.agg #[])]) (.int .i64 A.verb)).run prog u=.ok (.iface 241 (.agg #[])) u:=fun u=>by rw [hv];rfl
 have hin:inB 1 6 A.verb=true:=by rw [hv];decide
 clear hv;go_enter func73,ntmps73;go_wp2_with (first|(go_at_call 135;refine (Zan _ _ HZ.out.who).mono ?_;rintro e w' ⟨rfl,rfl⟩)|(go_at_call 136;refine (Zay _ _ _ _).mono ?_;rintro e w' ⟨rfl,rfl⟩));generalize hWa:World.alloc (w.alloc _) _=Wa;have HB0:Hid (Zw_ w Wa):=by rw [← hWa];exact (Zac w _).alloc (by simp) _
 have FA0:Hid (Box Wa w.heap.size #[.slice a Ss.length cap,.slice a1 Ms.length cap1,.slice a2 Ts.length cap2]):=by rw [← hWa];exact (Box.new _ _ _ _ rfl).on (Zac _ _)
 have FB0:Hid (Box Wa (w.heap.size+1) #[.string A.who,.int .i64 A.verb,.string A.kd,.string A.nm,.string A.tm,.slice b0 A.vs.length k0,.slice b1 A.hs.length k1,.int .i64 A.seen,.string A.hold,.string A.tw,.slice b2 A.vb.length k2,.string A.rk,.string A.rt,.string A.rp,.int .i64 A.num]):=by rw [← hWa];exact Box.new _ _ _ _ (by simp)
 clear hWa
 go_region_held3 (Zat Wa w.heap.size #[.slice a Ss.length cap,.slice a1 Ms.length cap1,.slice a2 Ts.length cap2] (w.heap.size+1) #[.string A.who,.int .i64 A.verb,.string A.kd,.string A.nm,.string A.tm,.slice b0 A.vs.length k0,.slice b1 A.hs.length k1,.int .i64 A.seen,.string A.hold,.string A.tw,.slice b2 A.vb.length k2,.string A.rk,.string A.rt,.string A.rp,.int .i64 A.num])
  (first
    | (with_reducible exact Zat.drew FA0.out FB0.out)
    | (with_reducible exact Zat.on (by assumption) (by assumption))
    | assumption)
  (first
    | (go_at_call 137
       refine (Zd2 _).mono ?_;rintro e w2 ⟨rfl,hb2⟩;have HC2:Hid (Below Wa.heap.size Wa w2):=bt (Zb_.drew) hb2))
 all_goals
  have FA1:=Zab (FA0.out.on HC2.out);have FB1:=Zab (FB0.out.on HC2.out);have HB1:Hid (Zw_ w w2):=bt HB0.out HC2.out;clear FA0 FB0 HB0 HC2 hidx;have g0:=FA1.out.cell;have g1:=FB1.out.cell;go_wp2_with fail;clear g0 g1;refine (Zps _ _ _ _ _ _ Ss Ms Ts A _ (HL.out.below HB1.out) (HA.out.below HB1.out)).mono ?_;rintro e w3 ⟨rfl,hb3⟩;have HB3:Hid (Zw_ w w3):=bt HB1.out hb3;have FB3:=Zab (FB1.out.on hb3);clear hb3 FA1 FB1 HB1
  cases q1:Zom A with
  | false=>
   go_wp2;go_ret;exact⟨Zaa (by rw [q1];rfl),HB3.out⟩
  | true=>
   have g1:=FB3.out.cell;go_wp2_with fail;clear g1;refine (Zj1 _ _ _ _ _ _ A _).mono ?_;rintro e w4 ⟨rfl,hb4⟩;have HB4:Hid (Zw_ w w4):=bt HB3.out hb4;clear hb4 FB3 HB3;go_wp2_with fail;refine (Zbt _ _ _ _ _ _ _ _ _ _ _ _ _ _ _ _ _ _ _ _ _ _).mono ?_;rintro e w5 ⟨rfl,hb5⟩;have HB5:Hid (Zw_ w w5):=bt HB4.out hb5;clear hb5 HB4;go_wp2;go_ret;exact⟨Zaa (by rw [q1];rfl),HB5.out⟩
theorem Ztx (hl:ZaS 0 w sv mv tv Ss Ms Ts) (h:ZbE 0 w va ha qa A) (hv:A.verb=6) (hn:Zao A.who=true) :
 Calls prog 73 #[.agg #[sv,mv,tv],.agg #[.string A.who,.int .i64 A.verb,.string A.kd,.string A.nm,.string A.tm,va,ha,.int .i64 A.seen,.string A.hold,.string A.tw,qa,.string A.rk,.string A.rt,.string A.rp,.int .i64 A.num]] w fun e w'=>e=.returned (.bool (Zrp A&&no6 A))∧Zw_ w w':=by
 have HL:=Zab hl;have HA:=Zab h;have HZ:=Zab h.sz;obtain⟨a,cap,rfl⟩:=hl.shs.form;obtain⟨a1,cap1,rfl⟩:=hl.mds.form;obtain⟨a2,cap2,rfl⟩:=hl.tms.form;obtain⟨b0,k0,rfl⟩:=h.vs.at.form';obtain⟨b1,k1,rfl⟩:=h.hs.at.form';obtain⟨b2,k2,rfl⟩:=h.vb.form;clear hl h;have hidx:∀ u:World,(Instr.index 198 (.agg #[.nilIface,.iface 237 (.agg #[]),.iface 238 (.agg #[]),.iface 239 (.agg #[]),.iface 240 (.agg #[]),.iface 241 (.agg #[]),.iface 242 (.agg #[])]) (.int .i64 A.verb)).run prog u=.ok (.iface 242 (.agg #[])) u:=fun u=>by rw [hv];rfl
 have hin:inB 1 6 A.verb=true:=by rw [hv];decide
 clear hv;go_enter func73,ntmps73;go_wp2_with (first|(go_at_call 135;refine (Zan _ _ HZ.out.who).mono ?_;rintro e w' ⟨rfl,rfl⟩)|(go_at_call 136;refine (Zay _ _ _ _).mono ?_;rintro e w' ⟨rfl,rfl⟩));generalize hWa:World.alloc (w.alloc _) _=Wa;have HB0:Hid (Zw_ w Wa):=by rw [← hWa];exact (Zac w _).alloc (by simp) _
 have FA0:Hid (Box Wa w.heap.size #[.slice a Ss.length cap,.slice a1 Ms.length cap1,.slice a2 Ts.length cap2]):=by rw [← hWa];exact (Box.new _ _ _ _ rfl).on (Zac _ _)
 have FB0:Hid (Box Wa (w.heap.size+1) #[.string A.who,.int .i64 A.verb,.string A.kd,.string A.nm,.string A.tm,.slice b0 A.vs.length k0,.slice b1 A.hs.length k1,.int .i64 A.seen,.string A.hold,.string A.tw,.slice b2 A.vb.length k2,.string A.rk,.string A.rt,.string A.rp,.int .i64 A.num]):=by rw [← hWa];exact Box.new _ _ _ _ (by simp)
 clear hWa
 go_region_held3 (Zat Wa w.heap.size #[.slice a Ss.length cap,.slice a1 Ms.length cap1,.slice a2 Ts.length cap2] (w.heap.size+1) #[.string A.who,.int .i64 A.verb,.string A.kd,.string A.nm,.string A.tm,.slice b0 A.vs.length k0,.slice b1 A.hs.length k1,.int .i64 A.seen,.string A.hold,.string A.tw,.slice b2 A.vb.length k2,.string A.rk,.string A.rt,.string A.rp,.int .i64 A.num])
  (first
    | (with_reducible exact Zat.drew FA0.out FB0.out)
    | (with_reducible exact Zat.on (by assumption) (by assumption))
    | assumption)
  (first
    | (go_at_call 137
       refine (Zd2 _).mono ?_;rintro e w2 ⟨rfl,hb2⟩;have HC2:Hid (Below Wa.heap.size Wa w2):=bt (Zb_.drew) hb2))
 all_goals
  have FA1:=Zab (FA0.out.on HC2.out);have FB1:=Zab (FB0.out.on HC2.out);have HB1:Hid (Zw_ w w2):=bt HB0.out HC2.out;clear FA0 FB0 HB0 HC2 hidx;have g0:=FA1.out.cell;have g1:=FB1.out.cell;go_wp2_with fail;clear g0 g1;refine (ZpY _ _ _ _ _ _ Ss Ms Ts A _ (HL.out.below HB1.out) (HA.out.below HB1.out)).mono ?_;rintro e w3 ⟨rfl,hb3⟩;have HB3:Hid (Zw_ w w3):=bt HB1.out hb3;have FB3:=Zab (FB1.out.on hb3);clear hb3 FA1 FB1 HB1
  cases q1:Zrp A with
  | false=>
   go_wp2;go_ret;exact⟨Zaa (by rw [q1];rfl),HB3.out⟩
  | true=>
   have g1:=FB3.out.cell;go_wp2_with fail;clear g1;refine (ZkJ _ _ _ _ _ _ A _).mono ?_;rintro e w4 ⟨rfl,hb4⟩;have HB4:Hid (Zw_ w w4):=bt HB3.out hb4;clear hb4 FB3 HB3;go_wp2_with fail;refine (Zbt _ _ _ _ _ _ _ _ _ _ _ _ _ _ _ _ _ _ _ _ _ _).mono ?_;rintro e w5 ⟨rfl,hb5⟩;have HB5:Hid (Zw_ w w5):=bt HB4.out hb5;clear hb5 HB4;go_wp2;go_ret;exact⟨Zaa (by rw [q1];rfl),HB5.out⟩
theorem Zke (hl:ZaS 0 w sv mv tv Ss Ms Ts) (h:ZbE 0 w va ha qa A) :
 Calls prog 73 #[.agg #[sv,mv,tv],.agg #[.string A.who,.int .i64 A.verb,.string A.kd,.string A.nm,.string A.tm,va,ha,.int .i64 A.seen,.string A.hold,.string A.tw,qa,.string A.rk,.string A.rt,.string A.rp,.int .i64 A.num]] w fun e w'=>e=.returned (.bool (ZhS Ss Ts A))∧Zw_ w w':=by
 cases hn:Zao A.who with
 | false=>
  rw [Zml hn];have HL:=Zab hl;have HA:=Zab h;have HZ:=Zab h.sz;obtain⟨a,cap,rfl⟩:=hl.shs.form;obtain⟨a1,cap1,rfl⟩:=hl.mds.form;obtain⟨a2,cap2,rfl⟩:=hl.tms.form;obtain⟨b0,k0,rfl⟩:=h.vs.at.form';obtain⟨b1,k1,rfl⟩:=h.hs.at.form';obtain⟨b2,k2,rfl⟩:=h.vb.form;clear hl h;go_enter func73,ntmps73;go_wp2_with (first|(go_at_call 135;refine (Zan _ _ HZ.out.who).mono ?_;rintro e w' ⟨rfl,rfl⟩)|(go_at_call 136;refine (Zay _ _ _ _).mono ?_;rintro e w' ⟨rfl,rfl⟩));go_ret;exact⟨rfl,(Zac w _).alloc (by simp) _⟩
 | true=>
  cases hin:inB 1 6 A.verb with
  | false=>
   rw [ZpT hin];have HL:=Zab hl;have HA:=Zab h;have HZ:=Zab h.sz;obtain⟨a,cap,rfl⟩:=hl.shs.form;obtain⟨a1,cap1,rfl⟩:=hl.mds.form;obtain⟨a2,cap2,rfl⟩:=hl.tms.form;obtain⟨b0,k0,rfl⟩:=h.vs.at.form';obtain⟨b1,k1,rfl⟩:=h.hs.at.form';obtain⟨b2,k2,rfl⟩:=h.vb.form;clear hl h;go_enter func73,ntmps73;go_wp2_with (first|(go_at_call 135;refine (Zan _ _ HZ.out.who).mono ?_;rintro e w' ⟨rfl,rfl⟩)|(go_at_call 136;refine (Zay _ _ _ _).mono ?_;rintro e w' ⟨rfl,rfl⟩));go_ret;exact⟨rfl,(Zac w _).alloc (by simp) _⟩
  | true=>
   rcases ZoQ hin with hv | hv | hv | hv | hv | hv
   · rw [Zte hv,hn,Bool.true_and];exact ZtD sv mv tv va ha qa Ss Ms Ts A w hl h hv hn
   · rw [ZsY hv,hn,Bool.true_and];exact ZtK sv mv tv va ha qa Ss Ms Ts A w hl h hv hn
   · rw [Zta hv,hn,Bool.true_and];exact Zts sv mv tv va ha qa Ss Ms Ts A w hl h hv hn
   · rw [ZsS hv,hn,Bool.true_and];exact Ztv sv mv tv va ha qa Ss Ms Ts A w hl h hv hn
   · rw [ZsX hv,hn,Bool.true_and];exact ZtG sv mv tv va ha qa Ss Ms Ts A w hl h hv hn
   · rw [ZsM hv,hn,Bool.true_and];exact Ztx sv mv tv va ha qa Ss Ms Ts A w hl h hv hn
theorem ZlQ (hl:ZaS 0 w sv mv tv Ss Ms Ts) (h:ZbE 0 w va ha qa A) :
 Calls prog 20 #[.agg #[sv,mv,tv],.agg #[.string A.who,.int .i64 A.verb,.string A.kd,.string A.nm,.string A.tm,va,ha,.int .i64 A.seen,.string A.hold,.string A.tw,qa,.string A.rk,.string A.rt,.string A.rp,.int .i64 A.num]] w fun e w'=>e=.returned (.bool (ZhP Ss Ms Ts&&ZhS Ss Ts A))∧Zw_ w w':=by
 have HL:=Zab hl;have HA:=Zab h;have HZ:=Zab h.sz;obtain⟨a,cap,rfl⟩:=hl.shs.form;obtain⟨a1,cap1,rfl⟩:=hl.mds.form;obtain⟨a2,cap2,rfl⟩:=hl.tms.form;obtain⟨b0,k0,rfl⟩:=h.vs.at.form';obtain⟨b1,k1,rfl⟩:=h.hs.at.form';obtain⟨b2,k2,rfl⟩:=h.vb.form;clear hl h;go_enter func20,ntmps20;go_wp2_with fail;generalize hWa:World.alloc (w.alloc _) _=Wa;have HB0:Hid (Zw_ w Wa):=by rw [← hWa];exact (Zac w _).alloc (by simp) _
 have FA0:Hid (Box Wa w.heap.size #[.slice a Ss.length cap,.slice a1 Ms.length cap1,.slice a2 Ts.length cap2]):=by rw [← hWa];exact (Box.new _ _ _ _ rfl).on (Zac _ _)
 have FB0:Hid (Box Wa (w.heap.size+1) #[.string A.who,.int .i64 A.verb,.string A.kd,.string A.nm,.string A.tm,.slice b0 A.vs.length k0,.slice b1 A.hs.length k1,.int .i64 A.seen,.string A.hold,.string A.tw,.slice b2 A.vb.length k2,.string A.rk,.string A.rt,.string A.rp,.int .i64 A.num]):=by rw [← hWa];exact Box.new _ _ _ _ (by simp)
 clear hWa;refine (ZfD 0 _ _ _ Ss Ms Ts _ (HL.out.below HB0.out)).mono ?_;rintro e w1 ⟨rfl,hb1⟩;have HB1:Hid (Zw_ w w1):=bt HB0.out hb1;have FA1:=Zab (FA0.out.on hb1);have FB1:=Zab (FB0.out.on hb1);clear hb1 FA0 FB0 HB0
 cases q1:ZhP Ss Ms Ts with
 | false=>
  go_wp2;go_ret;exact⟨Zaa (by rw [q1];rfl),HB1.out⟩
 | true=>
  have g0:=FA1.out.cell;have g1:=FB1.out.cell;go_wp2_with fail;clear g0 g1;refine (Zke _ _ _ _ _ _ Ss Ms Ts A _ (HL.out.below HB1.out) (HA.out.below HB1.out)).mono ?_;rintro e w2 ⟨rfl,hb2⟩;have HB2:Hid (Zw_ w w2):=bt HB1.out hb2;go_wp2;go_ret;exact⟨Zaa (by rw [q1];rfl),HB2.out⟩
end
end Go.Proofs.YtlmippkhpjcfcaaGreat
