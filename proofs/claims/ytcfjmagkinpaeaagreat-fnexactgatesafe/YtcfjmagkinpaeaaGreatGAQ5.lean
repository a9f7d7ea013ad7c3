import Derived.Test.YtcfjmagkinpaeaaGreatGAQ3
import Derived.Test.YtcfjmagkinpaeaaGreatGAQ4
set_option maxHeartbeats 16000000
set_option maxRecDepth 100000
open Go.Proofs.Tryz
namespace Go.Proofs.YtcfjmagkinpaeaaGreat
open Go.RowKit Go.Deep
def no1 (A:Ak):Bool:=noB ⟨#[]⟩ ⟨#[]⟩ ⟨#[]⟩ 0 0 A.seen A.hold A.tw A.vb.length A.rk A.rt A.rp A.num
def no2 (A:Ak):Bool:=noB ⟨#[]⟩ ⟨#[]⟩ A.tm 0 A.hs.length 0 A.hold A.tw A.vb.length A.rk A.rt A.rp A.num
def no3 (A:Ak):Bool:=noB ⟨#[]⟩ ⟨#[]⟩ A.tm A.vs.length A.hs.length 0 A.hold A.tw A.vb.length A.rk A.rt A.rp A.num
def no4 (A:Ak):Bool:=noB ⟨#[]⟩ ⟨#[]⟩ A.tm A.vs.length A.hs.length A.seen ⟨#[]⟩ A.tw A.vb.length A.rk A.rt A.rp A.num
def no5 (A:Ak):Bool:=noB A.kd A.nm A.tm A.vs.length A.hs.length A.seen A.hold ⟨#[]⟩ 0 ⟨#[]⟩ ⟨#[]⟩ ⟨#[]⟩ A.num
def no6 (A:Ak):Bool:=noB A.kd A.nm A.tm A.vs.length A.hs.length A.seen A.hold A.tw A.vb.length A.rk A.rt A.rp 0
def Zgl (Ss:List Sh) (Ts:List Tm) (A:Ak):Bool:=Zaj A.who&&(if A.verb=1 then ZiR Ss Ts A&&no1 A else if A.verb=2 then ZjY Ss A&&no2 A else if A.verb=3 then ZkN Ss A&&no3 A else if A.verb=4 then Zls Ss A&&no4 A else if A.verb=5 then ZmX A&&no5 A else if A.verb=6 then ZqW A&&no6 A else false)
theorem Zsm {Ss:List Sh} {Ts:List Tm} {A:Ak} (hv:A.verb=1):Zgl Ss Ts A=(Zaj A.who&&(ZiR Ss Ts A&&no1 A)):=by unfold Zgl;simp [hv]
theorem Zsn {Ss:List Sh} {Ts:List Tm} {A:Ak} (hv:A.verb=2):Zgl Ss Ts A=(Zaj A.who&&(ZjY Ss A&&no2 A)):=by unfold Zgl;simp [hv]
theorem Zso {Ss:List Sh} {Ts:List Tm} {A:Ak} (hv:A.verb=3):Zgl Ss Ts A=(Zaj A.who&&(ZkN Ss A&&no3 A)):=by unfold Zgl;simp [hv]
theorem Zsp {Ss:List Sh} {Ts:List Tm} {A:Ak} (hv:A.verb=4):Zgl Ss Ts A=(Zaj A.who&&(Zls Ss A&&no4 A)):=by unfold Zgl;simp [hv]
theorem Zsq {Ss:List Sh} {Ts:List Tm} {A:Ak} (hv:A.verb=5):Zgl Ss Ts A=(Zaj A.who&&(ZmX A&&no5 A)):=by unfold Zgl;simp [hv]
theorem Zsr {Ss:List Sh} {Ts:List Tm} {A:Ak} (hv:A.verb=6):Zgl Ss Ts A=(Zaj A.who&&(ZqW A&&no6 A)):=by unfold Zgl;simp [hv]
theorem Znb {Ss:List Sh} {Ts:List Tm} {A:Ak} (h:inB 1 6 A.verb=false):Zgl Ss Ts A=false:=by
 have e:∀ k:Int,1≤k→k≤6→¬ A.verb=k:=fun k h1 h2 hk=>by
  rw [hk,ZeN] at h;simp at h
  omega
 unfold Zgl;rw [if_neg (e 1 (by decide) (by decide)),if_neg (e 2 (by decide) (by decide)),if_neg (e 3 (by decide) (by decide)),if_neg (e 4 (by decide) (by decide)),if_neg (e 5 (by decide) (by decide)),if_neg (e 6 (by decide) (by decide)),Bool.and_false]
theorem ZkY {Ss:List Sh} {Ts:List Tm} {A:Ak} (h:Zaj A.who=false):Zgl Ss Ts A=false:=by unfold Zgl;rw [h];rfl
theorem ZoY {A:Ak} (h:inB 1 6 A.verb=true):A.verb=1∨A.verb=2∨A.verb=3∨A.verb=4∨A.verb=5∨A.verb=6:=by
 rw [ZeN] at h;simp at h
 omega
theorem Zdw (w:World):Calls prog 242 #[] w fun e w'=>e=.returned (.agg #[.nilIface,.iface 347 (.agg #[]),.iface 348 (.agg #[]),.iface 349 (.agg #[]),.iface 350 (.agg #[]),.iface 351 (.agg #[]),.iface 352 (.agg #[])])∧Zw_ w w':=by
 go_enter func242,ntmps242;go_wp2;refine bodyPost_ret (v:=.agg #[.nilIface,.iface 347 (.agg #[]),.iface 348 (.agg #[]),.iface 349 (.agg #[]),.iface 350 (.agg #[]),.iface 351 (.agg #[]),.iface 352 (.agg #[])]) (by simp [results,results242,go_sem]) rfl ⟨rfl,Zac _ _⟩
section
variable (sv mv tv va ha qa:Value) (Ss:List Sh) (Ms:List Md) (Ts:List Tm) (A:Ak) (w:World)
theorem Ztg (hl:ZaO 0 w sv mv tv Ss Ms Ts) (h:Za6 0 w va ha qa A) (hv:A.verb=1) (hn:Zaj A.who=true) :
 Calls prog 220 #[.agg #[sv,mv,tv],.agg #[.string A.who,.int .i64 A.verb,.string A.kd,.string A.nm,.string A.tm,va,ha,.int .i64 A.seen,.string A.hold,.string A.tw,qa,.string A.rk,.string A.rt,.string A.rp,.int .i64 A.num]] w fun e w'=>e=.returned (.bool (ZiR Ss Ts A&&no1 A))∧Zw_ w w':=by
 have HL:=Zab hl;have HA:=Zab h;have HZ:=Zab h.sz;obtain⟨a,cap,rfl⟩:=hl.shs.form;obtain⟨a1,cap1,rfl⟩:=hl.mds.form;obtain⟨a2,cap2,rfl⟩:=hl.tms.form;obtain⟨b0,k0,rfl⟩:=h.vs.at.form';obtain⟨b1,k1,rfl⟩:=h.hs.at.form';obtain⟨b2,k2,rfl⟩:=h.vb.form;clear hl h;have hidx:∀ u:World,(Instr.index 339 (.agg #[.nilIface,.iface 347 (.agg #[]),.iface 348 (.agg #[]),.iface 349 (.agg #[]),.iface 350 (.agg #[]),.iface 351 (.agg #[]),.iface 352 (.agg #[])]) (.int .i64 A.verb)).run prog u=.ok (.iface 347 (.agg #[])) u:=fun u=>by rw [hv];rfl
 have hin:inB 1 6 A.verb=true:=by rw [hv];decide
 clear hv;go_enter func220,ntmps220;go_wp2_with (first|(go_at_call 118;refine (Zag _ _ HZ.out.who).mono ?_;rintro e w' ⟨rfl,rfl⟩)|(go_at_call 130;refine (Zat _ _ _ _).mono ?_;rintro e w' ⟨rfl,rfl⟩));generalize hWa:World.alloc (w.alloc _) _=Wa;have HB0:Hid (Zw_ w Wa):=by rw [← hWa];exact (Zac w _).alloc (by simp) _
 have FA0:Hid (Box Wa w.heap.size #[.slice a Ss.length cap,.slice a1 Ms.length cap1,.slice a2 Ts.length cap2]):=by rw [← hWa];exact (Box.new _ _ _ _ rfl).on (Zac _ _)
 have FB0:Hid (Box Wa (w.heap.size+1) #[.string A.who,.int .i64 A.verb,.string A.kd,.string A.nm,.string A.tm,.slice b0 A.vs.length k0,.slice b1 A.hs.length k1,.int .i64 A.seen,.string A.hold,.string A.tw,.slice b2 A.vb.length k2,.string A.rk,.string A.rt,.string A.rp,.int .i64 A.num]):=by rw [← hWa];exact Box.new _ _ _ _ (by simp)
 clear hWa
 go_region_held3 (ZaN Wa w.heap.size #[.slice a Ss.length cap,.slice a1 Ms.length cap1,.slice a2 Ts.length cap2] (w.heap.size+1) #[.string A.who,.int .i64 A.verb,.string A.kd,.string A.nm,.string A.tm,.slice b0 A.vs.length k0,.slice b1 A.hs.length k1,.int .i64 A.seen,.string A.hold,.string A.tw,.slice b2 A.vb.length k2,.string A.rk,.string A.rt,.string A.rp,.int .i64 A.num])
  (first
    | (with_reducible exact ZaN.drew FA0.out FB0.out)
    | (with_reducible exact ZaN.on (by assumption) (by assumption))
    | assumption)
  (first
    | (go_at_call 242
       refine (Zdw _).mono ?_;rintro e w2 ⟨rfl,hb2⟩;have HC2:Hid (Below Wa.heap.size Wa w2):=bt (Zb_.drew) hb2))
 all_goals
  have FA1:=Zab (FA0.out.on HC2.out);have FB1:=Zab (FB0.out.on HC2.out);have HB1:Hid (Zw_ w w2):=bt HB0.out HC2.out;clear FA0 FB0 HB0 HC2 hidx;have g0:=FA1.out.cell;have g1:=FB1.out.cell;go_wp2_with fail;clear g0 g1;refine (ZoQ _ _ _ _ _ _ Ss Ms Ts A _ (HL.out.below HB1.out) (HA.out.below HB1.out)).mono ?_;rintro e w3 ⟨rfl,hb3⟩;have HB3:Hid (Zw_ w w3):=bt HB1.out hb3;have FB3:=Zab (FB1.out.on hb3);clear hb3 FA1 FB1 HB1
  cases q1:ZiR Ss Ts A with
  | false=>
   go_wp2;go_ret;exact⟨Zaa (by rw [q1];rfl),HB3.out⟩
  | true=>
   have g1:=FB3.out.cell;go_wp2_with fail;clear g1;refine (ZjM _ _ _ _ _ _ A _).mono ?_;rintro e w4 ⟨rfl,hb4⟩;have HB4:Hid (Zw_ w w4):=bt HB3.out hb4;clear hb4 FB3 HB3;go_wp2_with fail;refine (Zbq _ _ _ _ _ _ _ _ _ _ _ _ _ _ _ _ _ _ _ _ _ _).mono ?_;rintro e w5 ⟨rfl,hb5⟩;have HB5:Hid (Zw_ w w5):=bt HB4.out hb5;clear hb5 HB4;go_wp2;go_ret;exact⟨Zaa (by rw [q1];rfl),HB5.out⟩
theorem Zth (hl:ZaO 0 w sv mv tv Ss Ms Ts) (h:Za6 0 w va ha qa A) (hv:A.verb=2) (hn:Zaj A.who=true) :
 Calls prog 220 #[.agg #[sv,mv,tv],.agg #[.string A.who,.int .i64 A.verb,.string A.kd,.string A.nm,.string A.tm,va,ha,.int .i64 A.seen,.string A.hold,.string A.tw,qa,.string A.rk,.string A.rt,.string A.rp,.int .i64 A.num]] w fun e w'=>e=.returned (.bool (ZjY Ss A&&no2 A))∧Zw_ w w':=by
 have HL:=Zab hl;have HA:=Zab h;have HZ:=Zab h.sz;obtain⟨a,cap,rfl⟩:=hl.shs.form;obtain⟨a1,cap1,rfl⟩:=hl.mds.form;obtain⟨a2,cap2,rfl⟩:=hl.tms.form;obtain⟨b0,k0,rfl⟩:=h.vs.at.form';obtain⟨b1,k1,rfl⟩:=h.hs.at.form';obtain⟨b2,k2,rfl⟩:=h.vb.form;clear hl h;have hidx:∀ u:World,(Instr.index 339 (.agg #[.nilIface,.iface 347 (.agg #[]),.iface 348 (.agg #[]),.iface 349 (.agg #[]),.iface 350 (.agg #[]),.iface 351 (.agg #[]),.iface 352 (.agg #[])]) (.int .i64 A.verb)).run prog u=.ok (.iface 348 (.agg #[])) u:=fun u=>by rw [hv];rfl
 have hin:inB 1 6 A.verb=true:=by rw [hv];decide
 clear hv;go_enter func220,ntmps220;go_wp2_with (first|(go_at_call 118;refine (Zag _ _ HZ.out.who).mono ?_;rintro e w' ⟨rfl,rfl⟩)|(go_at_call 130;refine (Zat _ _ _ _).mono ?_;rintro e w' ⟨rfl,rfl⟩));generalize hWa:World.alloc (w.alloc _) _=Wa;have HB0:Hid (Zw_ w Wa):=by rw [← hWa];exact (Zac w _).alloc (by simp) _
 have FA0:Hid (Box Wa w.heap.size #[.slice a Ss.length cap,.slice a1 Ms.length cap1,.slice a2 Ts.length cap2]):=by rw [← hWa];exact (Box.new _ _ _ _ rfl).on (Zac _ _)
 have FB0:Hid (Box Wa (w.heap.size+1) #[.string A.who,.int .i64 A.verb,.string A.kd,.string A.nm,.string A.tm,.slice b0 A.vs.length k0,.slice b1 A.hs.length k1,.int .i64 A.seen,.string A.hold,.string A.tw,.slice b2 A.vb.length k2,.string A.rk,.string A.rt,.string A.rp,.int .i64 A.num]):=by rw [← hWa];exact Box.new _ _ _ _ (by simp)
 clear hWa
 go_region_held3 (ZaN Wa w.heap.size #[.slice a Ss.length cap,.slice a1 Ms.length cap1,.slice a2 Ts.length cap2] (w.heap.size+1) #[.string A.who,.int .i64 A.verb,.string A.kd,.string A.nm,.string A.tm,.slice b0 A.vs.length k0,.slice b1 A.hs.length k1,.int .i64 A.seen,.string A.hold,.string A.tw,.slice b2 A.vb.length k2,.string A.rk,.string A.rt,.string A.rp,.int .i64 A.num])
  (first
    | (with_reducible exact ZaN.drew FA0.out FB0.out)
    | (with_reducible exact ZaN.on (by assumption) (by assumption))
    | assumption)
  (first
    | (go_at_call 242
       refine (Zdw _).mono ?_;rintro e w2 ⟨rfl,hb2⟩;have HC2:Hid (Below Wa.heap.size Wa w2):=bt (Zb_.drew) hb2))
 all_goals
  have FA1:=Zab (FA0.out.on HC2.out);have FB1:=Zab (FB0.out.on HC2.out);have HB1:Hid (Zw_ w w2):=bt HB0.out HC2.out;clear FA0 FB0 HB0 HC2 hidx;have g0:=FA1.out.cell;have g1:=FB1.out.cell;go_wp2_with fail;clear g0 g1;refine (ZoR _ _ _ _ _ _ Ss Ms Ts A _ (HL.out.below HB1.out) (HA.out.below HB1.out)).mono ?_;rintro e w3 ⟨rfl,hb3⟩;have HB3:Hid (Zw_ w w3):=bt HB1.out hb3;have FB3:=Zab (FB1.out.on hb3);clear hb3 FA1 FB1 HB1
  cases q1:ZjY Ss A with
  | false=>
   go_wp2;go_ret;exact⟨Zaa (by rw [q1];rfl),HB3.out⟩
  | true=>
   have g1:=FB3.out.cell;go_wp2_with fail;clear g1;refine (ZjN _ _ _ _ _ _ A _).mono ?_;rintro e w4 ⟨rfl,hb4⟩;have HB4:Hid (Zw_ w w4):=bt HB3.out hb4;clear hb4 FB3 HB3;go_wp2_with fail;refine (Zbq _ _ _ _ _ _ _ _ _ _ _ _ _ _ _ _ _ _ _ _ _ _).mono ?_;rintro e w5 ⟨rfl,hb5⟩;have HB5:Hid (Zw_ w w5):=bt HB4.out hb5;clear hb5 HB4;go_wp2;go_ret;exact⟨Zaa (by rw [q1];rfl),HB5.out⟩
theorem Zti (hl:ZaO 0 w sv mv tv Ss Ms Ts) (h:Za6 0 w va ha qa A) (hv:A.verb=3) (hn:Zaj A.who=true) :
 Calls prog 220 #[.agg #[sv,mv,tv],.agg #[.string A.who,.int .i64 A.verb,.string A.kd,.string A.nm,.string A.tm,va,ha,.int .i64 A.seen,.string A.hold,.string A.tw,qa,.string A.rk,.string A.rt,.string A.rp,.int .i64 A.num]] w fun e w'=>e=.returned (.bool (ZkN Ss A&&no3 A))∧Zw_ w w':=by
 have HL:=Zab hl;have HA:=Zab h;have HZ:=Zab h.sz;obtain⟨a,cap,rfl⟩:=hl.shs.form;obtain⟨a1,cap1,rfl⟩:=hl.mds.form;obtain⟨a2,cap2,rfl⟩:=hl.tms.form;obtain⟨b0,k0,rfl⟩:=h.vs.at.form';obtain⟨b1,k1,rfl⟩:=h.hs.at.form';obtain⟨b2,k2,rfl⟩:=h.vb.form;clear hl h;have hidx:∀ u:World,(Instr.index 339 (.agg #[.nilIface,.iface 347 (.agg #[]),.iface 348 (.agg #[]),.iface 349 (.agg #[]),.iface 350 (.agg #[]),.iface 351 (.agg #[]),.iface 352 (.agg #[])]) (.int .i64 A.verb)).run prog u=.ok (.iface 349 (.agg #[])) u:=fun u=>by rw [hv];rfl
 have hin:inB 1 6 A.verb=true:=by rw [hv];decide
 clear hv;go_enter func220,ntmps220;go_wp2_with (first|(go_at_call 118;refine (Zag _ _ HZ.out.who).mono ?_;rintro e w' ⟨rfl,rfl⟩)|(go_at_call 130;refine (Zat _ _ _ _).mono ?_;rintro e w' ⟨rfl,rfl⟩));generalize hWa:World.alloc (w.alloc _) _=Wa;have HB0:Hid (Zw_ w Wa):=by rw [← hWa];exact (Zac w _).alloc (by simp) _
 have FA0:Hid (Box Wa w.heap.size #[.slice a Ss.length cap,.slice a1 Ms.length cap1,.slice a2 Ts.length cap2]):=by rw [← hWa];exact (Box.new _ _ _ _ rfl).on (Zac _ _)
 have FB0:Hid (Box Wa (w.heap.size+1) #[.string A.who,.int .i64 A.verb,.string A.kd,.string A.nm,.string A.tm,.slice b0 A.vs.length k0,.slice b1 A.hs.length k1,.int .i64 A.seen,.string A.hold,.string A.tw,.slice b2 A.vb.length k2,.string A.rk,.string A.rt,.string A.rp,.int .i64 A.num]):=by rw [← hWa];exact Box.new _ _ _ _ (by simp)
 clear hWa
 go_region_held3 (ZaN Wa w.heap.size #[.slice a Ss.length cap,.slice a1 Ms.length cap1,.slice a2 Ts.length cap2] (w.heap.size+1) #[.string A.who,.int .i64 A.verb,.string A.kd,.string A.nm,.string A.tm,.slice b0 A.vs.length k0,.slice b1 A.hs.length k1,.int .i64 A.seen,.string A.hold,.string A.tw,.slice b2 A.vb.length k2,.string A.rk,.string A.rt,.string A.rp,.int .i64 A.num])
  (first
    | (with_reducible exact ZaN.drew FA0.out FB0.out)
    | (with_reducible exact ZaN.on (by assumption) (by assumption))
    | assumption)
  (first
    | (go_at_call 242
       refine (Zdw _).mono ?_;rintro e w2 ⟨rfl,hb2⟩;have HC2:Hid (Below Wa.heap.size Wa w2):=bt (Zb_.drew) hb2))
 all_goals
  have FA1:=Zab (FA0.out.on HC2.out);have FB1:=Zab (FB0.out.on HC2.out);have HB1:Hid (Zw_ w w2):=bt HB0.out HC2.out;clear FA0 FB0 HB0 HC2 hidx;have g0:=FA1.out.cell;have g1:=FB1.out.cell;go_wp2_with fail;clear g0 g1;refine (ZoS _ _ _ _ _ _ Ss Ms Ts A _ (HL.out.below HB1.out) (HA.out.below HB1.out)).mono ?_;rintro e w3 ⟨rfl,hb3⟩;have HB3:Hid (Zw_ w w3):=bt HB1.out hb3;have FB3:=Zab (FB1.out.on hb3);clear hb3 FA1 FB1 HB1
  cases q1:ZkN Ss A with
  | false=>
   go_wp2;go_ret;exact⟨Zaa (by rw [q1];rfl),HB3.out⟩
  | true=>
   have g1:=FB3.out.cell;go_wp2_with fail;clear g1;refine (ZjO _ _ _ _ _ _ A _).mono ?_;rintro e w4 ⟨rfl,hb4⟩;have HB4:Hid (Zw_ w w4):=bt HB3.out hb4;clear hb4 FB3 HB3;go_wp2_with fail;refine (Zbq _ _ _ _ _ _ _ _ _ _ _ _ _ _ _ _ _ _ _ _ _ _).mono ?_;rintro e w5 ⟨rfl,hb5⟩;have HB5:Hid (Zw_ w w5):=bt HB4.out hb5;clear hb5 HB4;go_wp2;go_ret;exact⟨Zaa (by rw [q1];rfl),HB5.out⟩
theorem Ztj (hl:ZaO 0 w sv mv tv Ss Ms Ts) (h:Za6 0 w va ha qa A) (hv:A.verb=4) (hn:Zaj A.who=true) :
 Calls prog 220 #[.agg #[sv,mv,tv],.agg #[.string A.who,.int .i64 A.verb,.string A.kd,.string A.nm,.string A.tm,va,ha,.int .i64 A.seen,.string A.hold,.string A.tw,qa,.string A.rk,.string A.rt,.string A.rp,.int .i64 A.num]] w fun e w'=>e=.returned (.bool (Zls Ss A&&no4 A))∧Zw_ w w':=by
 have HL:=Zab hl;have HA:=Zab h;have HZ:=Zab h.sz;obtain⟨a,cap,rfl⟩:=hl.shs.form;obtain⟨a1,cap1,rfl⟩:=hl.mds.form;obtain⟨a2,cap2,rfl⟩:=hl.tms.form;obtain⟨b0,k0,rfl⟩:=h.vs.at.form';obtain⟨b1,k1,rfl⟩:=h.hs.at.form';obtain⟨b2,k2,rfl⟩:=h.vb.form;clear hl h;have hidx:∀ u:World,(Instr.index 339 (.agg #[.nilIface,.iface 347 (.agg #[]),.iface 348 (.agg #[]),.iface 349 (.agg #[]),.iface 350 (.agg #[]),.iface 351 (.agg #[]),.iface 352 (.agg #[])]) (.int .i64 A.verb)).run prog u=.ok (.iface 350 (.agg #[])) u:=fun u=>by rw [hv];rfl
 have hin:inB 1 6 A.verb=true:=by rw [hv];decide
 clear hv;go_enter func220,ntmps220;go_wp2_with (first|(go_at_call 118;refine (Zag _ _ HZ.out.who).mono ?_;rintro e w' ⟨rfl,rfl⟩)|(go_at_call 130;refine (Zat _ _ _ _).mono ?_;rintro e w' ⟨rfl,rfl⟩));generalize hWa:World.alloc (w.alloc _) _=Wa;have HB0:Hid (Zw_ w Wa):=by rw [← hWa];exact (Zac w _).alloc (by simp) _
 have FA0:Hid (Box Wa w.heap.size #[.slice a Ss.length cap,.slice a1 Ms.length cap1,.slice a2 Ts.length cap2]):=by rw [← hWa];exact (Box.new _ _ _ _ rfl).on (Zac _ _)
 have FB0:Hid (Box Wa (w.heap.size+1) #[.string A.who,.int .i64 A.verb,.string A.kd,.string A.nm,.string A.tm,.slice b0 A.vs.length k0,.slice b1 A.hs.length k1,.int .i64 A.seen,.string A.hold,.string A.tw,.slice b2 A.vb.length k2,.string A.rk,.string A.rt,.string A.rp,.int .i64 A.num]):=by rw [← hWa];exact Box.new _ _ _ _ (by simp)
 clear hWa
 go_region_held3 (ZaN Wa w.heap.size #[.slice a Ss.length cap,.slice a1 Ms.length cap1,.slice a2 Ts.length cap2] (w.heap.size+1) #[.string A.who,.int .i64 A.verb,.string A.kd,.string A.nm,.string A.tm,.slice b0 A.vs.length k0,.slice b1 A.hs.length k1,.int .i64 A.seen,.string A.hold,.string A.tw,.slice b2 A.vb.length k2,.string A.rk,.string A.rt,.string A.rp,.int .i64 A.num])
  (first
    | (with_reducible exact ZaN.drew FA0.out FB0.out)
    | (with_reducible exact ZaN.on (by assumption) (by assumption))
    | assumption)
  (first
    | (go_at_call 242
       refine (Zdw _).mono ?_;rintro e w2 ⟨rfl,hb2⟩;have HC2:Hid (Below Wa.heap.size Wa w2):=bt (Zb_.drew) hb2))
 all_goals
  have FA1:=Zab (FA0.out.on HC2.out);have FB1:=Zab (FB0.out.on HC2.out);have HB1:Hid (Zw_ w w2):=bt HB0.out HC2.out;clear FA0 FB0 HB0 HC2 hidx;have g0:=FA1.out.cell;have g1:=FB1.out.cell;go_wp2_with fail;clear g0 g1;refine (ZoT _ _ _ _ _ _ Ss Ms Ts A _ (HL.out.below HB1.out) (HA.out.below HB1.out)).mono ?_;rintro e w3 ⟨rfl,hb3⟩;have HB3:Hid (Zw_ w w3):=bt HB1.out hb3;have FB3:=Zab (FB1.out.on hb3);clear hb3 FA1 FB1 HB1
  cases q1:Zls Ss A with
  | false=>
   go_wp2;go_ret;exact⟨Zaa (by rw [q1];rfl),HB3.out⟩
  | true=>
   have g1:=FB3.out.cell;go_wp2_with fail;clear g1;refine (ZjP _ _ _ _ _ _ A _).mono ?_;rintro e w4 ⟨rfl,hb4⟩;have HB4:Hid (Zw_ w w4):=bt HB3.out hb4;clear hb4 FB3 HB3;go_wp2_with fail;refine (Zbq _ _ _ _ _ _ _ _ _ _ _ _ _ _ _ _ _ _ _ _ _ _).mono ?_;rintro e w5 ⟨rfl,hb5⟩;have HB5:Hid (Zw_ w w5):=bt HB4.out hb5;clear hb5 HB4;go_wp2;go_ret;exact⟨Zaa (by rw [q1];rfl),HB5.out⟩
theorem Ztk (hl:ZaO 0 w sv mv tv Ss Ms Ts) (h:Za6 0 w va ha qa A) (hv:A.verb=5) (hn:Zaj A.who=true) :
 Calls prog 220 #[.agg #[sv,mv,tv],.agg #[.string A.who,.int .i64 A.verb,.string A.kd,.string A.nm,.string A.tm,va,ha,.int .i64 A.seen,.string A.hold,.string A.tw,qa,.string A.rk,.string A.rt,.string A.rp,.int .i64 A.num]] w fun e w'=>e=.returned (.bool (ZmX A&&no5 A))∧Zw_ w w':=by
 have HL:=Zab hl;have HA:=Zab h;have HZ:=Zab h.sz;obtain⟨a,cap,rfl⟩:=hl.shs.form;obtain⟨a1,cap1,rfl⟩:=hl.mds.form;obtain⟨a2,cap2,rfl⟩:=hl.tms.form;obtain⟨b0,k0,rfl⟩:=h.vs.at.form';obtain⟨b1,k1,rfl⟩:=h.hs.at.form';obtain⟨b2,k2,rfl⟩:=h.vb.form;clear hl h;have hidx:∀ u:World,(Instr.index 339 (.agg #[.nilIface,.iface 347 (.agg #[]),.iface 348 (.agg #[]),.iface 349 (.agg #[]),.iface 350 (.agg #[]),.iface 351 (.agg #[]),.iface 352 (.agg #[])]) (.int .i64 A.verb)).run prog u=.ok (.iface 351 (.agg #[])) u:=fun u=>by rw [hv];rfl
 have hin:inB 1 6 A.verb=true:=by rw [hv];decide
 clear hv;go_enter func220,ntmps220;go_wp2_with (first|(go_at_call 118;refine (Zag _ _ HZ.out.who).mono ?_;rintro e w' ⟨rfl,rfl⟩)|(go_at_call 130;refine (Zat _ _ _ _).mono ?_;rintro e w' ⟨rfl,rfl⟩));generalize hWa:World.alloc (w.alloc _) _=Wa;have HB0:Hid (Zw_ w Wa):=by rw [← hWa];exact (Zac w _).alloc (by simp) _
 have FA0:Hid (Box Wa w.heap.size #[.slice a Ss.length cap,.slice a1 Ms.length cap1,.slice a2 Ts.length cap2]):=by rw [← hWa];exact (Box.new _ _ _ _ rfl).on (Zac _ _)
 have FB0:Hid (Box Wa (w.heap.size+1) #[.string A.who,.int .i64 A.verb,.string A.kd,.string A.nm,.string A.tm,.slice b0 A.vs.length k0,.slice b1 A.hs.length k1,.int .i64 A.seen,.string A.hold,.string A.tw,.slice b2 A.vb.length k2,.string A.rk,.string A.rt,.string A.rp,.int .i64 A.num]):=by rw [← hWa];exact Box.new _ _ _ _ (by simp)
 clear hWa
 go_region_held3 (ZaN Wa w.heap.size #[.slice a Ss.length cap,.slice a1 Ms.length cap1,.slice a2 Ts.length cap2] (w.heap.size+1) #[.string A.who,.int .i64 A.verb,.string A.kd,.string A.nm,.string A.tm,.slice b0 A.vs.length k0,.slice b1 A.hs.length k1,.int .i64 A.seen,.string A.hold,.string A.tw,.slice b2 A.vb.length k2,.string A.rk,.string A.rt,.string A.rp,.int .i64 A.num])
  (first
    | (with_reducible exact ZaN.drew FA0.out FB0.out)
    | (with_reducible exact ZaN.on (by assumption) (by assumption))
    | assumption)
  (first
    | (go_at_call 242
       refine (Zdw _).mono ?_;rintro e w2 ⟨rfl,hb2⟩;have HC2:Hid (Below Wa.heap.size Wa w2):=bt (Zb_.drew) hb2))
 all_goals
  have FA1:=Zab (FA0.out.on HC2.out);have FB1:=Zab (FB0.out.on HC2.out);have HB1:Hid (Zw_ w w2):=bt HB0.out HC2.out;clear FA0 FB0 HB0 HC2 hidx;have g0:=FA1.out.cell;have g1:=FB1.out.cell;go_wp2_with fail;clear g0 g1;refine (ZoU _ _ _ _ _ _ Ss Ms Ts A _ (HL.out.below HB1.out) (HA.out.below HB1.out)).mono ?_;rintro e w3 ⟨rfl,hb3⟩;have HB3:Hid (Zw_ w w3):=bt HB1.out hb3;have FB3:=Zab (FB1.out.on hb3);clear hb3 FA1 FB1 HB1
  cases q1:ZmX A with
  | false=>
   go_wp2;go_ret;exact⟨Zaa (by rw [q1];rfl),HB3.out⟩
  | true=>
   have g1:=FB3.out.cell;go_wp2_with fail;clear g1;refine (ZjQ _ _ _ _ _ _ A _).mono ?_;rintro e w4 ⟨rfl,hb4⟩;have HB4:Hid (Zw_ w w4):=bt HB3.out hb4;clear hb4 FB3 HB3;go_wp2_with fail;refine (Zbq _ _ _ _ _ _ _ _ _ _ _ _ _ _ _ _ _ _ _ _ _ _).mono ?_;rintro e w5 ⟨rfl,hb5⟩;have HB5:Hid (Zw_ w w5):=bt HB4.out hb5;clear hb5 HB4;go_wp2;go_ret;exact⟨Zaa (by rw [q1];rfl),HB5.out⟩
theorem Ztl (hl:ZaO 0 w sv mv tv Ss Ms Ts) (h:Za6 0 w va ha qa A) (hv:A.verb=6) (hn:Zaj A.who=true) :
 Calls prog 220 #[.agg #[sv,mv,tv],.agg #[.string A.who,.int .i64 A.verb,.string A.kd,.string A.nm,.string A.tm,va,ha,.int .i64 A.seen,.string A.hold,.string A.tw,qa,.string A.rk,.string A.rt,.string A.rp,.int .i64 A.num]] w fun e w'=>e=.returned (.bool (ZqW A&&no6 A))∧Zw_ w w':=by
 have HL:=Zab hl;have HA:=Zab h;have HZ:=Zab h.sz;obtain⟨a,cap,rfl⟩:=hl.shs.form;obtain⟨a1,cap1,rfl⟩:=hl.mds.form;obtain⟨a2,cap2,rfl⟩:=hl.tms.form;obtain⟨b0,k0,rfl⟩:=h.vs.at.form';obtain⟨b1,k1,rfl⟩:=h.hs.at.form';obtain⟨b2,k2,rfl⟩:=h.vb.form;clear hl h;have hidx:∀ u:World,(Instr.index 339 (.agg #[.nilIface,.iface 347 (.agg #[]),.iface 348 (.agg #[]),.iface 349 (.agg #[]),.iface 350 (.agg #[]),.iface 351 (.agg #[]),.iface 352 (.agg #[])]) (.int .i64 A.verb)).run prog u=.ok (.iface 352 (.agg #[])) u:=fun u=>by rw [hv];rfl
 have hin:inB 1 6 A.verb=true:=by rw [hv];decide
 clear hv;go_enter func220,ntmps220;go_wp2_with (first|(go_at_call 118;refine (Zag _ _ HZ.out.who).mono ?_;rintro e w' ⟨rfl,rfl⟩)|(go_at_call 130;refine (Zat _ _ _ _).mono ?_;rintro e w' ⟨rfl,rfl⟩));generalize hWa:World.alloc (w.alloc _) _=Wa;have HB0:Hid (Zw_ w Wa):=by rw [← hWa];exact (Zac w _).alloc (by simp) _
 have FA0:Hid (Box Wa w.heap.size #[.slice a Ss.length cap,.slice a1 Ms.length cap1,.slice a2 Ts.length cap2]):=by rw [← hWa];exact (Box.new _ _ _ _ rfl).on (Zac _ _)
 have FB0:Hid (Box Wa (w.heap.size+1) #[.string A.who,.int .i64 A.verb,.string A.kd,.string A.nm,.string A.tm,.slice b0 A.vs.length k0,.slice b1 A.hs.length k1,.int .i64 A.seen,.string A.hold,.string A.tw,.slice b2 A.vb.length k2,.string A.rk,.string A.rt,.string A.rp,.int .i64 A.num]):=by rw [← hWa];exact Box.new _ _ _ _ (by simp)
 clear hWa
 go_region_held3 (ZaN Wa w.heap.size #[.slice a Ss.length cap,.slice a1 Ms.length cap1,.slice a2 Ts.length cap2] (w.heap.size+1) #[.string A.who,.int .i64 A.verb,.string A.kd,.string A.nm,.string A.tm,.slice b0 A.vs.length k0,.slice b1 A.hs.length k1,.int .i64 A.seen,.string A.hold,.string A.tw,.slice b2 A.vb.length k2,.string A.rk,.string A.rt,.string A.rp,.int .i64 A.num])
  (first
    | (with_reducible exact ZaN.drew FA0.out FB0.out)
    | (with_reducible exact ZaN.on (by assumption) (by assumption))
    | assumption)
  (first
    | (go_at_call 242
       refine (Zdw _).mono ?_;rintro e w2 ⟨rfl,hb2⟩;have HC2:Hid (Below Wa.heap.size Wa w2):=bt (Zb_.drew) hb2))
 all_goals
  have FA1:=Zab (FA0.out.on HC2.out);have FB1:=Zab (FB0.out.on HC2.out);have HB1:Hid (Zw_ w w2):=bt HB0.out HC2.out;clear FA0 FB0 HB0 HC2 hidx;have g0:=FA1.out.cell;have g1:=FB1.out.cell;go_wp2_with fail;clear g0 g1;refine (ZoV _ _ _ _ _ _ Ss Ms Ts A _ (HL.out.below HB1.out) (HA.out.below HB1.out)).mono ?_;rintro e w3 ⟨rfl,hb3⟩;have HB3:Hid (Zw_ w w3):=bt HB1.out hb3;have FB3:=Zab (FB1.out.on hb3);clear hb3 FA1 FB1 HB1
  cases q1:ZqW A with
  | false=>
   go_wp2;go_ret;exact⟨Zaa (by rw [q1];rfl),HB3.out⟩
  | true=>
   have g1:=FB3.out.cell;go_wp2_with fail;clear g1;refine (ZjR _ _ _ _ _ _ A _).mono ?_;rintro e w4 ⟨rfl,hb4⟩;have HB4:Hid (Zw_ w w4):=bt HB3.out hb4;clear hb4 FB3 HB3;go_wp2_with fail;refine (Zbq _ _ _ _ _ _ _ _ _ _ _ _ _ _ _ _ _ _ _ _ _ _).mono ?_;rintro e w5 ⟨rfl,hb5⟩;have HB5:Hid (Zw_ w w5):=bt HB4.out hb5;clear hb5 HB4;go_wp2;go_ret;exact⟨Zaa (by rw [q1];rfl),HB5.out⟩
theorem ZiV (hl:ZaO 0 w sv mv tv Ss Ms Ts) (h:Za6 0 w va ha qa A) :
 Calls prog 220 #[.agg #[sv,mv,tv],.agg #[.string A.who,.int .i64 A.verb,.string A.kd,.string A.nm,.string A.tm,va,ha,.int .i64 A.seen,.string A.hold,.string A.tw,qa,.string A.rk,.string A.rt,.string A.rp,.int .i64 A.num]] w fun e w'=>e=.returned (.bool (Zgl Ss Ts A))∧Zw_ w w':=by
 cases hn:Zaj A.who with
 | false=>
  rw [ZkY hn];have HL:=Zab hl;have HA:=Zab h;have HZ:=Zab h.sz;obtain⟨a,cap,rfl⟩:=hl.shs.form;obtain⟨a1,cap1,rfl⟩:=hl.mds.form;obtain⟨a2,cap2,rfl⟩:=hl.tms.form;obtain⟨b0,k0,rfl⟩:=h.vs.at.form';obtain⟨b1,k1,rfl⟩:=h.hs.at.form';obtain⟨b2,k2,rfl⟩:=h.vb.form;clear hl h;go_enter func220,ntmps220;go_wp2_with (first|(go_at_call 118;refine (Zag _ _ HZ.out.who).mono ?_;rintro e w' ⟨rfl,rfl⟩)|(go_at_call 130;refine (Zat _ _ _ _).mono ?_;rintro e w' ⟨rfl,rfl⟩));go_ret;exact⟨rfl,(Zac w _).alloc (by simp) _⟩
 | true=>
  cases hin:inB 1 6 A.verb with
  | false=>
   rw [Znb hin];have HL:=Zab hl;have HA:=Zab h;have HZ:=Zab h.sz;obtain⟨a,cap,rfl⟩:=hl.shs.form;obtain⟨a1,cap1,rfl⟩:=hl.mds.form;obtain⟨a2,cap2,rfl⟩:=hl.tms.form;obtain⟨b0,k0,rfl⟩:=h.vs.at.form';obtain⟨b1,k1,rfl⟩:=h.hs.at.form';obtain⟨b2,k2,rfl⟩:=h.vb.form;clear hl h;go_enter func220,ntmps220;go_wp2_with (first|(go_at_call 118;refine (Zag _ _ HZ.out.who).mono ?_;rintro e w' ⟨rfl,rfl⟩)|(go_at_call 130;refine (Zat _ _ _ _).mono ?_;rintro e w' ⟨rfl,rfl⟩));go_ret;exact⟨rfl,(Zac w _).alloc (by simp) _⟩
  | true=>
   rcases ZoY hin with hv | hv | hv | hv | hv | hv
   · rw [Zsm hv,hn,Bool.true_and];exact Ztg sv mv tv va ha qa Ss Ms Ts A w hl h hv hn
   · rw [Zsn hv,hn,Bool.true_and];exact Zth sv mv tv va ha qa Ss Ms Ts A w hl h hv hn
   · rw [Zso hv,hn,Bool.true_and];exact Zti sv mv tv va ha qa Ss Ms Ts A w hl h hv hn
   · rw [Zsp hv,hn,Bool.true_and];exact Ztj sv mv tv va ha qa Ss Ms Ts A w hl h hv hn
   · rw [Zsq hv,hn,Bool.true_and];exact Ztk sv mv tv va ha qa Ss Ms Ts A w hl h hv hn
   · rw [Zsr hv,hn,Bool.true_and];exact Ztl sv mv tv va ha qa Ss Ms Ts A w hl h hv hn
end
end Go.Proofs.YtcfjmagkinpaeaaGreat
