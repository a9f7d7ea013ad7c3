import Derived.Test.YtcfjmagkinpaeaaGreatGAQ
import Derived.Test.YtcfjmagkinpaeaaGreatGHC
set_option maxHeartbeats 16000000
set_option maxRecDepth 100000
open Go.Proofs.Tryz
namespace Go.Proofs.YtcfjmagkinpaeaaGreat
open Go.RowKit Go.Deep
theorem ZnV (Ts:List Tm) (s:Zy_):decide (0≤Zc9 Ts s)=ZeL Ts s:=by
 have h:=Zfy Ts s
 cases hh:ZeL Ts s with
 | false=>
  rw [hh] at h;simp at h ⊢
  omega
 | true=>
  rw [hh] at h;simp at h ⊢
  omega
def Zcy (Ss:List Sh) (A:Ak):Bool:=(Zb3 Ss A.kd).isSome&&Zaj A.nm
def ZfA (Ss:List Sh) (A:Ak):Bool:=match Zb3 Ss A.kd with
 | some x=>decide (A.vs.length=x.fields.length)
 | none=>false
theorem Zej {Ss:List Sh} {A:Ak} {x:Sh} (h:Zb3 Ss A.kd=some x):ZfA Ss A=decide (A.vs.length=x.fields.length):=by unfold ZfA;rw [h]
theorem ZoX {Ss:List Sh} {A:Ak} (h:Zb3 Ss A.kd=none):ZfA Ss A=false:=by unfold ZfA;rw [h]
theorem ZbO {Ss:List Sh} {A:Ak} {x:Sh} (h:Zb3 Ss A.kd=some x):Zcy Ss A=Zaj A.nm:=by unfold Zcy;rw [h];rfl
theorem ZdA {Ss:List Sh} {A:Ak} (h:Zb3 Ss A.kd=none):Zcy Ss A=false:=by unfold Zcy;rw [h];rfl
def ZiR (Ss:List Sh) (Ts:List Tm) (A:Ak):Bool:=Zcy Ss A&&(ZfA Ss A&&(ZeL Ts A.tm&&(decide (A.hs.length≤3)&&Zlx A.hs)))
def ZjY (Ss:List Sh) (A:Ak):Bool:=Zcy Ss A&&(ZfA Ss A&&decide (0≤A.seen))
def ZkN (Ss:List Sh) (A:Ak):Bool:=Zcy Ss A&&decide (0≤A.seen)
def Zls (Ss:List Sh) (A:Ak):Bool:=Zcy Ss A&&Zaj A.hold
def ZmX (A:Ak):Bool:=Zaj A.tw&&ZaS A.ru
def ZqW (A:Ak):Bool:=decide (1≤A.num)
theorem Zit (n:Nat):decide ((n:Int)≤3)=decide (n≤3):=by
 by_cases h:n≤3
 · rw [decide_eq_true h];simp;omega
 · rw [decide_eq_false h];simp;omega
theorem ZgL (n m:Nat):((n:Int) == (m:Int))=decide (n=m):=by
 by_cases h:n=m
 · subst h;simp
 · rw [decide_eq_false h];simp;omega
section
variable (sv mv tv va ha qa:Value) (Ss:List Sh) (Ms:List Md) (Ts:List Tm) (A:Ak) (w:World)
theorem Zcg (hl:ZaO 0 w sv mv tv Ss Ms Ts) (h:Za6 0 w va ha qa A) :
 Calls prog 292 #[.agg #[sv,mv,tv],.agg #[.string A.who,.int .i64 A.verb,.string A.kd,.string A.nm,.string A.tm,va,ha,.int .i64 A.seen,.string A.hold,.string A.tw,qa,.string A.rk,.string A.rt,.string A.rp,.int .i64 A.num]] w fun e w'=>e=.returned (.bool (Zcy Ss A))∧Zw_ w w':=by
 have HL:=Zab hl;have HA:=Zab h;have HZ:=Zab h.sz;obtain⟨a,cap,rfl⟩:=hl.shs.form;obtain⟨a1,cap1,rfl⟩:=hl.mds.form;obtain⟨a2,cap2,rfl⟩:=hl.tms.form;obtain⟨b0,k0,rfl⟩:=h.vs.at.form';obtain⟨b1,k1,rfl⟩:=h.hs.at.form';obtain⟨b2,k2,rfl⟩:=h.vb.form;clear hl h;go_enter func292,ntmps292;go_wp2_with fail;generalize hWa:World.alloc (w.alloc _) _=Wa;have HB0:Hid (Zw_ w Wa):=by rw [← hWa];exact (Zac w _).alloc (by simp) _
 have FA0:Hid (Box Wa w.heap.size #[.slice a Ss.length cap,.slice a1 Ms.length cap1,.slice a2 Ts.length cap2]):=by rw [← hWa];exact (Box.new _ _ _ _ rfl).on (Zac _ _)
 have FB0:Hid (Box Wa (w.heap.size+1) #[.string A.who,.int .i64 A.verb,.string A.kd,.string A.nm,.string A.tm,.slice b0 A.vs.length k0,.slice b1 A.hs.length k1,.int .i64 A.seen,.string A.hold,.string A.tw,.slice b2 A.vb.length k2,.string A.rk,.string A.rt,.string A.rp,.int .i64 A.num]):=by rw [← hWa];exact Box.new _ _ _ _ (by simp)
 clear hWa;refine (Ze2 0 _ Ss A.kd _ (HL.out.below HB0.out).shs).mono ?_;rintro e w1 ⟨hb1,hsh⟩;have HB1:Hid (Zw_ w w1):=bt HB0.out hb1;have FB1:=Zab (FB0.out.on hb1);clear hb1 FA0 FB0 HB0;have hlt:=FB1.out.lt;have c3:∀ o,(w1.alloc o).cell? ⟨w.heap.size+1,3,none⟩=some (.string A.nm):=fun o=>(Zah _ _ _ _ hlt).trans ((FB1.out.cell 3).trans (by simp))
 have c5:∀ o,(w1.alloc o).cell? ⟨w.heap.size+1,5,none⟩=some (.slice b0 A.vs.length k0):=fun o=>(Zah _ _ _ _ hlt).trans ((FB1.out.cell 5).trans (by simp))
 have hsn:A.nm.size≤maxLen:=HZ.out.nm
 rcases hsh with ⟨x,fv,hx,rfl,hf⟩ | ⟨hx,rfl⟩
 · obtain⟨fa,fc,rfl⟩:=hf.form
   have HR:=Zab (ZbO hx);clear hf hx;go_wp2_with (go_at_call 118;refine (Zag _ _ (by with_reducible assumption)).mono ?_;rintro e w' ⟨rfl,rfl⟩);go_ret;exact⟨Zaa (by rw [HR.out]),bt HB1.out (Zac _ _)⟩
 · have HR:=Zab (ZdA hx)
   clear hx;go_wp2;go_ret;exact⟨Zaa (by rw [HR.out]),bt HB1.out (Zac _ _)⟩
theorem ZeI (hl:ZaO 0 w sv mv tv Ss Ms Ts) (h:Za6 0 w va ha qa A) :
 Calls prog 293 #[.agg #[sv,mv,tv],.agg #[.string A.who,.int .i64 A.verb,.string A.kd,.string A.nm,.string A.tm,va,ha,.int .i64 A.seen,.string A.hold,.string A.tw,qa,.string A.rk,.string A.rt,.string A.rp,.int .i64 A.num]] w fun e w'=>e=.returned (.bool (ZfA Ss A))∧Zw_ w w':=by
 have HL:=Zab hl;have HA:=Zab h;have HZ:=Zab h.sz;obtain⟨a,cap,rfl⟩:=hl.shs.form;obtain⟨a1,cap1,rfl⟩:=hl.mds.form;obtain⟨a2,cap2,rfl⟩:=hl.tms.form;obtain⟨b0,k0,rfl⟩:=h.vs.at.form';obtain⟨b1,k1,rfl⟩:=h.hs.at.form';obtain⟨b2,k2,rfl⟩:=h.vb.form;clear hl h;go_enter func293,ntmps293;go_wp2_with fail;generalize hWa:World.alloc (w.alloc _) _=Wa;have HB0:Hid (Zw_ w Wa):=by rw [← hWa];exact (Zac w _).alloc (by simp) _
 have FA0:Hid (Box Wa w.heap.size #[.slice a Ss.length cap,.slice a1 Ms.length cap1,.slice a2 Ts.length cap2]):=by rw [← hWa];exact (Box.new _ _ _ _ rfl).on (Zac _ _)
 have FB0:Hid (Box Wa (w.heap.size+1) #[.string A.who,.int .i64 A.verb,.string A.kd,.string A.nm,.string A.tm,.slice b0 A.vs.length k0,.slice b1 A.hs.length k1,.int .i64 A.seen,.string A.hold,.string A.tw,.slice b2 A.vb.length k2,.string A.rk,.string A.rt,.string A.rp,.int .i64 A.num]):=by rw [← hWa];exact Box.new _ _ _ _ (by simp)
 clear hWa;refine (Ze2 0 _ Ss A.kd _ (HL.out.below HB0.out).shs).mono ?_;rintro e w1 ⟨hb1,hsh⟩;have HB1:Hid (Zw_ w w1):=bt HB0.out hb1;have FB1:=Zab (FB0.out.on hb1);clear hb1 FA0 FB0 HB0;have hlt:=FB1.out.lt;have c3:∀ o,(w1.alloc o).cell? ⟨w.heap.size+1,3,none⟩=some (.string A.nm):=fun o=>(Zah _ _ _ _ hlt).trans ((FB1.out.cell 3).trans (by simp))
 have c5:∀ o,(w1.alloc o).cell? ⟨w.heap.size+1,5,none⟩=some (.slice b0 A.vs.length k0):=fun o=>(Zah _ _ _ _ hlt).trans ((FB1.out.cell 5).trans (by simp))
 have hsn:A.nm.size≤maxLen:=HZ.out.nm
 rcases hsh with ⟨x,fv,hx,rfl,hf⟩ | ⟨hx,rfl⟩
 · obtain⟨fa,fc,rfl⟩:=hf.form
   have HR:=Zab (Zej hx);clear hf hx;go_wp2_with (go_at_call 118;refine (Zag _ _ (by with_reducible assumption)).mono ?_;rintro e w' ⟨rfl,rfl⟩);go_ret;exact⟨Zaa (by rw [HR.out];exact ZgL _ _),bt HB1.out (Zac _ _)⟩
 · have HR:=Zab (ZoX hx)
   clear hx;go_wp2;go_ret;exact⟨Zaa (by rw [HR.out]),bt HB1.out (Zac _ _)⟩
end
end Go.Proofs.YtcfjmagkinpaeaaGreat
