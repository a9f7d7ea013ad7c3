import Derived.Test.YtcfjmagkinpaeaaGreatGAQ5
set_option maxHeartbeats 16000000
set_option maxRecDepth 100000
open Go.Proofs.Tryz
namespace Go.Proofs.YtcfjmagkinpaeaaGreat
open Go.RowKit Go.Deep
section
variable (b0 b1 b2:Option Addr) (k0 k1 k2:Nat) (A:Ak) (w:World)
theorem ZnX (hv:A.verb=1):Calls prog 166 #[.agg #[.string A.who,.int .i64 A.verb,.string A.kd,.string A.nm,.string A.tm,.slice b0 A.vs.length k0,.slice b1 A.hs.length k1,.int .i64 A.seen,.string A.hold,.string A.tw,.slice b2 A.vb.length k2,.string A.rk,.string A.rt,.string A.rp,.int .i64 A.num]] w fun e w'=>e=.returned (.agg #[.string ⟨#[]⟩,.int .i64 A.verb,.string ⟨#[]⟩,.string ⟨#[]⟩,.string ⟨#[]⟩,.slice none 0 0,.slice none 0 0,.int .i64 A.seen,.string A.hold,.string A.tw,.slice b2 A.vb.length k2,.string A.rk,.string A.rt,.string A.rp,.int .i64 A.num])∧Zw_ w w':=by
 have e1:(A.verb == 1)=true:=by rw [hv];rfl
 clear hv;go_enter func166,ntmps166;go_wp2;refine bodyPost_ret (v:=.agg #[.string ⟨#[]⟩,.int .i64 A.verb,.string ⟨#[]⟩,.string ⟨#[]⟩,.string ⟨#[]⟩,.slice none 0 0,.slice none 0 0,.int .i64 A.seen,.string A.hold,.string A.tw,.slice b2 A.vb.length k2,.string A.rk,.string A.rt,.string A.rp,.int .i64 A.num]) (by simp [results,results166,go_sem]) rfl ⟨rfl,?_⟩;exact (Zac w _).alloc (by simp) _
theorem ZnY (hv:A.verb=2):Calls prog 166 #[.agg #[.string A.who,.int .i64 A.verb,.string A.kd,.string A.nm,.string A.tm,.slice b0 A.vs.length k0,.slice b1 A.hs.length k1,.int .i64 A.seen,.string A.hold,.string A.tw,.slice b2 A.vb.length k2,.string A.rk,.string A.rt,.string A.rp,.int .i64 A.num]] w fun e w'=>e=.returned (.agg #[.string ⟨#[]⟩,.int .i64 A.verb,.string ⟨#[]⟩,.string ⟨#[]⟩,.string A.tm,.slice none 0 0,.slice b1 A.hs.length k1,.int .i64 0,.string A.hold,.string A.tw,.slice b2 A.vb.length k2,.string A.rk,.string A.rt,.string A.rp,.int .i64 A.num])∧Zw_ w w':=by
 have e1:(A.verb == 1)=false:=by rw [hv];rfl
 have e2:(A.verb == 2)=true:=by rw [hv];rfl
 clear hv;go_enter func166,ntmps166;go_wp2;refine bodyPost_ret (v:=.agg #[.string ⟨#[]⟩,.int .i64 A.verb,.string ⟨#[]⟩,.string ⟨#[]⟩,.string A.tm,.slice none 0 0,.slice b1 A.hs.length k1,.int .i64 0,.string A.hold,.string A.tw,.slice b2 A.vb.length k2,.string A.rk,.string A.rt,.string A.rp,.int .i64 A.num]) (by simp [results,results166,go_sem]) rfl ⟨rfl,?_⟩;exact (Zac w _).alloc (by simp) _
theorem ZnZ (hv:A.verb=3):Calls prog 166 #[.agg #[.string A.who,.int .i64 A.verb,.string A.kd,.string A.nm,.string A.tm,.slice b0 A.vs.length k0,.slice b1 A.hs.length k1,.int .i64 A.seen,.string A.hold,.string A.tw,.slice b2 A.vb.length k2,.string A.rk,.string A.rt,.string A.rp,.int .i64 A.num]] w fun e w'=>e=.returned (.agg #[.string ⟨#[]⟩,.int .i64 A.verb,.string ⟨#[]⟩,.string ⟨#[]⟩,.string A.tm,.slice b0 A.vs.length k0,.slice b1 A.hs.length k1,.int .i64 0,.string A.hold,.string A.tw,.slice b2 A.vb.length k2,.string A.rk,.string A.rt,.string A.rp,.int .i64 A.num])∧Zw_ w w':=by
 have e1:(A.verb == 1)=false:=by rw [hv];rfl
 have e2:(A.verb == 2)=false:=by rw [hv];rfl
 have e3:(A.verb == 3)=true:=by rw [hv];rfl
 clear hv;go_enter func166,ntmps166;go_wp2;refine bodyPost_ret (v:=.agg #[.string ⟨#[]⟩,.int .i64 A.verb,.string ⟨#[]⟩,.string ⟨#[]⟩,.string A.tm,.slice b0 A.vs.length k0,.slice b1 A.hs.length k1,.int .i64 0,.string A.hold,.string A.tw,.slice b2 A.vb.length k2,.string A.rk,.string A.rt,.string A.rp,.int .i64 A.num]) (by simp [results,results166,go_sem]) rfl ⟨rfl,?_⟩;exact (Zac w _).alloc (by simp) _
theorem Zn0 (hv:A.verb=4):Calls prog 166 #[.agg #[.string A.who,.int .i64 A.verb,.string A.kd,.string A.nm,.string A.tm,.slice b0 A.vs.length k0,.slice b1 A.hs.length k1,.int .i64 A.seen,.string A.hold,.string A.tw,.slice b2 A.vb.length k2,.string A.rk,.string A.rt,.string A.rp,.int .i64 A.num]] w fun e w'=>e=.returned (.agg #[.string ⟨#[]⟩,.int .i64 A.verb,.string ⟨#[]⟩,.string ⟨#[]⟩,.string A.tm,.slice b0 A.vs.length k0,.slice b1 A.hs.length k1,.int .i64 A.seen,.string ⟨#[]⟩,.string A.tw,.slice b2 A.vb.length k2,.string A.rk,.string A.rt,.string A.rp,.int .i64 A.num])∧Zw_ w w':=by
 have e1:(A.verb == 1)=false:=by rw [hv];rfl
 have e2:(A.verb == 2)=false:=by rw [hv];rfl
 have e3:(A.verb == 3)=false:=by rw [hv];rfl
 have e4:(A.verb == 4)=true:=by rw [hv];rfl
 clear hv;go_enter func166,ntmps166;go_wp2;refine bodyPost_ret (v:=.agg #[.string ⟨#[]⟩,.int .i64 A.verb,.string ⟨#[]⟩,.string ⟨#[]⟩,.string A.tm,.slice b0 A.vs.length k0,.slice b1 A.hs.length k1,.int .i64 A.seen,.string ⟨#[]⟩,.string A.tw,.slice b2 A.vb.length k2,.string A.rk,.string A.rt,.string A.rp,.int .i64 A.num]) (by simp [results,results166,go_sem]) rfl ⟨rfl,?_⟩;exact (Zac w _).alloc (by simp) _
theorem Zn1 (hv:A.verb=5):Calls prog 166 #[.agg #[.string A.who,.int .i64 A.verb,.string A.kd,.string A.nm,.string A.tm,.slice b0 A.vs.length k0,.slice b1 A.hs.length k1,.int .i64 A.seen,.string A.hold,.string A.tw,.slice b2 A.vb.length k2,.string A.rk,.string A.rt,.string A.rp,.int .i64 A.num]] w fun e w'=>e=.returned (.agg #[.string ⟨#[]⟩,.int .i64 A.verb,.string A.kd,.string A.nm,.string A.tm,.slice b0 A.vs.length k0,.slice b1 A.hs.length k1,.int .i64 A.seen,.string A.hold,.string ⟨#[]⟩,.slice none 0 0,.string ⟨#[]⟩,.string ⟨#[]⟩,.string ⟨#[]⟩,.int .i64 A.num])∧Zw_ w w':=by
 have e1:(A.verb == 1)=false:=by rw [hv];rfl
 have e2:(A.verb == 2)=false:=by rw [hv];rfl
 have e3:(A.verb == 3)=false:=by rw [hv];rfl
 have e4:(A.verb == 4)=false:=by rw [hv];rfl
 have e5:(A.verb == 5)=true:=by rw [hv];rfl
 clear hv;go_enter func166,ntmps166;go_wp2;refine bodyPost_ret (v:=.agg #[.string ⟨#[]⟩,.int .i64 A.verb,.string A.kd,.string A.nm,.string A.tm,.slice b0 A.vs.length k0,.slice b1 A.hs.length k1,.int .i64 A.seen,.string A.hold,.string ⟨#[]⟩,.slice none 0 0,.string ⟨#[]⟩,.string ⟨#[]⟩,.string ⟨#[]⟩,.int .i64 A.num]) (by simp [results,results166,go_sem]) rfl ⟨rfl,?_⟩;exact (Zac w _).alloc (by simp) _
theorem Zn2 (hv:A.verb=6):Calls prog 166 #[.agg #[.string A.who,.int .i64 A.verb,.string A.kd,.string A.nm,.string A.tm,.slice b0 A.vs.length k0,.slice b1 A.hs.length k1,.int .i64 A.seen,.string A.hold,.string A.tw,.slice b2 A.vb.length k2,.string A.rk,.string A.rt,.string A.rp,.int .i64 A.num]] w fun e w'=>e=.returned (.agg #[.string ⟨#[]⟩,.int .i64 A.verb,.string A.kd,.string A.nm,.string A.tm,.slice b0 A.vs.length k0,.slice b1 A.hs.length k1,.int .i64 A.seen,.string A.hold,.string A.tw,.slice b2 A.vb.length k2,.string A.rk,.string A.rt,.string A.rp,.int .i64 0])∧Zw_ w w':=by
 have e1:(A.verb == 1)=false:=by rw [hv];rfl
 have e2:(A.verb == 2)=false:=by rw [hv];rfl
 have e3:(A.verb == 3)=false:=by rw [hv];rfl
 have e4:(A.verb == 4)=false:=by rw [hv];rfl
 have e5:(A.verb == 5)=false:=by rw [hv];rfl
 have e6:(A.verb == 6)=true:=by rw [hv];rfl
 clear hv;go_enter func166,ntmps166;go_wp2;refine bodyPost_ret (v:=.agg #[.string ⟨#[]⟩,.int .i64 A.verb,.string A.kd,.string A.nm,.string A.tm,.slice b0 A.vs.length k0,.slice b1 A.hs.length k1,.int .i64 A.seen,.string A.hold,.string A.tw,.slice b2 A.vb.length k2,.string A.rk,.string A.rt,.string A.rp,.int .i64 0]) (by simp [results,results166,go_sem]) rfl ⟨rfl,?_⟩;exact (Zac w _).alloc (by simp) _
end
end Go.Proofs.YtcfjmagkinpaeaaGreat
