import Derived.Test.YtlednecohppljaaB20
import Derived.Test.YtlednecohppljaaB23
namespace Go.Proofs.Ytlednecohppljaa
open Go.RowKit Go.Deep

theorem heldRss_two (lo hi : Nat) (v : Value) (Xl : List Rs) (k : Int) (w : World) (hv : RssOwn lo hi w v (mkRss k Xl)) (hn : RssSmall Xl) (h0 : 0 ≤ k) (hk : k ≤ 2000000000000000000) :
    Calls Try.prog 11 #[v, .int .i64 k] w fun e w' => e = .returned (.int .i64 (k + 2 * (Xl.length : Int))) ∧ Below w.heap.size w w' := by
  have := heldRss_any lo hi v Xl k w hv hn h0 hk
  rw [posRs_all2] at this
  simpa using this

theorem RmsOwn.fullO {lo hi : Nat} {w : World} {a : Option Addr} {n cap : Nat} {Xl : List Rm} (h : RmsOwn lo hi w (.slice a n cap) Xl) (hL : 0 < Xl.length) :
    ∃ b off, a = some ⟨b, off, none⟩ ∧ b < w.heap.size ∧ ∀ i (h : i < Xl.length), ∃ l0 u0 vv0, RmCells w b (off + i * 8) Xl[i] vv0 ∧ RssOwn l0 u0 w vv0 Xl[i].sl := by
  rcases h with ⟨a', cap', h, rfl⟩ | ⟨b, off, cap', c, X, h1, h2, h3, h4, h5, h6⟩
  · simp at hL
  · injection h1 with e1 e2 e3
    refine ⟨b, off, e1, h6.lt, fun i hi' => ?_⟩
    have hr := h6.row i hi'
    rw [h5 i hi'] at hr
    obtain ⟨hs, vv0, q0, hc, l0⟩ := hr
    exact ⟨_, _, vv0, hc, l0⟩
end Go.Proofs.Ytlednecohppljaa
namespace Go.Proofs.Ytlednecohppljaa
open Go.RowKit Go.Deep

/-! what is asked of a stewards' book -/
theorem inB_lo {lo hi n : Int} (h : inB lo hi n = true) : lo ≤ n := by unfold inB at h; simp at h; exact h.1
theorem inB_hi {lo hi n : Int} (h : inB lo hi n = true) : n ≤ hi := by unfold inB at h; simp at h; exact h.2
def nmB (s : ByteArray) : Bool := inB 1 20 s.size && allB nameByte s
def perB (x : Sv) : Bool := if x.pr == 0 then (x.ls == 0) && ((x.ms == 0) && ((x.ld == 0) && (x.cl == 0))) else inB 0 1000000 x.pr && (inB 0 1000000 x.ld && (inB 0 10 x.ls && (inB x.ls 10 x.ms && inB 0 3 x.cl)))
def svB (now : Int) (x : Sv) : Bool := (nmB x.nm && (inB 1 now x.ve && (inB 1 1000000 x.im && (inB 1 1000000 x.nx && (inB 0 10 x.wa && (inB 0 10 x.dn && (inB 0 10 x.ov && (!(x.dn + x.ov == 0) && perB x))))))))
/-- the place of the first that is so -/
def pls {X : Type} (p : X → Bool) (L : List X) : Int := match L.findIdx? p with | some i => i | none => -1
def svP (L : List Sv) (s : ByteArray) : Int := pls (fun x => x.nm.toList == s.toList) L
def beP (L : List Be) (s : ByteArray) : Int := pls (fun x => x.nm.toList == s.toList) L
end Go.Proofs.Ytlednecohppljaa
