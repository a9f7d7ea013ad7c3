import Derived.Test.YtobijdenhbpdfaaDoorD2
namespace Go.Proofs.YtobijdenhbpdfaaDoor
open Go.RowKit Go.Deep

theorem ofBuilt_any (ρ p : Nat) (bs : List UInt8) (cs : Array Value) (t : TypeId) (n : Nat) (w : World) (h : Rd w ρ p bs) (hp : p ≤ 1000000000) (hcs : cs.toList.all isS = true) (hn : cs.size = n) (h1 : 1 ≤ n) (h2 : n ≤ 1000) :
    Calls Tryd.prog 32 #[.pointer (some ⟨ρ, 0, none⟩), .slice (some ⟨w.heap.size, 0, none⟩) n n] (w.alloc (.cells cs t)) fun e w' => ∃ s, e = .returned (.string s) ∧ s.size ≤ 1000 ∧ Rd w' ρ (p + 1) bs ∧ Tch ρ w w' := by
  have ha := one_al w (.cells cs t)
  have hlt := h.lt
  refine (ofLit_any ρ p bs cs n w.heap.size _ (h.below ha) hp (by rw [← Array.all_toList]; exact hcs) hn h1 h2 (Box.new w cs t _ rfl) (by omega)).mono ?_
  rintro e w' ⟨s, rfl, h1, h2, h3⟩
  exact ⟨s, rfl, h1, h2, (Tch.below ha).trans h3⟩

set_option maxHeartbeats 1000000 in
theorem l4DrawTeam_any (ρ p : Nat) (bs : List UInt8) (w : World) (h : Rd w ρ p bs) (hp : p ≤ 1000000000) :
    Calls Tryd.prog 51 #[.pointer (some ⟨ρ, 0, none⟩)] w fun e w' => ∃ s, e = .returned (.string s) ∧ s.size ≤ 1000 ∧ Rd w' ρ (p + 1) bs ∧ Tch ρ w w' := by
  have HR := hide h
  have hlt := h.lt
  clear h
  go_enter Tryd.func51, Tryd.ntmps51
  go_wp2_with fail
  refine (ofBuilt_any ρ p bs _ _ 8 w HR.out hp (by decide) (by decide) (by decide) (by decide)).mono ?_
  rintro e w1 ⟨s, rfl, h1, h2, h3⟩
  have H := hide (And.intro h1 (And.intro h2 h3))
  clear h1 h2 h3
  go_wp2
  go_ret
  exact ⟨s, rfl, H.out.1, H.out.2.1, H.out.2.2⟩

/-- a walk with one variable in a block of its own -/
structure St (w0 : World) (ρ q : Nat) (bs : List UInt8) (β : Nat) (cs : Array Value) (w : World) : Prop where
  rd : Rd w ρ q bs
  box : Box w β cs
  t : Tch ρ w0 w
  ne : ρ < β
  nw : w0.heap.size ≤ β
theorem Tch.other {ρ β i : Nat} {w0 w : World} (h : Tch ρ w0 w) (hβ : w0.heap.size ≤ β) (u : Value) : Tch ρ w0 (w.setCell ⟨β, i, none⟩ u) :=
  ⟨h.os, h.tape, h.output, by simpa [World.setCell] using h.size, fun k hk hn => (Below.heap_setCell w ⟨β, i, none⟩ u k (by show k ≠ β; omega)).trans (h.block k hk hn)⟩
theorem Rd.other {w : World} {ρ p β i : Nat} {bs : List UInt8} (h : Rd w ρ p bs) (hβ : ρ < β) (u : Value) : Rd (w.setCell ⟨β, i, none⟩ u) ρ p bs := by
  obtain ⟨v, h1, h2⟩ := h.code
  have ho : ∀ b j, b ≤ ρ → (w.setCell ⟨β, i, none⟩ u).cell? ⟨b, j, none⟩ = w.cell? ⟨b, j, none⟩ := fun b j hb => by
    apply World.cell?_setCell_other; simp
  refine ⟨by simpa [World.setCell] using h.lt, ⟨v, (ho ρ 0 (Nat.le_refl _)).trans h1, ?_⟩, (ho ρ 1 (Nat.le_refl _)).trans h.place, fun j => by rw [World.frozen?_setCell]; exact h.free j⟩
  rcases h2 with h2 | ⟨b, off, cap, h1, h2, h3, h4, h5⟩
  · exact Or.inl h2
  · exact Or.inr ⟨b, off, cap, h1, h2, h3, h4, fun k hk => (ho b _ (by omega)).trans (h5 k hk)⟩
theorem St.new {w : World} {ρ p : Nat} {bs : List UInt8} (h : Rd w ρ p bs) (cs : Array Value) (t : TypeId) : St w ρ p bs w.heap.size cs (w.alloc (.cells cs t)) :=
  ⟨h.below (one_al w _), Box.new w cs t _ rfl, Tch.below (one_al w _), h.lt, Nat.le_refl _⟩
theorem St.step {w0 w w' : World} {ρ q q' β : Nat} {bs : List UInt8} {cs : Array Value} (h : St w0 ρ q bs β cs w) (hr : Rd w' ρ q' bs) (ht : Tch ρ w w') : St w0 ρ q' bs β cs w' :=
  ⟨hr, ht.box h.box (by have := h.ne; omega), h.t.trans ht, h.ne, h.nw⟩

set_option maxHeartbeats 2000000 in
theorem l4DrawAct_any (ρ p : Nat) (bs : List UInt8) (w : World) (h : Rd w ρ p bs) (hp : p ≤ 100000000) :
    Calls Tryd.prog 28 #[.pointer (some ⟨ρ, 0, none⟩)] w fun e w' => ∃ (v : Int) (k t n : ByteArray), e = .returned (.agg #[.int .i64 v, .string k, .string t, .string n]) ∧ (-1 ≤ v ∧ v ≤ 6) ∧ (k.size ≤ 1000 ∧ t.size ≤ 1000 ∧ n.size ≤ 1000) ∧ (∃ q, p ≤ q ∧ q ≤ p + 10 ∧ Rd w' ρ q bs) ∧ Tch ρ w w' := by
  have HS := hide (St.new h #[.int .i64 0, .string ⟨#[]⟩, .string ⟨#[]⟩, .string ⟨#[]⟩] 32)
  clear h
  go_enter Tryd.func28, Tryd.ntmps28
  go_wp2_with fail
  generalize hW0 : w.alloc _ = W0 at *
  clear hW0
  refine (pick_any ρ p bs 8 W0 HS.out.rd (by omega) (by decide) (by decide)).mono ?_
  rintro e w1 ⟨x, rfl, hx0, hx1, hr1, ht1⟩
  have HS1 := hide (HS.out.step hr1 ht1)
  clear hr1 ht1 HS
  have hwx : wrap64 (x - 1) = x - 1 := by unfold wrap64; omega
  go_wp2_with fail
  refine (ofBuilt_any ρ _ bs _ _ 5 w1 HS1.out.rd (by omega) (by decide) (by decide) (by decide) (by decide)).mono ?_
  rintro e w2 ⟨k, rfl, hk, hr2, ht2⟩
  have HS2 := hide (HS1.out.step hr2 ht2)
  have HK := hide hk
  clear hr2 ht2 HS1 hk
  go_wp2_with fail
  refine (l4DrawTeam_any ρ _ bs w2 HS2.out.rd (by omega)).mono ?_
  rintro e w3 ⟨t, rfl, ht, hr3, ht3⟩
  have HS3 := hide (HS2.out.step hr3 ht3)
  have HTT := hide ht
  clear hr3 ht3 HS2 ht
  go_wp2_with fail
  refine (ofBuilt_any ρ _ bs _ _ 6 w3 HS3.out.rd (by omega) (by decide) (by decide) (by decide) (by decide)).mono ?_
  rintro e w4 ⟨n, rfl, hn, hr4, ht4⟩
  have HS4 := hide (HS3.out.step hr4 ht4)
  have HN := hide hn
  clear hr4 ht4 HS3 hn
  have hlt4 := HS4.out.box.lt
  have c0 := HS4.out.box.cell 0
  have c1 := HS4.out.box.cell 1
  have c2 := HS4.out.box.cell 2
  have c3 := HS4.out.box.cell 3
  have cf := HS4.out.box.free
  have hnw := HS4.out.nw
  have hne := HS4.out.ne
  have HX := hide (And.intro HS4.out.rd HS4.out.t)
  clear HS4
  go_wp2
  refine bodyPost_ret (v := .agg #[.int .i64 (x - 1), .string k, .string t, .string n]) (by simp [results, Tryd.results28, go_sem, c0, c1, c2, c3]) rfl ⟨x - 1, k, t, n, rfl, by omega, ⟨HK.out, HTT.out, HN.out⟩, ⟨p + 4, by omega, by omega, ?_⟩, ?_⟩
  · repeat (refine Rd.other ?_ hne _)
    exact HX.out.1
  · repeat (refine Tch.other ?_ hnw _)
    exact HX.out.2
end Go.Proofs.YtobijdenhbpdfaaDoor

