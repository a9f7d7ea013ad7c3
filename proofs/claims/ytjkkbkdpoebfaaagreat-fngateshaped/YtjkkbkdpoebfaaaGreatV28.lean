import Derived.Test.YtjkkbkdpoebfaaaGreatV27
namespace Go.Proofs.YtjkkbkdpoebfaaaGreat
open Go.RowKit Go.Deep

structure Seven (w W : World) (a0 a1 a2 a3 a4 a5 c : Array Value) : Prop where
  al : Below w.heap.size w W
  b0 : Box W w.heap.size a0
  b1 : Box W (w.heap.size + 1) a1
  b2 : Box W (w.heap.size + 1 + 1) a2
  b3 : Box W (w.heap.size + 1 + 1 + 1) a3
  b4 : Box W (w.heap.size + 1 + 1 + 1 + 1) a4
  b5 : Box W (w.heap.size + 1 + 1 + 1 + 1 + 1) a5
  b6 : Box W (w.heap.size + 1 + 1 + 1 + 1 + 1 + 1) c
theorem seven (w : World) (a0 a1 a2 a3 a4 a5 c : Array Value) (t t' : TypeId) :
    Seven w (((((((w.alloc (.cells a0 t)).alloc (.cells a1 t)).alloc (.cells a2 t)).alloc (.cells a3 t)).alloc (.cells a4 t)).alloc (.cells a5 t)).alloc (.cells c t')) a0 a1 a2 a3 a4 a5 c := by
  generalize h0 : w.alloc (.cells a0 t) = w0
  have k0 : Box w0 w.heap.size a0 := h0 ▸ Box.new w a0 t _ rfl
  have l0 : Below w.heap.size w w0 := h0 ▸ one_al _ _
  have s0 : w0.heap.size = w.heap.size + 1 := by rw [← h0]; simp
  clear h0
  generalize h1 : w0.alloc (.cells a1 t) = w1
  have k1 : Box w1 (w.heap.size + 1) a1 := h1 ▸ Box.new w0 a1 t _ s0
  have m1 : Below w0.heap.size w0 w1 := h1 ▸ one_al _ _
  have s1 : w1.heap.size = w.heap.size + 1 + 1 := by rw [← h1]; simp [s0]
  clear h1
  generalize h2 : w1.alloc (.cells a2 t) = w2
  have k2 : Box w2 (w.heap.size + 1 + 1) a2 := h2 ▸ Box.new w1 a2 t _ s1
  have m2 : Below w1.heap.size w1 w2 := h2 ▸ one_al _ _
  have s2 : w2.heap.size = w.heap.size + 1 + 1 + 1 := by rw [← h2]; simp [s1]
  clear h2
  generalize h3 : w2.alloc (.cells a3 t) = w3
  have k3 : Box w3 (w.heap.size + 1 + 1 + 1) a3 := h3 ▸ Box.new w2 a3 t _ s2
  have m3 : Below w2.heap.size w2 w3 := h3 ▸ one_al _ _
  have s3 : w3.heap.size = w.heap.size + 1 + 1 + 1 + 1 := by rw [← h3]; simp [s2]
  clear h3
  generalize h4 : w3.alloc (.cells a4 t) = w4
  have k4 : Box w4 (w.heap.size + 1 + 1 + 1 + 1) a4 := h4 ▸ Box.new w3 a4 t _ s3
  have m4 : Below w3.heap.size w3 w4 := h4 ▸ one_al _ _
  have s4 : w4.heap.size = w.heap.size + 1 + 1 + 1 + 1 + 1 := by rw [← h4]; simp [s3]
  clear h4
  generalize h5 : w4.alloc (.cells a5 t) = w5
  have k5 : Box w5 (w.heap.size + 1 + 1 + 1 + 1 + 1) a5 := h5 ▸ Box.new w4 a5 t _ s4
  have m5 : Below w4.heap.size w4 w5 := h5 ▸ one_al _ _
  have s5 : w5.heap.size = w.heap.size + 1 + 1 + 1 + 1 + 1 + 1 := by rw [← h5]; simp [s4]
  clear h5
  generalize h6 : w5.alloc (.cells c t') = w6
  have k6 : Box w6 (w.heap.size + 1 + 1 + 1 + 1 + 1 + 1) c := h6 ▸ Box.new w5 c t' _ s5
  have m6 : Below w5.heap.size w5 w6 := h6 ▸ one_al _ _
  clear h6
  have f : Below w.heap.size w w6 := (((((l0.trans (m1.mono l0.size)).trans (m2.mono (by omega))).trans (m3.mono (by omega))).trans (m4.mono (by omega))).trans (m5.mono (by omega))).trans (m6.mono (by omega))
  exact ⟨f, (((((k0.on m1).on m2).on m3).on m4).on m5).on m6, ((((k1.on m2).on m3).on m4).on m5).on m6, (((k2.on m3).on m4).on m5).on m6, ((k3.on m4).on m5).on m6, (k4.on m5).on m6, k5.on m6, k6⟩


theorem box_strs {W : World} {γ lo : Nat} {cs : Array Value} (L : List ByteArray) (n : Nat) (hb : Box W γ cs) (hcs : cs.toList = L.map Value.string) (hl : lo ≤ γ) (hn : L.length = n) (hL : n ≤ 1000) (hs : ∀ s ∈ L, s.size ≤ 1000) : StrsIn lo W (.slice (some ⟨γ, 0, none⟩) n n) L := by
  subst hn
  by_cases h0 : L = []
  · subst h0; exact Or.inl ⟨_, _, rfl, rfl⟩
  · refine Or.inr ⟨γ, 0, _, rfl, h0, by unfold maxLen; omega, hb.lt, fun i hi => ?_, fun s h => by have := hs s h; unfold maxLen; omega, hl⟩
    rw [Nat.zero_add, hb.cell i, ← Array.getElem?_toList, hcs]
    simp [hi]
/-- a walk with a field in a block of its own, its words in blocks K -/
structure Fw (w0 : World) (ρ : Nat) (bs : List UInt8) (β : Nat) (K : Nat → Prop) (f : Fd) (wv : Value) (q : Nat) (W : World) : Prop where
  rd : Rd W ρ q bs
  box : Box W β (fdL f wv).toArray
  t : Tch ρ w0 W
  ne : ρ < β
  nw : w0.heap.size ≤ β
  ws : StrsK K W wv f.words
  k0 : ∀ k, K k → k < W.heap.size ∧ k ≠ ρ ∧ k ≠ β ∧ k ≠ β + 1
theorem Fw.step {w0 W W' : World} {ρ β q q' : Nat} {bs : List UInt8} {K : Nat → Prop} {f : Fd} {wv : Value} (h : Fw w0 ρ bs β K f wv q W) (hr : Rd W' ρ q' bs) (ht : Tch ρ W W') : Fw w0 ρ bs β K f wv q' W' :=
  ⟨hr, ht.box h.box (by have := h.ne; omega), h.t.trans ht, h.ne, h.nw, h.ws.keep fun k hk => ht.block k (h.k0 k hk).1 (h.k0 k hk).2.1, fun k hk => ⟨Nat.lt_of_lt_of_le (h.k0 k hk).1 ht.size, (h.k0 k hk).2⟩⟩
theorem Fw.put {w0 W : World} {ρ β q : Nat} {bs : List UInt8} {K : Nat → Prop} {f f' : Fd} {wv wv' : Value} (h : Fw w0 ρ bs β K f wv q W) (k : Nat) (hk : k < 11) (v : Value) (e : (fdL f wv).set k v = fdL f' wv') (hs : StrsK K W wv' f'.words) : Fw w0 ρ bs β K f' wv' q (W.setCell ⟨β, k, none⟩ v) :=
  ⟨h.rd.other h.ne _, by rw [← e, ← List.setIfInBounds_toArray]; exact put_cell h.box k (by simpa [fdL] using hk) v, h.t.other h.nw _, h.ne, h.nw, hs.keep fun k hk => Below.heap_setCell W _ _ k (h.k0 k hk).2.2.1, fun k hk => ⟨by simpa [World.setCell] using (h.k0 k hk).1, (h.k0 k hk).2⟩⟩
theorem StrsK.sets {K : Nat → Prop} {W : World} {v : Value} {L : List ByteArray} (h : StrsK K W v L) {p : Addr} (hp : ∀ k, K k → k ≠ p.block) (u : Value) : StrsK K (W.setCell p u) v L := h.keep fun k hk => Below.heap_setCell W p u k (hp k hk)

section
variable (ρ p : Nat) (bs : List UInt8) (nm tt df we : ByteArray) (kd le mo ro : Int) (mu fx : Bool) (va : Option Addr) (vn vc : Nat) (words : List ByteArray) (K : Nat → Prop) (w : World)
def SpoilTo (ρ p : Nat) (bs : List UInt8) (K : Nat → Prop) (w : World) (e : Ending) (w' : World) : Prop := ∃ (f : Fd) (wv : Value), e = .returned (.agg (fdL f wv).toArray) ∧ FdP (fun k => K k ∨ (w.heap.size ≤ k ∧ k < w'.heap.size)) w' (wv, f) ∧ (∃ q, p ≤ q ∧ q ≤ p + 5 ∧ Rd w' ρ q bs) ∧ Tch ρ w w'
set_option maxRecDepth 20000 in
set_option maxHeartbeats 16000000 in
theorem l1SpoilField_any (h : Rd w ρ p bs) (hp : p ≤ 800000000) (hf : FdFew ⟨nm, kd, le, mo, words, tt, ro, mu, fx, df, we⟩) (hw : StrsK K w (.slice va vn vc) words) (hK : ∀ k, K k → k < w.heap.size ∧ k ≠ ρ) :
    Calls Tryz.prog 87 #[.pointer (some ⟨ρ, 0, none⟩), .agg #[.string nm, .int .i64 kd, .int .i64 le, .int .i64 mo, .slice va vn vc, .string tt, .int .i64 ro, .bool mu, .bool fx, .string df, .string we]] w (SpoilTo ρ p bs K w) := by
  have hlt := h.lt
  have HF := hide hf
  have HRD0 := hide h
  have HWS0 := hide hw
  have HK0 := hide hK
  clear h hf hw hK
  go_enter Tryz.func87, Tryz.ntmps87
  go_wp2_with fail
  generalize hWa : World.alloc (World.alloc w _) _ = w1
  have hb : Below w.heap.size w w1 := by rw [← hWa]; exact (one_al w _).alloc (by simp) _
  have ST : Hid (Box w1 (w.heap.size + 1) #[.string ⟨#[]⟩, .int .i64 0, .int .i64 0, .int .i64 0, .slice none 0 0, .string ⟨#[]⟩, .int .i64 0, .bool false, .bool false, .string ⟨#[]⟩, .string ⟨#[]⟩]) := by unfold Hid; rw [← hWa]; exact Box.new _ _ _ _ (by simp)
  have FV : Hid (Fw w ρ bs w.heap.size K ⟨nm, kd, le, mo, words, tt, ro, mu, fx, df, we⟩ (.slice va vn vc) (p) w1) := ⟨HRD0.out.below hb, by rw [← hWa]; exact (Box.new _ _ _ _ rfl).on (one_al _ _), Tch.below hb, hlt, Nat.le_refl _, HWS0.out.keep fun k hk => hb.block k (HK0.out k hk).1, fun k hk => ⟨Nat.lt_of_lt_of_le (HK0.out k hk).1 hb.size, (HK0.out k hk).2, by have := (HK0.out k hk).1; omega, by have := (HK0.out k hk).1; omega⟩⟩
  clear hWa hb HRD0 HWS0
  refine (pick_any ρ _ bs 11 _ FV.out.rd (by omega) (by decide) (by decide)).mono ?_
  rintro e w2 ⟨x0, rfl, hx00, hx01, hr, ht⟩
  replace ST := hide (ht.box ST.out (by omega))
  replace FV : Hid (Fw w ρ bs w.heap.size K ⟨nm, kd, le, mo, words, tt, ro, mu, fx, df, we⟩ (.slice va vn vc) (p + 1) w2) := FV.out.step hr ht
  clear hr ht
  have hx0 : x0 = 0 ∨ x0 = 1 ∨ x0 = 2 ∨ x0 = 3 ∨ x0 = 4 ∨ x0 = 5 ∨ x0 = 6 ∨ x0 = 7 ∨ x0 = 8 ∨ x0 = 9 ∨ x0 = 10 := by omega
  rcases hx0 with rfl | rfl | rfl | rfl | rfl | rfl | rfl | rfl | rfl | rfl | rfl
  ·
    have c : ∀ i, w2.cell? ⟨w.heap.size, i, none⟩ = #[.string (nm), .int .i64 (kd), .int .i64 (le), .int .i64 (mo), .slice va vn vc, .string (tt), .int .i64 (ro), .bool (mu), .bool (fx), .string (df), .string (we)][i]? := FV.out.box.cell
    have cf := FV.out.box.free
    have cl := FV.out.box.lt
    go_wp2_with fail
    clear c cf cl
    refine (ofBuilt_any ρ _ bs _ _ 4 w2 FV.out.rd (by omega) (by decide) rfl (by decide) (by decide)).mono ?_
    rintro e w3 ⟨s5, rfl, hs5, hr, ht⟩
    have HS5 := hide hs5
    replace ST := hide (ht.box ST.out (by omega))
    replace FV : Hid (Fw w ρ bs w.heap.size K ⟨nm, kd, le, mo, words, tt, ro, mu, fx, df, we⟩ (.slice va vn vc) (p + 2) w3) := FV.out.step hr ht
    clear hr ht hs5
    have c : ∀ i, w3.cell? ⟨w.heap.size, i, none⟩ = #[.string (nm), .int .i64 (kd), .int .i64 (le), .int .i64 (mo), .slice va vn vc, .string (tt), .int .i64 (ro), .bool (mu), .bool (fx), .string (df), .string (we)][i]? := FV.out.box.cell
    have cf := FV.out.box.free
    have cl := FV.out.box.lt
    go_upto_region 23 with fail
    clear c cf cl
    generalize hW : World.setCell w3 ⟨w.heap.size, 0, none⟩ _ = w4
    replace ST : Hid (Box w4 (w.heap.size + 1) #[.string ⟨#[]⟩, .int .i64 0, .int .i64 0, .int .i64 0, .slice none 0 0, .string ⟨#[]⟩, .int .i64 0, .bool false, .bool false, .string ⟨#[]⟩, .string ⟨#[]⟩]) := by unfold Hid; rw [← hW]; exact ⟨by simpa [World.setCell] using ST.out.lt, fun i => (cell_setCell_ne _ _ ⟨w.heap.size + 1, i, none⟩ _ (by show w.heap.size + 1 ≠ w.heap.size; omega)).trans (ST.out.cell i), fun i => by rw [World.frozen?_setCell]; exact ST.out.free i⟩
    replace FV : Hid (Fw w ρ bs w.heap.size K ⟨s5, kd, le, mo, words, tt, ro, mu, fx, df, we⟩ (.slice va vn vc) (p + 2) w4) := by unfold Hid; rw [← hW]; exact FV.out.put 0 (by omega) _ rfl (FV.out.ws)
    clear hW
    have HFEW : Hid (FdFew ⟨s5, kd, le, mo, words, tt, ro, mu, fx, df, we⟩) := ⟨HS5.out, HF.out.tt, HF.out.df, HF.out.we, HF.out.le, HF.out.mo, HF.out.wn, HF.out.ws⟩
    have c : ∀ i, w4.cell? ⟨w.heap.size, i, none⟩ = #[.string (s5), .int .i64 (kd), .int .i64 (le), .int .i64 (mo), .slice va vn vc, .string (tt), .int .i64 (ro), .bool (mu), .bool (fx), .string (df), .string (we)][i]? := FV.out.box.cell
    have cl := FV.out.box.lt
    have r : ∀ i, w4.cell? ⟨w.heap.size + 1, i, none⟩ = #[.string ⟨#[]⟩, .int .i64 0, .int .i64 0, .int .i64 0, .slice none 0 0, .string ⟨#[]⟩, .int .i64 0, .bool false, .bool false, .string ⟨#[]⟩, .string ⟨#[]⟩][i]? := ST.out.cell
    have rf := ST.out.free
    have rl := ST.out.lt
    have HRD := hide FV.out.rd
    have HTT := hide FV.out.t
    have HWS := hide FV.out.ws
    have HKK := hide FV.out.k0
    clear FV ST
    go_wp2
    refine bodyPost_ret (v := .agg (fdL ⟨s5, kd, le, mo, words, tt, ro, mu, fx, df, we⟩ (.slice va vn vc)).toArray) (by simp [results, Tryz.results87, go_sem, fdL, r]) rfl ⟨⟨s5, kd, le, mo, words, tt, ro, mu, fx, df, we⟩, .slice va vn vc, rfl, ⟨HFEW.out, ?_⟩, ⟨p + 2, by omega, by omega, ?_⟩, ?_⟩
    · refine StrsK.mono (K := K) ?_ (fun k hk => ?_)
      · repeat (refine StrsK.sets ?_ (fun k hk => (HKK.out k hk).2.2.2) _)
        exact HWS.out
      · exact Or.inl hk
    · repeat (refine Rd.other ?_ (by omega) _)
      exact HRD.out
    · repeat (refine Tch.other ?_ (by omega) _)
      exact HTT.out
  ·
    have c : ∀ i, w2.cell? ⟨w.heap.size, i, none⟩ = #[.string (nm), .int .i64 (kd), .int .i64 (le), .int .i64 (mo), .slice va vn vc, .string (tt), .int .i64 (ro), .bool (mu), .bool (fx), .string (df), .string (we)][i]? := FV.out.box.cell
    have cf := FV.out.box.free
    have cl := FV.out.box.lt
    go_wp2_with fail
    clear c cf cl
    refine (pick_any ρ _ bs 7 _ FV.out.rd (by omega) (by decide) (by decide)).mono ?_
    rintro e w3 ⟨x5, rfl, hx50, hx51, hr, ht⟩
    replace ST := hide (ht.box ST.out (by omega))
    replace FV : Hid (Fw w ρ bs w.heap.size K ⟨nm, kd, le, mo, words, tt, ro, mu, fx, df, we⟩ (.slice va vn vc) (p + 2) w3) := FV.out.step hr ht
    clear hr ht
    have hw5 : wrap64 (x5 - 1) = x5 - 1 := by unfold wrap64; omega
    have c : ∀ i, w3.cell? ⟨w.heap.size, i, none⟩ = #[.string (nm), .int .i64 (kd), .int .i64 (le), .int .i64 (mo), .slice va vn vc, .string (tt), .int .i64 (ro), .bool (mu), .bool (fx), .string (df), .string (we)][i]? := FV.out.box.cell
    have cf := FV.out.box.free
    have cl := FV.out.box.lt
    go_upto_region 23 with fail
    clear c cf cl
    generalize hW : World.setCell w3 ⟨w.heap.size, 1, none⟩ _ = w4
    replace ST : Hid (Box w4 (w.heap.size + 1) #[.string ⟨#[]⟩, .int .i64 0, .int .i64 0, .int .i64 0, .slice none 0 0, .string ⟨#[]⟩, .int .i64 0, .bool false, .bool false, .string ⟨#[]⟩, .string ⟨#[]⟩]) := by unfold Hid; rw [← hW]; exact ⟨by simpa [World.setCell] using ST.out.lt, fun i => (cell_setCell_ne _ _ ⟨w.heap.size + 1, i, none⟩ _ (by show w.heap.size + 1 ≠ w.heap.size; omega)).trans (ST.out.cell i), fun i => by rw [World.frozen?_setCell]; exact ST.out.free i⟩
    replace FV : Hid (Fw w ρ bs w.heap.size K ⟨nm, x5 - 1, le, mo, words, tt, ro, mu, fx, df, we⟩ (.slice va vn vc) (p + 2) w4) := by unfold Hid; rw [← hW]; exact FV.out.put 1 (by omega) _ rfl (FV.out.ws)
    clear hW
    have HFEW : Hid (FdFew ⟨nm, x5 - 1, le, mo, words, tt, ro, mu, fx, df, we⟩) := ⟨HF.out.nm, HF.out.tt, HF.out.df, HF.out.we, HF.out.le, HF.out.mo, HF.out.wn, HF.out.ws⟩
    have c : ∀ i, w4.cell? ⟨w.heap.size, i, none⟩ = #[.string (nm), .int .i64 (x5 - 1), .int .i64 (le), .int .i64 (mo), .slice va vn vc, .string (tt), .int .i64 (ro), .bool (mu), .bool (fx), .string (df), .string (we)][i]? := FV.out.box.cell
    have cl := FV.out.box.lt
    have r : ∀ i, w4.cell? ⟨w.heap.size + 1, i, none⟩ = #[.string ⟨#[]⟩, .int .i64 0, .int .i64 0, .int .i64 0, .slice none 0 0, .string ⟨#[]⟩, .int .i64 0, .bool false, .bool false, .string ⟨#[]⟩, .string ⟨#[]⟩][i]? := ST.out.cell
    have rf := ST.out.free
    have rl := ST.out.lt
    have HRD := hide FV.out.rd
    have HTT := hide FV.out.t
    have HWS := hide FV.out.ws
    have HKK := hide FV.out.k0
    clear FV ST
    go_wp2
    refine bodyPost_ret (v := .agg (fdL ⟨nm, x5 - 1, le, mo, words, tt, ro, mu, fx, df, we⟩ (.slice va vn vc)).toArray) (by simp [results, Tryz.results87, go_sem, fdL, r]) rfl ⟨⟨nm, x5 - 1, le, mo, words, tt, ro, mu, fx, df, we⟩, .slice va vn vc, rfl, ⟨HFEW.out, ?_⟩, ⟨p + 2, by omega, by omega, ?_⟩, ?_⟩
    · refine StrsK.mono (K := K) ?_ (fun k hk => ?_)
      · repeat (refine StrsK.sets ?_ (fun k hk => (HKK.out k hk).2.2.2) _)
        exact HWS.out
      · exact Or.inl hk
    · repeat (refine Rd.other ?_ (by omega) _)
      exact HRD.out
    · repeat (refine Tch.other ?_ (by omega) _)
      exact HTT.out
  ·
    have c : ∀ i, w2.cell? ⟨w.heap.size, i, none⟩ = #[.string (nm), .int .i64 (kd), .int .i64 (le), .int .i64 (mo), .slice va vn vc, .string (tt), .int .i64 (ro), .bool (mu), .bool (fx), .string (df), .string (we)][i]? := FV.out.box.cell
    have cf := FV.out.box.free
    have cl := FV.out.box.lt
    go_wp2_with fail
    clear c cf cl
    refine (pick_any ρ _ bs 4 _ FV.out.rd (by omega) (by decide) (by decide)).mono ?_
    rintro e w3 ⟨x5, rfl, hx50, hx51, hr, ht⟩
    replace ST := hide (ht.box ST.out (by omega))
    replace FV : Hid (Fw w ρ bs w.heap.size K ⟨nm, kd, le, mo, words, tt, ro, mu, fx, df, we⟩ (.slice va vn vc) (p + 2) w3) := FV.out.step hr ht
    clear hr ht
    have hw5 : wrap64 (x5 - 1) = x5 - 1 := by unfold wrap64; omega
    have c : ∀ i, w3.cell? ⟨w.heap.size, i, none⟩ = #[.string (nm), .int .i64 (kd), .int .i64 (le), .int .i64 (mo), .slice va vn vc, .string (tt), .int .i64 (ro), .bool (mu), .bool (fx), .string (df), .string (we)][i]? := FV.out.box.cell
    have cf := FV.out.box.free
    have cl := FV.out.box.lt
    go_upto_region 23 with fail
    clear c cf cl
    generalize hW : World.setCell w3 ⟨w.heap.size, 2, none⟩ _ = w4
    replace ST : Hid (Box w4 (w.heap.size + 1) #[.string ⟨#[]⟩, .int .i64 0, .int .i64 0, .int .i64 0, .slice none 0 0, .string ⟨#[]⟩, .int .i64 0, .bool false, .bool false, .string ⟨#[]⟩, .string ⟨#[]⟩]) := by unfold Hid; rw [← hW]; exact ⟨by simpa [World.setCell] using ST.out.lt, fun i => (cell_setCell_ne _ _ ⟨w.heap.size + 1, i, none⟩ _ (by show w.heap.size + 1 ≠ w.heap.size; omega)).trans (ST.out.cell i), fun i => by rw [World.frozen?_setCell]; exact ST.out.free i⟩
    replace FV : Hid (Fw w ρ bs w.heap.size K ⟨nm, kd, x5 - 1, mo, words, tt, ro, mu, fx, df, we⟩ (.slice va vn vc) (p + 2) w4) := by unfold Hid; rw [← hW]; exact FV.out.put 2 (by omega) _ rfl (FV.out.ws)
    clear hW
    have HFEW : Hid (FdFew ⟨nm, kd, x5 - 1, mo, words, tt, ro, mu, fx, df, we⟩) := ⟨HF.out.nm, HF.out.tt, HF.out.df, HF.out.we, by constructor <;> simp only [] <;> omega, HF.out.mo, HF.out.wn, HF.out.ws⟩
    have c : ∀ i, w4.cell? ⟨w.heap.size, i, none⟩ = #[.string (nm), .int .i64 (kd), .int .i64 (x5 - 1), .int .i64 (mo), .slice va vn vc, .string (tt), .int .i64 (ro), .bool (mu), .bool (fx), .string (df), .string (we)][i]? := FV.out.box.cell
    have cl := FV.out.box.lt
    have r : ∀ i, w4.cell? ⟨w.heap.size + 1, i, none⟩ = #[.string ⟨#[]⟩, .int .i64 0, .int .i64 0, .int .i64 0, .slice none 0 0, .string ⟨#[]⟩, .int .i64 0, .bool false, .bool false, .string ⟨#[]⟩, .string ⟨#[]⟩][i]? := ST.out.cell
    have rf := ST.out.free
    have rl := ST.out.lt
    have HRD := hide FV.out.rd
    have HTT := hide FV.out.t
    have HWS := hide FV.out.ws
    have HKK := hide FV.out.k0
    clear FV ST
    go_wp2
    refine bodyPost_ret (v := .agg (fdL ⟨nm, kd, x5 - 1, mo, words, tt, ro, mu, fx, df, we⟩ (.slice va vn vc)).toArray) (by simp [results, Tryz.results87, go_sem, fdL, r]) rfl ⟨⟨nm, kd, x5 - 1, mo, words, tt, ro, mu, fx, df, we⟩, .slice va vn vc, rfl, ⟨HFEW.out, ?_⟩, ⟨p + 2, by omega, by omega, ?_⟩, ?_⟩
    · refine StrsK.mono (K := K) ?_ (fun k hk => ?_)
      · repeat (refine StrsK.sets ?_ (fun k hk => (HKK.out k hk).2.2.2) _)
        exact HWS.out
      · exact Or.inl hk
    · repeat (refine Rd.other ?_ (by omega) _)
      exact HRD.out
    · repeat (refine Tch.other ?_ (by omega) _)
      exact HTT.out
  ·
    have c : ∀ i, w2.cell? ⟨w.heap.size, i, none⟩ = #[.string (nm), .int .i64 (kd), .int .i64 (le), .int .i64 (mo), .slice va vn vc, .string (tt), .int .i64 (ro), .bool (mu), .bool (fx), .string (df), .string (we)][i]? := FV.out.box.cell
    have cf := FV.out.box.free
    have cl := FV.out.box.lt
    go_wp2_with fail
    clear c cf cl
    have hbb := one_al w2 (.cells #[.int .i64 0, .int .i64 1, .int .i64 41, .int .i64 1000000, .int .i64 1000001, .int .i64 (-1)] 3)
    have hbx := Box.new w2 #[.int .i64 0, .int .i64 1, .int .i64 41, .int .i64 1000000, .int .i64 1000001, .int .i64 (-1)] 3 _ rfl
    generalize hW : World.alloc w2 _ = w3 at *
    have WX : Hid (Box w3 w2.heap.size #[.int .i64 0, .int .i64 1, .int .i64 41, .int .i64 1000000, .int .i64 1000001, .int .i64 (-1)]) := hbx
    have hgb : w.heap.size < w2.heap.size := FV.out.box.lt
    replace ST := hide (ST.out.on hbb)
    replace FV : Hid (Fw w ρ bs w.heap.size K ⟨nm, kd, le, mo, words, tt, ro, mu, fx, df, we⟩ (.slice va vn vc) (p + 1) w3) := FV.out.step (FV.out.rd.below hbb) (Tch.below hbb)
    clear hW hbb hbx
    generalize w2.heap.size = γ at *
    refine (pick_any ρ _ bs 6 _ FV.out.rd (by omega) (by decide) (by decide)).mono ?_
    rintro e w4 ⟨x5, rfl, hx50, hx51, hr, ht⟩
    replace WX := hide (ht.box WX.out (by omega))
    replace ST := hide (ht.box ST.out (by omega))
    replace FV : Hid (Fw w ρ bs w.heap.size K ⟨nm, kd, le, mo, words, tt, ro, mu, fx, df, we⟩ (.slice va vn vc) (p + 2) w4) := FV.out.step hr ht
    clear hr ht
    obtain ⟨n5, rfl⟩ := Int.eq_ofNat_of_zero_le hx50
    obtain ⟨y, hy, hy0, hy1⟩ : ∃ y : Int, w4.cell? ⟨γ, n5, none⟩ = some (.int .i64 y) ∧ -1 ≤ y ∧ y ≤ 1000001 := by
      have h3 : n5 = 0 ∨ n5 = 1 ∨ n5 = 2 ∨ n5 = 3 ∨ n5 = 4 ∨ n5 = 5 := by omega
      rcases h3 with rfl | rfl | rfl | rfl | rfl | rfl
      · exact ⟨_, WX.out.cell 0, by decide, by decide⟩
      · exact ⟨_, WX.out.cell 1, by decide, by decide⟩
      · exact ⟨_, WX.out.cell 2, by decide, by decide⟩
      · exact ⟨_, WX.out.cell 3, by decide, by decide⟩
      · exact ⟨_, WX.out.cell 4, by decide, by decide⟩
      · exact ⟨_, WX.out.cell 5, by decide, by decide⟩
    have hn5 : (n5 : Int) < 6 := hx51
    have c : ∀ i, w4.cell? ⟨w.heap.size, i, none⟩ = #[.string (nm), .int .i64 (kd), .int .i64 (le), .int .i64 (mo), .slice va vn vc, .string (tt), .int .i64 (ro), .bool (mu), .bool (fx), .string (df), .string (we)][i]? := FV.out.box.cell
    have cf := FV.out.box.free
    have cl := FV.out.box.lt
    go_upto_region 23 with fail
    clear c cf cl
    clear hy
    generalize hW : World.setCell w4 ⟨w.heap.size, 3, none⟩ _ = w5
    replace ST : Hid (Box w5 (w.heap.size + 1) #[.string ⟨#[]⟩, .int .i64 0, .int .i64 0, .int .i64 0, .slice none 0 0, .string ⟨#[]⟩, .int .i64 0, .bool false, .bool false, .string ⟨#[]⟩, .string ⟨#[]⟩]) := by unfold Hid; rw [← hW]; exact ⟨by simpa [World.setCell] using ST.out.lt, fun i => (cell_setCell_ne _ _ ⟨w.heap.size + 1, i, none⟩ _ (by show w.heap.size + 1 ≠ w.heap.size; omega)).trans (ST.out.cell i), fun i => by rw [World.frozen?_setCell]; exact ST.out.free i⟩
    replace FV : Hid (Fw w ρ bs w.heap.size K ⟨nm, kd, le, y, words, tt, ro, mu, fx, df, we⟩ (.slice va vn vc) (p + 2) w5) := by unfold Hid; rw [← hW]; exact FV.out.put 3 (by omega) _ rfl (FV.out.ws)
    clear hW
    have HFEW : Hid (FdFew ⟨nm, kd, le, y, words, tt, ro, mu, fx, df, we⟩) := ⟨HF.out.nm, HF.out.tt, HF.out.df, HF.out.we, HF.out.le, ⟨hy0, hy1⟩, HF.out.wn, HF.out.ws⟩
    have c : ∀ i, w5.cell? ⟨w.heap.size, i, none⟩ = #[.string (nm), .int .i64 (kd), .int .i64 (le), .int .i64 (y), .slice va vn vc, .string (tt), .int .i64 (ro), .bool (mu), .bool (fx), .string (df), .string (we)][i]? := FV.out.box.cell
    have cl := FV.out.box.lt
    have r : ∀ i, w5.cell? ⟨w.heap.size + 1, i, none⟩ = #[.string ⟨#[]⟩, .int .i64 0, .int .i64 0, .int .i64 0, .slice none 0 0, .string ⟨#[]⟩, .int .i64 0, .bool false, .bool false, .string ⟨#[]⟩, .string ⟨#[]⟩][i]? := ST.out.cell
    have rf := ST.out.free
    have rl := ST.out.lt
    have HRD := hide FV.out.rd
    have HTT := hide FV.out.t
    have HWS := hide FV.out.ws
    have HKK := hide FV.out.k0
    clear FV ST
    go_wp2
    refine bodyPost_ret (v := .agg (fdL ⟨nm, kd, le, y, words, tt, ro, mu, fx, df, we⟩ (.slice va vn vc)).toArray) (by simp [results, Tryz.results87, go_sem, fdL, r]) rfl ⟨⟨nm, kd, le, y, words, tt, ro, mu, fx, df, we⟩, .slice va vn vc, rfl, ⟨HFEW.out, ?_⟩, ⟨p + 2, by omega, by omega, ?_⟩, ?_⟩
    · refine StrsK.mono (K := K) ?_ (fun k hk => ?_)
      · repeat (refine StrsK.sets ?_ (fun k hk => (HKK.out k hk).2.2.2) _)
        exact HWS.out
      · exact Or.inl hk
    · repeat (refine Rd.other ?_ (by omega) _)
      exact HRD.out
    · repeat (refine Tch.other ?_ (by omega) _)
      exact HTT.out
  ·
    have c : ∀ i, w2.cell? ⟨w.heap.size, i, none⟩ = #[.string (nm), .int .i64 (kd), .int .i64 (le), .int .i64 (mo), .slice va vn vc, .string (tt), .int .i64 (ro), .bool (mu), .bool (fx), .string (df), .string (we)][i]? := FV.out.box.cell
    have cf := FV.out.box.free
    have cl := FV.out.box.lt
    go_wp2_with fail
    clear c cf cl
    have SV := hide (seven w2 #[] #[.string ⟨#[98]⟩, .string ⟨#[97]⟩] #[.string ⟨#[97]⟩, .string ⟨#[97]⟩] #[.string ⟨#[97]⟩, .string ⟨#[98]⟩, .string ⟨#[99]⟩, .string ⟨#[100]⟩, .string ⟨#[101]⟩, .string ⟨#[102]⟩] #[.string ⟨#[97]⟩, .string ⟨#[98]⟩, .string ⟨#[99]⟩, .string ⟨#[100]⟩, .string ⟨#[101]⟩, .string ⟨#[102]⟩, .string ⟨#[103]⟩] #[.string ⟨#[65]⟩] #[.slice (some ⟨w2.heap.size , 0, none⟩) 0 0, .slice (some ⟨w2.heap.size + 1, 0, none⟩) 2 2, .slice (some ⟨w2.heap.size + 1 + 1, 0, none⟩) 2 2, .slice (some ⟨w2.heap.size + 1 + 1 + 1, 0, none⟩) 6 6, .slice (some ⟨w2.heap.size + 1 + 1 + 1 + 1, 0, none⟩) 7 7, .slice (some ⟨w2.heap.size + 1 + 1 + 1 + 1 + 1, 0, none⟩) 1 1] 9 25)
    generalize hW7 : World.alloc _ _ = W7 at *
    have hgb : w.heap.size + 1 < w2.heap.size := ST.out.lt
    replace ST := hide (ST.out.on SV.out.al)
    replace FV : Hid (Fw w ρ bs w.heap.size K ⟨nm, kd, le, mo, words, tt, ro, mu, fx, df, we⟩ (.slice va vn vc) (p + 1) W7) := FV.out.step (FV.out.rd.below SV.out.al) (Tch.below SV.out.al)
    clear hW7
    refine (pick_any ρ _ bs 6 _ FV.out.rd (by omega) (by decide) (by decide)).mono ?_
    rintro e w3 ⟨x5, rfl, hx50, hx51, hr, ht⟩
    have ht5 := ht
    replace ST := hide (ht.box ST.out (by omega))
    replace FV : Hid (Fw w ρ bs w.heap.size K ⟨nm, kd, le, mo, words, tt, ro, mu, fx, df, we⟩ (.slice va vn vc) (p + 2) w3) := FV.out.step hr ht
    clear hr ht
    obtain ⟨n5, rfl⟩ := Int.eq_ofNat_of_zero_le hx50
    obtain ⟨sa, sn, sc, L5, hy, hL5, hL6, hL7⟩ : ∃ (sa : Option Addr) (sn sc : Nat) (L5 : List ByteArray), w3.cell? ⟨w2.heap.size + 1 + 1 + 1 + 1 + 1 + 1, n5, none⟩ = some (.slice sa sn sc) ∧ StrsIn (w.heap.size + 2) w3 (.slice sa sn sc) L5 ∧ L5.length ≤ 10 ∧ ∀ s ∈ L5, s.size ≤ 1000 := by
      have b6 := ht5.box SV.out.b6 (by omega)
      have h3 : n5 = 0 ∨ n5 = 1 ∨ n5 = 2 ∨ n5 = 3 ∨ n5 = 4 ∨ n5 = 5 := by omega
      rcases h3 with rfl | rfl | rfl | rfl | rfl | rfl
      · exact ⟨_, _, _, [], b6.cell 0, box_strs [] 0 (ht5.box SV.out.b0 (by omega)) rfl (by omega) rfl (by omega) (by decide), by decide, by decide⟩
      · exact ⟨_, _, _, [⟨#[98]⟩, ⟨#[97]⟩], b6.cell 1, box_strs [⟨#[98]⟩, ⟨#[97]⟩] 2 (ht5.box SV.out.b1 (by omega)) rfl (by omega) rfl (by omega) (by decide), by decide, by decide⟩
      · exact ⟨_, _, _, [⟨#[97]⟩, ⟨#[97]⟩], b6.cell 2, box_strs [⟨#[97]⟩, ⟨#[97]⟩] 2 (ht5.box SV.out.b2 (by omega)) rfl (by omega) rfl (by omega) (by decide), by decide, by decide⟩
      · exact ⟨_, _, _, [⟨#[97]⟩, ⟨#[98]⟩, ⟨#[99]⟩, ⟨#[100]⟩, ⟨#[101]⟩, ⟨#[102]⟩], b6.cell 3, box_strs [⟨#[97]⟩, ⟨#[98]⟩, ⟨#[99]⟩, ⟨#[100]⟩, ⟨#[101]⟩, ⟨#[102]⟩] 6 (ht5.box SV.out.b3 (by omega)) rfl (by omega) rfl (by omega) (by decide), by decide, by decide⟩
      · exact ⟨_, _, _, [⟨#[97]⟩, ⟨#[98]⟩, ⟨#[99]⟩, ⟨#[100]⟩, ⟨#[101]⟩, ⟨#[102]⟩, ⟨#[103]⟩], b6.cell 4, box_strs [⟨#[97]⟩, ⟨#[98]⟩, ⟨#[99]⟩, ⟨#[100]⟩, ⟨#[101]⟩, ⟨#[102]⟩, ⟨#[103]⟩] 7 (ht5.box SV.out.b4 (by omega)) rfl (by omega) rfl (by omega) (by decide), by decide, by decide⟩
      · exact ⟨_, _, _, [⟨#[65]⟩], b6.cell 5, box_strs [⟨#[65]⟩] 1 (ht5.box SV.out.b5 (by omega)) rfl (by omega) rfl (by omega) (by decide), by decide, by decide⟩
    have hn5 : (n5 : Int) < 6 := hx51
    have HL5 := hide hL5.toK
    have HL6 := hide hL6
    have HL7 := hide hL7
    have hWz : W7.heap.size ≤ w3.heap.size := ht5.size
    clear ht5 hL5 hL6 hL7 SV
    replace FV : Hid (Fw w ρ bs w.heap.size (fun k => K k ∨ (w.heap.size + 2 ≤ k ∧ k < w3.heap.size)) ⟨nm, kd, le, mo, words, tt, ro, mu, fx, df, we⟩ (.slice va vn vc) (p + 2) w3) := ⟨FV.out.rd, FV.out.box, FV.out.t, FV.out.ne, FV.out.nw, FV.out.ws.mono fun k hk => Or.inl hk, fun k hk => by
      rcases hk with hk | hk
      · exact FV.out.k0 k hk
      · exact ⟨hk.2, by omega, by omega, by omega⟩⟩
    have c : ∀ i, w3.cell? ⟨w.heap.size, i, none⟩ = #[.string (nm), .int .i64 (kd), .int .i64 (le), .int .i64 (mo), .slice va vn vc, .string (tt), .int .i64 (ro), .bool (mu), .bool (fx), .string (df), .string (we)][i]? := FV.out.box.cell
    have cf := FV.out.box.free
    have cl := FV.out.box.lt
    go_upto_region 23 with fail
    clear c cf cl
    clear hy
    generalize hW : World.setCell w3 ⟨w.heap.size, 4, none⟩ _ = w4
    replace ST : Hid (Box w4 (w.heap.size + 1) #[.string ⟨#[]⟩, .int .i64 0, .int .i64 0, .int .i64 0, .slice none 0 0, .string ⟨#[]⟩, .int .i64 0, .bool false, .bool false, .string ⟨#[]⟩, .string ⟨#[]⟩]) := by unfold Hid; rw [← hW]; exact ⟨by simpa [World.setCell] using ST.out.lt, fun i => (cell_setCell_ne _ _ ⟨w.heap.size + 1, i, none⟩ _ (by show w.heap.size + 1 ≠ w.heap.size; omega)).trans (ST.out.cell i), fun i => by rw [World.frozen?_setCell]; exact ST.out.free i⟩
    replace FV : Hid (Fw w ρ bs w.heap.size (fun k => K k ∨ (w.heap.size + 2 ≤ k ∧ k < w3.heap.size)) ⟨nm, kd, le, mo, L5, tt, ro, mu, fx, df, we⟩ (.slice sa sn sc) (p + 2) w4) := by unfold Hid; rw [← hW]; exact FV.out.put 4 (by omega) _ rfl (HL5.out.mono fun k hk => Or.inr hk)
    have hzW : w3.heap.size ≤ w4.heap.size := by rw [← hW]; simp [World.setCell]
    clear hW
    have HFEW : Hid (FdFew ⟨nm, kd, le, mo, L5, tt, ro, mu, fx, df, we⟩) := ⟨HF.out.nm, HF.out.tt, HF.out.df, HF.out.we, HF.out.le, HF.out.mo, HL6.out, HL7.out⟩
    have c : ∀ i, w4.cell? ⟨w.heap.size, i, none⟩ = #[.string (nm), .int .i64 (kd), .int .i64 (le), .int .i64 (mo), .slice sa sn sc, .string (tt), .int .i64 (ro), .bool (mu), .bool (fx), .string (df), .string (we)][i]? := FV.out.box.cell
    have cl := FV.out.box.lt
    have r : ∀ i, w4.cell? ⟨w.heap.size + 1, i, none⟩ = #[.string ⟨#[]⟩, .int .i64 0, .int .i64 0, .int .i64 0, .slice none 0 0, .string ⟨#[]⟩, .int .i64 0, .bool false, .bool false, .string ⟨#[]⟩, .string ⟨#[]⟩][i]? := ST.out.cell
    have rf := ST.out.free
    have rl := ST.out.lt
    have HRD := hide FV.out.rd
    have HTT := hide FV.out.t
    have HWS := hide FV.out.ws
    have HKK := hide FV.out.k0
    clear FV ST
    go_wp2
    refine bodyPost_ret (v := .agg (fdL ⟨nm, kd, le, mo, L5, tt, ro, mu, fx, df, we⟩ (.slice sa sn sc)).toArray) (by simp [results, Tryz.results87, go_sem, fdL, r]) rfl ⟨⟨nm, kd, le, mo, L5, tt, ro, mu, fx, df, we⟩, .slice sa sn sc, rfl, ⟨HFEW.out, ?_⟩, ⟨p + 2, by omega, by omega, ?_⟩, ?_⟩
    · refine StrsK.mono (K := (fun k => K k ∨ (w.heap.size + 2 ≤ k ∧ k < w3.heap.size))) ?_ (fun k hk => ?_)
      · repeat (refine StrsK.sets ?_ (fun k hk => (HKK.out k hk).2.2.2) _)
        exact HWS.out
      · rcases hk with hk | hk
        · exact Or.inl hk
        · exact Or.inr ⟨by omega, by simp [World.setCell]; omega⟩
    · repeat (refine Rd.other ?_ (by omega) _)
      exact HRD.out
    · repeat (refine Tch.other ?_ (by omega) _)
      exact HTT.out
  ·
    have c : ∀ i, w2.cell? ⟨w.heap.size, i, none⟩ = #[.string (nm), .int .i64 (kd), .int .i64 (le), .int .i64 (mo), .slice va vn vc, .string (tt), .int .i64 (ro), .bool (mu), .bool (fx), .string (df), .string (we)][i]? := FV.out.box.cell
    have cf := FV.out.box.free
    have cl := FV.out.box.lt
    go_wp2_with fail
    clear c cf cl
    refine (ofBuilt_any ρ _ bs _ _ 3 w2 FV.out.rd (by omega) (by decide) rfl (by decide) (by decide)).mono ?_
    rintro e w3 ⟨s5, rfl, hs5, hr, ht⟩
    have HS5 := hide hs5
    replace ST := hide (ht.box ST.out (by omega))
    replace FV : Hid (Fw w ρ bs w.heap.size K ⟨nm, kd, le, mo, words, tt, ro, mu, fx, df, we⟩ (.slice va vn vc) (p + 2) w3) := FV.out.step hr ht
    clear hr ht hs5
    have c : ∀ i, w3.cell? ⟨w.heap.size, i, none⟩ = #[.string (nm), .int .i64 (kd), .int .i64 (le), .int .i64 (mo), .slice va vn vc, .string (tt), .int .i64 (ro), .bool (mu), .bool (fx), .string (df), .string (we)][i]? := FV.out.box.cell
    have cf := FV.out.box.free
    have cl := FV.out.box.lt
    go_upto_region 23 with fail
    clear c cf cl
    generalize hW : World.setCell w3 ⟨w.heap.size, 5, none⟩ _ = w4
    replace ST : Hid (Box w4 (w.heap.size + 1) #[.string ⟨#[]⟩, .int .i64 0, .int .i64 0, .int .i64 0, .slice none 0 0, .string ⟨#[]⟩, .int .i64 0, .bool false, .bool false, .string ⟨#[]⟩, .string ⟨#[]⟩]) := by unfold Hid; rw [← hW]; exact ⟨by simpa [World.setCell] using ST.out.lt, fun i => (cell_setCell_ne _ _ ⟨w.heap.size + 1, i, none⟩ _ (by show w.heap.size + 1 ≠ w.heap.size; omega)).trans (ST.out.cell i), fun i => by rw [World.frozen?_setCell]; exact ST.out.free i⟩
    replace FV : Hid (Fw w ρ bs w.heap.size K ⟨nm, kd, le, mo, words, s5, ro, mu, fx, df, we⟩ (.slice va vn vc) (p + 2) w4) := by unfold Hid; rw [← hW]; exact FV.out.put 5 (by omega) _ rfl (FV.out.ws)
    clear hW
    have HFEW : Hid (FdFew ⟨nm, kd, le, mo, words, s5, ro, mu, fx, df, we⟩) := ⟨HF.out.nm, HS5.out, HF.out.df, HF.out.we, HF.out.le, HF.out.mo, HF.out.wn, HF.out.ws⟩
    have c : ∀ i, w4.cell? ⟨w.heap.size, i, none⟩ = #[.string (nm), .int .i64 (kd), .int .i64 (le), .int .i64 (mo), .slice va vn vc, .string (s5), .int .i64 (ro), .bool (mu), .bool (fx), .string (df), .string (we)][i]? := FV.out.box.cell
    have cl := FV.out.box.lt
    have r : ∀ i, w4.cell? ⟨w.heap.size + 1, i, none⟩ = #[.string ⟨#[]⟩, .int .i64 0, .int .i64 0, .int .i64 0, .slice none 0 0, .string ⟨#[]⟩, .int .i64 0, .bool false, .bool false, .string ⟨#[]⟩, .string ⟨#[]⟩][i]? := ST.out.cell
    have rf := ST.out.free
    have rl := ST.out.lt
    have HRD := hide FV.out.rd
    have HTT := hide FV.out.t
    have HWS := hide FV.out.ws
    have HKK := hide FV.out.k0
    clear FV ST
    go_wp2
    refine bodyPost_ret (v := .agg (fdL ⟨nm, kd, le, mo, words, s5, ro, mu, fx, df, we⟩ (.slice va vn vc)).toArray) (by simp [results, Tryz.results87, go_sem, fdL, r]) rfl ⟨⟨nm, kd, le, mo, words, s5, ro, mu, fx, df, we⟩, .slice va vn vc, rfl, ⟨HFEW.out, ?_⟩, ⟨p + 2, by omega, by omega, ?_⟩, ?_⟩
    · refine StrsK.mono (K := K) ?_ (fun k hk => ?_)
      · repeat (refine StrsK.sets ?_ (fun k hk => (HKK.out k hk).2.2.2) _)
        exact HWS.out
      · exact Or.inl hk
    · repeat (refine Rd.other ?_ (by omega) _)
      exact HRD.out
    · repeat (refine Tch.other ?_ (by omega) _)
      exact HTT.out
  ·
    have c : ∀ i, w2.cell? ⟨w.heap.size, i, none⟩ = #[.string (nm), .int .i64 (kd), .int .i64 (le), .int .i64 (mo), .slice va vn vc, .string (tt), .int .i64 (ro), .bool (mu), .bool (fx), .string (df), .string (we)][i]? := FV.out.box.cell
    have cf := FV.out.box.free
    have cl := FV.out.box.lt
    go_wp2_with fail
    clear c cf cl
    refine (pick_any ρ _ bs 6 _ FV.out.rd (by omega) (by decide) (by decide)).mono ?_
    rintro e w3 ⟨x5, rfl, hx50, hx51, hr, ht⟩
    replace ST := hide (ht.box ST.out (by omega))
    replace FV : Hid (Fw w ρ bs w.heap.size K ⟨nm, kd, le, mo, words, tt, ro, mu, fx, df, we⟩ (.slice va vn vc) (p + 2) w3) := FV.out.step hr ht
    clear hr ht
    have hw5 : wrap64 (x5 - 1) = x5 - 1 := by unfold wrap64; omega
    have c : ∀ i, w3.cell? ⟨w.heap.size, i, none⟩ = #[.string (nm), .int .i64 (kd), .int .i64 (le), .int .i64 (mo), .slice va vn vc, .string (tt), .int .i64 (ro), .bool (mu), .bool (fx), .string (df), .string (we)][i]? := FV.out.box.cell
    have cf := FV.out.box.free
    have cl := FV.out.box.lt
    go_upto_region 23 with fail
    clear c cf cl
    generalize hW : World.setCell w3 ⟨w.heap.size, 6, none⟩ _ = w4
    replace ST : Hid (Box w4 (w.heap.size + 1) #[.string ⟨#[]⟩, .int .i64 0, .int .i64 0, .int .i64 0, .slice none 0 0, .string ⟨#[]⟩, .int .i64 0, .bool false, .bool false, .string ⟨#[]⟩, .string ⟨#[]⟩]) := by unfold Hid; rw [← hW]; exact ⟨by simpa [World.setCell] using ST.out.lt, fun i => (cell_setCell_ne _ _ ⟨w.heap.size + 1, i, none⟩ _ (by show w.heap.size + 1 ≠ w.heap.size; omega)).trans (ST.out.cell i), fun i => by rw [World.frozen?_setCell]; exact ST.out.free i⟩
    replace FV : Hid (Fw w ρ bs w.heap.size K ⟨nm, kd, le, mo, words, tt, x5 - 1, mu, fx, df, we⟩ (.slice va vn vc) (p + 2) w4) := by unfold Hid; rw [← hW]; exact FV.out.put 6 (by omega) _ rfl (FV.out.ws)
    clear hW
    have HFEW : Hid (FdFew ⟨nm, kd, le, mo, words, tt, x5 - 1, mu, fx, df, we⟩) := ⟨HF.out.nm, HF.out.tt, HF.out.df, HF.out.we, HF.out.le, HF.out.mo, HF.out.wn, HF.out.ws⟩
    have c : ∀ i, w4.cell? ⟨w.heap.size, i, none⟩ = #[.string (nm), .int .i64 (kd), .int .i64 (le), .int .i64 (mo), .slice va vn vc, .string (tt), .int .i64 (x5 - 1), .bool (mu), .bool (fx), .string (df), .string (we)][i]? := FV.out.box.cell
    have cl := FV.out.box.lt
    have r : ∀ i, w4.cell? ⟨w.heap.size + 1, i, none⟩ = #[.string ⟨#[]⟩, .int .i64 0, .int .i64 0, .int .i64 0, .slice none 0 0, .string ⟨#[]⟩, .int .i64 0, .bool false, .bool false, .string ⟨#[]⟩, .string ⟨#[]⟩][i]? := ST.out.cell
    have rf := ST.out.free
    have rl := ST.out.lt
    have HRD := hide FV.out.rd
    have HTT := hide FV.out.t
    have HWS := hide FV.out.ws
    have HKK := hide FV.out.k0
    clear FV ST
    go_wp2
    refine bodyPost_ret (v := .agg (fdL ⟨nm, kd, le, mo, words, tt, x5 - 1, mu, fx, df, we⟩ (.slice va vn vc)).toArray) (by simp [results, Tryz.results87, go_sem, fdL, r]) rfl ⟨⟨nm, kd, le, mo, words, tt, x5 - 1, mu, fx, df, we⟩, .slice va vn vc, rfl, ⟨HFEW.out, ?_⟩, ⟨p + 2, by omega, by omega, ?_⟩, ?_⟩
    · refine StrsK.mono (K := K) ?_ (fun k hk => ?_)
      · repeat (refine StrsK.sets ?_ (fun k hk => (HKK.out k hk).2.2.2) _)
        exact HWS.out
      · exact Or.inl hk
    · repeat (refine Rd.other ?_ (by omega) _)
      exact HRD.out
    · repeat (refine Tch.other ?_ (by omega) _)
      exact HTT.out
  ·
    have c : ∀ i, w2.cell? ⟨w.heap.size, i, none⟩ = #[.string (nm), .int .i64 (kd), .int .i64 (le), .int .i64 (mo), .slice va vn vc, .string (tt), .int .i64 (ro), .bool (mu), .bool (fx), .string (df), .string (we)][i]? := FV.out.box.cell
    have cf := FV.out.box.free
    have cl := FV.out.box.lt
    go_wp2_with fail
    clear c cf cl
    refine (l1Odd_any ρ _ bs _ FV.out.rd (by omega)).mono ?_
    rintro e w3 ⟨s5, rfl, hs5, hr, ht⟩
    have HS5 := hide hs5
    replace ST := hide (ht.box ST.out (by omega))
    replace FV : Hid (Fw w ρ bs w.heap.size K ⟨nm, kd, le, mo, words, tt, ro, mu, fx, df, we⟩ (.slice va vn vc) (p + 4) w3) := FV.out.step hr ht
    clear hr ht hs5
    have c : ∀ i, w3.cell? ⟨w.heap.size, i, none⟩ = #[.string (nm), .int .i64 (kd), .int .i64 (le), .int .i64 (mo), .slice va vn vc, .string (tt), .int .i64 (ro), .bool (mu), .bool (fx), .string (df), .string (we)][i]? := FV.out.box.cell
    have cf := FV.out.box.free
    have cl := FV.out.box.lt
    go_upto_region 23 with fail
    clear c cf cl
    generalize hW : World.setCell w3 ⟨w.heap.size, 9, none⟩ _ = w4
    replace ST : Hid (Box w4 (w.heap.size + 1) #[.string ⟨#[]⟩, .int .i64 0, .int .i64 0, .int .i64 0, .slice none 0 0, .string ⟨#[]⟩, .int .i64 0, .bool false, .bool false, .string ⟨#[]⟩, .string ⟨#[]⟩]) := by unfold Hid; rw [← hW]; exact ⟨by simpa [World.setCell] using ST.out.lt, fun i => (cell_setCell_ne _ _ ⟨w.heap.size + 1, i, none⟩ _ (by show w.heap.size + 1 ≠ w.heap.size; omega)).trans (ST.out.cell i), fun i => by rw [World.frozen?_setCell]; exact ST.out.free i⟩
    replace FV : Hid (Fw w ρ bs w.heap.size K ⟨nm, kd, le, mo, words, tt, ro, mu, fx, s5, we⟩ (.slice va vn vc) (p + 4) w4) := by unfold Hid; rw [← hW]; exact FV.out.put 9 (by omega) _ rfl (FV.out.ws)
    clear hW
    have HFEW : Hid (FdFew ⟨nm, kd, le, mo, words, tt, ro, mu, fx, s5, we⟩) := ⟨HF.out.nm, HF.out.tt, HS5.out, HF.out.we, HF.out.le, HF.out.mo, HF.out.wn, HF.out.ws⟩
    have c : ∀ i, w4.cell? ⟨w.heap.size, i, none⟩ = #[.string (nm), .int .i64 (kd), .int .i64 (le), .int .i64 (mo), .slice va vn vc, .string (tt), .int .i64 (ro), .bool (mu), .bool (fx), .string (s5), .string (we)][i]? := FV.out.box.cell
    have cl := FV.out.box.lt
    have r : ∀ i, w4.cell? ⟨w.heap.size + 1, i, none⟩ = #[.string ⟨#[]⟩, .int .i64 0, .int .i64 0, .int .i64 0, .slice none 0 0, .string ⟨#[]⟩, .int .i64 0, .bool false, .bool false, .string ⟨#[]⟩, .string ⟨#[]⟩][i]? := ST.out.cell
    have rf := ST.out.free
    have rl := ST.out.lt
    have HRD := hide FV.out.rd
    have HTT := hide FV.out.t
    have HWS := hide FV.out.ws
    have HKK := hide FV.out.k0
    clear FV ST
    go_wp2
    refine bodyPost_ret (v := .agg (fdL ⟨nm, kd, le, mo, words, tt, ro, mu, fx, s5, we⟩ (.slice va vn vc)).toArray) (by simp [results, Tryz.results87, go_sem, fdL, r]) rfl ⟨⟨nm, kd, le, mo, words, tt, ro, mu, fx, s5, we⟩, .slice va vn vc, rfl, ⟨HFEW.out, ?_⟩, ⟨p + 4, by omega, by omega, ?_⟩, ?_⟩
    · refine StrsK.mono (K := K) ?_ (fun k hk => ?_)
      · repeat (refine StrsK.sets ?_ (fun k hk => (HKK.out k hk).2.2.2) _)
        exact HWS.out
      · exact Or.inl hk
    · repeat (refine Rd.other ?_ (by omega) _)
      exact HRD.out
    · repeat (refine Tch.other ?_ (by omega) _)
      exact HTT.out
  ·
    have c : ∀ i, w2.cell? ⟨w.heap.size, i, none⟩ = #[.string (nm), .int .i64 (kd), .int .i64 (le), .int .i64 (mo), .slice va vn vc, .string (tt), .int .i64 (ro), .bool (mu), .bool (fx), .string (df), .string (we)][i]? := FV.out.box.cell
    have cf := FV.out.box.free
    have cl := FV.out.box.lt
    go_wp2_with fail
    clear c cf cl
    refine (ofBuilt_any ρ _ bs _ _ 3 w2 FV.out.rd (by omega) (by decide) rfl (by decide) (by decide)).mono ?_
    rintro e w3 ⟨s5, rfl, hs5, hr, ht⟩
    have HS5 := hide hs5
    replace ST := hide (ht.box ST.out (by omega))
    replace FV : Hid (Fw w ρ bs w.heap.size K ⟨nm, kd, le, mo, words, tt, ro, mu, fx, df, we⟩ (.slice va vn vc) (p + 2) w3) := FV.out.step hr ht
    clear hr ht hs5
    have c : ∀ i, w3.cell? ⟨w.heap.size, i, none⟩ = #[.string (nm), .int .i64 (kd), .int .i64 (le), .int .i64 (mo), .slice va vn vc, .string (tt), .int .i64 (ro), .bool (mu), .bool (fx), .string (df), .string (we)][i]? := FV.out.box.cell
    have cf := FV.out.box.free
    have cl := FV.out.box.lt
    go_upto_region 23 with fail
    clear c cf cl
    generalize hW : World.setCell w3 ⟨w.heap.size, 10, none⟩ _ = w4
    replace ST : Hid (Box w4 (w.heap.size + 1) #[.string ⟨#[]⟩, .int .i64 0, .int .i64 0, .int .i64 0, .slice none 0 0, .string ⟨#[]⟩, .int .i64 0, .bool false, .bool false, .string ⟨#[]⟩, .string ⟨#[]⟩]) := by unfold Hid; rw [← hW]; exact ⟨by simpa [World.setCell] using ST.out.lt, fun i => (cell_setCell_ne _ _ ⟨w.heap.size + 1, i, none⟩ _ (by show w.heap.size + 1 ≠ w.heap.size; omega)).trans (ST.out.cell i), fun i => by rw [World.frozen?_setCell]; exact ST.out.free i⟩
    replace FV : Hid (Fw w ρ bs w.heap.size K ⟨nm, kd, le, mo, words, tt, ro, mu, fx, df, s5⟩ (.slice va vn vc) (p + 2) w4) := by unfold Hid; rw [← hW]; exact FV.out.put 10 (by omega) _ rfl (FV.out.ws)
    clear hW
    have HFEW : Hid (FdFew ⟨nm, kd, le, mo, words, tt, ro, mu, fx, df, s5⟩) := ⟨HF.out.nm, HF.out.tt, HF.out.df, HS5.out, HF.out.le, HF.out.mo, HF.out.wn, HF.out.ws⟩
    have c : ∀ i, w4.cell? ⟨w.heap.size, i, none⟩ = #[.string (nm), .int .i64 (kd), .int .i64 (le), .int .i64 (mo), .slice va vn vc, .string (tt), .int .i64 (ro), .bool (mu), .bool (fx), .string (df), .string (s5)][i]? := FV.out.box.cell
    have cl := FV.out.box.lt
    have r : ∀ i, w4.cell? ⟨w.heap.size + 1, i, none⟩ = #[.string ⟨#[]⟩, .int .i64 0, .int .i64 0, .int .i64 0, .slice none 0 0, .string ⟨#[]⟩, .int .i64 0, .bool false, .bool false, .string ⟨#[]⟩, .string ⟨#[]⟩][i]? := ST.out.cell
    have rf := ST.out.free
    have rl := ST.out.lt
    have HRD := hide FV.out.rd
    have HTT := hide FV.out.t
    have HWS := hide FV.out.ws
    have HKK := hide FV.out.k0
    clear FV ST
    go_wp2
    refine bodyPost_ret (v := .agg (fdL ⟨nm, kd, le, mo, words, tt, ro, mu, fx, df, s5⟩ (.slice va vn vc)).toArray) (by simp [results, Tryz.results87, go_sem, fdL, r]) rfl ⟨⟨nm, kd, le, mo, words, tt, ro, mu, fx, df, s5⟩, .slice va vn vc, rfl, ⟨HFEW.out, ?_⟩, ⟨p + 2, by omega, by omega, ?_⟩, ?_⟩
    · refine StrsK.mono (K := K) ?_ (fun k hk => ?_)
      · repeat (refine StrsK.sets ?_ (fun k hk => (HKK.out k hk).2.2.2) _)
        exact HWS.out
      · exact Or.inl hk
    · repeat (refine Rd.other ?_ (by omega) _)
      exact HRD.out
    · repeat (refine Tch.other ?_ (by omega) _)
      exact HTT.out
  ·
    have c : ∀ i, w2.cell? ⟨w.heap.size, i, none⟩ = #[.string (nm), .int .i64 (kd), .int .i64 (le), .int .i64 (mo), .slice va vn vc, .string (tt), .int .i64 (ro), .bool (mu), .bool (fx), .string (df), .string (we)][i]? := FV.out.box.cell
    have cf := FV.out.box.free
    have cl := FV.out.box.lt
    go_upto_region 23 with fail
    clear c cf cl
    generalize hW : World.setCell w2 ⟨w.heap.size, 7, none⟩ _ = w3
    replace ST : Hid (Box w3 (w.heap.size + 1) #[.string ⟨#[]⟩, .int .i64 0, .int .i64 0, .int .i64 0, .slice none 0 0, .string ⟨#[]⟩, .int .i64 0, .bool false, .bool false, .string ⟨#[]⟩, .string ⟨#[]⟩]) := by unfold Hid; rw [← hW]; exact ⟨by simpa [World.setCell] using ST.out.lt, fun i => (cell_setCell_ne _ _ ⟨w.heap.size + 1, i, none⟩ _ (by show w.heap.size + 1 ≠ w.heap.size; omega)).trans (ST.out.cell i), fun i => by rw [World.frozen?_setCell]; exact ST.out.free i⟩
    replace FV : Hid (Fw w ρ bs w.heap.size K ⟨nm, kd, le, mo, words, tt, ro, !mu, fx, df, we⟩ (.slice va vn vc) (p + 1) w3) := by unfold Hid; rw [← hW]; exact FV.out.put 7 (by omega) _ rfl (FV.out.ws)
    clear hW
    have HFEW : Hid (FdFew ⟨nm, kd, le, mo, words, tt, ro, !mu, fx, df, we⟩) := ⟨HF.out.nm, HF.out.tt, HF.out.df, HF.out.we, HF.out.le, HF.out.mo, HF.out.wn, HF.out.ws⟩
    have c : ∀ i, w3.cell? ⟨w.heap.size, i, none⟩ = #[.string (nm), .int .i64 (kd), .int .i64 (le), .int .i64 (mo), .slice va vn vc, .string (tt), .int .i64 (ro), .bool (!mu), .bool (fx), .string (df), .string (we)][i]? := FV.out.box.cell
    have cl := FV.out.box.lt
    have r : ∀ i, w3.cell? ⟨w.heap.size + 1, i, none⟩ = #[.string ⟨#[]⟩, .int .i64 0, .int .i64 0, .int .i64 0, .slice none 0 0, .string ⟨#[]⟩, .int .i64 0, .bool false, .bool false, .string ⟨#[]⟩, .string ⟨#[]⟩][i]? := ST.out.cell
    have rf := ST.out.free
    have rl := ST.out.lt
    have HRD := hide FV.out.rd
    have HTT := hide FV.out.t
    have HWS := hide FV.out.ws
    have HKK := hide FV.out.k0
    clear FV ST
    go_wp2
    refine bodyPost_ret (v := .agg (fdL ⟨nm, kd, le, mo, words, tt, ro, !mu, fx, df, we⟩ (.slice va vn vc)).toArray) (by simp [results, Tryz.results87, go_sem, fdL, r]) rfl ⟨⟨nm, kd, le, mo, words, tt, ro, !mu, fx, df, we⟩, .slice va vn vc, rfl, ⟨HFEW.out, ?_⟩, ⟨p + 1, by omega, by omega, ?_⟩, ?_⟩
    · refine StrsK.mono (K := K) ?_ (fun k hk => ?_)
      · repeat (refine StrsK.sets ?_ (fun k hk => (HKK.out k hk).2.2.2) _)
        exact HWS.out
      · exact Or.inl hk
    · repeat (refine Rd.other ?_ (by omega) _)
      exact HRD.out
    · repeat (refine Tch.other ?_ (by omega) _)
      exact HTT.out
  ·
    have c : ∀ i, w2.cell? ⟨w.heap.size, i, none⟩ = #[.string (nm), .int .i64 (kd), .int .i64 (le), .int .i64 (mo), .slice va vn vc, .string (tt), .int .i64 (ro), .bool (mu), .bool (fx), .string (df), .string (we)][i]? := FV.out.box.cell
    have cf := FV.out.box.free
    have cl := FV.out.box.lt
    go_upto_region 2 with fail
    clear c cf cl
    have HC3 : Hid (w2.cell? ⟨w.heap.size, 3, none⟩ = some (.int .i64 mo)) := FV.out.box.cell 3
    refine wp_region_held_drew (S := fun W => W.cell? ⟨w.heap.size, 3, none⟩ = some (.int .i64 mo)) (by kernel_rfl) HC3.out (fun hHeld => ?_)
    refine wpAnyH_take (i := 0) (v := .pointer (some ⟨w.heap.size, 3, none⟩)) rfl (by kernel_rfl) (by kernel_rfl) (by kernel_rfl) (fun _ _ _ h => h) (Or.inl ⟨by rfl, fun W hW => by go_simp⟩) hHeld ?_
    try simp only [Act.put, List.getElem_toArray, List.getElem_cons_zero, List.setIfInBounds_toArray, List.set_cons_zero, List.set_cons_succ]
    refine wpAnyH_take (i := 1) (v := .int .i64 mo) rfl (by kernel_rfl) (by kernel_rfl) (by kernel_rfl) (fun _ _ _ h => h) (Or.inl ⟨by rfl, fun W hW => by go_simp⟩) hHeld ?_
    try simp only [Act.put, List.getElem_toArray, List.getElem_cons_succ, List.getElem_cons_zero, List.setIfInBounds_toArray, List.set_cons_zero, List.set_cons_succ]
    refine wpAnyH_take (i := 2) (v := .pointer (some ⟨ρ, 0, none⟩)) rfl (by kernel_rfl) (by kernel_rfl) (by kernel_rfl) (fun _ _ _ h => h) (Or.inl ⟨by rfl, fun W hW => by go_simp⟩) hHeld ?_
    try simp only [Act.put, List.getElem_toArray, List.getElem_cons_succ, List.getElem_cons_zero, List.setIfInBounds_toArray, List.set_cons_zero, List.set_cons_succ]
    refine wpAnyH_ready (rs := [3]) (by kernel_rfl) (by simp) ?_
    refine AllReadyH.cons rfl (fun KK hK => ?_) AllReadyH.nil
    go_simp
    have hbd : Below w2.heap.size w2 w2.drew := (Below.refl _ _).drew
    replace ST := hide (ST.out.on hbd)
    replace FV : Hid (Fw w ρ bs w.heap.size K ⟨nm, kd, le, mo, words, tt, ro, mu, fx, df, we⟩ (.slice va vn vc) (p + 1) w2.drew) := FV.out.step (FV.out.rd.below hbd) (Tch.below hbd)
    clear hbd
    refine (pick_any ρ _ bs 2 _ FV.out.rd (by omega) (by decide) (by decide)).mono ?_
    rintro e w3 ⟨x6, rfl, hx60, hx61, hr, ht⟩
    replace ST := hide (ht.box ST.out (by omega))
    replace FV : Hid (Fw w ρ bs w.heap.size K ⟨nm, kd, le, mo, words, tt, ro, mu, fx, df, we⟩ (.slice va vn vc) (p + 2) w3) := FV.out.step hr ht
    clear hr ht
    have hmo := HF.out.mo
    simp only [] at hmo
    have hw6 : IntKind.i64.wrap (mo + x6) = mo + x6 := by rw [IntKind.wrap_i64]; omega
    try go_wp2_with fail
    refine hK.out _ _ (FV.out.box.cell 3) (fun hHeld => ?_)
    clear hK KK HC3
    try simp only [Act.put, List.getElem_toArray, List.getElem_cons_succ, List.getElem_cons_zero, List.setIfInBounds_toArray, List.set_cons_zero, List.set_cons_succ]
    refine wpAnyH_take (i := 4) (v := .int .i64 (mo + x6)) rfl (by kernel_rfl) (by kernel_rfl) (by kernel_rfl) (fun _ _ _ h => h) (Or.inl ⟨by rfl, fun W hW => by go_simp⟩) hHeld ?_
    try simp only [Act.put, List.getElem_toArray, List.getElem_cons_succ, List.getElem_cons_zero, List.setIfInBounds_toArray, List.set_cons_zero, List.set_cons_succ]
    refine wpAnyH_take (i := 5) (v := .pointer (some ⟨w.heap.size, 2, none⟩)) rfl (by kernel_rfl) (by kernel_rfl) (by kernel_rfl) (fun _ _ _ h => h) (Or.inl ⟨by rfl, fun W hW => by go_simp⟩) hHeld ?_
    try simp only [Act.put, List.getElem_toArray, List.getElem_cons_succ, List.getElem_cons_zero, List.setIfInBounds_toArray, List.set_cons_zero, List.set_cons_succ]
    have c : ∀ i, w3.cell? ⟨w.heap.size, i, none⟩ = #[.string (nm), .int .i64 (kd), .int .i64 (le), .int .i64 (mo), .slice va vn vc, .string (tt), .int .i64 (ro), .bool (mu), .bool (fx), .string (df), .string (we)][i]? := FV.out.box.cell
    have cf := FV.out.box.free
    have cl := FV.out.box.lt
    refine wpAnyH_ready (rs := [6]) (by kernel_rfl) (by simp) ?_
    refine AllReadyH.cons rfl (fun KK hK => ?_) AllReadyH.nil
    go_simp
    have HC4 : Hid ((w3.setCell ⟨w.heap.size, 2, none⟩ (.int .i64 (mo + x6))).cell? ⟨w.heap.size, 3, none⟩ = some (.int .i64 mo)) := (FV.out.put (f' := ⟨nm, kd, mo + x6, mo, words, tt, ro, mu, fx, df, we⟩) 2 (by omega) _ rfl FV.out.ws).box.cell 3
    refine hK.out _ _ HC4.out (fun hHeld => ?_)
    clear hK KK HC4 hHeld
    try simp only [Act.put, List.getElem_toArray, List.getElem_cons_succ, List.getElem_cons_zero, List.setIfInBounds_toArray, List.set_cons_zero, List.set_cons_succ]
    refine wpAnyH_done (by kernel_rfl) ?_ _
    clear c cf cl
    generalize hW : World.setCell w3 ⟨w.heap.size, 2, none⟩ _ = w4
    replace ST : Hid (Box w4 (w.heap.size + 1) #[.string ⟨#[]⟩, .int .i64 0, .int .i64 0, .int .i64 0, .slice none 0 0, .string ⟨#[]⟩, .int .i64 0, .bool false, .bool false, .string ⟨#[]⟩, .string ⟨#[]⟩]) := by unfold Hid; rw [← hW]; exact ⟨by simpa [World.setCell] using ST.out.lt, fun i => (cell_setCell_ne _ _ ⟨w.heap.size + 1, i, none⟩ _ (by show w.heap.size + 1 ≠ w.heap.size; omega)).trans (ST.out.cell i), fun i => by rw [World.frozen?_setCell]; exact ST.out.free i⟩
    replace FV : Hid (Fw w ρ bs w.heap.size K ⟨nm, kd, mo + x6, mo, words, tt, ro, mu, fx, df, we⟩ (.slice va vn vc) (p + 2) w4) := by unfold Hid; rw [← hW]; exact FV.out.put 2 (by omega) _ rfl (FV.out.ws)
    clear hW
    go_upto_region 23 with fail
    have HFEW : Hid (FdFew ⟨nm, kd, mo + x6, mo, words, tt, ro, mu, fx, df, we⟩) := ⟨HF.out.nm, HF.out.tt, HF.out.df, HF.out.we, by constructor <;> simp only [] <;> omega, HF.out.mo, HF.out.wn, HF.out.ws⟩
    have c : ∀ i, w4.cell? ⟨w.heap.size, i, none⟩ = #[.string (nm), .int .i64 (kd), .int .i64 (mo + x6), .int .i64 (mo), .slice va vn vc, .string (tt), .int .i64 (ro), .bool (mu), .bool (fx), .string (df), .string (we)][i]? := FV.out.box.cell
    have cl := FV.out.box.lt
    have r : ∀ i, w4.cell? ⟨w.heap.size + 1, i, none⟩ = #[.string ⟨#[]⟩, .int .i64 0, .int .i64 0, .int .i64 0, .slice none 0 0, .string ⟨#[]⟩, .int .i64 0, .bool false, .bool false, .string ⟨#[]⟩, .string ⟨#[]⟩][i]? := ST.out.cell
    have rf := ST.out.free
    have rl := ST.out.lt
    have HRD := hide FV.out.rd
    have HTT := hide FV.out.t
    have HWS := hide FV.out.ws
    have HKK := hide FV.out.k0
    clear FV ST
    go_wp2
    refine bodyPost_ret (v := .agg (fdL ⟨nm, kd, mo + x6, mo, words, tt, ro, mu, fx, df, we⟩ (.slice va vn vc)).toArray) (by simp [results, Tryz.results87, go_sem, fdL, r]) rfl ⟨⟨nm, kd, mo + x6, mo, words, tt, ro, mu, fx, df, we⟩, .slice va vn vc, rfl, ⟨HFEW.out, ?_⟩, ⟨p + 2, by omega, by omega, ?_⟩, ?_⟩
    · refine StrsK.mono (K := K) ?_ (fun k hk => ?_)
      · repeat (refine StrsK.sets ?_ (fun k hk => (HKK.out k hk).2.2.2) _)
        exact HWS.out
      · exact Or.inl hk
    · repeat (refine Rd.other ?_ (by omega) _)
      exact HRD.out
    · repeat (refine Tch.other ?_ (by omega) _)
      exact HTT.out
end
end Go.Proofs.YtjkkbkdpoebfaaaGreat
