import Derived.Test.YtjkkbkdpoebfaaaGreatV19
import Derived.Deep.MidRow
import Derived.Deep.RegionHeld3
namespace Go.Proofs.YtjkkbkdpoebfaaaGreat
open Go.RowKit Go.Deep

/-! a drawn field -/
def fdL (f : Fd) (wv : Value) : List Value := [.string f.nm, .int .i64 f.kd, .int .i64 f.le, .int .i64 f.mo, wv, .string f.to, .int .i64 f.ro, .bool f.mu, .bool f.fx, .string f.df, .string f.we]
theorem fdL_one (f : Fd) (a : Option Addr) (n c : Nat) : Array.all (fdL f (.slice a n c)).toArray (·.oneCell') = true := by
  unfold fdL
  simp [Value.oneCell']
theorem Fd_sizeI : (Tryz.prog.info? 56).map (·.size) = some 11 := by kernel_rfl
structure FdFew (f : Fd) : Prop where
  nm : f.nm.size ≤ 1000
  tt : f.to.size ≤ 1000
  df : f.df.size ≤ 1000
  we : f.we.size ≤ 1000
  le : -1 ≤ f.le ∧ f.le ≤ 1000002
  mo : -1 ≤ f.mo ∧ f.mo ≤ 1000001
  wn : f.words.length ≤ 10
  ws : ∀ s ∈ f.words, s.size ≤ 1000
theorem put_cell {w : World} {β : Nat} {cs : Array Value} (h : Box w β cs) (j : Nat) (hj : j < cs.size) (u : Value) : Box (w.setCell ⟨β, j, none⟩ u) β (cs.setIfInBounds j u) := by
  have hv : w.cell? ⟨β, j, none⟩ = some cs[j] := by rw [h.cell j, Array.getElem?_eq_getElem hj]
  refine ⟨by simpa [World.setCell] using h.lt, fun i => ?_, fun i => ?_⟩
  · by_cases e : i = j
    · subst e
      rw [show (w.setCell ⟨β, i, none⟩ u).cell? ⟨β, i, none⟩ = some u from by apply World.cell?_setCell_same; exact hv, Array.getElem?_setIfInBounds_self_of_lt hj]
    · rw [show (w.setCell ⟨β, j, none⟩ u).cell? ⟨β, i, none⟩ = w.cell? ⟨β, i, none⟩ from by apply World.cell?_setCell_other; simp, h.cell i, Array.getElem?_setIfInBounds_ne (by omega)]
  · rw [World.frozen?_setCell]; exact h.free i
theorem size_sets (b : Nat) : ∀ (vs : List Value) (o : Nat) (w : World), (w.setCells b o vs).heap.size = w.heap.size
  | [], _, _ => rfl
  | v :: vs, o, w => (size_sets b vs (o + 1) (w.setCell ⟨b, o, none⟩ v)).trans (by simp [World.setCell])
theorem Below.sets {n b : Nat} (hb : n ≤ b) : ∀ (vs : List Value) (o : Nat) {a w : World}, Below n a w → Below n a (w.setCells b o vs)
  | [], _, _, _, h => h
  | v :: vs, o, _, _, h => Below.sets hb vs (o + 1) (h.setCell hb v)
theorem box_there {w : World} {β n : Nat} {cs : Array Value} (h : Box w β cs) (hn : cs.size = n) : w.there β 0 n := fun j hj => by
  rw [Nat.zero_add, h.cell j, h.free j]
  exact ⟨by rw [Array.getElem?_eq_getElem (by omega)]; rfl, rfl⟩
theorem box_range {w : World} {β : Nat} {cs : Array Value} (h : Box w β cs) {l : List Value} (hl : cs = l.toArray) : w.rangeAt β 0 l := fun j v hv => by
  rw [Nat.zero_add, h.cell j, hl]
  simpa using hv
theorem box_full {w : World} {β : Nat} {cs cs' : Array Value} (h : Box w β cs) (hs : cs.size = cs'.size) : Box (w.setCells β 0 cs'.toList) β cs' := by
  refine ⟨by rw [size_sets]; exact h.lt, fun i => ?_, fun i => by rw [World.frozen?_setCells]; exact h.free i⟩
  by_cases hi : i < cs'.size
  · have := World.cell?_setCells_in β cs'.toList 0 w (fun j hj => (box_there h rfl j (by rw [hs]; simpa using hj)).1) i (by simpa using hi)
    rw [Nat.zero_add] at this
    rw [this, Array.getElem?_eq_getElem hi]
    simp
  · rw [World.cell?_setCells_out β cs'.toList 0 w ⟨β, i, none⟩ (fun _ _ => Or.inr (by simp; omega)), h.cell i, Array.getElem?_eq_none (by omega), Array.getElem?_eq_none (by omega)]
theorem Tch.others {ρ β : Nat} {w0 : World} (hβ : w0.heap.size ≤ β) : ∀ (vs : List Value) (o : Nat) {w : World}, Tch ρ w0 w → Tch ρ w0 (w.setCells β o vs)
  | [], _, _, h => h
  | _ :: vs, o, _, h => Tch.others hβ vs (o + 1) (h.other hβ _)
theorem Rd.others {ρ p β : Nat} {bs : List UInt8} (hβ : ρ < β) : ∀ (vs : List Value) (o : Nat) {w : World}, Rd w ρ p bs → Rd (w.setCells β o vs) ρ p bs
  | [], _, _, h => h
  | _ :: vs, o, _, h => Rd.others hβ vs (o + 1) (h.other hβ _)
/-- a walk with a field in a block of its own -/
structure Fv (w0 : World) (ρ : Nat) (bs : List UInt8) (β : Nat) (f : Fd) (wv : Value) (q : Nat) (W : World) : Prop where
  rd : Rd W ρ q bs
  box : Box W β (fdL f wv).toArray
  t : Tch ρ w0 W
  ne : ρ < β
  nw : w0.heap.size ≤ β
  ws : StrsIn (β + 1) W wv f.words
theorem Fv.step {w0 W W' : World} {ρ β q q' : Nat} {bs : List UInt8} {f : Fd} {wv : Value} (h : Fv w0 ρ bs β f wv q W) (hr : Rd W' ρ q' bs) (ht : Tch ρ W W') : Fv w0 ρ bs β f wv q' W' :=
  ⟨hr, ht.box h.box (by have := h.ne; omega), h.t.trans ht, h.ne, h.nw, h.ws.tch ht (by have := h.ne; omega)⟩
theorem Fv.put {w0 W : World} {ρ β q : Nat} {bs : List UInt8} {f f' : Fd} {wv wv' : Value} (h : Fv w0 ρ bs β f wv q W) (k : Nat) (hk : k < 11) (v : Value) (e : (fdL f wv).set k v = fdL f' wv') (hs : StrsIn (β + 1) W wv' f'.words) : Fv w0 ρ bs β f' wv' q (W.setCell ⟨β, k, none⟩ v) :=
  ⟨h.rd.other h.ne _, by rw [← e, ← List.setIfInBounds_toArray]; exact put_cell h.box k (by simpa [fdL] using hk) v, h.t.other h.nw _, h.ne, h.nw, hs.setCell (by show β < β + 1; omega) _⟩
theorem StrsIn.setNe {lo b off n cap : Nat} {w : World} {L : List ByteArray} (h : StrsIn lo w (.slice (some ⟨b, off, none⟩) n cap) L) {p : Addr} (hp : p.block ≠ b) (u : Value) : StrsIn lo (w.setCell p u) (.slice (some ⟨b, off, none⟩) n cap) L := by
  rcases h with h | ⟨b', off', cap', h1, h2, h3, h4, h5, h6, h7⟩
  · exact Or.inl h
  · cases h1
    exact Or.inr ⟨_, _, _, rfl, h2, h3, by simpa [World.setCell] using h4, fun i hi => by rw [cell_setCell_ne _ _ _ _ (by show _ ≠ p.block; exact fun e => hp e.symm)]; exact h5 i hi, h6, h7⟩
theorem StrsIn.first {lo b off n cap : Nat} {w : World} {L : List ByteArray} (h : StrsIn lo w (.slice (some ⟨b, off, none⟩) n cap) L) (hL : 0 < L.length) : w.cell? ⟨b, off, none⟩ = some (.string (L[0]'hL)) := by
  rcases h with ⟨_, _, _, rfl⟩ | ⟨b', off', cap', h1, h2, h3, h4, h5, h6, h7⟩
  · simp at hL
  · cases h1
    exact h5 0 hL
theorem words_1 {w : World} {γ lo : Nat} (h : Box w γ #[.string ⟨#[97]⟩, .string ⟨#[98]⟩, .string ⟨#[99, 45, 49]⟩]) (hl : lo ≤ γ) : StrsIn lo w (.slice (some ⟨γ, 0, none⟩) 1 3) [⟨#[97]⟩] := by
  refine Or.inr ⟨γ, 0, 3, rfl, by simp, by unfold maxLen; simp, h.lt, fun i hi => ?_, fun s hs => ?_, hl⟩
  · have e := h.cell i
    rw [Nat.zero_add, e]
    have hi' : i < 1 := hi
    match i, hi' with
    | 0, _ => rfl
  · unfold maxLen
    simp at hs
    rcases hs with rfl <;> (show _ ≤ _; decide)
theorem small_1 : ∀ s ∈ ([⟨#[97]⟩] : List ByteArray), s.size ≤ 1000 := by
  intro s hs
  simp at hs
  rcases hs with rfl <;> decide
theorem StrsIn.last1 {lo γ : Nat} {w : World} (h : StrsIn lo w (.slice (some ⟨γ, 0, none⟩) 1 3) [⟨#[97]⟩]) : w.cell? ⟨γ, 0, none⟩ = some (.string ⟨#[97]⟩) := by
  rcases h with ⟨_, _, _, h⟩ | ⟨b', off', cap', h1, h2, h3, h4, h5, h6, h7⟩
  · cases h
  · cases h1
    exact h5 0 (by simp)
theorem words_2 {w : World} {γ lo : Nat} (h : Box w γ #[.string ⟨#[97]⟩, .string ⟨#[98]⟩, .string ⟨#[99, 45, 49]⟩]) (hl : lo ≤ γ) : StrsIn lo w (.slice (some ⟨γ, 0, none⟩) 2 3) [⟨#[97]⟩, ⟨#[98]⟩] := by
  refine Or.inr ⟨γ, 0, 3, rfl, by simp, by unfold maxLen; simp, h.lt, fun i hi => ?_, fun s hs => ?_, hl⟩
  · have e := h.cell i
    rw [Nat.zero_add, e]
    have hi' : i < 2 := hi
    match i, hi' with
    | 0, _ => rfl
    | 1, _ => rfl
  · unfold maxLen
    simp at hs
    rcases hs with rfl | rfl <;> (show _ ≤ _; decide)
theorem small_2 : ∀ s ∈ ([⟨#[97]⟩, ⟨#[98]⟩] : List ByteArray), s.size ≤ 1000 := by
  intro s hs
  simp at hs
  rcases hs with rfl | rfl <;> decide
theorem StrsIn.last2 {lo γ : Nat} {w : World} (h : StrsIn lo w (.slice (some ⟨γ, 0, none⟩) 2 3) [⟨#[97]⟩, ⟨#[98]⟩]) : w.cell? ⟨γ, 1, none⟩ = some (.string ⟨#[98]⟩) := by
  rcases h with ⟨_, _, _, h⟩ | ⟨b', off', cap', h1, h2, h3, h4, h5, h6, h7⟩
  · cases h
  · cases h1
    exact h5 1 (by simp)
theorem words_3 {w : World} {γ lo : Nat} (h : Box w γ #[.string ⟨#[97]⟩, .string ⟨#[98]⟩, .string ⟨#[99, 45, 49]⟩]) (hl : lo ≤ γ) : StrsIn lo w (.slice (some ⟨γ, 0, none⟩) 3 3) [⟨#[97]⟩, ⟨#[98]⟩, ⟨#[99, 45, 49]⟩] := by
  refine Or.inr ⟨γ, 0, 3, rfl, by simp, by unfold maxLen; simp, h.lt, fun i hi => ?_, fun s hs => ?_, hl⟩
  · have e := h.cell i
    rw [Nat.zero_add, e]
    have hi' : i < 3 := hi
    match i, hi' with
    | 0, _ => rfl
    | 1, _ => rfl
    | 2, _ => rfl
  · unfold maxLen
    simp at hs
    rcases hs with rfl | rfl | rfl <;> (show _ ≤ _; decide)
theorem small_3 : ∀ s ∈ ([⟨#[97]⟩, ⟨#[98]⟩, ⟨#[99, 45, 49]⟩] : List ByteArray), s.size ≤ 1000 := by
  intro s hs
  simp at hs
  rcases hs with rfl | rfl | rfl <;> decide
theorem StrsIn.last3 {lo γ : Nat} {w : World} (h : StrsIn lo w (.slice (some ⟨γ, 0, none⟩) 3 3) [⟨#[97]⟩, ⟨#[98]⟩, ⟨#[99, 45, 49]⟩]) : w.cell? ⟨γ, 2, none⟩ = some (.string ⟨#[99, 45, 49]⟩) := by
  rcases h with ⟨_, _, _, h⟩ | ⟨b', off', cap', h1, h2, h3, h4, h5, h6, h7⟩
  · cases h
  · cases h1
    exact h5 2 (by simp)
theorem StrsIn.nil (lo : Nat) (w : World) : StrsIn lo w (.slice none 0 0) [] := Or.inl ⟨_, _, rfl, rfl⟩

set_option maxRecDepth 20000 in
set_option maxHeartbeats 8000000 in
theorem l1DrawField_any (lo ρ p : Nat) (bs : List UInt8) (nm : ByteArray) (kv : Value) (K : List ByteArray) (w : World) (h : Rd w ρ p bs) (hp : p ≤ 900000000) (hn : nm.size ≤ 1000)
    (hK : StrsIn lo w kv K) (hl : ρ < lo) (hk1 : 1 ≤ K.length) (hk2 : K.length ≤ 3) (hks : ∀ s ∈ K, s.size ≤ 1000) :
    Calls Tryz.prog 84 #[.pointer (some ⟨ρ, 0, none⟩), .string nm, kv] w fun e w' => ∃ (f : Fd) (wv : Value), e = .returned (.agg (fdL f wv).toArray) ∧ FdFew f ∧ StrsIn w.heap.size w' wv f.words ∧ (∃ q, p ≤ q ∧ q ≤ p + 20 ∧ Rd w' ρ q bs) ∧ Tch ρ w w' := by
  have HS := hide (St.new h #[.string ⟨#[]⟩, .int .i64 0, .int .i64 0, .int .i64 0, .slice none 0 0, .string ⟨#[]⟩, .int .i64 0, .bool false, .bool false, .string ⟨#[]⟩, .string ⟨#[]⟩] 56)
  have hlt := h.lt
  have HK := hide hK
  have HN := hide hn
  have HKS := hide hks
  obtain ⟨kb, ko, kc, rfl, hkb, hkl, hk0⟩ : ∃ b off cap, kv = .slice (some ⟨b, off, none⟩) K.length cap ∧ b < w.heap.size ∧ ρ < b ∧ w.cell? ⟨b, off, none⟩ = some (.string (K[0]'(by omega))) := by
    rcases hK with ⟨_, _, _, rfl⟩ | ⟨b, off, cap, e, _, _, hb, hc, _, hlo⟩
    · simp at hk1
    · exact ⟨b, off, cap, e, hb, by omega, hc 0 (by omega)⟩
  clear h hK hn hks
  go_enter Tryz.func84, Tryz.ntmps84
  go_wp2_with fail
  generalize hW0 : w.alloc _ = W0 at *
  clear hW0
  refine (pick_any ρ p bs 4 W0 HS.out.rd (by omega) (by decide) (by decide)).mono ?_
  rintro e w1 ⟨x1, rfl, hx10, hx11, hr, ht⟩
  replace HS := hide (HS.out.step hr ht)
  clear hr ht
  have hwx : wrap64 (1 + x1) = 1 + x1 := by unfold wrap64; omega
  go_wp2_with fail
  refine (pick_any ρ _ bs 5 w1 HS.out.rd (by omega) (by decide) (by decide)).mono ?_
  rintro e w2 ⟨x2, rfl, -, -, hr, ht⟩
  replace HS := hide (HS.out.step hr ht)
  clear hr ht
  go_wp2_with fail
  refine (pick_any ρ _ bs 5 w2 HS.out.rd (by omega) (by decide) (by decide)).mono ?_
  rintro e w3 ⟨x3, rfl, -, -, hr, ht⟩
  replace HS := hide (HS.out.step hr ht)
  clear hr ht
  obtain ⟨b2, hb2⟩ : ∃ b2, (x2 == 0) = b2 := ⟨_, rfl⟩
  obtain ⟨b3, hb3⟩ : ∃ b3, (x3 == 0) = b3 := ⟨_, rfl⟩
  have hs3 : w.heap.size < w3.heap.size := HS.out.box.lt
  go_wp2_with fail
  generalize hW : w3.alloc _ = w4
  have hb4 : Below w3.heap.size w3 w4 := by rw [← hW]; exact one_al _ _
  have FV : Hid (Fv w ρ bs w3.heap.size ⟨nm, 1 + x1, 0, 0, [], ⟨#[]⟩, 0, b2, b3, ⟨#[]⟩, ⟨#[]⟩⟩ (.slice none 0 0) (p + 3) w4) :=
    ⟨HS.out.rd.below hb4, by rw [← hW]; exact Box.new _ _ _ _ rfl, HS.out.t.trans (Tch.below hb4), by omega, by omega, StrsIn.nil _ _⟩
  have ST : Hid (Box w4 w.heap.size #[.string ⟨#[]⟩, .int .i64 0, .int .i64 0, .int .i64 0, .slice none 0 0, .string ⟨#[]⟩, .int .i64 0, .bool false, .bool false, .string ⟨#[]⟩, .string ⟨#[]⟩]) := HS.out.box.on hb4
  clear hW hb4 hb2 hb3 HS
  generalize w3.heap.size = β at *
  refine (pick_any ρ _ bs 3 w4 FV.out.rd (by omega) (by decide) (by decide)).mono ?_
  rintro e w5 ⟨x4, rfl, -, -, hr, ht⟩
  have ht5 := ht
  replace ST := hide (ht.box ST.out (by omega))
  replace FV := hide (FV.out.step hr ht)
  clear hr ht ht5
  obtain ⟨b4, hb4⟩ : ∃ b4, (x4 == 0) = b4 := ⟨_, rfl⟩
  go_upto_region 3 with fail
  clear hb4
  have hne := FV.out.ne
  have hnw := FV.out.nw
  have HKV : Hid (StrsIn lo w5 (.slice (some ⟨kb, ko, none⟩) K.length kc) K) := HK.out.tch FV.out.t hl
  clear HK hk0
  have HNM := HN
  have hx1 : x1 = 0 ∨ x1 = 1 ∨ x1 = 2 ∨ x1 = 3 := by omega
  rcases hx1 with rfl | rfl | rfl | rfl
  ·
    have c : ∀ i, w5.cell? ⟨β, i, none⟩ = #[.string (nm), .int .i64 (1 + 0), .int .i64 (0), .int .i64 (0), .slice none 0 0, .string (⟨#[]⟩), .int .i64 (0), .bool (b2), .bool (b3), .string (⟨#[]⟩), .string (⟨#[]⟩)][i]? := FV.out.box.cell
    have cf := FV.out.box.free
    have cl := FV.out.box.lt
    go_wp2_with fail
    clear c cf cl
    refine (pick_any ρ _ bs 3 _ FV.out.rd (by omega) (by decide) (by decide)).mono ?_
    rintro e w6 ⟨x5, rfl, hx50, hx51, hr, ht⟩
    replace ST := hide (ht.box ST.out (by omega))
    replace HKV := hide (HKV.out.tch ht hl)
    replace FV : Hid (Fv w ρ bs β ⟨nm, 1 + 0, 0, 0, [], ⟨#[]⟩, 0, b2, b3, ⟨#[]⟩, ⟨#[]⟩⟩ (.slice none 0 0) (p + 5) w6) := FV.out.step hr ht
    clear hr ht
    obtain ⟨n5, rfl⟩ := Int.eq_ofNat_of_zero_le hx50
    have c : ∀ i, w6.cell? ⟨β, i, none⟩ = #[.string (nm), .int .i64 (1 + 0), .int .i64 (0), .int .i64 (0), .slice none 0 0, .string (⟨#[]⟩), .int .i64 (0), .bool (b2), .bool (b3), .string (⟨#[]⟩), .string (⟨#[]⟩)][i]? := FV.out.box.cell
    have cf := FV.out.box.free
    have cl := FV.out.box.lt
    go_upto_region 6 with fail
    clear c cf cl
    generalize hW : World.setCell w6 ⟨β, 2, none⟩ _ = w7
    replace ST : Hid (Box w7 w.heap.size #[.string ⟨#[]⟩, .int .i64 0, .int .i64 0, .int .i64 0, .slice none 0 0, .string ⟨#[]⟩, .int .i64 0, .bool false, .bool false, .string ⟨#[]⟩, .string ⟨#[]⟩]) := by unfold Hid; rw [← hW]; exact ⟨by simpa [World.setCell] using ST.out.lt, fun i => (cell_setCell_ne _ _ ⟨w.heap.size, i, none⟩ _ (by show w.heap.size ≠ β; omega)).trans (ST.out.cell i), fun i => by rw [World.frozen?_setCell]; exact ST.out.free i⟩
    replace HKV : Hid (StrsIn lo w7 (.slice (some ⟨kb, ko, none⟩) K.length kc) K) := by unfold Hid; rw [← hW]; exact HKV.out.setNe (by show β ≠ kb; omega) _
    replace FV : Hid (Fv w ρ bs β ⟨nm, 1 + 0, (n5 : Int), 0, [], ⟨#[]⟩, 0, b2, b3, ⟨#[]⟩, ⟨#[]⟩⟩ (.slice none 0 0) (p + 5) w7) := by unfold Hid; rw [← hW]; exact FV.out.put 2 (by omega) _ rfl (FV.out.ws)
    clear hW
    have HC2 : Hid (w7.cell? ⟨β, 2, none⟩ = some (.int .i64 (n5 : Int))) := FV.out.box.cell 2
    refine wp_region_held_drew (S := fun W => W.cell? ⟨β, 2, none⟩ = some (.int .i64 (n5 : Int))) (by kernel_rfl) HC2.out (fun hHeld => ?_)
    refine wpAnyH_take (i := 0) (v := .pointer (some ⟨β, 2, none⟩)) rfl (by kernel_rfl) (by kernel_rfl) (by kernel_rfl) (fun _ _ _ h => h) (Or.inl ⟨by rfl, fun W hW => by go_simp⟩) hHeld ?_
    try simp only [Act.put, List.getElem_toArray, List.getElem_cons_zero, List.setIfInBounds_toArray, List.set_cons_zero, List.set_cons_succ]
    refine wpAnyH_take (i := 1) (v := .int .i64 (n5 : Int)) rfl (by kernel_rfl) (by kernel_rfl) (by kernel_rfl) (fun _ _ _ h => h) (Or.inl ⟨by rfl, fun W hW => by go_simp⟩) hHeld ?_
    try simp only [Act.put, List.getElem_toArray, List.getElem_cons_succ, List.getElem_cons_zero, List.setIfInBounds_toArray, List.set_cons_zero, List.set_cons_succ]
    refine wpAnyH_take (i := 2) (v := .pointer (some ⟨ρ, 0, none⟩)) rfl (by kernel_rfl) (by kernel_rfl) (by kernel_rfl) (fun _ _ _ h => h) (Or.inl ⟨by rfl, fun W hW => by go_simp⟩) hHeld ?_
    try simp only [Act.put, List.getElem_toArray, List.getElem_cons_succ, List.getElem_cons_zero, List.setIfInBounds_toArray, List.set_cons_zero, List.set_cons_succ]
    refine wpAnyH_ready (rs := [3]) (by kernel_rfl) (by simp) ?_
    refine AllReadyH.cons rfl (fun KK hK => ?_) AllReadyH.nil
    go_simp
    have hbd : Below w7.heap.size w7 w7.drew := (Below.refl _ _).drew
    replace ST := hide ((Tch.below (ρ := ρ) hbd).box ST.out (by omega))
    replace HKV := hide (HKV.out.tch (Tch.below (ρ := ρ) hbd) hl)
    replace FV : Hid (Fv w ρ bs β ⟨nm, 1 + 0, (n5 : Int), 0, [], ⟨#[]⟩, 0, b2, b3, ⟨#[]⟩, ⟨#[]⟩⟩ (.slice none 0 0) (p + 5) w7.drew) := FV.out.step (FV.out.rd.below hbd) (Tch.below hbd)
    clear hbd
    refine (pick_any ρ _ bs 20 _ FV.out.rd (by omega) (by decide) (by decide)).mono ?_
    rintro e w8 ⟨x6, rfl, hx60, hx61, hr, ht⟩
    replace ST := hide (ht.box ST.out (by omega))
    replace HKV := hide (HKV.out.tch ht hl)
    replace FV : Hid (Fv w ρ bs β ⟨nm, 1 + 0, (n5 : Int), 0, [], ⟨#[]⟩, 0, b2, b3, ⟨#[]⟩, ⟨#[]⟩⟩ (.slice none 0 0) (p + 6) w8) := FV.out.step hr ht
    clear hr ht
    have hw6 : wrap64 ((n5 : Int) + x6) = (n5 : Int) + x6 := by unfold wrap64; omega
    have hw6w : IntKind.i64.wrap ((n5 : Int) + x6) = (n5 : Int) + x6 := by rw [IntKind.wrap_i64]; omega
    try go_wp2_with fail
    refine hK.out _ _ (FV.out.box.cell 2) (fun hHeld => ?_)
    clear hK KK HC2
    try simp only [Act.put, List.getElem_toArray, List.getElem_cons_succ, List.getElem_cons_zero, List.setIfInBounds_toArray, List.set_cons_zero, List.set_cons_succ]
    refine wpAnyH_take (i := 4) (v := .int .i64 ((n5 : Int) + x6)) rfl (by kernel_rfl) (by kernel_rfl) (by kernel_rfl) (fun _ _ _ h => h) (Or.inl ⟨by rfl, fun W hW => by go_simp⟩) hHeld ?_
    try simp only [Act.put, List.getElem_toArray, List.getElem_cons_succ, List.getElem_cons_zero, List.setIfInBounds_toArray, List.set_cons_zero, List.set_cons_succ]
    refine wpAnyH_take (i := 5) (v := .pointer (some ⟨β, 3, none⟩)) rfl (by kernel_rfl) (by kernel_rfl) (by kernel_rfl) (fun _ _ _ h => h) (Or.inl ⟨by rfl, fun W hW => by go_simp⟩) hHeld ?_
    try simp only [Act.put, List.getElem_toArray, List.getElem_cons_succ, List.getElem_cons_zero, List.setIfInBounds_toArray, List.set_cons_zero, List.set_cons_succ]
    have c : ∀ i, w8.cell? ⟨β, i, none⟩ = #[.string (nm), .int .i64 (1 + 0), .int .i64 ((n5 : Int)), .int .i64 (0), .slice none 0 0, .string (⟨#[]⟩), .int .i64 (0), .bool (b2), .bool (b3), .string (⟨#[]⟩), .string (⟨#[]⟩)][i]? := FV.out.box.cell
    have cf := FV.out.box.free
    have cl := FV.out.box.lt
    refine wpAnyH_ready (rs := [6]) (by kernel_rfl) (by simp) ?_
    refine AllReadyH.cons rfl (fun KK hK => ?_) AllReadyH.nil
    go_simp
    have HC3 : Hid ((w8.setCell ⟨β, 3, none⟩ (.int .i64 ((n5 : Int) + x6))).cell? ⟨β, 2, none⟩ = some (.int .i64 (n5 : Int))) := (FV.out.put (f' := ⟨nm, 1 + 0, n5, (n5 : Int) + x6, [], ⟨#[]⟩, 0, b2, b3, ⟨#[]⟩, ⟨#[]⟩⟩) 3 (by omega) _ rfl FV.out.ws).box.cell 2
    refine hK.out _ _ HC3.out (fun hHeld => ?_)
    clear hK KK HC3 hHeld
    try simp only [Act.put, List.getElem_toArray, List.getElem_cons_succ, List.getElem_cons_zero, List.setIfInBounds_toArray, List.set_cons_zero, List.set_cons_succ]
    refine wpAnyH_done (by kernel_rfl) ?_ _
    clear c cf cl
    generalize hW : World.setCell w8 ⟨β, 3, none⟩ _ = w9
    replace ST : Hid (Box w9 w.heap.size #[.string ⟨#[]⟩, .int .i64 0, .int .i64 0, .int .i64 0, .slice none 0 0, .string ⟨#[]⟩, .int .i64 0, .bool false, .bool false, .string ⟨#[]⟩, .string ⟨#[]⟩]) := by unfold Hid; rw [← hW]; exact ⟨by simpa [World.setCell] using ST.out.lt, fun i => (cell_setCell_ne _ _ ⟨w.heap.size, i, none⟩ _ (by show w.heap.size ≠ β; omega)).trans (ST.out.cell i), fun i => by rw [World.frozen?_setCell]; exact ST.out.free i⟩
    replace HKV : Hid (StrsIn lo w9 (.slice (some ⟨kb, ko, none⟩) K.length kc) K) := by unfold Hid; rw [← hW]; exact HKV.out.setNe (by show β ≠ kb; omega) _
    replace FV : Hid (Fv w ρ bs β ⟨nm, 1 + 0, (n5 : Int), (n5 : Int) + x6, [], ⟨#[]⟩, 0, b2, b3, ⟨#[]⟩, ⟨#[]⟩⟩ (.slice none 0 0) (p + 6) w9) := by unfold Hid; rw [← hW]; exact FV.out.put 3 (by omega) _ rfl (FV.out.ws)
    clear hW
    have k0 : w9.cell? ⟨kb, ko, none⟩ = some (.string (K[0]'(by omega))) := HKV.out.first (by omega)
    have k0l : kb < w9.heap.size := Nat.lt_of_lt_of_le hkb FV.out.t.size
    have HK0 : Hid ((K[0]'(by omega)).size ≤ 1000) := HKS.out _ (List.getElem_mem _)
    generalize hK0 : K[0]'(by omega) = kk at *
    go_wp2_with fail
    clear k0 k0l hK0
    refine (ofBuilt_any ρ _ bs _ _ 4 w9 FV.out.rd (by omega) (by simp [isS]; exact ⟨by decide, by decide, by decide, HK0.out⟩) rfl (by decide) (by decide)).mono ?_
    rintro e w10 ⟨s6, rfl, hs6, hr, ht⟩
    have HS6 := hide hs6
    replace ST := hide (ht.box ST.out (by omega))
    replace HKV := hide (HKV.out.tch ht hl)
    replace FV : Hid (Fv w ρ bs β ⟨nm, 1 + 0, (n5 : Int), (n5 : Int) + x6, [], ⟨#[]⟩, 0, b2, b3, ⟨#[]⟩, ⟨#[]⟩⟩ (.slice none 0 0) (p + 7) w10) := FV.out.step hr ht
    clear hr ht hs6
    have c : ∀ i, w10.cell? ⟨β, i, none⟩ = #[.string (nm), .int .i64 (1 + 0), .int .i64 ((n5 : Int)), .int .i64 ((n5 : Int) + x6), .slice none 0 0, .string (⟨#[]⟩), .int .i64 (0), .bool (b2), .bool (b3), .string (⟨#[]⟩), .string (⟨#[]⟩)][i]? := FV.out.box.cell
    have cf := FV.out.box.free
    have cl := FV.out.box.lt
    go_wp2_with fail
    clear c cf cl
    generalize hW : World.setCell w10 ⟨β, 10, none⟩ _ = w11
    replace ST : Hid (Box w11 w.heap.size #[.string ⟨#[]⟩, .int .i64 0, .int .i64 0, .int .i64 0, .slice none 0 0, .string ⟨#[]⟩, .int .i64 0, .bool false, .bool false, .string ⟨#[]⟩, .string ⟨#[]⟩]) := by unfold Hid; rw [← hW]; exact ⟨by simpa [World.setCell] using ST.out.lt, fun i => (cell_setCell_ne _ _ ⟨w.heap.size, i, none⟩ _ (by show w.heap.size ≠ β; omega)).trans (ST.out.cell i), fun i => by rw [World.frozen?_setCell]; exact ST.out.free i⟩
    replace HKV : Hid (StrsIn lo w11 (.slice (some ⟨kb, ko, none⟩) K.length kc) K) := by unfold Hid; rw [← hW]; exact HKV.out.setNe (by show β ≠ kb; omega) _
    replace FV : Hid (Fv w ρ bs β ⟨nm, 1 + 0, (n5 : Int), (n5 : Int) + x6, [], ⟨#[]⟩, 0, b2, b3, ⟨#[]⟩, s6⟩ (.slice none 0 0) (p + 7) w11) := by unfold Hid; rw [← hW]; exact FV.out.put 10 (by omega) _ rfl (FV.out.ws)
    clear hW
    refine (pick_any ρ _ bs 12 _ FV.out.rd (by omega) (by decide) (by decide)).mono ?_
    rintro e w12 ⟨x7, rfl, hx70, hx71, hr, ht⟩
    replace ST := hide (ht.box ST.out (by omega))
    replace HKV := hide (HKV.out.tch ht hl)
    replace FV : Hid (Fv w ρ bs β ⟨nm, 1 + 0, (n5 : Int), (n5 : Int) + x6, [], ⟨#[]⟩, 0, b2, b3, ⟨#[]⟩, s6⟩ (.slice none 0 0) (p + 8) w12) := FV.out.step hr ht
    clear hr ht
    by_cases h0 : x7 = 0
    ·
      subst h0
      have c : ∀ i, w12.cell? ⟨β, i, none⟩ = #[.string (nm), .int .i64 (1 + 0), .int .i64 ((n5 : Int)), .int .i64 ((n5 : Int) + x6), .slice none 0 0, .string (⟨#[]⟩), .int .i64 (0), .bool (b2), .bool (b3), .string (⟨#[]⟩), .string (s6)][i]? := FV.out.box.cell
      have cf := FV.out.box.free
      have cl := FV.out.box.lt
      go_upto_region 10 with fail
      clear c cf cl
      generalize hW : World.setCell w12 ⟨β, 3, none⟩ _ = w13
      replace ST : Hid (Box w13 w.heap.size #[.string ⟨#[]⟩, .int .i64 0, .int .i64 0, .int .i64 0, .slice none 0 0, .string ⟨#[]⟩, .int .i64 0, .bool false, .bool false, .string ⟨#[]⟩, .string ⟨#[]⟩]) := by unfold Hid; rw [← hW]; exact ⟨by simpa [World.setCell] using ST.out.lt, fun i => (cell_setCell_ne _ _ ⟨w.heap.size, i, none⟩ _ (by show w.heap.size ≠ β; omega)).trans (ST.out.cell i), fun i => by rw [World.frozen?_setCell]; exact ST.out.free i⟩
      replace HKV : Hid (StrsIn lo w13 (.slice (some ⟨kb, ko, none⟩) K.length kc) K) := by unfold Hid; rw [← hW]; exact HKV.out.setNe (by show β ≠ kb; omega) _
      replace FV : Hid (Fv w ρ bs β ⟨nm, 1 + 0, (n5 : Int), 1000000, [], ⟨#[]⟩, 0, b2, b3, ⟨#[]⟩, s6⟩ (.slice none 0 0) (p + 8) w13) := by unfold Hid; rw [← hW]; exact FV.out.put 3 (by omega) _ rfl (FV.out.ws)
      clear hW
      cases b4 with
      | true =>
        have c : ∀ i, w13.cell? ⟨β, i, none⟩ = #[.string (nm), .int .i64 (1 + 0), .int .i64 ((n5 : Int)), .int .i64 (1000000), .slice none 0 0, .string (⟨#[]⟩), .int .i64 (0), .bool (b2), .bool (b3), .string (⟨#[]⟩), .string (s6)][i]? := FV.out.box.cell
        have cf := FV.out.box.free
        have cl := FV.out.box.lt
        go_wp2_with fail
        clear c cf cl
        refine (l4DecN_any 9 n5 (by omega) (by omega) (by omega) _).mono ?_
        rintro e w14 ⟨s8, rfl, hs8, hb⟩
        have HS8 := hide hs8
        replace ST := hide (ST.out.on hb)
        replace HKV := hide (HKV.out.below hb)
        replace FV : Hid (Fv w ρ bs β ⟨nm, 1 + 0, (n5 : Int), 1000000, [], ⟨#[]⟩, 0, b2, b3, ⟨#[]⟩, s6⟩ (.slice none 0 0) (p + 8) w14) := FV.out.step (FV.out.rd.below hb) (Tch.below hb)
        clear hb hs8
        have c : ∀ i, w14.cell? ⟨β, i, none⟩ = #[.string (nm), .int .i64 (1 + 0), .int .i64 ((n5 : Int)), .int .i64 (1000000), .slice none 0 0, .string (⟨#[]⟩), .int .i64 (0), .bool (b2), .bool (b3), .string (⟨#[]⟩), .string (s6)][i]? := FV.out.box.cell
        have cf := FV.out.box.free
        have cl := FV.out.box.lt
        go_upto_region 27 with fail
        clear c cf cl
        generalize hW : World.setCell w14 ⟨β, 9, none⟩ _ = w15
        replace ST : Hid (Box w15 w.heap.size #[.string ⟨#[]⟩, .int .i64 0, .int .i64 0, .int .i64 0, .slice none 0 0, .string ⟨#[]⟩, .int .i64 0, .bool false, .bool false, .string ⟨#[]⟩, .string ⟨#[]⟩]) := by unfold Hid; rw [← hW]; exact ⟨by simpa [World.setCell] using ST.out.lt, fun i => (cell_setCell_ne _ _ ⟨w.heap.size, i, none⟩ _ (by show w.heap.size ≠ β; omega)).trans (ST.out.cell i), fun i => by rw [World.frozen?_setCell]; exact ST.out.free i⟩
        replace HKV : Hid (StrsIn lo w15 (.slice (some ⟨kb, ko, none⟩) K.length kc) K) := by unfold Hid; rw [← hW]; exact HKV.out.setNe (by show β ≠ kb; omega) _
        replace FV : Hid (Fv w ρ bs β ⟨nm, 1 + 0, (n5 : Int), 1000000, [], ⟨#[]⟩, 0, b2, b3, s8, s6⟩ (.slice none 0 0) (p + 8) w15) := by unfold Hid; rw [← hW]; exact FV.out.put 9 (by omega) _ rfl (FV.out.ws)
        clear hW
        have HFEW : Hid (FdFew ⟨nm, 1 + 0, (n5 : Int), 1000000, [], ⟨#[]⟩, 0, b2, b3, s8, s6⟩) := ⟨HNM.out, of_decide_eq_true rfl, by have := HS8.out; show s8.size ≤ 1000; omega, HS6.out, by constructor <;> simp only [] <;> omega, by constructor <;> simp only [] <;> omega, of_decide_eq_true rfl, fun s hs => by cases hs⟩
        have c : ∀ i, w15.cell? ⟨β, i, none⟩ = #[.string (nm), .int .i64 (1 + 0), .int .i64 ((n5 : Int)), .int .i64 (1000000), .slice none 0 0, .string (⟨#[]⟩), .int .i64 (0), .bool (b2), .bool (b3), .string (s8), .string (s6)][i]? := FV.out.box.cell
        have cl := FV.out.box.lt
        have r : ∀ i, w15.cell? ⟨w.heap.size, i, none⟩ = #[.string ⟨#[]⟩, .int .i64 0, .int .i64 0, .int .i64 0, .slice none 0 0, .string ⟨#[]⟩, .int .i64 0, .bool false, .bool false, .string ⟨#[]⟩, .string ⟨#[]⟩][i]? := ST.out.cell
        have rf := ST.out.free
        have rl := ST.out.lt
        have HRD := hide FV.out.rd
        have HTT := hide FV.out.t
        have HWS := hide FV.out.ws
        clear FV ST HKV
        go_wp2
        refine bodyPost_ret (v := .agg (fdL ⟨nm, 1 + 0, (n5 : Int), 1000000, [], ⟨#[]⟩, 0, b2, b3, s8, s6⟩ (.slice none 0 0)).toArray) (by simp [results, Tryz.results84, go_sem, fdL, r]) rfl ⟨⟨nm, 1 + 0, (n5 : Int), 1000000, [], ⟨#[]⟩, 0, b2, b3, s8, s6⟩, .slice none 0 0, rfl, HFEW.out, ?_, ⟨p + 8, by omega, by omega, ?_⟩, ?_⟩
        · refine StrsIn.mono (lo := β + 1) ?_ (by omega)
          repeat (refine StrsIn.setCell ?_ (by show w.heap.size < β + 1; omega) _)
          exact HWS.out
        · repeat (refine Rd.other ?_ hlt _)
          exact HRD.out
        · repeat (refine Tch.other ?_ (Nat.le_refl _) _)
          exact HTT.out
      | false =>
        go_upto_region 27 with fail
        have HFEW : Hid (FdFew ⟨nm, 1 + 0, (n5 : Int), 1000000, [], ⟨#[]⟩, 0, b2, b3, ⟨#[]⟩, s6⟩) := ⟨HNM.out, of_decide_eq_true rfl, of_decide_eq_true rfl, HS6.out, by constructor <;> simp only [] <;> omega, by constructor <;> simp only [] <;> omega, of_decide_eq_true rfl, fun s hs => by cases hs⟩
        have c : ∀ i, w13.cell? ⟨β, i, none⟩ = #[.string (nm), .int .i64 (1 + 0), .int .i64 ((n5 : Int)), .int .i64 (1000000), .slice none 0 0, .string (⟨#[]⟩), .int .i64 (0), .bool (b2), .bool (b3), .string (⟨#[]⟩), .string (s6)][i]? := FV.out.box.cell
        have cl := FV.out.box.lt
        have r : ∀ i, w13.cell? ⟨w.heap.size, i, none⟩ = #[.string ⟨#[]⟩, .int .i64 0, .int .i64 0, .int .i64 0, .slice none 0 0, .string ⟨#[]⟩, .int .i64 0, .bool false, .bool false, .string ⟨#[]⟩, .string ⟨#[]⟩][i]? := ST.out.cell
        have rf := ST.out.free
        have rl := ST.out.lt
        have HRD := hide FV.out.rd
        have HTT := hide FV.out.t
        have HWS := hide FV.out.ws
        clear FV ST HKV
        go_wp2
        refine bodyPost_ret (v := .agg (fdL ⟨nm, 1 + 0, (n5 : Int), 1000000, [], ⟨#[]⟩, 0, b2, b3, ⟨#[]⟩, s6⟩ (.slice none 0 0)).toArray) (by simp [results, Tryz.results84, go_sem, fdL, r]) rfl ⟨⟨nm, 1 + 0, (n5 : Int), 1000000, [], ⟨#[]⟩, 0, b2, b3, ⟨#[]⟩, s6⟩, .slice none 0 0, rfl, HFEW.out, ?_, ⟨p + 8, by omega, by omega, ?_⟩, ?_⟩
        · refine StrsIn.mono (lo := β + 1) ?_ (by omega)
          repeat (refine StrsIn.setCell ?_ (by show w.heap.size < β + 1; omega) _)
          exact HWS.out
        · repeat (refine Rd.other ?_ hlt _)
          exact HRD.out
        · repeat (refine Tch.other ?_ (Nat.le_refl _) _)
          exact HTT.out
    ·
      have h0' : (x7 == 0) = false := by simpa using h0
      go_upto_region 10 with fail
      cases b4 with
      | true =>
        have c : ∀ i, w12.cell? ⟨β, i, none⟩ = #[.string (nm), .int .i64 (1 + 0), .int .i64 ((n5 : Int)), .int .i64 ((n5 : Int) + x6), .slice none 0 0, .string (⟨#[]⟩), .int .i64 (0), .bool (b2), .bool (b3), .string (⟨#[]⟩), .string (s6)][i]? := FV.out.box.cell
        have cf := FV.out.box.free
        have cl := FV.out.box.lt
        go_wp2_with fail
        clear c cf cl
        refine (l4DecN_any 9 n5 (by omega) (by omega) (by omega) _).mono ?_
        rintro e w13 ⟨s8, rfl, hs8, hb⟩
        have HS8 := hide hs8
        replace ST := hide (ST.out.on hb)
        replace HKV := hide (HKV.out.below hb)
        replace FV : Hid (Fv w ρ bs β ⟨nm, 1 + 0, (n5 : Int), (n5 : Int) + x6, [], ⟨#[]⟩, 0, b2, b3, ⟨#[]⟩, s6⟩ (.slice none 0 0) (p + 8) w13) := FV.out.step (FV.out.rd.below hb) (Tch.below hb)
        clear hb hs8
        have c : ∀ i, w13.cell? ⟨β, i, none⟩ = #[.string (nm), .int .i64 (1 + 0), .int .i64 ((n5 : Int)), .int .i64 ((n5 : Int) + x6), .slice none 0 0, .string (⟨#[]⟩), .int .i64 (0), .bool (b2), .bool (b3), .string (⟨#[]⟩), .string (s6)][i]? := FV.out.box.cell
        have cf := FV.out.box.free
        have cl := FV.out.box.lt
        go_upto_region 27 with fail
        clear c cf cl
        generalize hW : World.setCell w13 ⟨β, 9, none⟩ _ = w14
        replace ST : Hid (Box w14 w.heap.size #[.string ⟨#[]⟩, .int .i64 0, .int .i64 0, .int .i64 0, .slice none 0 0, .string ⟨#[]⟩, .int .i64 0, .bool false, .bool false, .string ⟨#[]⟩, .string ⟨#[]⟩]) := by unfold Hid; rw [← hW]; exact ⟨by simpa [World.setCell] using ST.out.lt, fun i => (cell_setCell_ne _ _ ⟨w.heap.size, i, none⟩ _ (by show w.heap.size ≠ β; omega)).trans (ST.out.cell i), fun i => by rw [World.frozen?_setCell]; exact ST.out.free i⟩
        replace HKV : Hid (StrsIn lo w14 (.slice (some ⟨kb, ko, none⟩) K.length kc) K) := by unfold Hid; rw [← hW]; exact HKV.out.setNe (by show β ≠ kb; omega) _
        replace FV : Hid (Fv w ρ bs β ⟨nm, 1 + 0, (n5 : Int), (n5 : Int) + x6, [], ⟨#[]⟩, 0, b2, b3, s8, s6⟩ (.slice none 0 0) (p + 8) w14) := by unfold Hid; rw [← hW]; exact FV.out.put 9 (by omega) _ rfl (FV.out.ws)
        clear hW
        have HFEW : Hid (FdFew ⟨nm, 1 + 0, (n5 : Int), (n5 : Int) + x6, [], ⟨#[]⟩, 0, b2, b3, s8, s6⟩) := ⟨HNM.out, of_decide_eq_true rfl, by have := HS8.out; show s8.size ≤ 1000; omega, HS6.out, by constructor <;> simp only [] <;> omega, by constructor <;> simp only [] <;> omega, of_decide_eq_true rfl, fun s hs => by cases hs⟩
        have c : ∀ i, w14.cell? ⟨β, i, none⟩ = #[.string (nm), .int .i64 (1 + 0), .int .i64 ((n5 : Int)), .int .i64 ((n5 : Int) + x6), .slice none 0 0, .string (⟨#[]⟩), .int .i64 (0), .bool (b2), .bool (b3), .string (s8), .string (s6)][i]? := FV.out.box.cell
        have cl := FV.out.box.lt
        have r : ∀ i, w14.cell? ⟨w.heap.size, i, none⟩ = #[.string ⟨#[]⟩, .int .i64 0, .int .i64 0, .int .i64 0, .slice none 0 0, .string ⟨#[]⟩, .int .i64 0, .bool false, .bool false, .string ⟨#[]⟩, .string ⟨#[]⟩][i]? := ST.out.cell
        have rf := ST.out.free
        have rl := ST.out.lt
        have HRD := hide FV.out.rd
        have HTT := hide FV.out.t
        have HWS := hide FV.out.ws
        clear FV ST HKV
        go_wp2
        refine bodyPost_ret (v := .agg (fdL ⟨nm, 1 + 0, (n5 : Int), (n5 : Int) + x6, [], ⟨#[]⟩, 0, b2, b3, s8, s6⟩ (.slice none 0 0)).toArray) (by simp [results, Tryz.results84, go_sem, fdL, r]) rfl ⟨⟨nm, 1 + 0, (n5 : Int), (n5 : Int) + x6, [], ⟨#[]⟩, 0, b2, b3, s8, s6⟩, .slice none 0 0, rfl, HFEW.out, ?_, ⟨p + 8, by omega, by omega, ?_⟩, ?_⟩
        · refine StrsIn.mono (lo := β + 1) ?_ (by omega)
          repeat (refine StrsIn.setCell ?_ (by show w.heap.size < β + 1; omega) _)
          exact HWS.out
        · repeat (refine Rd.other ?_ hlt _)
          exact HRD.out
        · repeat (refine Tch.other ?_ (Nat.le_refl _) _)
          exact HTT.out
      | false =>
        go_upto_region 27 with fail
        have HFEW : Hid (FdFew ⟨nm, 1 + 0, (n5 : Int), (n5 : Int) + x6, [], ⟨#[]⟩, 0, b2, b3, ⟨#[]⟩, s6⟩) := ⟨HNM.out, of_decide_eq_true rfl, of_decide_eq_true rfl, HS6.out, by constructor <;> simp only [] <;> omega, by constructor <;> simp only [] <;> omega, of_decide_eq_true rfl, fun s hs => by cases hs⟩
        have c : ∀ i, w12.cell? ⟨β, i, none⟩ = #[.string (nm), .int .i64 (1 + 0), .int .i64 ((n5 : Int)), .int .i64 ((n5 : Int) + x6), .slice none 0 0, .string (⟨#[]⟩), .int .i64 (0), .bool (b2), .bool (b3), .string (⟨#[]⟩), .string (s6)][i]? := FV.out.box.cell
        have cl := FV.out.box.lt
        have r : ∀ i, w12.cell? ⟨w.heap.size, i, none⟩ = #[.string ⟨#[]⟩, .int .i64 0, .int .i64 0, .int .i64 0, .slice none 0 0, .string ⟨#[]⟩, .int .i64 0, .bool false, .bool false, .string ⟨#[]⟩, .string ⟨#[]⟩][i]? := ST.out.cell
        have rf := ST.out.free
        have rl := ST.out.lt
        have HRD := hide FV.out.rd
        have HTT := hide FV.out.t
        have HWS := hide FV.out.ws
        clear FV ST HKV
        go_wp2
        refine bodyPost_ret (v := .agg (fdL ⟨nm, 1 + 0, (n5 : Int), (n5 : Int) + x6, [], ⟨#[]⟩, 0, b2, b3, ⟨#[]⟩, s6⟩ (.slice none 0 0)).toArray) (by simp [results, Tryz.results84, go_sem, fdL, r]) rfl ⟨⟨nm, 1 + 0, (n5 : Int), (n5 : Int) + x6, [], ⟨#[]⟩, 0, b2, b3, ⟨#[]⟩, s6⟩, .slice none 0 0, rfl, HFEW.out, ?_, ⟨p + 8, by omega, by omega, ?_⟩, ?_⟩
        · refine StrsIn.mono (lo := β + 1) ?_ (by omega)
          repeat (refine StrsIn.setCell ?_ (by show w.heap.size < β + 1; omega) _)
          exact HWS.out
        · repeat (refine Rd.other ?_ hlt _)
          exact HRD.out
        · repeat (refine Tch.other ?_ (Nat.le_refl _) _)
          exact HTT.out
  ·
    have c : ∀ i, w5.cell? ⟨β, i, none⟩ = #[.string (nm), .int .i64 (1 + 1), .int .i64 (0), .int .i64 (0), .slice none 0 0, .string (⟨#[]⟩), .int .i64 (0), .bool (b2), .bool (b3), .string (⟨#[]⟩), .string (⟨#[]⟩)][i]? := FV.out.box.cell
    have cf := FV.out.box.free
    have cl := FV.out.box.lt
    go_wp2_with fail
    clear c cf cl
    have hbb := one_al w5 (.cells #[.string ⟨#[97]⟩, .string ⟨#[98]⟩, .string ⟨#[99, 45, 49]⟩] 9)
    have hbx := Box.new w5 #[.string ⟨#[97]⟩, .string ⟨#[98]⟩, .string ⟨#[99, 45, 49]⟩] 9 _ rfl
    generalize hW : World.alloc w5 _ = w6 at *
    have WX : Hid (Box w6 w5.heap.size #[.string ⟨#[97]⟩, .string ⟨#[98]⟩, .string ⟨#[99, 45, 49]⟩]) := hbx
    have hgb : β < w5.heap.size := FV.out.box.lt
    replace ST := hide (ST.out.on hbb)
    replace HKV := hide (HKV.out.below hbb)
    replace FV : Hid (Fv w ρ bs β ⟨nm, 1 + 1, 0, 0, [], ⟨#[]⟩, 0, b2, b3, ⟨#[]⟩, ⟨#[]⟩⟩ (.slice none 0 0) (p + 4) w6) := FV.out.step (FV.out.rd.below hbb) (Tch.below hbb)
    clear hW hbb hbx
    generalize w5.heap.size = γ at *
    refine (pick_any ρ _ bs 3 _ FV.out.rd (by omega) (by decide) (by decide)).mono ?_
    rintro e w7 ⟨x5, rfl, hx50, hx51, hr, ht⟩
    replace ST := hide (ht.box ST.out (by omega))
    replace WX := hide (ht.box WX.out (by omega))
    replace HKV := hide (HKV.out.tch ht hl)
    replace FV : Hid (Fv w ρ bs β ⟨nm, 1 + 1, 0, 0, [], ⟨#[]⟩, 0, b2, b3, ⟨#[]⟩, ⟨#[]⟩⟩ (.slice none 0 0) (p + 5) w7) := FV.out.step hr ht
    clear hr ht
    have hx5 : x5 = 0 ∨ x5 = 1 ∨ x5 = 2 := by omega
    rcases hx5 with rfl | rfl | rfl
    ·
      have c : ∀ i, w7.cell? ⟨β, i, none⟩ = #[.string (nm), .int .i64 (1 + 1), .int .i64 (0), .int .i64 (0), .slice none 0 0, .string (⟨#[]⟩), .int .i64 (0), .bool (b2), .bool (b3), .string (⟨#[]⟩), .string (⟨#[]⟩)][i]? := FV.out.box.cell
      have cf := FV.out.box.free
      have cl := FV.out.box.lt
      go_upto_region 14 with fail
      clear c cf cl
      have BW : Hid (StrsIn (β + 1) w7 (.slice (some ⟨γ, 0, none⟩) 1 3) [⟨#[97]⟩]) := words_1 WX.out (by omega)
      generalize hW : World.setCell w7 ⟨β, 4, none⟩ _ = w8
      replace ST : Hid (Box w8 w.heap.size #[.string ⟨#[]⟩, .int .i64 0, .int .i64 0, .int .i64 0, .slice none 0 0, .string ⟨#[]⟩, .int .i64 0, .bool false, .bool false, .string ⟨#[]⟩, .string ⟨#[]⟩]) := by unfold Hid; rw [← hW]; exact ⟨by simpa [World.setCell] using ST.out.lt, fun i => (cell_setCell_ne _ _ ⟨w.heap.size, i, none⟩ _ (by show w.heap.size ≠ β; omega)).trans (ST.out.cell i), fun i => by rw [World.frozen?_setCell]; exact ST.out.free i⟩
      replace HKV : Hid (StrsIn lo w8 (.slice (some ⟨kb, ko, none⟩) K.length kc) K) := by unfold Hid; rw [← hW]; exact HKV.out.setNe (by show β ≠ kb; omega) _
      replace FV : Hid (Fv w ρ bs β ⟨nm, 1 + 1, 0, 0, [⟨#[97]⟩], ⟨#[]⟩, 0, b2, b3, ⟨#[]⟩, ⟨#[]⟩⟩ (.slice (some ⟨γ, 0, none⟩) 1 3) (p + 5) w8) := by unfold Hid; rw [← hW]; exact FV.out.put 4 (by omega) _ rfl (BW.out)
      clear hW
      cases b4 with
      | true =>
        have c : ∀ i, w8.cell? ⟨β, i, none⟩ = #[.string (nm), .int .i64 (1 + 1), .int .i64 (0), .int .i64 (0), .slice (some ⟨γ, 0, none⟩) 1 3, .string (⟨#[]⟩), .int .i64 (0), .bool (b2), .bool (b3), .string (⟨#[]⟩), .string (⟨#[]⟩)][i]? := FV.out.box.cell
        have cf := FV.out.box.free
        have cl := FV.out.box.lt
        have g : w8.cell? ⟨γ, 0, none⟩ = some (.string ⟨#[97]⟩) := FV.out.ws.last1
        go_upto_region 27 with fail
        clear c cf cl
        clear g
        generalize hW : World.setCell w8 ⟨β, 9, none⟩ _ = w9
        replace ST : Hid (Box w9 w.heap.size #[.string ⟨#[]⟩, .int .i64 0, .int .i64 0, .int .i64 0, .slice none 0 0, .string ⟨#[]⟩, .int .i64 0, .bool false, .bool false, .string ⟨#[]⟩, .string ⟨#[]⟩]) := by unfold Hid; rw [← hW]; exact ⟨by simpa [World.setCell] using ST.out.lt, fun i => (cell_setCell_ne _ _ ⟨w.heap.size, i, none⟩ _ (by show w.heap.size ≠ β; omega)).trans (ST.out.cell i), fun i => by rw [World.frozen?_setCell]; exact ST.out.free i⟩
        replace HKV : Hid (StrsIn lo w9 (.slice (some ⟨kb, ko, none⟩) K.length kc) K) := by unfold Hid; rw [← hW]; exact HKV.out.setNe (by show β ≠ kb; omega) _
        replace FV : Hid (Fv w ρ bs β ⟨nm, 1 + 1, 0, 0, [⟨#[97]⟩], ⟨#[]⟩, 0, b2, b3, ⟨#[97]⟩, ⟨#[]⟩⟩ (.slice (some ⟨γ, 0, none⟩) 1 3) (p + 5) w9) := by unfold Hid; rw [← hW]; exact FV.out.put 9 (by omega) _ rfl (FV.out.ws)
        clear hW
        have HFEW : Hid (FdFew ⟨nm, 1 + 1, 0, 0, [⟨#[97]⟩], ⟨#[]⟩, 0, b2, b3, ⟨#[97]⟩, ⟨#[]⟩⟩) := ⟨HNM.out, of_decide_eq_true rfl, of_decide_eq_true rfl, of_decide_eq_true rfl, by constructor <;> simp only [] <;> omega, by constructor <;> simp only [] <;> omega, of_decide_eq_true rfl, small_1⟩
        have c : ∀ i, w9.cell? ⟨β, i, none⟩ = #[.string (nm), .int .i64 (1 + 1), .int .i64 (0), .int .i64 (0), .slice (some ⟨γ, 0, none⟩) 1 3, .string (⟨#[]⟩), .int .i64 (0), .bool (b2), .bool (b3), .string (⟨#[97]⟩), .string (⟨#[]⟩)][i]? := FV.out.box.cell
        have cl := FV.out.box.lt
        have r : ∀ i, w9.cell? ⟨w.heap.size, i, none⟩ = #[.string ⟨#[]⟩, .int .i64 0, .int .i64 0, .int .i64 0, .slice none 0 0, .string ⟨#[]⟩, .int .i64 0, .bool false, .bool false, .string ⟨#[]⟩, .string ⟨#[]⟩][i]? := ST.out.cell
        have rf := ST.out.free
        have rl := ST.out.lt
        have HRD := hide FV.out.rd
        have HTT := hide FV.out.t
        have HWS := hide FV.out.ws
        clear FV ST HKV
        go_wp2
        refine bodyPost_ret (v := .agg (fdL ⟨nm, 1 + 1, 0, 0, [⟨#[97]⟩], ⟨#[]⟩, 0, b2, b3, ⟨#[97]⟩, ⟨#[]⟩⟩ (.slice (some ⟨γ, 0, none⟩) 1 3)).toArray) (by simp [results, Tryz.results84, go_sem, fdL, r]) rfl ⟨⟨nm, 1 + 1, 0, 0, [⟨#[97]⟩], ⟨#[]⟩, 0, b2, b3, ⟨#[97]⟩, ⟨#[]⟩⟩, .slice (some ⟨γ, 0, none⟩) 1 3, rfl, HFEW.out, ?_, ⟨p + 5, by omega, by omega, ?_⟩, ?_⟩
        · refine StrsIn.mono (lo := β + 1) ?_ (by omega)
          repeat (refine StrsIn.setCell ?_ (by show w.heap.size < β + 1; omega) _)
          exact HWS.out
        · repeat (refine Rd.other ?_ hlt _)
          exact HRD.out
        · repeat (refine Tch.other ?_ (Nat.le_refl _) _)
          exact HTT.out
      | false =>
        go_upto_region 27 with fail
        have HFEW : Hid (FdFew ⟨nm, 1 + 1, 0, 0, [⟨#[97]⟩], ⟨#[]⟩, 0, b2, b3, ⟨#[]⟩, ⟨#[]⟩⟩) := ⟨HNM.out, of_decide_eq_true rfl, of_decide_eq_true rfl, of_decide_eq_true rfl, by constructor <;> simp only [] <;> omega, by constructor <;> simp only [] <;> omega, of_decide_eq_true rfl, small_1⟩
        have c : ∀ i, w8.cell? ⟨β, i, none⟩ = #[.string (nm), .int .i64 (1 + 1), .int .i64 (0), .int .i64 (0), .slice (some ⟨γ, 0, none⟩) 1 3, .string (⟨#[]⟩), .int .i64 (0), .bool (b2), .bool (b3), .string (⟨#[]⟩), .string (⟨#[]⟩)][i]? := FV.out.box.cell
        have cl := FV.out.box.lt
        have r : ∀ i, w8.cell? ⟨w.heap.size, i, none⟩ = #[.string ⟨#[]⟩, .int .i64 0, .int .i64 0, .int .i64 0, .slice none 0 0, .string ⟨#[]⟩, .int .i64 0, .bool false, .bool false, .string ⟨#[]⟩, .string ⟨#[]⟩][i]? := ST.out.cell
        have rf := ST.out.free
        have rl := ST.out.lt
        have HRD := hide FV.out.rd
        have HTT := hide FV.out.t
        have HWS := hide FV.out.ws
        clear FV ST HKV
        go_wp2
        refine bodyPost_ret (v := .agg (fdL ⟨nm, 1 + 1, 0, 0, [⟨#[97]⟩], ⟨#[]⟩, 0, b2, b3, ⟨#[]⟩, ⟨#[]⟩⟩ (.slice (some ⟨γ, 0, none⟩) 1 3)).toArray) (by simp [results, Tryz.results84, go_sem, fdL, r]) rfl ⟨⟨nm, 1 + 1, 0, 0, [⟨#[97]⟩], ⟨#[]⟩, 0, b2, b3, ⟨#[]⟩, ⟨#[]⟩⟩, .slice (some ⟨γ, 0, none⟩) 1 3, rfl, HFEW.out, ?_, ⟨p + 5, by omega, by omega, ?_⟩, ?_⟩
        · refine StrsIn.mono (lo := β + 1) ?_ (by omega)
          repeat (refine StrsIn.setCell ?_ (by show w.heap.size < β + 1; omega) _)
          exact HWS.out
        · repeat (refine Rd.other ?_ hlt _)
          exact HRD.out
        · repeat (refine Tch.other ?_ (Nat.le_refl _) _)
          exact HTT.out
    ·
      have c : ∀ i, w7.cell? ⟨β, i, none⟩ = #[.string (nm), .int .i64 (1 + 1), .int .i64 (0), .int .i64 (0), .slice none 0 0, .string (⟨#[]⟩), .int .i64 (0), .bool (b2), .bool (b3), .string (⟨#[]⟩), .string (⟨#[]⟩)][i]? := FV.out.box.cell
      have cf := FV.out.box.free
      have cl := FV.out.box.lt
      go_upto_region 14 with fail
      clear c cf cl
      have BW : Hid (StrsIn (β + 1) w7 (.slice (some ⟨γ, 0, none⟩) 2 3) [⟨#[97]⟩, ⟨#[98]⟩]) := words_2 WX.out (by omega)
      generalize hW : World.setCell w7 ⟨β, 4, none⟩ _ = w8
      replace ST : Hid (Box w8 w.heap.size #[.string ⟨#[]⟩, .int .i64 0, .int .i64 0, .int .i64 0, .slice none 0 0, .string ⟨#[]⟩, .int .i64 0, .bool false, .bool false, .string ⟨#[]⟩, .string ⟨#[]⟩]) := by unfold Hid; rw [← hW]; exact ⟨by simpa [World.setCell] using ST.out.lt, fun i => (cell_setCell_ne _ _ ⟨w.heap.size, i, none⟩ _ (by show w.heap.size ≠ β; omega)).trans (ST.out.cell i), fun i => by rw [World.frozen?_setCell]; exact ST.out.free i⟩
      replace HKV : Hid (StrsIn lo w8 (.slice (some ⟨kb, ko, none⟩) K.length kc) K) := by unfold Hid; rw [← hW]; exact HKV.out.setNe (by show β ≠ kb; omega) _
      replace FV : Hid (Fv w ρ bs β ⟨nm, 1 + 1, 0, 0, [⟨#[97]⟩, ⟨#[98]⟩], ⟨#[]⟩, 0, b2, b3, ⟨#[]⟩, ⟨#[]⟩⟩ (.slice (some ⟨γ, 0, none⟩) 2 3) (p + 5) w8) := by unfold Hid; rw [← hW]; exact FV.out.put 4 (by omega) _ rfl (BW.out)
      clear hW
      cases b4 with
      | true =>
        have c : ∀ i, w8.cell? ⟨β, i, none⟩ = #[.string (nm), .int .i64 (1 + 1), .int .i64 (0), .int .i64 (0), .slice (some ⟨γ, 0, none⟩) 2 3, .string (⟨#[]⟩), .int .i64 (0), .bool (b2), .bool (b3), .string (⟨#[]⟩), .string (⟨#[]⟩)][i]? := FV.out.box.cell
        have cf := FV.out.box.free
        have cl := FV.out.box.lt
        have g : w8.cell? ⟨γ, 1, none⟩ = some (.string ⟨#[98]⟩) := FV.out.ws.last2
        go_upto_region 27 with fail
        clear c cf cl
        clear g
        generalize hW : World.setCell w8 ⟨β, 9, none⟩ _ = w9
        replace ST : Hid (Box w9 w.heap.size #[.string ⟨#[]⟩, .int .i64 0, .int .i64 0, .int .i64 0, .slice none 0 0, .string ⟨#[]⟩, .int .i64 0, .bool false, .bool false, .string ⟨#[]⟩, .string ⟨#[]⟩]) := by unfold Hid; rw [← hW]; exact ⟨by simpa [World.setCell] using ST.out.lt, fun i => (cell_setCell_ne _ _ ⟨w.heap.size, i, none⟩ _ (by show w.heap.size ≠ β; omega)).trans (ST.out.cell i), fun i => by rw [World.frozen?_setCell]; exact ST.out.free i⟩
        replace HKV : Hid (StrsIn lo w9 (.slice (some ⟨kb, ko, none⟩) K.length kc) K) := by unfold Hid; rw [← hW]; exact HKV.out.setNe (by show β ≠ kb; omega) _
        replace FV : Hid (Fv w ρ bs β ⟨nm, 1 + 1, 0, 0, [⟨#[97]⟩, ⟨#[98]⟩], ⟨#[]⟩, 0, b2, b3, ⟨#[98]⟩, ⟨#[]⟩⟩ (.slice (some ⟨γ, 0, none⟩) 2 3) (p + 5) w9) := by unfold Hid; rw [← hW]; exact FV.out.put 9 (by omega) _ rfl (FV.out.ws)
        clear hW
        have HFEW : Hid (FdFew ⟨nm, 1 + 1, 0, 0, [⟨#[97]⟩, ⟨#[98]⟩], ⟨#[]⟩, 0, b2, b3, ⟨#[98]⟩, ⟨#[]⟩⟩) := ⟨HNM.out, of_decide_eq_true rfl, of_decide_eq_true rfl, of_decide_eq_true rfl, by constructor <;> simp only [] <;> omega, by constructor <;> simp only [] <;> omega, of_decide_eq_true rfl, small_2⟩
        have c : ∀ i, w9.cell? ⟨β, i, none⟩ = #[.string (nm), .int .i64 (1 + 1), .int .i64 (0), .int .i64 (0), .slice (some ⟨γ, 0, none⟩) 2 3, .string (⟨#[]⟩), .int .i64 (0), .bool (b2), .bool (b3), .string (⟨#[98]⟩), .string (⟨#[]⟩)][i]? := FV.out.box.cell
        have cl := FV.out.box.lt
        have r : ∀ i, w9.cell? ⟨w.heap.size, i, none⟩ = #[.string ⟨#[]⟩, .int .i64 0, .int .i64 0, .int .i64 0, .slice none 0 0, .string ⟨#[]⟩, .int .i64 0, .bool false, .bool false, .string ⟨#[]⟩, .string ⟨#[]⟩][i]? := ST.out.cell
        have rf := ST.out.free
        have rl := ST.out.lt
        have HRD := hide FV.out.rd
        have HTT := hide FV.out.t
        have HWS := hide FV.out.ws
        clear FV ST HKV
        go_wp2
        refine bodyPost_ret (v := .agg (fdL ⟨nm, 1 + 1, 0, 0, [⟨#[97]⟩, ⟨#[98]⟩], ⟨#[]⟩, 0, b2, b3, ⟨#[98]⟩, ⟨#[]⟩⟩ (.slice (some ⟨γ, 0, none⟩) 2 3)).toArray) (by simp [results, Tryz.results84, go_sem, fdL, r]) rfl ⟨⟨nm, 1 + 1, 0, 0, [⟨#[97]⟩, ⟨#[98]⟩], ⟨#[]⟩, 0, b2, b3, ⟨#[98]⟩, ⟨#[]⟩⟩, .slice (some ⟨γ, 0, none⟩) 2 3, rfl, HFEW.out, ?_, ⟨p + 5, by omega, by omega, ?_⟩, ?_⟩
        · refine StrsIn.mono (lo := β + 1) ?_ (by omega)
          repeat (refine StrsIn.setCell ?_ (by show w.heap.size < β + 1; omega) _)
          exact HWS.out
        · repeat (refine Rd.other ?_ hlt _)
          exact HRD.out
        · repeat (refine Tch.other ?_ (Nat.le_refl _) _)
          exact HTT.out
      | false =>
        go_upto_region 27 with fail
        have HFEW : Hid (FdFew ⟨nm, 1 + 1, 0, 0, [⟨#[97]⟩, ⟨#[98]⟩], ⟨#[]⟩, 0, b2, b3, ⟨#[]⟩, ⟨#[]⟩⟩) := ⟨HNM.out, of_decide_eq_true rfl, of_decide_eq_true rfl, of_decide_eq_true rfl, by constructor <;> simp only [] <;> omega, by constructor <;> simp only [] <;> omega, of_decide_eq_true rfl, small_2⟩
        have c : ∀ i, w8.cell? ⟨β, i, none⟩ = #[.string (nm), .int .i64 (1 + 1), .int .i64 (0), .int .i64 (0), .slice (some ⟨γ, 0, none⟩) 2 3, .string (⟨#[]⟩), .int .i64 (0), .bool (b2), .bool (b3), .string (⟨#[]⟩), .string (⟨#[]⟩)][i]? := FV.out.box.cell
        have cl := FV.out.box.lt
        have r : ∀ i, w8.cell? ⟨w.heap.size, i, none⟩ = #[.string ⟨#[]⟩, .int .i64 0, .int .i64 0, .int .i64 0, .slice none 0 0, .string ⟨#[]⟩, .int .i64 0, .bool false, .bool false, .string ⟨#[]⟩, .string ⟨#[]⟩][i]? := ST.out.cell
        have rf := ST.out.free
        have rl := ST.out.lt
        have HRD := hide FV.out.rd
        have HTT := hide FV.out.t
        have HWS := hide FV.out.ws
        clear FV ST HKV
        go_wp2
        refine bodyPost_ret (v := .agg (fdL ⟨nm, 1 + 1, 0, 0, [⟨#[97]⟩, ⟨#[98]⟩], ⟨#[]⟩, 0, b2, b3, ⟨#[]⟩, ⟨#[]⟩⟩ (.slice (some ⟨γ, 0, none⟩) 2 3)).toArray) (by simp [results, Tryz.results84, go_sem, fdL, r]) rfl ⟨⟨nm, 1 + 1, 0, 0, [⟨#[97]⟩, ⟨#[98]⟩], ⟨#[]⟩, 0, b2, b3, ⟨#[]⟩, ⟨#[]⟩⟩, .slice (some ⟨γ, 0, none⟩) 2 3, rfl, HFEW.out, ?_, ⟨p + 5, by omega, by omega, ?_⟩, ?_⟩
        · refine StrsIn.mono (lo := β + 1) ?_ (by omega)
          repeat (refine StrsIn.setCell ?_ (by show w.heap.size < β + 1; omega) _)
          exact HWS.out
        · repeat (refine Rd.other ?_ hlt _)
          exact HRD.out
        · repeat (refine Tch.other ?_ (Nat.le_refl _) _)
          exact HTT.out
    ·
      have c : ∀ i, w7.cell? ⟨β, i, none⟩ = #[.string (nm), .int .i64 (1 + 1), .int .i64 (0), .int .i64 (0), .slice none 0 0, .string (⟨#[]⟩), .int .i64 (0), .bool (b2), .bool (b3), .string (⟨#[]⟩), .string (⟨#[]⟩)][i]? := FV.out.box.cell
      have cf := FV.out.box.free
      have cl := FV.out.box.lt
      go_upto_region 14 with fail
      clear c cf cl
      have BW : Hid (StrsIn (β + 1) w7 (.slice (some ⟨γ, 0, none⟩) 3 3) [⟨#[97]⟩, ⟨#[98]⟩, ⟨#[99, 45, 49]⟩]) := words_3 WX.out (by omega)
      generalize hW : World.setCell w7 ⟨β, 4, none⟩ _ = w8
      replace ST : Hid (Box w8 w.heap.size #[.string ⟨#[]⟩, .int .i64 0, .int .i64 0, .int .i64 0, .slice none 0 0, .string ⟨#[]⟩, .int .i64 0, .bool false, .bool false, .string ⟨#[]⟩, .string ⟨#[]⟩]) := by unfold Hid; rw [← hW]; exact ⟨by simpa [World.setCell] using ST.out.lt, fun i => (cell_setCell_ne _ _ ⟨w.heap.size, i, none⟩ _ (by show w.heap.size ≠ β; omega)).trans (ST.out.cell i), fun i => by rw [World.frozen?_setCell]; exact ST.out.free i⟩
      replace HKV : Hid (StrsIn lo w8 (.slice (some ⟨kb, ko, none⟩) K.length kc) K) := by unfold Hid; rw [← hW]; exact HKV.out.setNe (by show β ≠ kb; omega) _
      replace FV : Hid (Fv w ρ bs β ⟨nm, 1 + 1, 0, 0, [⟨#[97]⟩, ⟨#[98]⟩, ⟨#[99, 45, 49]⟩], ⟨#[]⟩, 0, b2, b3, ⟨#[]⟩, ⟨#[]⟩⟩ (.slice (some ⟨γ, 0, none⟩) 3 3) (p + 5) w8) := by unfold Hid; rw [← hW]; exact FV.out.put 4 (by omega) _ rfl (BW.out)
      clear hW
      cases b4 with
      | true =>
        have c : ∀ i, w8.cell? ⟨β, i, none⟩ = #[.string (nm), .int .i64 (1 + 1), .int .i64 (0), .int .i64 (0), .slice (some ⟨γ, 0, none⟩) 3 3, .string (⟨#[]⟩), .int .i64 (0), .bool (b2), .bool (b3), .string (⟨#[]⟩), .string (⟨#[]⟩)][i]? := FV.out.box.cell
        have cf := FV.out.box.free
        have cl := FV.out.box.lt
        have g : w8.cell? ⟨γ, 2, none⟩ = some (.string ⟨#[99, 45, 49]⟩) := FV.out.ws.last3
        go_upto_region 27 with fail
        clear c cf cl
        clear g
        generalize hW : World.setCell w8 ⟨β, 9, none⟩ _ = w9
        replace ST : Hid (Box w9 w.heap.size #[.string ⟨#[]⟩, .int .i64 0, .int .i64 0, .int .i64 0, .slice none 0 0, .string ⟨#[]⟩, .int .i64 0, .bool false, .bool false, .string ⟨#[]⟩, .string ⟨#[]⟩]) := by unfold Hid; rw [← hW]; exact ⟨by simpa [World.setCell] using ST.out.lt, fun i => (cell_setCell_ne _ _ ⟨w.heap.size, i, none⟩ _ (by show w.heap.size ≠ β; omega)).trans (ST.out.cell i), fun i => by rw [World.frozen?_setCell]; exact ST.out.free i⟩
        replace HKV : Hid (StrsIn lo w9 (.slice (some ⟨kb, ko, none⟩) K.length kc) K) := by unfold Hid; rw [← hW]; exact HKV.out.setNe (by show β ≠ kb; omega) _
        replace FV : Hid (Fv w ρ bs β ⟨nm, 1 + 1, 0, 0, [⟨#[97]⟩, ⟨#[98]⟩, ⟨#[99, 45, 49]⟩], ⟨#[]⟩, 0, b2, b3, ⟨#[99, 45, 49]⟩, ⟨#[]⟩⟩ (.slice (some ⟨γ, 0, none⟩) 3 3) (p + 5) w9) := by unfold Hid; rw [← hW]; exact FV.out.put 9 (by omega) _ rfl (FV.out.ws)
        clear hW
        have HFEW : Hid (FdFew ⟨nm, 1 + 1, 0, 0, [⟨#[97]⟩, ⟨#[98]⟩, ⟨#[99, 45, 49]⟩], ⟨#[]⟩, 0, b2, b3, ⟨#[99, 45, 49]⟩, ⟨#[]⟩⟩) := ⟨HNM.out, of_decide_eq_true rfl, of_decide_eq_true rfl, of_decide_eq_true rfl, by constructor <;> simp only [] <;> omega, by constructor <;> simp only [] <;> omega, of_decide_eq_true rfl, small_3⟩
        have c : ∀ i, w9.cell? ⟨β, i, none⟩ = #[.string (nm), .int .i64 (1 + 1), .int .i64 (0), .int .i64 (0), .slice (some ⟨γ, 0, none⟩) 3 3, .string (⟨#[]⟩), .int .i64 (0), .bool (b2), .bool (b3), .string (⟨#[99, 45, 49]⟩), .string (⟨#[]⟩)][i]? := FV.out.box.cell
        have cl := FV.out.box.lt
        have r : ∀ i, w9.cell? ⟨w.heap.size, i, none⟩ = #[.string ⟨#[]⟩, .int .i64 0, .int .i64 0, .int .i64 0, .slice none 0 0, .string ⟨#[]⟩, .int .i64 0, .bool false, .bool false, .string ⟨#[]⟩, .string ⟨#[]⟩][i]? := ST.out.cell
        have rf := ST.out.free
        have rl := ST.out.lt
        have HRD := hide FV.out.rd
        have HTT := hide FV.out.t
        have HWS := hide FV.out.ws
        clear FV ST HKV
        go_wp2
        refine bodyPost_ret (v := .agg (fdL ⟨nm, 1 + 1, 0, 0, [⟨#[97]⟩, ⟨#[98]⟩, ⟨#[99, 45, 49]⟩], ⟨#[]⟩, 0, b2, b3, ⟨#[99, 45, 49]⟩, ⟨#[]⟩⟩ (.slice (some ⟨γ, 0, none⟩) 3 3)).toArray) (by simp [results, Tryz.results84, go_sem, fdL, r]) rfl ⟨⟨nm, 1 + 1, 0, 0, [⟨#[97]⟩, ⟨#[98]⟩, ⟨#[99, 45, 49]⟩], ⟨#[]⟩, 0, b2, b3, ⟨#[99, 45, 49]⟩, ⟨#[]⟩⟩, .slice (some ⟨γ, 0, none⟩) 3 3, rfl, HFEW.out, ?_, ⟨p + 5, by omega, by omega, ?_⟩, ?_⟩
        · refine StrsIn.mono (lo := β + 1) ?_ (by omega)
          repeat (refine StrsIn.setCell ?_ (by show w.heap.size < β + 1; omega) _)
          exact HWS.out
        · repeat (refine Rd.other ?_ hlt _)
          exact HRD.out
        · repeat (refine Tch.other ?_ (Nat.le_refl _) _)
          exact HTT.out
      | false =>
        go_upto_region 27 with fail
        have HFEW : Hid (FdFew ⟨nm, 1 + 1, 0, 0, [⟨#[97]⟩, ⟨#[98]⟩, ⟨#[99, 45, 49]⟩], ⟨#[]⟩, 0, b2, b3, ⟨#[]⟩, ⟨#[]⟩⟩) := ⟨HNM.out, of_decide_eq_true rfl, of_decide_eq_true rfl, of_decide_eq_true rfl, by constructor <;> simp only [] <;> omega, by constructor <;> simp only [] <;> omega, of_decide_eq_true rfl, small_3⟩
        have c : ∀ i, w8.cell? ⟨β, i, none⟩ = #[.string (nm), .int .i64 (1 + 1), .int .i64 (0), .int .i64 (0), .slice (some ⟨γ, 0, none⟩) 3 3, .string (⟨#[]⟩), .int .i64 (0), .bool (b2), .bool (b3), .string (⟨#[]⟩), .string (⟨#[]⟩)][i]? := FV.out.box.cell
        have cl := FV.out.box.lt
        have r : ∀ i, w8.cell? ⟨w.heap.size, i, none⟩ = #[.string ⟨#[]⟩, .int .i64 0, .int .i64 0, .int .i64 0, .slice none 0 0, .string ⟨#[]⟩, .int .i64 0, .bool false, .bool false, .string ⟨#[]⟩, .string ⟨#[]⟩][i]? := ST.out.cell
        have rf := ST.out.free
        have rl := ST.out.lt
        have HRD := hide FV.out.rd
        have HTT := hide FV.out.t
        have HWS := hide FV.out.ws
        clear FV ST HKV
        go_wp2
        refine bodyPost_ret (v := .agg (fdL ⟨nm, 1 + 1, 0, 0, [⟨#[97]⟩, ⟨#[98]⟩, ⟨#[99, 45, 49]⟩], ⟨#[]⟩, 0, b2, b3, ⟨#[]⟩, ⟨#[]⟩⟩ (.slice (some ⟨γ, 0, none⟩) 3 3)).toArray) (by simp [results, Tryz.results84, go_sem, fdL, r]) rfl ⟨⟨nm, 1 + 1, 0, 0, [⟨#[97]⟩, ⟨#[98]⟩, ⟨#[99, 45, 49]⟩], ⟨#[]⟩, 0, b2, b3, ⟨#[]⟩, ⟨#[]⟩⟩, .slice (some ⟨γ, 0, none⟩) 3 3, rfl, HFEW.out, ?_, ⟨p + 5, by omega, by omega, ?_⟩, ?_⟩
        · refine StrsIn.mono (lo := β + 1) ?_ (by omega)
          repeat (refine StrsIn.setCell ?_ (by show w.heap.size < β + 1; omega) _)
          exact HWS.out
        · repeat (refine Rd.other ?_ hlt _)
          exact HRD.out
        · repeat (refine Tch.other ?_ (Nat.le_refl _) _)
          exact HTT.out
  ·
    have c : ∀ i, w5.cell? ⟨β, i, none⟩ = #[.string (nm), .int .i64 (1 + 2), .int .i64 (0), .int .i64 (0), .slice none 0 0, .string (⟨#[]⟩), .int .i64 (0), .bool (b2), .bool (b3), .string (⟨#[]⟩), .string (⟨#[]⟩)][i]? := FV.out.box.cell
    have cf := FV.out.box.free
    have cl := FV.out.box.lt
    go_wp2_with fail
    clear c cf cl
    generalize hW : World.setCell w5 ⟨β, 2, none⟩ _ = w6
    replace ST : Hid (Box w6 w.heap.size #[.string ⟨#[]⟩, .int .i64 0, .int .i64 0, .int .i64 0, .slice none 0 0, .string ⟨#[]⟩, .int .i64 0, .bool false, .bool false, .string ⟨#[]⟩, .string ⟨#[]⟩]) := by unfold Hid; rw [← hW]; exact ⟨by simpa [World.setCell] using ST.out.lt, fun i => (cell_setCell_ne _ _ ⟨w.heap.size, i, none⟩ _ (by show w.heap.size ≠ β; omega)).trans (ST.out.cell i), fun i => by rw [World.frozen?_setCell]; exact ST.out.free i⟩
    replace HKV : Hid (StrsIn lo w6 (.slice (some ⟨kb, ko, none⟩) K.length kc) K) := by unfold Hid; rw [← hW]; exact HKV.out.setNe (by show β ≠ kb; omega) _
    replace FV : Hid (Fv w ρ bs β ⟨nm, 1 + 2, 1, 0, [], ⟨#[]⟩, 0, b2, b3, ⟨#[]⟩, ⟨#[]⟩⟩ (.slice none 0 0) (p + 4) w6) := by unfold Hid; rw [← hW]; exact FV.out.put 2 (by omega) _ rfl (FV.out.ws)
    clear hW
    refine (pick_any ρ _ bs 6 _ FV.out.rd (by omega) (by decide) (by decide)).mono ?_
    rintro e w7 ⟨x5, rfl, hx50, hx51, hr, ht⟩
    replace ST := hide (ht.box ST.out (by omega))
    replace HKV := hide (HKV.out.tch ht hl)
    replace FV : Hid (Fv w ρ bs β ⟨nm, 1 + 2, 1, 0, [], ⟨#[]⟩, 0, b2, b3, ⟨#[]⟩, ⟨#[]⟩⟩ (.slice none 0 0) (p + 5) w7) := FV.out.step hr ht
    clear hr ht
    have hw5 : wrap64 (1 + x5) = 1 + x5 := by unfold wrap64; omega
    have c : ∀ i, w7.cell? ⟨β, i, none⟩ = #[.string (nm), .int .i64 (1 + 2), .int .i64 (1), .int .i64 (0), .slice none 0 0, .string (⟨#[]⟩), .int .i64 (0), .bool (b2), .bool (b3), .string (⟨#[]⟩), .string (⟨#[]⟩)][i]? := FV.out.box.cell
    have cf := FV.out.box.free
    have cl := FV.out.box.lt
    go_wp2_with fail
    clear c cf cl
    generalize hW : World.setCell w7 ⟨β, 3, none⟩ _ = w8
    replace ST : Hid (Box w8 w.heap.size #[.string ⟨#[]⟩, .int .i64 0, .int .i64 0, .int .i64 0, .slice none 0 0, .string ⟨#[]⟩, .int .i64 0, .bool false, .bool false, .string ⟨#[]⟩, .string ⟨#[]⟩]) := by unfold Hid; rw [← hW]; exact ⟨by simpa [World.setCell] using ST.out.lt, fun i => (cell_setCell_ne _ _ ⟨w.heap.size, i, none⟩ _ (by show w.heap.size ≠ β; omega)).trans (ST.out.cell i), fun i => by rw [World.frozen?_setCell]; exact ST.out.free i⟩
    replace HKV : Hid (StrsIn lo w8 (.slice (some ⟨kb, ko, none⟩) K.length kc) K) := by unfold Hid; rw [← hW]; exact HKV.out.setNe (by show β ≠ kb; omega) _
    replace FV : Hid (Fv w ρ bs β ⟨nm, 1 + 2, 1, 1 + x5, [], ⟨#[]⟩, 0, b2, b3, ⟨#[]⟩, ⟨#[]⟩⟩ (.slice none 0 0) (p + 5) w8) := by unfold Hid; rw [← hW]; exact FV.out.put 3 (by omega) _ rfl (FV.out.ws)
    clear hW
    refine (pick_any ρ _ bs 8 _ FV.out.rd (by omega) (by decide) (by decide)).mono ?_
    rintro e w9 ⟨x6, rfl, hx60, hx61, hr, ht⟩
    replace ST := hide (ht.box ST.out (by omega))
    replace HKV := hide (HKV.out.tch ht hl)
    replace FV : Hid (Fv w ρ bs β ⟨nm, 1 + 2, 1, 1 + x5, [], ⟨#[]⟩, 0, b2, b3, ⟨#[]⟩, ⟨#[]⟩⟩ (.slice none 0 0) (p + 6) w9) := FV.out.step hr ht
    clear hr ht
    by_cases h0 : x6 = 0
    ·
      subst h0
      have c : ∀ i, w9.cell? ⟨β, i, none⟩ = #[.string (nm), .int .i64 (1 + 2), .int .i64 (1), .int .i64 (1 + x5), .slice none 0 0, .string (⟨#[]⟩), .int .i64 (0), .bool (b2), .bool (b3), .string (⟨#[]⟩), .string (⟨#[]⟩)][i]? := FV.out.box.cell
      have cf := FV.out.box.free
      have cl := FV.out.box.lt
      go_upto_region 21 with fail
      clear c cf cl
      generalize hW : World.setCell w9 ⟨β, 3, none⟩ _ = w10
      replace ST : Hid (Box w10 w.heap.size #[.string ⟨#[]⟩, .int .i64 0, .int .i64 0, .int .i64 0, .slice none 0 0, .string ⟨#[]⟩, .int .i64 0, .bool false, .bool false, .string ⟨#[]⟩, .string ⟨#[]⟩]) := by unfold Hid; rw [← hW]; exact ⟨by simpa [World.setCell] using ST.out.lt, fun i => (cell_setCell_ne _ _ ⟨w.heap.size, i, none⟩ _ (by show w.heap.size ≠ β; omega)).trans (ST.out.cell i), fun i => by rw [World.frozen?_setCell]; exact ST.out.free i⟩
      replace HKV : Hid (StrsIn lo w10 (.slice (some ⟨kb, ko, none⟩) K.length kc) K) := by unfold Hid; rw [← hW]; exact HKV.out.setNe (by show β ≠ kb; omega) _
      replace FV : Hid (Fv w ρ bs β ⟨nm, 1 + 2, 1, 40, [], ⟨#[]⟩, 0, b2, b3, ⟨#[]⟩, ⟨#[]⟩⟩ (.slice none 0 0) (p + 6) w10) := by unfold Hid; rw [← hW]; exact FV.out.put 3 (by omega) _ rfl (FV.out.ws)
      clear hW
      cases b4 with
      | true =>
        have c : ∀ i, w10.cell? ⟨β, i, none⟩ = #[.string (nm), .int .i64 (1 + 2), .int .i64 (1), .int .i64 (40), .slice none 0 0, .string (⟨#[]⟩), .int .i64 (0), .bool (b2), .bool (b3), .string (⟨#[]⟩), .string (⟨#[]⟩)][i]? := FV.out.box.cell
        have cf := FV.out.box.free
        have cl := FV.out.box.lt
        go_upto_region 27 with fail
        clear c cf cl
        generalize hW : World.setCell w10 ⟨β, 9, none⟩ _ = w11
        replace ST : Hid (Box w11 w.heap.size #[.string ⟨#[]⟩, .int .i64 0, .int .i64 0, .int .i64 0, .slice none 0 0, .string ⟨#[]⟩, .int .i64 0, .bool false, .bool false, .string ⟨#[]⟩, .string ⟨#[]⟩]) := by unfold Hid; rw [← hW]; exact ⟨by simpa [World.setCell] using ST.out.lt, fun i => (cell_setCell_ne _ _ ⟨w.heap.size, i, none⟩ _ (by show w.heap.size ≠ β; omega)).trans (ST.out.cell i), fun i => by rw [World.frozen?_setCell]; exact ST.out.free i⟩
        replace HKV : Hid (StrsIn lo w11 (.slice (some ⟨kb, ko, none⟩) K.length kc) K) := by unfold Hid; rw [← hW]; exact HKV.out.setNe (by show β ≠ kb; omega) _
        replace FV : Hid (Fv w ρ bs β ⟨nm, 1 + 2, 1, 40, [], ⟨#[]⟩, 0, b2, b3, ⟨#[116]⟩, ⟨#[]⟩⟩ (.slice none 0 0) (p + 6) w11) := by unfold Hid; rw [← hW]; exact FV.out.put 9 (by omega) _ rfl (FV.out.ws)
        clear hW
        have HFEW : Hid (FdFew ⟨nm, 1 + 2, 1, 40, [], ⟨#[]⟩, 0, b2, b3, ⟨#[116]⟩, ⟨#[]⟩⟩) := ⟨HNM.out, of_decide_eq_true rfl, of_decide_eq_true rfl, of_decide_eq_true rfl, by constructor <;> simp only [] <;> omega, by constructor <;> simp only [] <;> omega, of_decide_eq_true rfl, fun s hs => by cases hs⟩
        have c : ∀ i, w11.cell? ⟨β, i, none⟩ = #[.string (nm), .int .i64 (1 + 2), .int .i64 (1), .int .i64 (40), .slice none 0 0, .string (⟨#[]⟩), .int .i64 (0), .bool (b2), .bool (b3), .string (⟨#[116]⟩), .string (⟨#[]⟩)][i]? := FV.out.box.cell
        have cl := FV.out.box.lt
        have r : ∀ i, w11.cell? ⟨w.heap.size, i, none⟩ = #[.string ⟨#[]⟩, .int .i64 0, .int .i64 0, .int .i64 0, .slice none 0 0, .string ⟨#[]⟩, .int .i64 0, .bool false, .bool false, .string ⟨#[]⟩, .string ⟨#[]⟩][i]? := ST.out.cell
        have rf := ST.out.free
        have rl := ST.out.lt
        have HRD := hide FV.out.rd
        have HTT := hide FV.out.t
        have HWS := hide FV.out.ws
        clear FV ST HKV
        go_wp2
        refine bodyPost_ret (v := .agg (fdL ⟨nm, 1 + 2, 1, 40, [], ⟨#[]⟩, 0, b2, b3, ⟨#[116]⟩, ⟨#[]⟩⟩ (.slice none 0 0)).toArray) (by simp [results, Tryz.results84, go_sem, fdL, r]) rfl ⟨⟨nm, 1 + 2, 1, 40, [], ⟨#[]⟩, 0, b2, b3, ⟨#[116]⟩, ⟨#[]⟩⟩, .slice none 0 0, rfl, HFEW.out, ?_, ⟨p + 6, by omega, by omega, ?_⟩, ?_⟩
        · refine StrsIn.mono (lo := β + 1) ?_ (by omega)
          repeat (refine StrsIn.setCell ?_ (by show w.heap.size < β + 1; omega) _)
          exact HWS.out
        · repeat (refine Rd.other ?_ hlt _)
          exact HRD.out
        · repeat (refine Tch.other ?_ (Nat.le_refl _) _)
          exact HTT.out
      | false =>
        go_upto_region 27 with fail
        have HFEW : Hid (FdFew ⟨nm, 1 + 2, 1, 40, [], ⟨#[]⟩, 0, b2, b3, ⟨#[]⟩, ⟨#[]⟩⟩) := ⟨HNM.out, of_decide_eq_true rfl, of_decide_eq_true rfl, of_decide_eq_true rfl, by constructor <;> simp only [] <;> omega, by constructor <;> simp only [] <;> omega, of_decide_eq_true rfl, fun s hs => by cases hs⟩
        have c : ∀ i, w10.cell? ⟨β, i, none⟩ = #[.string (nm), .int .i64 (1 + 2), .int .i64 (1), .int .i64 (40), .slice none 0 0, .string (⟨#[]⟩), .int .i64 (0), .bool (b2), .bool (b3), .string (⟨#[]⟩), .string (⟨#[]⟩)][i]? := FV.out.box.cell
        have cl := FV.out.box.lt
        have r : ∀ i, w10.cell? ⟨w.heap.size, i, none⟩ = #[.string ⟨#[]⟩, .int .i64 0, .int .i64 0, .int .i64 0, .slice none 0 0, .string ⟨#[]⟩, .int .i64 0, .bool false, .bool false, .string ⟨#[]⟩, .string ⟨#[]⟩][i]? := ST.out.cell
        have rf := ST.out.free
        have rl := ST.out.lt
        have HRD := hide FV.out.rd
        have HTT := hide FV.out.t
        have HWS := hide FV.out.ws
        clear FV ST HKV
        go_wp2
        refine bodyPost_ret (v := .agg (fdL ⟨nm, 1 + 2, 1, 40, [], ⟨#[]⟩, 0, b2, b3, ⟨#[]⟩, ⟨#[]⟩⟩ (.slice none 0 0)).toArray) (by simp [results, Tryz.results84, go_sem, fdL, r]) rfl ⟨⟨nm, 1 + 2, 1, 40, [], ⟨#[]⟩, 0, b2, b3, ⟨#[]⟩, ⟨#[]⟩⟩, .slice none 0 0, rfl, HFEW.out, ?_, ⟨p + 6, by omega, by omega, ?_⟩, ?_⟩
        · refine StrsIn.mono (lo := β + 1) ?_ (by omega)
          repeat (refine StrsIn.setCell ?_ (by show w.heap.size < β + 1; omega) _)
          exact HWS.out
        · repeat (refine Rd.other ?_ hlt _)
          exact HRD.out
        · repeat (refine Tch.other ?_ (Nat.le_refl _) _)
          exact HTT.out
    ·
      have h0' : (x6 == 0) = false := by simpa using h0
      go_upto_region 21 with fail
      cases b4 with
      | true =>
        have c : ∀ i, w9.cell? ⟨β, i, none⟩ = #[.string (nm), .int .i64 (1 + 2), .int .i64 (1), .int .i64 (1 + x5), .slice none 0 0, .string (⟨#[]⟩), .int .i64 (0), .bool (b2), .bool (b3), .string (⟨#[]⟩), .string (⟨#[]⟩)][i]? := FV.out.box.cell
        have cf := FV.out.box.free
        have cl := FV.out.box.lt
        go_upto_region 27 with fail
        clear c cf cl
        generalize hW : World.setCell w9 ⟨β, 9, none⟩ _ = w10
        replace ST : Hid (Box w10 w.heap.size #[.string ⟨#[]⟩, .int .i64 0, .int .i64 0, .int .i64 0, .slice none 0 0, .string ⟨#[]⟩, .int .i64 0, .bool false, .bool false, .string ⟨#[]⟩, .string ⟨#[]⟩]) := by unfold Hid; rw [← hW]; exact ⟨by simpa [World.setCell] using ST.out.lt, fun i => (cell_setCell_ne _ _ ⟨w.heap.size, i, none⟩ _ (by show w.heap.size ≠ β; omega)).trans (ST.out.cell i), fun i => by rw [World.frozen?_setCell]; exact ST.out.free i⟩
        replace HKV : Hid (StrsIn lo w10 (.slice (some ⟨kb, ko, none⟩) K.length kc) K) := by unfold Hid; rw [← hW]; exact HKV.out.setNe (by show β ≠ kb; omega) _
        replace FV : Hid (Fv w ρ bs β ⟨nm, 1 + 2, 1, 1 + x5, [], ⟨#[]⟩, 0, b2, b3, ⟨#[116]⟩, ⟨#[]⟩⟩ (.slice none 0 0) (p + 6) w10) := by unfold Hid; rw [← hW]; exact FV.out.put 9 (by omega) _ rfl (FV.out.ws)
        clear hW
        have HFEW : Hid (FdFew ⟨nm, 1 + 2, 1, 1 + x5, [], ⟨#[]⟩, 0, b2, b3, ⟨#[116]⟩, ⟨#[]⟩⟩) := ⟨HNM.out, of_decide_eq_true rfl, of_decide_eq_true rfl, of_decide_eq_true rfl, by constructor <;> simp only [] <;> omega, by constructor <;> simp only [] <;> omega, of_decide_eq_true rfl, fun s hs => by cases hs⟩
        have c : ∀ i, w10.cell? ⟨β, i, none⟩ = #[.string (nm), .int .i64 (1 + 2), .int .i64 (1), .int .i64 (1 + x5), .slice none 0 0, .string (⟨#[]⟩), .int .i64 (0), .bool (b2), .bool (b3), .string (⟨#[116]⟩), .string (⟨#[]⟩)][i]? := FV.out.box.cell
        have cl := FV.out.box.lt
        have r : ∀ i, w10.cell? ⟨w.heap.size, i, none⟩ = #[.string ⟨#[]⟩, .int .i64 0, .int .i64 0, .int .i64 0, .slice none 0 0, .string ⟨#[]⟩, .int .i64 0, .bool false, .bool false, .string ⟨#[]⟩, .string ⟨#[]⟩][i]? := ST.out.cell
        have rf := ST.out.free
        have rl := ST.out.lt
        have HRD := hide FV.out.rd
        have HTT := hide FV.out.t
        have HWS := hide FV.out.ws
        clear FV ST HKV
        go_wp2
        refine bodyPost_ret (v := .agg (fdL ⟨nm, 1 + 2, 1, 1 + x5, [], ⟨#[]⟩, 0, b2, b3, ⟨#[116]⟩, ⟨#[]⟩⟩ (.slice none 0 0)).toArray) (by simp [results, Tryz.results84, go_sem, fdL, r]) rfl ⟨⟨nm, 1 + 2, 1, 1 + x5, [], ⟨#[]⟩, 0, b2, b3, ⟨#[116]⟩, ⟨#[]⟩⟩, .slice none 0 0, rfl, HFEW.out, ?_, ⟨p + 6, by omega, by omega, ?_⟩, ?_⟩
        · refine StrsIn.mono (lo := β + 1) ?_ (by omega)
          repeat (refine StrsIn.setCell ?_ (by show w.heap.size < β + 1; omega) _)
          exact HWS.out
        · repeat (refine Rd.other ?_ hlt _)
          exact HRD.out
        · repeat (refine Tch.other ?_ (Nat.le_refl _) _)
          exact HTT.out
      | false =>
        go_upto_region 27 with fail
        have HFEW : Hid (FdFew ⟨nm, 1 + 2, 1, 1 + x5, [], ⟨#[]⟩, 0, b2, b3, ⟨#[]⟩, ⟨#[]⟩⟩) := ⟨HNM.out, of_decide_eq_true rfl, of_decide_eq_true rfl, of_decide_eq_true rfl, by constructor <;> simp only [] <;> omega, by constructor <;> simp only [] <;> omega, of_decide_eq_true rfl, fun s hs => by cases hs⟩
        have c : ∀ i, w9.cell? ⟨β, i, none⟩ = #[.string (nm), .int .i64 (1 + 2), .int .i64 (1), .int .i64 (1 + x5), .slice none 0 0, .string (⟨#[]⟩), .int .i64 (0), .bool (b2), .bool (b3), .string (⟨#[]⟩), .string (⟨#[]⟩)][i]? := FV.out.box.cell
        have cl := FV.out.box.lt
        have r : ∀ i, w9.cell? ⟨w.heap.size, i, none⟩ = #[.string ⟨#[]⟩, .int .i64 0, .int .i64 0, .int .i64 0, .slice none 0 0, .string ⟨#[]⟩, .int .i64 0, .bool false, .bool false, .string ⟨#[]⟩, .string ⟨#[]⟩][i]? := ST.out.cell
        have rf := ST.out.free
        have rl := ST.out.lt
        have HRD := hide FV.out.rd
        have HTT := hide FV.out.t
        have HWS := hide FV.out.ws
        clear FV ST HKV
        go_wp2
        refine bodyPost_ret (v := .agg (fdL ⟨nm, 1 + 2, 1, 1 + x5, [], ⟨#[]⟩, 0, b2, b3, ⟨#[]⟩, ⟨#[]⟩⟩ (.slice none 0 0)).toArray) (by simp [results, Tryz.results84, go_sem, fdL, r]) rfl ⟨⟨nm, 1 + 2, 1, 1 + x5, [], ⟨#[]⟩, 0, b2, b3, ⟨#[]⟩, ⟨#[]⟩⟩, .slice none 0 0, rfl, HFEW.out, ?_, ⟨p + 6, by omega, by omega, ?_⟩, ?_⟩
        · refine StrsIn.mono (lo := β + 1) ?_ (by omega)
          repeat (refine StrsIn.setCell ?_ (by show w.heap.size < β + 1; omega) _)
          exact HWS.out
        · repeat (refine Rd.other ?_ hlt _)
          exact HRD.out
        · repeat (refine Tch.other ?_ (Nat.le_refl _) _)
          exact HTT.out
  ·
    have c : ∀ i, w5.cell? ⟨β, i, none⟩ = #[.string (nm), .int .i64 (1 + 3), .int .i64 (0), .int .i64 (0), .slice none 0 0, .string (⟨#[]⟩), .int .i64 (0), .bool (b2), .bool (b3), .string (⟨#[]⟩), .string (⟨#[]⟩)][i]? := FV.out.box.cell
    have cf := FV.out.box.free
    have cl := FV.out.box.lt
    go_wp2_with fail
    clear c cf cl
    refine (ofAt_any lo ρ _ bs _ K _ FV.out.rd (by omega) HKV.out hl hk1 (by omega)).mono ?_
    rintro e w6 ⟨⟨s5, rfl, hs5⟩, hr, ht⟩
    have HS5 := hide (HKS.out _ hs5)
    replace ST := hide (ht.box ST.out (by omega))
    replace HKV := hide (HKV.out.tch ht hl)
    replace FV : Hid (Fv w ρ bs β ⟨nm, 1 + 3, 0, 0, [], ⟨#[]⟩, 0, b2, b3, ⟨#[]⟩, ⟨#[]⟩⟩ (.slice none 0 0) (p + 5) w6) := FV.out.step hr ht
    clear hr ht hs5
    have c : ∀ i, w6.cell? ⟨β, i, none⟩ = #[.string (nm), .int .i64 (1 + 3), .int .i64 (0), .int .i64 (0), .slice none 0 0, .string (⟨#[]⟩), .int .i64 (0), .bool (b2), .bool (b3), .string (⟨#[]⟩), .string (⟨#[]⟩)][i]? := FV.out.box.cell
    have cf := FV.out.box.free
    have cl := FV.out.box.lt
    go_wp2_with fail
    clear c cf cl
    generalize hW : World.setCell w6 ⟨β, 5, none⟩ _ = w7
    replace ST : Hid (Box w7 w.heap.size #[.string ⟨#[]⟩, .int .i64 0, .int .i64 0, .int .i64 0, .slice none 0 0, .string ⟨#[]⟩, .int .i64 0, .bool false, .bool false, .string ⟨#[]⟩, .string ⟨#[]⟩]) := by unfold Hid; rw [← hW]; exact ⟨by simpa [World.setCell] using ST.out.lt, fun i => (cell_setCell_ne _ _ ⟨w.heap.size, i, none⟩ _ (by show w.heap.size ≠ β; omega)).trans (ST.out.cell i), fun i => by rw [World.frozen?_setCell]; exact ST.out.free i⟩
    replace HKV : Hid (StrsIn lo w7 (.slice (some ⟨kb, ko, none⟩) K.length kc) K) := by unfold Hid; rw [← hW]; exact HKV.out.setNe (by show β ≠ kb; omega) _
    replace FV : Hid (Fv w ρ bs β ⟨nm, 1 + 3, 0, 0, [], s5, 0, b2, b3, ⟨#[]⟩, ⟨#[]⟩⟩ (.slice none 0 0) (p + 5) w7) := by unfold Hid; rw [← hW]; exact FV.out.put 5 (by omega) _ rfl (FV.out.ws)
    clear hW
    refine (pick_any ρ _ bs 3 _ FV.out.rd (by omega) (by decide) (by decide)).mono ?_
    rintro e w8 ⟨x6, rfl, hx60, hx61, hr, ht⟩
    replace ST := hide (ht.box ST.out (by omega))
    replace HKV := hide (HKV.out.tch ht hl)
    replace FV : Hid (Fv w ρ bs β ⟨nm, 1 + 3, 0, 0, [], s5, 0, b2, b3, ⟨#[]⟩, ⟨#[]⟩⟩ (.slice none 0 0) (p + 6) w8) := FV.out.step hr ht
    clear hr ht
    have hw6 : wrap64 (1 + x6) = 1 + x6 := by unfold wrap64; omega
    have c : ∀ i, w8.cell? ⟨β, i, none⟩ = #[.string (nm), .int .i64 (1 + 3), .int .i64 (0), .int .i64 (0), .slice none 0 0, .string (s5), .int .i64 (0), .bool (b2), .bool (b3), .string (⟨#[]⟩), .string (⟨#[]⟩)][i]? := FV.out.box.cell
    have cf := FV.out.box.free
    have cl := FV.out.box.lt
    go_upto_region 26 with fail
    clear c cf cl
    generalize hW : World.setCell w8 ⟨β, 6, none⟩ _ = w9
    replace ST : Hid (Box w9 w.heap.size #[.string ⟨#[]⟩, .int .i64 0, .int .i64 0, .int .i64 0, .slice none 0 0, .string ⟨#[]⟩, .int .i64 0, .bool false, .bool false, .string ⟨#[]⟩, .string ⟨#[]⟩]) := by unfold Hid; rw [← hW]; exact ⟨by simpa [World.setCell] using ST.out.lt, fun i => (cell_setCell_ne _ _ ⟨w.heap.size, i, none⟩ _ (by show w.heap.size ≠ β; omega)).trans (ST.out.cell i), fun i => by rw [World.frozen?_setCell]; exact ST.out.free i⟩
    replace HKV : Hid (StrsIn lo w9 (.slice (some ⟨kb, ko, none⟩) K.length kc) K) := by unfold Hid; rw [← hW]; exact HKV.out.setNe (by show β ≠ kb; omega) _
    replace FV : Hid (Fv w ρ bs β ⟨nm, 1 + 3, 0, 0, [], s5, 1 + x6, b2, b3, ⟨#[]⟩, ⟨#[]⟩⟩ (.slice none 0 0) (p + 6) w9) := by unfold Hid; rw [← hW]; exact FV.out.put 6 (by omega) _ rfl (FV.out.ws)
    clear hW
    cases b2 with
    | false =>
      have c : ∀ i, w9.cell? ⟨β, i, none⟩ = #[.string (nm), .int .i64 (1 + 3), .int .i64 (0), .int .i64 (0), .slice none 0 0, .string (s5), .int .i64 (1 + x6), .bool (false), .bool (b3), .string (⟨#[]⟩), .string (⟨#[]⟩)][i]? := FV.out.box.cell
      have cf := FV.out.box.free
      have cl := FV.out.box.lt
      go_upto_region 27 with fail
      clear c cf cl
      generalize hW : World.setCell w9 ⟨β, 7, none⟩ _ = w10
      replace ST : Hid (Box w10 w.heap.size #[.string ⟨#[]⟩, .int .i64 0, .int .i64 0, .int .i64 0, .slice none 0 0, .string ⟨#[]⟩, .int .i64 0, .bool false, .bool false, .string ⟨#[]⟩, .string ⟨#[]⟩]) := by unfold Hid; rw [← hW]; exact ⟨by simpa [World.setCell] using ST.out.lt, fun i => (cell_setCell_ne _ _ ⟨w.heap.size, i, none⟩ _ (by show w.heap.size ≠ β; omega)).trans (ST.out.cell i), fun i => by rw [World.frozen?_setCell]; exact ST.out.free i⟩
      replace HKV : Hid (StrsIn lo w10 (.slice (some ⟨kb, ko, none⟩) K.length kc) K) := by unfold Hid; rw [← hW]; exact HKV.out.setNe (by show β ≠ kb; omega) _
      replace FV : Hid (Fv w ρ bs β ⟨nm, 1 + 3, 0, 0, [], s5, 1 + x6, false, b3, ⟨#[]⟩, ⟨#[]⟩⟩ (.slice none 0 0) (p + 6) w10) := by unfold Hid; rw [← hW]; exact FV.out.put 7 (by omega) _ rfl (FV.out.ws)
      clear hW
      have HFEW : Hid (FdFew ⟨nm, 1 + 3, 0, 0, [], s5, 1 + x6, false, b3, ⟨#[]⟩, ⟨#[]⟩⟩) := ⟨HNM.out, HS5.out, of_decide_eq_true rfl, of_decide_eq_true rfl, by constructor <;> simp only [] <;> omega, by constructor <;> simp only [] <;> omega, of_decide_eq_true rfl, fun s hs => by cases hs⟩
      have c : ∀ i, w10.cell? ⟨β, i, none⟩ = #[.string (nm), .int .i64 (1 + 3), .int .i64 (0), .int .i64 (0), .slice none 0 0, .string (s5), .int .i64 (1 + x6), .bool (false), .bool (b3), .string (⟨#[]⟩), .string (⟨#[]⟩)][i]? := FV.out.box.cell
      have cl := FV.out.box.lt
      have r : ∀ i, w10.cell? ⟨w.heap.size, i, none⟩ = #[.string ⟨#[]⟩, .int .i64 0, .int .i64 0, .int .i64 0, .slice none 0 0, .string ⟨#[]⟩, .int .i64 0, .bool false, .bool false, .string ⟨#[]⟩, .string ⟨#[]⟩][i]? := ST.out.cell
      have rf := ST.out.free
      have rl := ST.out.lt
      have HRD := hide FV.out.rd
      have HTT := hide FV.out.t
      have HWS := hide FV.out.ws
      clear FV ST HKV
      go_wp2
      refine bodyPost_ret (v := .agg (fdL ⟨nm, 1 + 3, 0, 0, [], s5, 1 + x6, false, b3, ⟨#[]⟩, ⟨#[]⟩⟩ (.slice none 0 0)).toArray) (by simp [results, Tryz.results84, go_sem, fdL, r]) rfl ⟨⟨nm, 1 + 3, 0, 0, [], s5, 1 + x6, false, b3, ⟨#[]⟩, ⟨#[]⟩⟩, .slice none 0 0, rfl, HFEW.out, ?_, ⟨p + 6, by omega, by omega, ?_⟩, ?_⟩
      · refine StrsIn.mono (lo := β + 1) ?_ (by omega)
        repeat (refine StrsIn.setCell ?_ (by show w.heap.size < β + 1; omega) _)
        exact HWS.out
      · repeat (refine Rd.other ?_ hlt _)
        exact HRD.out
      · repeat (refine Tch.other ?_ (Nat.le_refl _) _)
        exact HTT.out
    | true =>
      by_cases h0 : x6 = 1
      ·
        subst h0
        have c : ∀ i, w9.cell? ⟨β, i, none⟩ = #[.string (nm), .int .i64 (1 + 3), .int .i64 (0), .int .i64 (0), .slice none 0 0, .string (s5), .int .i64 (1 + 1), .bool (true), .bool (b3), .string (⟨#[]⟩), .string (⟨#[]⟩)][i]? := FV.out.box.cell
        have cf := FV.out.box.free
        have cl := FV.out.box.lt
        go_upto_region 27 with fail
        clear c cf cl
        generalize hW : World.setCell w9 ⟨β, 7, none⟩ _ = w10
        replace ST : Hid (Box w10 w.heap.size #[.string ⟨#[]⟩, .int .i64 0, .int .i64 0, .int .i64 0, .slice none 0 0, .string ⟨#[]⟩, .int .i64 0, .bool false, .bool false, .string ⟨#[]⟩, .string ⟨#[]⟩]) := by unfold Hid; rw [← hW]; exact ⟨by simpa [World.setCell] using ST.out.lt, fun i => (cell_setCell_ne _ _ ⟨w.heap.size, i, none⟩ _ (by show w.heap.size ≠ β; omega)).trans (ST.out.cell i), fun i => by rw [World.frozen?_setCell]; exact ST.out.free i⟩
        replace HKV : Hid (StrsIn lo w10 (.slice (some ⟨kb, ko, none⟩) K.length kc) K) := by unfold Hid; rw [← hW]; exact HKV.out.setNe (by show β ≠ kb; omega) _
        replace FV : Hid (Fv w ρ bs β ⟨nm, 1 + 3, 0, 0, [], s5, 1 + 1, false, b3, ⟨#[]⟩, ⟨#[]⟩⟩ (.slice none 0 0) (p + 6) w10) := by unfold Hid; rw [← hW]; exact FV.out.put 7 (by omega) _ rfl (FV.out.ws)
        clear hW
        have HFEW : Hid (FdFew ⟨nm, 1 + 3, 0, 0, [], s5, 1 + 1, false, b3, ⟨#[]⟩, ⟨#[]⟩⟩) := ⟨HNM.out, HS5.out, of_decide_eq_true rfl, of_decide_eq_true rfl, by constructor <;> simp only [] <;> omega, by constructor <;> simp only [] <;> omega, of_decide_eq_true rfl, fun s hs => by cases hs⟩
        have c : ∀ i, w10.cell? ⟨β, i, none⟩ = #[.string (nm), .int .i64 (1 + 3), .int .i64 (0), .int .i64 (0), .slice none 0 0, .string (s5), .int .i64 (1 + 1), .bool (false), .bool (b3), .string (⟨#[]⟩), .string (⟨#[]⟩)][i]? := FV.out.box.cell
        have cl := FV.out.box.lt
        have r : ∀ i, w10.cell? ⟨w.heap.size, i, none⟩ = #[.string ⟨#[]⟩, .int .i64 0, .int .i64 0, .int .i64 0, .slice none 0 0, .string ⟨#[]⟩, .int .i64 0, .bool false, .bool false, .string ⟨#[]⟩, .string ⟨#[]⟩][i]? := ST.out.cell
        have rf := ST.out.free
        have rl := ST.out.lt
        have HRD := hide FV.out.rd
        have HTT := hide FV.out.t
        have HWS := hide FV.out.ws
        clear FV ST HKV
        go_wp2
        refine bodyPost_ret (v := .agg (fdL ⟨nm, 1 + 3, 0, 0, [], s5, 1 + 1, false, b3, ⟨#[]⟩, ⟨#[]⟩⟩ (.slice none 0 0)).toArray) (by simp [results, Tryz.results84, go_sem, fdL, r]) rfl ⟨⟨nm, 1 + 3, 0, 0, [], s5, 1 + 1, false, b3, ⟨#[]⟩, ⟨#[]⟩⟩, .slice none 0 0, rfl, HFEW.out, ?_, ⟨p + 6, by omega, by omega, ?_⟩, ?_⟩
        · refine StrsIn.mono (lo := β + 1) ?_ (by omega)
          repeat (refine StrsIn.setCell ?_ (by show w.heap.size < β + 1; omega) _)
          exact HWS.out
        · repeat (refine Rd.other ?_ hlt _)
          exact HRD.out
        · repeat (refine Tch.other ?_ (Nat.le_refl _) _)
          exact HTT.out
      ·
        have h0' : (1 + x6 == 2) = false := by rw [beq_eq_false_iff_ne]; omega
        have h1' : (1 + x6 != 2) = true := by rw [bne, h0']; rfl
        have c : ∀ i, w9.cell? ⟨β, i, none⟩ = #[.string (nm), .int .i64 (1 + 3), .int .i64 (0), .int .i64 (0), .slice none 0 0, .string (s5), .int .i64 (1 + x6), .bool (true), .bool (b3), .string (⟨#[]⟩), .string (⟨#[]⟩)][i]? := FV.out.box.cell
        have cf := FV.out.box.free
        have cl := FV.out.box.lt
        go_upto_region 27 with fail
        clear c cf cl
        generalize hW : World.setCell w9 ⟨β, 7, none⟩ _ = w10
        replace ST : Hid (Box w10 w.heap.size #[.string ⟨#[]⟩, .int .i64 0, .int .i64 0, .int .i64 0, .slice none 0 0, .string ⟨#[]⟩, .int .i64 0, .bool false, .bool false, .string ⟨#[]⟩, .string ⟨#[]⟩]) := by unfold Hid; rw [← hW]; exact ⟨by simpa [World.setCell] using ST.out.lt, fun i => (cell_setCell_ne _ _ ⟨w.heap.size, i, none⟩ _ (by show w.heap.size ≠ β; omega)).trans (ST.out.cell i), fun i => by rw [World.frozen?_setCell]; exact ST.out.free i⟩
        replace HKV : Hid (StrsIn lo w10 (.slice (some ⟨kb, ko, none⟩) K.length kc) K) := by unfold Hid; rw [← hW]; exact HKV.out.setNe (by show β ≠ kb; omega) _
        replace FV : Hid (Fv w ρ bs β ⟨nm, 1 + 3, 0, 0, [], s5, 1 + x6, true, b3, ⟨#[]⟩, ⟨#[]⟩⟩ (.slice none 0 0) (p + 6) w10) := by unfold Hid; rw [← hW]; exact FV.out.put 7 (by omega) _ rfl (FV.out.ws)
        clear hW
        have HFEW : Hid (FdFew ⟨nm, 1 + 3, 0, 0, [], s5, 1 + x6, true, b3, ⟨#[]⟩, ⟨#[]⟩⟩) := ⟨HNM.out, HS5.out, of_decide_eq_true rfl, of_decide_eq_true rfl, by constructor <;> simp only [] <;> omega, by constructor <;> simp only [] <;> omega, of_decide_eq_true rfl, fun s hs => by cases hs⟩
        have c : ∀ i, w10.cell? ⟨β, i, none⟩ = #[.string (nm), .int .i64 (1 + 3), .int .i64 (0), .int .i64 (0), .slice none 0 0, .string (s5), .int .i64 (1 + x6), .bool (true), .bool (b3), .string (⟨#[]⟩), .string (⟨#[]⟩)][i]? := FV.out.box.cell
        have cl := FV.out.box.lt
        have r : ∀ i, w10.cell? ⟨w.heap.size, i, none⟩ = #[.string ⟨#[]⟩, .int .i64 0, .int .i64 0, .int .i64 0, .slice none 0 0, .string ⟨#[]⟩, .int .i64 0, .bool false, .bool false, .string ⟨#[]⟩, .string ⟨#[]⟩][i]? := ST.out.cell
        have rf := ST.out.free
        have rl := ST.out.lt
        have HRD := hide FV.out.rd
        have HTT := hide FV.out.t
        have HWS := hide FV.out.ws
        clear FV ST HKV
        go_wp2
        refine bodyPost_ret (v := .agg (fdL ⟨nm, 1 + 3, 0, 0, [], s5, 1 + x6, true, b3, ⟨#[]⟩, ⟨#[]⟩⟩ (.slice none 0 0)).toArray) (by simp [results, Tryz.results84, go_sem, fdL, r]) rfl ⟨⟨nm, 1 + 3, 0, 0, [], s5, 1 + x6, true, b3, ⟨#[]⟩, ⟨#[]⟩⟩, .slice none 0 0, rfl, HFEW.out, ?_, ⟨p + 6, by omega, by omega, ?_⟩, ?_⟩
        · refine StrsIn.mono (lo := β + 1) ?_ (by omega)
          repeat (refine StrsIn.setCell ?_ (by show w.heap.size < β + 1; omega) _)
          exact HWS.out
        · repeat (refine Rd.other ?_ hlt _)
          exact HRD.out
        · repeat (refine Tch.other ?_ (Nat.le_refl _) _)
          exact HTT.out
end Go.Proofs.YtjkkbkdpoebfaaaGreat
