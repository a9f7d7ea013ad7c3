import Derived.Test.YtjkkbkdpoebfaaaGreatV47
namespace Go.Proofs.YtjkkbkdpoebfaaaGreat
open Go.RowKit Go.Deep

/-- a code that is handed in -/
def CodeIn (w : World) (v : Value) (bs : List UInt8) : Prop :=
  (∃ (a : Option Addr) (cap : Nat), v = .slice a 0 cap ∧ bs = []) ∨
  ∃ (b off cap : Nat), v = .slice (some ⟨b, off, none⟩) bs.length cap ∧ bs ≠ [] ∧ bs.length ≤ maxLen ∧ bs.length ≤ cap ∧ b < w.heap.size ∧ ∀ i (h : i < bs.length), w.cell? ⟨b, off + i, none⟩ = some (.int .u8 (bs[i].toNat : Int))
theorem CodeIn.below {w w' : World} {v : Value} {bs : List UInt8} (h : CodeIn w v bs) (hb : Below w.heap.size w w') : CodeIn w' v bs := by
  rcases h with h | ⟨b, off, cap, h1, h2, h3, h4, h5, h6⟩
  · exact Or.inl h
  · exact Or.inr ⟨b, off, cap, h1, h2, h3, h4, Nat.lt_of_lt_of_le h5 hb.size, fun i hi => (hb.cell (p := ⟨b, off + i, none⟩) h5).trans (h6 i hi)⟩
theorem CodeIn.form {w : World} {v : Value} {bs : List UInt8} (h : CodeIn w v bs) : ∃ a cap, v = .slice a bs.length cap := by
  rcases h with ⟨a, cap, h1, h2⟩ | ⟨b, off, cap, h1, _⟩
  · subst h2; exact ⟨a, cap, h1⟩
  · exact ⟨_, cap, h1⟩
theorem CodeIn.open' {w : World} {v : Value} {bs : List UInt8} (h : CodeIn w v bs) : CodeAt w.heap.size w v bs ∨ (∃ b off cap, v = .slice (some ⟨b, off, none⟩) bs.length cap ∧ 2000 < bs.length ∧ bs.length ≤ maxLen ∧ bs.length ≤ cap ∧ b < w.heap.size ∧ ∀ i (h : i < bs.length), w.cell? ⟨b, off + i, none⟩ = some (.int .u8 (bs[i].toNat : Int))) := by
  rcases h with h | ⟨b, off, cap, h1, h2, h3, h4, h5, h6⟩
  · exact Or.inl (Or.inl h)
  · by_cases hl : bs.length ≤ 2000
    · exact Or.inl (Or.inr ⟨b, off, cap, h1, h2, hl, h5, h6⟩)
    · exact Or.inr ⟨b, off, cap, h1, by omega, h3, h4, h5, h6⟩
theorem Tx.lift {β β' ω : Nat} {W W' : World} {v : Value} {L : List ByteArray} (h : Tx β ω W v L) (hb : β' ≤ β) (hk : ∀ k, β < k → k < W.heap.size → W'.heap[k]? = W.heap[k]?) (hs : W.heap.size ≤ W'.heap.size) : Tx β' ω W' v L :=
  ⟨strsAt_kept h.at' hs (h.ne.imp id fun g k hv => hk k (g k hv).2.2 (g k hv).2.1), h.ne.imp id fun g k hv => ⟨(g k hv).1, Nat.lt_of_lt_of_le (g k hv).2.1 hs, Nat.lt_of_le_of_lt hb (g k hv).2.2⟩⟩
/-- what is drawn -/
def DrawTo (w : World) (e : Ending) (w' : World) : Prop :=
  ∃ (vs vm vv hv : Value) (k n t : ByteArray) (ver : Int) (lo : Nat) (Ls : List SX) (Lm : List Md) (V Ho : List ByteArray), e = .returned (.tuple #[vs, vm, .agg #[.string k, .string n, .string t, vv, .bool false, hv, .int .i64 ver]]) ∧
    w.heap.size < lo ∧ lo ≤ w'.heap.size ∧ ShsG lo vs Ls w' ∧ Ls.length ≤ 10 ∧ MdR lo vm Lm w' ∧ Lm.length ≤ 40 ∧ (∃ ω, Tx lo ω w' vv V) ∧ V.length ≤ 11 ∧ (∃ ω, Tx lo ω w' hv Ho) ∧ Ho.length ≤ 10 ∧ (k.size ≤ 1000 ∧ n.size ≤ 1000 ∧ t.size ≤ 1000) ∧ Below w.heap.size w w'

set_option maxRecDepth 20000 in
set_option maxHeartbeats 8000000 in
theorem drawMended_any (v : Value) (bs : List UInt8) (w : World) (hv : CodeIn w v bs) : Calls Tryz.prog 16 #[v] w (DrawTo w) := by
  have HV := hide hv
  obtain ⟨va, vcap, rfl⟩ := hv.form
  clear hv
  go_enter Tryz.func16, Tryz.ntmps16
  go_wp2_with fail
  generalize hWz : w.alloc _ = Wz
  have hBz : Below w.heap.size w Wz := by rw [← hWz]; exact one_al _ _
  have hXz : Box Wz w.heap.size #[.string ⟨#[]⟩, .string ⟨#[]⟩, .string ⟨#[]⟩, .slice none 0 0, .bool false, .slice none 0 0, .int .i64 0] := by rw [← hWz]; exact Box.new _ _ _ _ rfl
  clear hWz
  refine (l1Open_any _ bs Wz (HV.out.below hBz).open').mono ?_
  rintro e w1 ⟨rfl, ⟨bs', hr1⟩, hb1⟩
  have HB := hide (hBz.trans (hb1.mono hBz.size))
  have HX := hide (hXz.on hb1)
  have HR := hide hr1
  have hlt1 := hr1.lt
  have hz0 : w.heap.size < Wz.heap.size := hXz.lt
  clear hb1 hr1 hBz hXz HV
  generalize Wz.heap.size = ρ at *
  go_wp2_with fail
  refine (l3Any_any ρ 0 bs' w1 HR.out (by omega)).mono ?_
  rintro e w2 ⟨vs, vm, Ls, Lm, rfl, hsg, hls, hmd, hlm, ⟨q, -, hq, hr⟩, ht⟩
  obtain ⟨sa, sc, rfl⟩ := ZRw.form hsg
  obtain ⟨ma, mc, rfl⟩ := hmd.form
  have HSG := hide hsg
  have HMD := hide hmd
  replace HR := hide hr
  have HT := hide ht
  clear hsg hmd hr ht
  go_wp2_with fail
  refine (l2Any_any w1.heap.size ρ q bs' _ Ls w2 HR.out (by omega) HSG.out hlt1 (by omega)).mono ?_
  rintro e w3 ⟨k, n, t, vv, hv, ver, V, Ho, rfl, hk, ⟨ω1, hV⟩, hVl, ⟨ω2, hH⟩, hHl, -, ht⟩
  have hz2 := HT.out.size
  have HSG3 := hide (ZRw.tch sh_keeps HSG.out ht hlt1)
  have HMD3 := hide (HMD.out.tch ht hlt1)
  have HT3 := hide (HT.out.trans ht)
  have HTV := hide hV
  have HTH := hide hH
  obtain ⟨xa, xc, rfl⟩ := hV.at'.form'
  obtain ⟨ya, yc, rfl⟩ := hH.at'.form'
  have HX3 := hide (HT3.out.box HX.out (by omega))
  clear hV hH ht
  have HBw : Hid (Below w.heap.size w w3) := HB.out.trans (HT3.out.under (by omega) (by omega))
  have d : ∀ i, w3.cell? ⟨w.heap.size, i, none⟩ = _ := HX3.out.cell
  have df := HX3.out.free
  have dl := HX3.out.lt
  go_wp2
  clear df dl
  have hz3 := HT3.out.size
  obtain ⟨w4, hw4⟩ : ∃ vv, vv = (((((((w3.setCell ⟨w.heap.size, 0, none⟩ (.string k)).setCell ⟨w.heap.size, 1, none⟩ (.string n)).setCell ⟨w.heap.size, 2, none⟩ (.string t)).setCell ⟨w.heap.size, 3, none⟩ (.slice xa V.length xc)).setCell ⟨w.heap.size, 4, none⟩ (.bool false)).setCell ⟨w.heap.size, 5, none⟩ (.slice ya Ho.length yc)).setCell ⟨w.heap.size, 6, none⟩ (.int .i64 ver)) := ⟨_, rfl⟩
  rw [← hw4]
  have HX4 : Hid (Box w4 w.heap.size #[.string k, .string n, .string t, .slice xa V.length xc, .bool false, .slice ya Ho.length yc, .int .i64 ver]) := by
    unfold Hid
    rw [hw4]
    exact put_cell (put_cell (put_cell (put_cell (put_cell (put_cell (put_cell HX3.out 0 (by simp) _) 1 (by simp) _) 2 (by simp) _) 3 (by simp) _) 4 (by simp) _) 5 (by simp) _) 6 (by simp) _
  have HKE : Hid (∀ k, k ≠ w.heap.size → w4.heap[k]? = w3.heap[k]?) := fun k hk => by
    rw [hw4]
    repeat rw [Below.heap_setCell _ _ _ k hk]
  have hz4 : w3.heap.size ≤ w4.heap.size := by rw [hw4]; simp [World.setCell]
  have HBE : Hid (Below w.heap.size w w4) := by
    unfold Hid
    rw [hw4]
    exact ((((((HBw.out.setCell (Nat.le_refl _) _).setCell (Nat.le_refl _) _).setCell (Nat.le_refl _) _).setCell (Nat.le_refl _) _).setCell (Nat.le_refl _) _).setCell (Nat.le_refl _) _).setCell (Nat.le_refl _) _
  clear hw4 d
  have r : ∀ i, w4.cell? ⟨w.heap.size, i, none⟩ = #[.string k, .string n, .string t, .slice xa V.length xc, .bool false, .slice ya Ho.length yc, .int .i64 ver][i]? := HX4.out.cell
  refine bodyPost_ret (v := .tuple #[.slice sa Ls.length sc, .slice ma Lm.length mc, .agg #[.string k, .string n, .string t, .slice xa V.length xc, .bool false, .slice ya Ho.length yc, .int .i64 ver]]) (by simp [results, Tryz.results16, go_sem, r]) rfl ⟨_, _, _, _, k, n, t, ver, w1.heap.size, Ls, Lm, V, Ho, rfl, by omega, by omega, ZRw.same sh_keeps HSG3.out (fun q h1 _ => HKE.out q (by omega)) hz4, hls, HMD3.out.kept fun q hq => HKE.out q (by have := (owns_lt HMD3.out.own hq).2; omega), hlm, ⟨ω1, HTV.out.lift (by omega) (fun q h1 _ => HKE.out q (by omega)) hz4⟩, hVl, ⟨ω2, HTH.out.lift (by omega) (fun q h1 _ => HKE.out q (by omega)) hz4⟩, hHl, hk, HBE.out⟩

set_option maxRecDepth 20000 in
set_option maxHeartbeats 8000000 in
theorem drawShaped_any (v : Value) (bs : List UInt8) (w : World) (hv : CodeIn w v bs) : Calls Tryz.prog 4 #[v] w (DrawTo w) := by
  have HV := hide hv
  obtain ⟨va, vcap, rfl⟩ := hv.form
  clear hv
  go_enter Tryz.func4, Tryz.ntmps4
  go_wp2_with fail
  generalize hWz : w.alloc _ = Wz
  have hBz : Below w.heap.size w Wz := by rw [← hWz]; exact one_al _ _
  have hXz : Box Wz w.heap.size #[.string ⟨#[]⟩, .string ⟨#[]⟩, .string ⟨#[]⟩, .slice none 0 0, .bool false, .slice none 0 0, .int .i64 0] := by rw [← hWz]; exact Box.new _ _ _ _ rfl
  clear hWz
  refine (drawMended_any _ bs Wz (HV.out.below hBz)).mono ?_
  rintro e w3 ⟨vs, vm, vv, hv, k, n, t, ver, lo, Ls, Lm, V, Ho, rfl, hl1, hl2, hsg, hls, hmd, hlm, ⟨ω1, hV⟩, hVl, ⟨ω2, hH⟩, hHl, hk, hb⟩
  obtain ⟨sa, sc, rfl⟩ := ZRw.form hsg
  obtain ⟨ma, mc, rfl⟩ := hmd.form
  have HSG3 := hide hsg
  have HMD3 := hide hmd
  have HTV := hide hV
  have HTH := hide hH
  obtain ⟨xa, xc, rfl⟩ := hV.at'.form'
  obtain ⟨ya, yc, rfl⟩ := hH.at'.form'
  have HX3 := hide (hXz.on hb)
  have hz0 : w.heap.size < Wz.heap.size := hXz.lt
  have HBw : Hid (Below w.heap.size w w3) := hBz.trans (hb.mono hBz.size)
  clear hV hH hsg hmd hXz hBz hb HV
  have d : ∀ i, w3.cell? ⟨w.heap.size, i, none⟩ = _ := HX3.out.cell
  have df := HX3.out.free
  have dl := HX3.out.lt
  go_wp2
  clear df dl
  obtain ⟨w4, hw4⟩ : ∃ vv, vv = (((((((w3.setCell ⟨w.heap.size, 0, none⟩ (.string k)).setCell ⟨w.heap.size, 1, none⟩ (.string n)).setCell ⟨w.heap.size, 2, none⟩ (.string t)).setCell ⟨w.heap.size, 3, none⟩ (.slice xa V.length xc)).setCell ⟨w.heap.size, 4, none⟩ (.bool false)).setCell ⟨w.heap.size, 5, none⟩ (.slice ya Ho.length yc)).setCell ⟨w.heap.size, 6, none⟩ (.int .i64 ver)) := ⟨_, rfl⟩
  rw [← hw4]
  have HX4 : Hid (Box w4 w.heap.size #[.string k, .string n, .string t, .slice xa V.length xc, .bool false, .slice ya Ho.length yc, .int .i64 ver]) := by
    unfold Hid
    rw [hw4]
    exact put_cell (put_cell (put_cell (put_cell (put_cell (put_cell (put_cell HX3.out 0 (by simp) _) 1 (by simp) _) 2 (by simp) _) 3 (by simp) _) 4 (by simp) _) 5 (by simp) _) 6 (by simp) _
  have HKE : Hid (∀ k, k ≠ w.heap.size → w4.heap[k]? = w3.heap[k]?) := fun k hk => by
    rw [hw4]
    repeat rw [Below.heap_setCell _ _ _ k hk]
  have hz4 : w3.heap.size ≤ w4.heap.size := by rw [hw4]; simp [World.setCell]
  have HBE : Hid (Below w.heap.size w w4) := by
    unfold Hid
    rw [hw4]
    exact ((((((HBw.out.setCell (Nat.le_refl _) _).setCell (Nat.le_refl _) _).setCell (Nat.le_refl _) _).setCell (Nat.le_refl _) _).setCell (Nat.le_refl _) _).setCell (Nat.le_refl _) _).setCell (Nat.le_refl _) _
  clear hw4 d
  have r : ∀ i, w4.cell? ⟨w.heap.size, i, none⟩ = #[.string k, .string n, .string t, .slice xa V.length xc, .bool false, .slice ya Ho.length yc, .int .i64 ver][i]? := HX4.out.cell
  refine bodyPost_ret (v := .tuple #[.slice sa Ls.length sc, .slice ma Lm.length mc, .agg #[.string k, .string n, .string t, .slice xa V.length xc, .bool false, .slice ya Ho.length yc, .int .i64 ver]]) (by simp [results, Tryz.results4, go_sem, r]) rfl ⟨_, _, _, _, k, n, t, ver, lo, Ls, Lm, V, Ho, rfl, by omega, by omega, ZRw.same sh_keeps HSG3.out (fun q h1 _ => HKE.out q (by omega)) hz4, hls, HMD3.out.kept fun q hq => HKE.out q (by have := (owns_lt HMD3.out.own hq).2; omega), hlm, ⟨ω1, HTV.out.lift (by omega) (fun q h1 _ => HKE.out q (by omega)) hz4⟩, hVl, ⟨ω2, HTH.out.lift (by omega) (fun q h1 _ => HKE.out q (by omega)) hz4⟩, hHl, hk, HBE.out⟩
end Go.Proofs.YtjkkbkdpoebfaaaGreat
