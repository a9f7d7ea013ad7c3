import Derived.Test.YtckdcejbojhlcaaGreatDoorE1
import Derived.Test.YtckdcejbojhlcaaGreatDoorW10
import Derived.Deep.RegionWith
namespace Go.Proofs.YtckdcejbojhlcaaGreatDoor
open Go.RowKit Go.Deep

/-- what is wrong with one value: 0, 2 (not set) or 3 (does not fit) -/
def faultAt (f : Fd) (v : ByteArray) : Int := if v.toList.isEmpty = true then (if f.mu = true then 2 else 0) else if fitsB f.kd f.le f.mo f.words v = true then 0 else 3
def faults (Fs : List Fd) (V : List ByteArray) : List Int := List.zipWith faultAt Fs V
/-- the first code that is not 0, and its place -/
def ff : List Int → Nat → Int × Int
  | [], _ => (0, 0)
  | c :: r, n => if c = 0 then ff r (n + 1) else (c, n)
theorem ff_all : ∀ (L : List Int) (n : Nat), (∀ k (hk : k < L.length), L[k] = 0) → ff L n = (0, 0)
  | [], _, _ => rfl
  | c :: r, n, h => by
    have h0 : c = 0 := h 0 (by simp)
    unfold ff
    rw [if_pos h0]
    exact ff_all r (n + 1) fun k hk => h (k + 1) (by simpa using hk)
theorem ff_hit : ∀ (L : List Int) (n k : Nat) (hk : k < L.length), L[k] ≠ 0 → (∀ j (hj : j < L.length), j < k → L[j] = 0) → ff L n = (L[k], ((n + k : Nat) : Int))
  | c :: r, n, 0, _, h, _ => by
    have h' : c ≠ 0 := h
    unfold ff
    rw [if_neg h']
    simp
  | c :: r, n, k + 1, hk, h, hall => by
    have h0 : c = 0 := hall 0 (by simp) (by omega)
    unfold ff
    rw [if_pos h0, ff_hit r (n + 1) k (by simpa using hk) h (fun j hj hjk => hall (j + 1) (by simpa using hj) (by omega))]
    simp only [List.getElem_cons_succ, Prod.mk.injEq, true_and]
    omega
theorem faults_len {Fs : List Fd} {V : List ByteArray} (h : V.length = Fs.length) : (faults Fs V).length = Fs.length := by simp [faults, h]
theorem faults_get {Fs : List Fd} {V : List ByteArray} {i : Nat} (h : i < (faults Fs V).length) (h1 : i < Fs.length) (h2 : i < V.length) : (faults Fs V)[i] = faultAt Fs[i] V[i] := by simp [faults]
theorem faults_done {Fs : List Fd} {V : List ByteArray} (hl : V.length = Fs.length) (h : ∀ j (h1 : j < Fs.length) (h2 : j < V.length), j < Fs.length → faultAt Fs[j] V[j] = 0) : ff (faults Fs V) 0 = (0, 0) :=
  ff_all _ _ fun k hk => by rw [faults_get hk (by rw [faults_len hl] at hk; exact hk) (by rw [faults_len hl] at hk; omega)]; exact h k _ _ (by rw [faults_len hl] at hk; exact hk)
theorem faults_hit {Fs : List Fd} {V : List ByteArray} (hl : V.length = Fs.length) {k : Nat} {c : Int} (h1 : k < Fs.length) (h2 : k < V.length) (hc : faultAt Fs[k] V[k] = c) (h0 : c ≠ 0) (h : ∀ j (h1 : j < Fs.length) (h2 : j < V.length), j < k → faultAt Fs[j] V[j] = 0) : ff (faults Fs V) 0 = (c, (k : Int)) := by
  have hk : k < (faults Fs V).length := by rw [faults_len hl]; exact h1
  have e : (faults Fs V)[k] = c := by rw [faults_get hk h1 h2]; exact hc
  rw [ff_hit _ 0 k hk (by rw [e]; exact h0) (fun j hj hjk => by rw [faults_get hj (by rw [faults_len hl] at hj; exact hj) (by omega)]; exact h j _ _ hjk), e, Nat.zero_add]

/-- a fault as an error -/
def errOf (r : Int × Int) : Value := if r.1 = 0 then .nilIface else .iface 71 (.agg #[.int .i64 r.1, .int .i64 r.2])
theorem errOf_no : errOf (0, 0) = .nilIface := rfl
theorem errOf_at {c p : Int} (h : c ≠ 0) : errOf (c, p) = .iface 71 (.agg #[.int .i64 c, .int .i64 p]) := if_neg h

theorem FdsAt.fullz {lo : Nat} {w : World} {a : Option Addr} {n cap : Nat} {Fs : List Fd} (h : FdsAt lo w (.slice a n cap) Fs) (hL : 0 < Fs.length) :
    ∃ b off, a = some ⟨b, off, none⟩ ∧ b < w.heap.size ∧ ∀ i (h : i < Fs.length), FdSize Fs[i] ∧ ∃ wv, FdCells w b (off + i * 11) Fs[i] wv ∧ StrsAt w wv Fs[i].words := by
  rcases h with ⟨a', cap', h, rfl⟩ | ⟨b', off', cap', h1, h2, h3, h4, h5, h6, h7⟩
  · simp at hL
  · injection h1 with e1 e2 e3
    exact ⟨b', off', e1, h4, fun i hi => by obtain ⟨q1, wv, q2, q3⟩ := h7 i hi; exact ⟨q1, wv, q2, q3.at⟩⟩
theorem FdsAt.len {lo : Nat} {w : World} {v : Value} {Fs : List Fd} (h : FdsAt lo w v Fs) : Fs.length ≤ maxLen := by
  rcases h with ⟨_, _, _, rfl⟩ | ⟨_, _, _, _, _, h, _⟩
  · exact Nat.zero_le _
  · exact h
theorem StrsAt.fullz {w : World} {a : Option Addr} {n cap : Nat} {L : List ByteArray} (h : StrsAt w (.slice a n cap) L) (hL : 0 < L.length) :
    ∃ b off, a = some ⟨b, off, none⟩ ∧ n = L.length ∧ b < w.heap.size ∧ ∀ i (h : i < L.length), L[i].size ≤ maxLen ∧ w.cell? ⟨b, off + i, none⟩ = some (.string L[i]) := by
  rcases h with ⟨a', cap', h, rfl⟩ | ⟨b', off', cap', h1, h2, h3, h4, h5, h6⟩
  · simp at hL
  · injection h1 with e1 e2 e3
    exact ⟨b', off', e1, e2, h4, fun i hi => ⟨h6 _ (List.getElem_mem hi), h5 i hi⟩⟩

section
variable (kd kind nm team : ByteArray) (vv hv fv : Value) (en : Bool) (ver : Int) (V Ho : List ByteArray) (Fs : List Fd) (w : World) (lo : Nat)
set_option maxRecDepth 20000 in
set_option maxHeartbeats 2000000 in
theorem checkFields_any (hV : StrsAt w vv V) (hF : FdsAt lo w fv Fs) (hl : V.length = Fs.length) :
    Calls Tryz.prog 58 #[.agg #[.string kd, fv], .agg #[.string kind, .string nm, .string team, vv, .bool en, hv, .int .i64 ver]] w
      fun e w' => e = .returned (errOf (ff (faults Fs V) 0)) ∧ Below w.heap.size w w' := by
  have HV := hide hV
  have HF := hide hF
  obtain ⟨a, n, cap, rfl⟩ := hV.form
  obtain ⟨a1, cap1, rfl⟩ := hF.form
  have HL := hide hl
  have hn := hF.len
  unfold maxLen at hn
  clear hV hF hl
  have HW : ∀ o o', Hid (Below w.heap.size w ((w.alloc o).alloc o')) := fun o o' => ((Below.refl _ _).alloc (Nat.le_refl _) _).alloc (by simp) _
  go_enter Tryz.func58, Tryz.ntmps58
  go_wp2_with fail
  refine (makers_any _).mono ?_
  rintro e w1 ⟨rfl, hw1⟩
  have hr1 : w1.heap[w.heap.size + 2]? = some (.map makerEntries 4) := by have := makers_there ((w.alloc (.cells #[.string kd, .slice a1 Fs.length cap1] 47)).alloc (.cells #[.string kind, .string nm, .string team, .slice a n cap, .bool en, hv, .int .i64 ver] 32)) (.map makerEntries 4); rw [← hw1] at this; simpa using this
  have hbx : Hid (∀ i, w1.cell? ⟨w.heap.size, i, none⟩ = (#[.string kd, .slice a1 Fs.length cap1] : Array Value)[i]?) := fun i => by
    rw [hw1, World.cell?_alloc_lt _ _ _ (by simp; omega), World.cell?_alloc_lt _ _ _ (by simp)]; simp
  have hby : Hid (∀ i, w1.cell? ⟨w.heap.size + 1, i, none⟩ = (#[.string kind, .string nm, .string team, .slice a n cap, .bool en, hv, .int .i64 ver] : Array Value)[i]?) := fun i => by
    rw [hw1, World.cell?_alloc_lt _ _ _ (by simp)]; simp
  have HB1 : Hid (Below w.heap.size w w1) := by rw [hw1]; exact (HW _ _).out.alloc (by simp; omega) _
  have hz1 : w1.heap.size = w.heap.size + 3 := by rw [hw1]; simp
  have HR1 := hide hr1
  clear hw1 hr1
  have q0 := hbx.out
  go_wp2
  go_loopw [13] (fun i wr => ∃ k : Nat, i = .int .i64 k ∧ k ≤ Fs.length ∧ Below w1.heap.size w1 wr ∧ ∀ j (h1 : j < Fs.length) (h2 : j < V.length), j < k → faultAt Fs[j] V[j] = 0) (fun i _ => Fs.length - (intOf i).toNat)
  case atStart => exact ⟨0, rfl, by omega, Below.refl _ _, fun j _ _ h => by omega⟩
  case round =>
    obtain ⟨k, rfl, hk, hb, hall⟩ := hrel
    have HA := hide hall
    have HBB := hide hb
    have hszr : w.heap.size + 2 < wr.heap.size := by have := hb.size; omega
    have hsz1 : w.heap.size + 1 < wr.heap.size := by omega
    have HBr : Hid (Below w.heap.size w wr) := HB1.out.trans (hb.mono (by omega))
    have HRr : Hid (wr.heap[w.heap.size + 1 + 1]? = some (.map makerEntries 4)) := by unfold Hid; rw [hb.block _ (by omega)]; exact HR1.out
    have hO : ∀ i, wr.cell? ⟨w.heap.size + 1, i, none⟩ = (#[.string kind, .string nm, .string team, .slice a n cap, .bool en, hv, .int .i64 ver] : Array Value)[i]? := fun i => by
      rw [hb.cell (p := ⟨w.heap.size + 1, i, none⟩) (by simp only []; omega)]; exact hby.out i
    clear hb hall q0
    by_cases hlt : k < Fs.length
    · have hlv : k < V.length := by have := HL.out; omega
      obtain ⟨fb, foff, rfl, hfb, hfc⟩ := HF.out.fullz (by omega)
      obtain ⟨hsz, wv, hcell, hst⟩ := hfc k hlt
      obtain ⟨c0, c1, c2, c3, c4, c5, c6, c7, c8, c9, c10⟩ := hcell.below HBr.out hfb
      obtain ⟨wa, wn, wcap, rfl⟩ := hst.form
      obtain ⟨vb, voff, rfl, rfl, hvb, hvc⟩ := HV.out.fullz (by omega)
      have hvk : wr.cell? ⟨vb, voff + k, none⟩ = some (.string V[k]) := by rw [HBr.out.cell (p := ⟨vb, _, none⟩) hvb]; exact (hvc k hlv).2
      have hvbr : vb < wr.heap.size := by have := HBr.out.size; omega
      have HZ := hide (hvc k hlv).1
      have HST := hide hst
      clear hcell hst hvc hfc hsz
      cases he : V[k].toList.isEmpty with
      | true =>
        cases hm : Fs[k].mu with
        | true =>
          have HX : Hid (ff (faults Fs V) 0 = (2, (k : Int))) := faults_hit HL.out hlt hlv (by unfold faultAt; rw [he, hm]; rfl) (by decide) HA.out
          have HBo : ∀ o, Hid (Below w.heap.size w (wr.alloc o)) := fun o => HBr.out.alloc (by omega) o
          rw [hm] at c7
          clear HA
          go_wp2
          go_ret
          exact ⟨by rw [HX.out]; rfl, (HBo _).out⟩
        | false =>
          have HX : Hid (faultAt Fs[k] V[k] = 0) := by unfold Hid faultAt; rw [he, hm]; rfl
          rw [hm] at c7
          go_wp2
          go_roundw
          case rel => exact ⟨k + 1, by go_num, by omega, HBB.out.alloc (HBB.out.size) _, fun j h1 h2 hj => by
                        by_cases e : j = k
                        · subst e; exact HX.out
                        · exact HA.out j h1 h2 (by omega)⟩
          case measure => simp [intOf]; omega
      | false =>
        have HBo : ∀ o, Hid (Below wr.heap.size wr (wr.alloc o)) := fun o => (Below.refl _ _).alloc (Nat.le_refl _) o
        have HRo : ∀ o, Hid ((wr.alloc o).heap[w.heap.size + 1 + 1]? = some (.map makerEntries 4)) := fun o => by unfold Hid; rw [Below.heap_alloc _ _ _ (by omega)]; exact HRr.out
        go_wp2_with fail
        refine (fitsBy_any _ _ _ _ _ _ _ _ _ _ Fs[k].words _ _ _ _ (HRo _).out (HST.out.below (HBr.out.trans ((HBo _).out.mono HBr.out.size))) HZ.out).mono ?_
        rintro e w2 ⟨rfl, hb2⟩
        have HB2 : Hid (Below wr.heap.size wr w2) := (HBo _).out.trans (hb2.mono (HBo _).out.size)
        have HBw : Hid (Below w.heap.size w w2) := HBr.out.trans (HB2.out.mono HBr.out.size)
        have HB3 : Hid (Below w1.heap.size w1 w2) := HBB.out.trans (HB2.out.mono HBB.out.size)
        clear hb2
        cases hf : fitsB Fs[k].kd Fs[k].le Fs[k].mo Fs[k].words V[k] with
        | true =>
          have HX : Hid (faultAt Fs[k] V[k] = 0) := by unfold Hid faultAt; rw [he, hf]; rfl
          go_wp2
          go_roundw
          case rel => exact ⟨k + 1, by go_num, by omega, HB3.out, fun j h1 h2 hj => by
                        by_cases e : j = k
                        · subst e; exact HX.out
                        · exact HA.out j h1 h2 (by omega)⟩
          case measure => simp [intOf]; omega
        | false =>
          have HX : Hid (ff (faults Fs V) 0 = (3, (k : Int))) := faults_hit HL.out hlt hlv (by unfold faultAt; rw [he, hf]; rfl) (by decide) HA.out
          clear HA
          go_wp2
          go_ret
          exact ⟨by rw [HX.out]; rfl, HBw.out⟩
    · have HX : Hid (ff (faults Fs V) 0 = (0, 0)) := faults_done HL.out (fun j h1 h2 _ => HA.out j h1 h2 (by omega))
      clear HA
      go_wp2
      go_ret
      exact ⟨by rw [HX.out]; rfl, HBr.out⟩
end
end Go.Proofs.YtckdcejbojhlcaaGreatDoor
