import Derived.Test.YtckdcejbojhlcaaGreatDoorC3
namespace Go.Proofs.YtckdcejbojhlcaaGreatDoor
open Go.RowKit Go.Deep

theorem StrsAt.form' {w : World} {v : Value} {L : List ByteArray} (h : StrsAt w v L) : ∃ a cap, v = .slice a L.length cap := by
  rcases h with ⟨a, cap, h, rfl⟩ | ⟨b, off, cap, h, _⟩
  · exact ⟨a, cap, h⟩
  · exact ⟨_, cap, h⟩
theorem cell_alloc_lt (X : World) (o : Obj) (b i : Nat) (h : b < X.heap.size) : (X.alloc o).cell? ⟨b, i, none⟩ = X.cell? ⟨b, i, none⟩ := ((Below.refl X.heap.size X).alloc (Nat.le_refl _) o).cell (p := ⟨b, i, none⟩) h
theorem free_alloc_lt (X : World) (o : Obj) (b i : Nat) (h : b < X.heap.size) : (X.alloc o).frozen? ⟨b, i, none⟩ = X.frozen? ⟨b, i, none⟩ := ((Below.refl X.heap.size X).alloc (Nat.le_refl _) o).frozen (p := ⟨b, i, none⟩) h

set_option maxHeartbeats 400000 in
theorem l1ShapeK_any (lo : Nat) (v : Value) (Ss : List Sh) (s : ByteArray) (w : World) (hv : ShsAt lo w v Ss) :
    Calls Tryz.prog 40 #[v, .string s] w fun e w' => w' = w ∧ ((∃ k : Nat, k < Ss.length ∧ e = .returned (.int .i64 k) ∧ shOf Ss s = Ss[k]?) ∨ (e = .returned (.int .i64 (-1)) ∧ shOf Ss s = none)) := by
  by_cases hL : Ss = []
  · subst hL
    obtain ⟨a, cap, rfl⟩ := hv.form
    clear hv
    go_enter Tryz.func40, Tryz.ntmps40
    go_wp2
    go_loop [5] (fun i => i = .int .i64 0) (fun _ => 0)
    case atStart => rfl
    case round =>
      subst hrel
      go_wp2
      go_ret
      exact ⟨rfl, rfl, rfl⟩
  · obtain ⟨b, off, cap, rfl, hm, hbw, hc⟩ := hv.full hL
    clear hv
    unfold maxLen at hm
    go_enter Tryz.func40, Tryz.ntmps40
    go_wp2
    go_loop [5] (fun i => ∃ k : Nat, i = .int .i64 k ∧ k ≤ Ss.length ∧ ∀ i (h : i < Ss.length), i < k → (Ss[i].kind.toList == s.toList) = false) (fun i => Ss.length - (intOf i).toNat)
    case atStart => exact ⟨0, rfl, by omega, fun i _ h => by omega⟩
    case round =>
      obtain ⟨k, rfl, hk, hall⟩ := hrel
      have HA := hide hall
      clear hall
      by_cases hlt : k < Ss.length
      · obtain ⟨_, fv, hck, _, _⟩ := hc k hlt
        by_cases he : (Ss[k].kind.toList == s.toList) = true
        · go_wp2
          go_ret
          exact ⟨rfl, Or.inl ⟨k, hlt, rfl, by rw [shOf_some hlt he HA.out, List.getElem?_eq_getElem hlt]⟩⟩
        · have he' : (Ss[k].kind.toList == s.toList) = false := by simpa using he
          clear he
          go_wp2
          go_round
          case rel => exact ⟨k + 1, by go_num, by omega, fun i h h' => by
                        by_cases e : i = k
                        · subst e; exact he'
                        · exact HA.out i h (by omega)⟩
          case measure => simp [intOf]; omega
      · go_wp2
        go_ret
        exact ⟨rfl, Or.inr ⟨rfl, shOf_none fun i h => HA.out i h (by omega)⟩⟩

theorem ShsAt.full' {lo : Nat} {w : World} {a : Option Addr} {n cap : Nat} {Ss : List Sh} (h : ShsAt lo w (.slice a n cap) Ss) (hL : 0 < Ss.length) :
    ∃ b off, a = some ⟨b, off, none⟩ ∧ b < w.heap.size ∧ ∀ i (h : i < Ss.length), Ss[i].kind.size ≤ maxLen ∧ ∃ fv, w.cell? ⟨b, off + i * 2, none⟩ = some (.string Ss[i].kind) ∧ w.cell? ⟨b, off + i * 2 + 1, none⟩ = some fv ∧ FdsAt lo w fv Ss[i].fields := by
  rcases h with ⟨a', cap', h, rfl⟩ | ⟨b', off', cap', h1, h2, h3, h4, h5, h7⟩
  · simp at hL
  · injection h1 with e1 e2 e3
    exact ⟨b', off', e1, h4, h7⟩

section
variable (kind nm team : ByteArray) (vv hv sv : Value) (en : Bool) (ver : Int) (V Ho : List ByteArray) (Ss : List Sh) (w : World) (lo : Nat)

/-- what l2Fields tells -/
def L2F (lo : Nat) (Ss : List Sh) (kind : ByteArray) (n : Nat) (e : Ending) (w : World) : Prop :=
  (∃ x fv, shOf Ss kind = some x ∧ x.fields.length = n ∧ e = .returned (.tuple #[fv, .bool true]) ∧ FdsAt lo w fv x.fields) ∨
  ((∀ x, shOf Ss kind = some x → x.fields.length ≠ n) ∧ ∃ a cap, e = .returned (.tuple #[.slice a 0 cap, .bool false]))

set_option maxRecDepth 20000 in
set_option maxHeartbeats 2000000 in
theorem l2Fields_any (w0 : World) (hS : ShsAt lo w0 sv Ss) (h0 : Below w0.heap.size w0 w) (hV : StrsAt w vv V) (hH : StrsAt w hv Ho) :
    Calls Tryz.prog 26 #[sv, .agg #[.string kind, .string nm, .string team, vv, .bool en, hv, .int .i64 ver]] w
      fun e w' => Below w.heap.size w w' ∧ L2F lo Ss kind V.length e w0 := by
  have HV := hide hV
  have HH := hide hH
  have HS := hide hS
  obtain ⟨a, cap, rfl⟩ := hV.form'
  obtain ⟨a', cap', rfl⟩ := hH.form'
  obtain ⟨a1, cap1, rfl⟩ := hS.form
  have H0 := hide h0
  clear hV hH hS h0
  have HW : ∀ o, Hid (Below w.heap.size w (w.alloc o)) := fun o => (Below.refl _ _).alloc (Nat.le_refl _) _
  go_enter Tryz.func26, Tryz.ntmps26
  go_wp2_with fail
  refine (l1ShapeK_any lo _ Ss kind _ (HS.out.below (H0.out.trans ((HW _).out.mono H0.out.size)))).mono ?_
  rintro e w1 ⟨rfl, ⟨k, hk, rfl, hsh⟩ | ⟨rfl, hsh⟩⟩
  · have HSH := hide hsh
    clear hsh
    obtain ⟨b, off, rfl, hbw0, hc⟩ := HS.out.full' (by omega)
    have hbw : b < w.heap.size := Nat.lt_of_lt_of_le hbw0 H0.out.size
    obtain ⟨_, fv, d0, d1, hst⟩ := hc k hk
    obtain ⟨fa, fcap, rfl⟩ := hst.form
    have HST := hide hst
    have d1' : ∀ o, (w.alloc o).cell? ⟨b, off + k * 2 + 1, none⟩ = some (.slice fa Ss[k].fields.length fcap) := fun o => by rw [cell_alloc_lt _ _ _ _ hbw, H0.out.cell (p := ⟨b, _, none⟩) hbw0]; exact d1
    clear d0 d1 hst hc
    have hxk : Ss[k]? = some Ss[k] := List.getElem?_eq_getElem hk
    by_cases hl : Ss[k].fields.length = V.length
    · have HL := hide hl
      have hne : ((Ss[k].fields.length : Int) != (V.length : Int)) = false := by rw [hl]; simp
      have HQ : Hid (shOf Ss kind = some Ss[k]) := HSH.out.trans hxk
      clear hl hxk HSH
      go_wp2
      go_quiet (fail)
      go_wp2
      refine bodyPost_ret (v := .tuple #[.slice fa Ss[k].fields.length fcap, .bool true]) (by simp [results, Tryz.results26, go_sem]) rfl ⟨below_drewN (HW _).out _, Or.inl ⟨Ss[k], _, HQ.out, HL.out, rfl, HST.out⟩⟩
    · have hne : ((Ss[k].fields.length : Int) != (V.length : Int)) = true := by simp; omega
      have HQ : Hid (∀ x, shOf Ss kind = some x → x.fields.length ≠ V.length) := fun x hx => by
        rw [HSH.out, hxk] at hx
        rw [← Option.some.inj hx]
        exact hl
      clear hl hxk HSH
      go_wp2
      go_quiet (fail)
      go_wp2
      refine bodyPost_ret (v := .tuple #[.slice (some ⟨w.heap.size + 1, 0, none⟩) 0 0, .bool false]) (by simp [results, Tryz.results26, go_sem]) rfl ⟨?_, Or.inr ⟨HQ.out, _, _, rfl⟩⟩
      exact (below_drewN (HW _).out _).alloc (by simp) _
  · have HQ : Hid (∀ x, shOf Ss kind = some x → x.fields.length ≠ V.length) := fun x hx => by rw [hsh] at hx; cases hx
    clear hsh
    go_wp2
    go_quiet (fail)
    go_wp2
    refine bodyPost_ret (v := .tuple #[.slice (some ⟨w.heap.size + 1, 0, none⟩) 0 0, .bool false]) (by simp [results, Tryz.results26, go_sem]) rfl ⟨?_, Or.inr ⟨HQ.out, _, _, rfl⟩⟩
    exact (below_drewN (HW _).out _).alloc (by simp) _
end
end Go.Proofs.YtckdcejbojhlcaaGreatDoor
