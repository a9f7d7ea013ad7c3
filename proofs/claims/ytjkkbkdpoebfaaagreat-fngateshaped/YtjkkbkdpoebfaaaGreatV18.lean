import Derived.Test.YtjkkbkdpoebfaaaGreatV17
namespace Go.Proofs.YtjkkbkdpoebfaaaGreat
open Go.RowKit Go.Deep

set_option maxHeartbeats 1000000 in
theorem l1Open_any (v : Value) (bs : List UInt8) (w : World) (hv : CodeAt w.heap.size w v bs ∨ (∃ b off cap, v = .slice (some ⟨b, off, none⟩) bs.length cap ∧ 2000 < bs.length ∧ bs.length ≤ maxLen ∧ bs.length ≤ cap ∧ b < w.heap.size ∧ ∀ i (h : i < bs.length), w.cell? ⟨b, off + i, none⟩ = some (.int .u8 (bs[i].toNat : Int)))) :
    Calls Tryz.prog 29 #[v] w fun e w' => e = .returned (.pointer (some ⟨w.heap.size, 0, none⟩)) ∧ (∃ bs', Rd w' w.heap.size 0 bs') ∧ Below w.heap.size w w' := by
  rcases hv with hv | ⟨b, off, cap, rfl, hb, hm, hcap, hbw, hc⟩
  · have HV := hide hv
    have hl : bs.length ≤ 2000 := by
      rcases hv with ⟨_, _, _, h⟩ | ⟨_, _, _, _, _, h, _⟩
      · rw [h]; simp
      · exact h
    obtain ⟨a, cap, rfl⟩ := hv.form
    clear hv
    have hl2 : ¬ (2000 : Int) < bs.length := by omega
    go_enter Tryz.func29, Tryz.ntmps29
    go_wp2
    go_ret
    exact ⟨rfl, ⟨bs, ⟨by simp, ⟨.slice a bs.length cap, by simp, HV.out.tch (Tch.below (one_al _ _)) (Nat.le_refl _)⟩, by simp, fun i => by simp⟩⟩, one_al _ _⟩
  · unfold maxLen at hm
    have hl2 : (2000 : Int) < bs.length := by omega
    have HC := hide hc
    clear hc
    go_enter Tryz.func29, Tryz.ntmps29
    go_wp2
    go_ret
    have ht : (bs.take 2000).length = 2000 := by rw [List.length_take]; omega
    refine ⟨rfl, ⟨bs.take 2000, ⟨by simp, ⟨.slice (some ⟨b, off, none⟩) 2000 cap, by simp, Or.inr ⟨b, off, cap, by rw [ht], ?_, by omega, hbw, fun i hi => ?_⟩⟩, by simp, fun i => by simp⟩⟩, one_al _ _⟩
    · intro e; rw [e] at ht; simp at ht
    · rw [(one_al w _).cell (p := ⟨b, _, none⟩) hbw, HC.out i (by omega)]
      simp

def isS : Value → Bool
  | .string s => decide (s.size ≤ 1000)
  | _ => false
def strOf : Value → ByteArray
  | .string s => s
  | _ => ⟨#[]⟩
theorem isS_eq {v : Value} (h : isS v = true) : v = .string (strOf v) ∧ (strOf v).size ≤ 1000 := by
  cases v with
  | string s => exact ⟨rfl, by simpa [isS, strOf] using h⟩
  | _ => simp [isS] at h

set_option maxHeartbeats 1000000 in
/-- one of some texts that are written down -/
theorem ofLit_any (ρ p : Nat) (bs : List UInt8) (cs : Array Value) (n : Nat) (b : Nat) (w : World) (h : Rd w ρ p bs) (hp : p ≤ 1000000000) (hcs : cs.all isS = true) (hn : cs.size = n) (h1 : 1 ≤ n) (h2 : n ≤ 1000) (hb : Box w b cs) (hne : b ≠ ρ) :
    Calls Tryz.prog 54 #[.pointer (some ⟨ρ, 0, none⟩), .slice (some ⟨b, 0, none⟩) n n] w fun e w' => ∃ s, e = .returned (.string s) ∧ s.size ≤ 1000 ∧ Rd w' ρ (p + 1) bs ∧ Tch ρ w w' := by
  have HR := hide h
  have HB := hide hb
  have hlt := h.lt
  clear h hb
  go_enter Tryz.func54, Tryz.ntmps54
  go_wp2_with fail
  refine (pick_any ρ p bs n _ HR.out hp (by omega) (by omega)).mono ?_
  rintro e w1 ⟨x, rfl, hx0, hx1, hr1, ht1⟩
  obtain ⟨i, rfl⟩ := Int.eq_ofNat_of_zero_le hx0
  have hi : i < cs.size := by omega
  have HR1 := hide hr1
  have HT1 := hide ht1
  obtain ⟨e1, e2⟩ := isS_eq (Array.all_eq_true.1 hcs i hi)
  have HE2 := hide e2
  have ck : w1.cell? ⟨b, i, none⟩ = some (.string (strOf cs[i])) := by
    rw [(HT1.out.box HB.out hne).cell i, Array.getElem?_eq_getElem hi, ← e1]
  clear hr1 ht1 e1 e2
  generalize strOf cs[i] = s at *
  go_wp2
  go_ret
  exact ⟨s, rfl, HE2.out, HR1.out, HT1.out⟩
end Go.Proofs.YtjkkbkdpoebfaaaGreat
namespace Go.Proofs.YtjkkbkdpoebfaaaGreat
open Go.RowKit Go.Deep

theorem ofBuilt_any (ρ p : Nat) (bs : List UInt8) (cs : Array Value) (t : TypeId) (n : Nat) (w : World) (h : Rd w ρ p bs) (hp : p ≤ 1000000000) (hcs : cs.toList.all isS = true) (hn : cs.size = n) (h1 : 1 ≤ n) (h2 : n ≤ 1000) :
    Calls Tryz.prog 54 #[.pointer (some ⟨ρ, 0, none⟩), .slice (some ⟨w.heap.size, 0, none⟩) n n] (w.alloc (.cells cs t)) fun e w' => ∃ s, e = .returned (.string s) ∧ s.size ≤ 1000 ∧ Rd w' ρ (p + 1) bs ∧ Tch ρ w w' := by
  have ha := one_al w (.cells cs t)
  have hlt := h.lt
  refine (ofLit_any ρ p bs cs n w.heap.size _ (h.below ha) hp (by rw [← Array.all_toList]; exact hcs) hn h1 h2 (Box.new w cs t _ rfl) (by omega)).mono ?_
  rintro e w' ⟨s, rfl, h1, h2, h3⟩
  exact ⟨s, rfl, h1, h2, (Tch.below ha).trans h3⟩

/-- a walk with one variable in a block of its own -/
structure St (w0 : World) (ρ q : Nat) (bs : List UInt8) (β : Nat) (cs : Array Value) (w : World) : Prop where
  rd : Rd w ρ q bs
  box : Box w β cs
  t : Tch ρ w0 w
  ne : ρ < β
  nw : w0.heap.size ≤ β
theorem Tch.other {ρ β i : Nat} {w0 w : World} (h : Tch ρ w0 w) (hβ : w0.heap.size ≤ β) (u : Value) : Tch ρ w0 (w.setCell ⟨β, i, none⟩ u) :=
  ⟨h.os, h.tape, h.output, by simpa [World.setCell] using h.size, fun k hk hn => (Below.heap_setCell w ⟨β, i, none⟩ u k (by show k ≠ β; omega)).trans (h.block k hk hn)⟩
theorem Rd.other {w : World} {ρ p β i : Nat} {bs : List UInt8} (h : Rd w ρ p bs) (hβ : ρ < β) (u : Value) : Rd (w.setCell ⟨β, i, none⟩ u) ρ p bs := by
  obtain ⟨v, h1, h2⟩ := h.code
  have ho : ∀ b j, b ≤ ρ → (w.setCell ⟨β, i, none⟩ u).cell? ⟨b, j, none⟩ = w.cell? ⟨b, j, none⟩ := fun b j hb => by
    apply World.cell?_setCell_other; simp
  refine ⟨by simpa [World.setCell] using h.lt, ⟨v, (ho ρ 0 (Nat.le_refl _)).trans h1, ?_⟩, (ho ρ 1 (Nat.le_refl _)).trans h.place, fun j => by rw [World.frozen?_setCell]; exact h.free j⟩
  rcases h2 with h2 | ⟨b, off, cap, h1, h2, h3, h4, h5⟩
  · exact Or.inl h2
  · exact Or.inr ⟨b, off, cap, h1, h2, h3, h4, fun k hk => (ho b _ (by omega)).trans (h5 k hk)⟩
theorem St.new {w : World} {ρ p : Nat} {bs : List UInt8} (h : Rd w ρ p bs) (cs : Array Value) (t : TypeId) : St w ρ p bs w.heap.size cs (w.alloc (.cells cs t)) :=
  ⟨h.below (one_al w _), Box.new w cs t _ rfl, Tch.below (one_al w _), h.lt, Nat.le_refl _⟩
theorem St.step {w0 w w' : World} {ρ q q' β : Nat} {bs : List UInt8} {cs : Array Value} (h : St w0 ρ q bs β cs w) (hr : Rd w' ρ q' bs) (ht : Tch ρ w w') : St w0 ρ q' bs β cs w' :=
  ⟨hr, ht.box h.box (by have := h.ne; omega), h.t.trans ht, h.ne, h.nw⟩

end Go.Proofs.YtjkkbkdpoebfaaaGreat
namespace Go.Proofs.YtjkkbkdpoebfaaaGreat
open Go.RowKit Go.Deep

set_option maxHeartbeats 1000000 in
theorem l1Many_any (s : ByteArray) (n : Nat) (w : World) (h : s.size * n ≤ 4000000) (hn : n ≤ 4000000) (hs : s.size ≤ 4000000) :
    Calls Tryz.prog 88 #[.string s, .int .i64 n] w fun e w' => w' = w ∧ ∃ o, e = .returned (.string o) ∧ o.size = s.size * n := by
  have HH := hide (And.intro h (And.intro hn hs))
  generalize hS : s.size * n = S at *
  clear h hs
  go_enter Tryz.func88, Tryz.ntmps88
  go_wp2
  go_loopw [0, 1, 5] (fun a b c wr => wr = w ∧ ∃ (s' o' : ByteArray) (k : Nat), a = .string s' ∧ b = .int .i64 k ∧ c = .string o' ∧ o'.size + s'.size * k = S ∧ k ≤ n ∧ s'.size ≤ 8000000) (fun _ b _ _ => (intOf b).toNat)
  case atStart => exact ⟨rfl, s, ⟨#[]⟩, n, rfl, rfl, rfl, by rw [hS]; exact Nat.zero_add _, Nat.le_refl _, by have := HH.out.2.2; omega⟩
  case round =>
    obtain ⟨rfl, s', o', k, rfl, rfl, rfl, h1, h2, h3⟩ := hrel
    by_cases h0 : k = 0
    · subst h0
      go_wp2
      go_ret
      exact ⟨rfl, o', rfl, by rw [Nat.mul_zero] at h1; omega⟩
    · have hk : 0 < k := by omega
      have hsk : s'.size ≤ s'.size * k := Nat.le_mul_of_pos_right _ hk
      have ha1 : ∀ W, (Op.stringOp .add o' s').run Tryz.prog W = .ok (.string (o' ++ s')) W := fun W => run_string_add_sum (P := Tryz.prog) (w := W) o' s' (by have := HH.out.1; omega)
      have ha2 : ∀ W, (Op.stringOp .add s' s').run Tryz.prog W = .ok (.string (s' ++ s')) W := fun W => run_string_add_sum (P := Tryz.prog) (w := W) s' s' (by have := HH.out.1; omega)
      have hz1 : (o' ++ s').size = o'.size + s'.size := ByteArray.size_append
      have hz2 : (s' ++ s').size = s'.size + s'.size := ByteArray.size_append
      have hm : (k : Int).tmod 2 = (k : Int) % 2 := Int.tmod_eq_emod_of_nonneg (by omega)
      have hw : IntKind.i64.wrap ((k : Int) / 2) = (k : Int) / 2 := by have := HH.out.2.1; rw [IntKind.wrap_i64]; omega
      have he : s'.size * k = s'.size * (2 * (k / 2)) + s'.size * (k % 2) := by rw [← Nat.mul_add]; congr 1; omega
      have he2 : s'.size * (2 * (k / 2)) = (s'.size + s'.size) * (k / 2) := by rw [← Nat.mul_assoc]; congr 1; omega
      have H := hide (And.intro h1 (And.intro h2 (And.intro h3 (And.intro he (And.intro he2 (And.intro hz1 (And.intro hz2 hsk)))))))
      clear h1 h2 h3 he he2 hz1 hz2 hsk
      by_cases hodd : k % 2 = 1
      · have hm' : (k : Int) % 2 = 1 := by omega
        go_wp2
        obtain ⟨h1, h2, h3, he, he2, hz1, hz2, hsk⟩ := H.out
        have hS1 := HH.out.1
        refine ⟨⟨trivial, s' ++ s', o' ++ s', k / 2, rfl, rfl, rfl, ?_, by omega, by omega⟩, ?_⟩
        · rw [hz1, hz2, ← he2]; rw [he, hodd] at h1; omega
        · show ((k : Int) / 2).toNat < (k : Int).toNat; omega
      · have hm' : (k : Int) % 2 = 0 := by omega
        go_wp2
        obtain ⟨h1, h2, h3, he, he2, hz1, hz2, hsk⟩ := H.out
        have hS1 := HH.out.1
        refine ⟨⟨trivial, s' ++ s', o', k / 2, rfl, rfl, rfl, ?_, by omega, by omega⟩, ?_⟩
        · rw [hz2, ← he2]; rw [he, show k % 2 = 0 by omega] at h1; omega
        · show ((k : Int) / 2).toNat < (k : Int).toNat; omega
end Go.Proofs.YtjkkbkdpoebfaaaGreat
namespace Go.Proofs.YtjkkbkdpoebfaaaGreat
open Go.RowKit Go.Deep

set_option maxRecDepth 20000 in
set_option maxHeartbeats 4000000 in
theorem l3Row_any (lo lm : Nat) (fv mv : Value) (x : Sh) (Ms : List Md) (w : World) (hf : FdsAt lo w fv x.fields) (hv : MdsAt lm w mv Ms) (hn : x.fields.length ≤ 1048576) :
    Calls Tryz.prog 36 #[.agg #[.string x.kind, fv], mv] w fun e w' => ∃ v R, e = .returned v ∧ Below w.heap.size w w' ∧ OwnS w.heap.size w' v R ∧ RowOf x Ms R := by
  obtain ⟨i0, hi, hz0, hz1, hz2⟩ := info_parts Tryz.info9
  have HF := hide hf
  have HV := hide hv
  obtain ⟨a, cap, rfl⟩ := hf.form
  obtain ⟨ma, mcap, rfl⟩ := hv.form
  clear hf hv
  have HW : ∀ o, Hid (Below w.heap.size w (w.alloc o)) := fun o => (Below.refl _ _).alloc (Nat.le_refl _) _
  go_enter Tryz.func36, Tryz.ntmps36
  go_wp2
  generalize hW0 : w.alloc _ = W0
  have hz0' : W0.heap.size = w.heap.size + 1 := by rw [← hW0]; simp
  have HB0 : Hid (Below w.heap.size w W0) := by rw [← hW0]; exact (HW _).out
  have g0 : ∀ i, W0.cell? ⟨w.heap.size, i, none⟩ = (#[.string x.kind, .slice a x.fields.length cap] : Array Value)[i]? := fun i => by rw [← hW0]; exact new_cell _ _ _ _ _ rfl
  clear hW0
  have HI := hide (And.intro hi (And.intro hz0 (And.intro hz1 hz2)))
  have HG0 := hide g0
  clear g0 hi hz0 hz1 hz2
  go_loopw [5, 6] (fun v i wr => ∃ (n : Nat) (R : List ByteArray), i = .int .i64 n ∧ n ≤ x.fields.length ∧ OwnS (w.heap.size + 1) wr v R ∧ Below (w.heap.size + 1) W0 wr ∧ Good (namesF x.fields) (readsOf x.kind Ms) R ∧ (R.length = n ∨ Stuck (namesF x.fields) (readsOf x.kind Ms) R)) (fun _ i _ => x.fields.length - (intOf i).toNat)
  case atStart => exact ⟨0, [], rfl, by omega, OwnS.made W0 _ hz0' (Nat.le_refl _), (Below.refl _ _).alloc (by omega) _, Good.nil, Or.inl rfl⟩
  case round =>
    obtain ⟨n, R, rfl, hnn, hown, hb, hgood, hcase⟩ := hrel
    have HO := hide hown
    have HB := hide hb
    have HGD := hide hgood
    have HC := hide hcase
    obtain ⟨va, vcap, rfl⟩ := hown.form
    have q1 : wr.cell? ⟨w.heap.size, 1, none⟩ = some (.slice a x.fields.length cap) := by rw [hb.cell (p := ⟨w.heap.size, 1, none⟩) (by simp)]; exact HG0.out 1
    clear hown hb hgood hcase
    by_cases hlt : n < x.fields.length
    · go_wp2
      go_loopw [5, 7] (fun v i wi => ∃ (k : Nat), v = .slice va R.length vcap ∧ i = .int .i64 k ∧ k ≤ x.fields.length ∧ OwnS (w.heap.size + 1) wi v R ∧ Below (w.heap.size + 1) W0 wi ∧ NoneYet x.fields (readsOf x.kind Ms) R k) (fun _ i _ => x.fields.length - (intOf i).toNat)
      case atStart => exact ⟨0, rfl, rfl, by omega, HO.out, HB.out, fun i _ h => by omega⟩
      case round =>
        obtain ⟨k, rfl, rfl, hk, hown, hb, hny⟩ := hrel
        have HOi := hide hown
        have HBi := hide hb
        have HN := hide hny
        have p0 : wr.cell? ⟨w.heap.size, 0, none⟩ = some (.string x.kind) := by rw [hb.cell (p := ⟨w.heap.size, 0, none⟩) (by simp)]; exact HG0.out 0
        have p1 : wr.cell? ⟨w.heap.size, 1, none⟩ = some (.slice a x.fields.length cap) := by rw [hb.cell (p := ⟨w.heap.size, 1, none⟩) (by simp)]; exact HG0.out 1
        have HBw : Hid (Below w.heap.size w wr) := HB0.out.trans (hb.mono (by omega))
        have hzr : w.heap.size + 1 ≤ wr.heap.size := by have := hb.size; omega
        clear hown hb hny q1
        by_cases hkl : k < x.fields.length
        · obtain ⟨fb, fo, rfl, hfb, hfc⟩ := HF.out.full' (by omega)
          obtain ⟨hfs, wv, hcell, _⟩ := hfc k hkl
          have c0 : wr.cell? ⟨fb, fo + k * 11, none⟩ = some (.string x.fields[k].nm) := by rw [HBw.out.cell (p := ⟨fb, _, none⟩) hfb]; exact hcell.c0
          have HSZ := hide hfs.s0
          clear hcell hfc hfs
          go_wp2_with fail
          refine (l1Has_any _ R x.fields[k].nm _ HOi.out.strs).mono ?_
          rintro e w1 ⟨rfl, rfl⟩
          cases hh : hasB R x.fields[k].nm with
          | true =>
            have HNX : Hid (NoneYet x.fields (readsOf x.kind Ms) R (k + 1)) := HN.out.succ hkl (Or.inl (hasB_mem.1 hh))
            go_wp2
            go_roundw
            case rel => exact ⟨k + 1, rfl, by go_num, by omega, HOi.out, HBi.out, HNX.out⟩
            case measure => simp [intOf]; omega
          | false =>
            go_wp2_with fail
            refine (l3Ready_any lm _ _ Ms x.kind x.fields[k].nm R _ (HV.out.below HBw.out) HOi.out.strs).mono ?_
            rintro e w2 ⟨rfl, hb2⟩
            have HO2 := hide (HOi.out.below hb2)
            have HB2 : Hid (Below (w.heap.size + 1) W0 w2) := HBi.out.trans (hb2.mono hzr)
            have hz2 : w.heap.size + 1 ≤ w2.heap.size := by have := hb2.size; omega
            clear hb2 p0 p1 c0
            cases hrd : readyB Ms x.kind x.fields[k].nm R with
            | false =>
              have HNX : Hid (NoneYet x.fields (readsOf x.kind Ms) R (k + 1)) := HN.out.succ hkl (Or.inr fun h => by rw [ready_all.2 h] at hrd; cases hrd)
              go_wp2
              go_roundw
              case rel => exact ⟨k + 1, rfl, by go_num, by omega, HO2.out, HB2.out, HNX.out⟩
              case measure => simp [intOf]; omega
            | true =>
              have HG1 : Hid (Good (namesF x.fields) (readsOf x.kind Ms) (R ++ [x.fields[k].nm])) := Good.snoc HGD.out (mem_namesF.2 ⟨k, hkl, rfl⟩) (hasB_not hh) (ready_all.1 hrd)
              have HC1 : Hid ((R ++ [x.fields[k].nm]).length = n + 1 ∨ Stuck (namesF x.fields) (readsOf x.kind Ms) (R ++ [x.fields[k].nm])) := by
                rcases HC.out with h | h
                · exact Or.inl (by rw [List.length_append, h]; rfl)
                · exact absurd (ready_all.1 hrd) (h _ (mem_namesF.2 ⟨k, hkl, rfl⟩) (hasB_not hh))
              have HRL : Hid (R.length ≤ 1048576) := Nat.le_trans (good_len HGD.out) hn
              clear hh hrd
              go_wp2_with (at_builtin; refine wpList_append_lies _ rfl (.tmp 42) (.tmp 44) 25 rfl (w.heap.size + 1) 9 i0 (.string ⟨#[]⟩) 1 16 Tryz.underlying25 HI.out.1 HI.out.2.1 HI.out.2.2.1 HI.out.2.2.2 rfl (by decide) _ _ _ rfl (HO2.out.below ((Below.refl _ _).alloc (Nat.le_refl _) _)).row ⟨w2.heap.size, 0, none⟩ 1 1 [.string x.fields[k].nm] rfl rfl (cell_new1 _ _ _ _ rfl) (one_oneCell _) (by decide) (by have := HRL.out; unfold maxLen; omega) (by have := HRL.out; omega) (by simp; omega) _ rfl ?_; intro g cap1 w3 hown3 hgrow3 hat3 hlt3)
              exact ⟨⟨n + 1, R ++ [x.fields[k].nm], by go_num, by omega, HO2.out.snoc hown3 HSZ.out, (HB2.out.alloc (by omega) _).trans ((HO2.out.below ((Below.refl _ _).alloc (Nat.le_refl _) _)).grown hgrow3 (by simp; omega)), HG1.out, HC1.out⟩, by simp [intOf]; omega⟩
        · go_wp2
          exact ⟨⟨n + 1, R, by go_num, by omega, HOi.out, HBi.out, HGD.out, Or.inr (HN.out.stuck (by omega))⟩, by simp [intOf]; omega⟩
    · go_wp2
      go_ret
      exact ⟨_, R, rfl, HB0.out.trans (HB.out.mono (by omega)), HO.out.mono (by omega), RowOf.mk' HGD.out (by omega) HC.out⟩
end Go.Proofs.YtjkkbkdpoebfaaaGreat
