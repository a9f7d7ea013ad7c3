
import Derived.Test.YtobijdenhbpdfaaDoorD8
namespace Go.Proofs.YtobijdenhbpdfaaDoor
open Go.RowKit Go.Deep

theorem two_al (X : World) (a b : Obj) : Below X.heap.size X ((X.alloc a).alloc b) := ((Below.refl _ _).alloc (Nat.le_refl _) _).alloc (by simp) _
structure Zl (w : World) (β : Nat) (W : World) : Prop where
  b : Below β w W
  z : Box W β #[.slice none 0 0, .slice none 0 0, .slice none 0 0]
theorem Zl.on {w W W' : World} {β : Nat} (h : Zl w β W) (hb : Below W.heap.size W W') : Zl w β W' := ⟨h.b.trans (hb.mono (Nat.le_of_lt h.z.lt)), h.z.on hb⟩
theorem shp {w W : World} {β : Nat} (Z : Zl w β W) (cs : Array Value) (t : TypeId) (c2 : Array Value) (t2 : TypeId) : Zl w β ((W.alloc (.cells cs t)).alloc (.cells c2 t2)) ∧ Box ((W.alloc (.cells cs t)).alloc (.cells c2 t2)) (W.heap.size + 1) c2 :=
  ⟨Z.on (two_al _ _ _), Box.new _ c2 t2 _ (by simp)⟩
theorem TmsAt.box3 {w : World} {β lo : Nat} (a a' b b' c c' : ByteArray) (hb : Box w β #[.string a, .string a', .string b, .string b', .string c, .string c']) (hlo : lo ≤ β) (hs : a.size ≤ maxLen ∧ a'.size ≤ maxLen ∧ b.size ≤ maxLen ∧ b'.size ≤ maxLen ∧ c.size ≤ maxLen ∧ c'.size ≤ maxLen) :
    TmsAt lo w (.slice (some ⟨β, 0, none⟩) 3 3) [⟨a, a'⟩, ⟨b, b'⟩, ⟨c, c'⟩] := by
  refine Or.inr ⟨β, 0, 3, rfl, by simp, by unfold maxLen; simp, hb.lt, hlo, by simp, fun i hi => ?_⟩
  have hi' : i = 0 ∨ i = 1 ∨ i = 2 := by simp at hi; omega
  rcases hi' with rfl | rfl | rfl
  · exact ⟨⟨hs.1, hs.2.1⟩, hb.cell 0, hb.cell 1⟩
  · exact ⟨⟨hs.2.2.1, hs.2.2.2.1⟩, hb.cell 2, hb.cell 3⟩
  · exact ⟨⟨hs.2.2.2.2.1, hs.2.2.2.2.2⟩, hb.cell 4, hb.cell 5⟩
set_option maxRecDepth 20000 in
set_option maxHeartbeats 4000000 in
theorem l11Law_any (w : World) :
    Calls Tryd.prog 52 #[] w fun e w' => ∃ vs vm vt Ts, e = .returned (.agg #[vs, vm, vt]) ∧ TmsAt w.heap.size w' vt Ts ∧ Ts.length = 3 ∧ (∀ t ∈ Ts, t.nm.size ≤ 1000 ∧ t.ov.size ≤ 1000) ∧ Below w.heap.size w w' := by
  have Z0 : Hid (Zl w w.heap.size (w.alloc (.cells #[.slice none 0 0, .slice none 0 0, .slice none 0 0] 84))) := ⟨one_al _ _, Box.new w _ _ _ rfl⟩
  go_enter Tryd.func52, Tryd.ntmps52
  go_wp2_with fail
  generalize hW0 : w.alloc _ = W0 at *
  clear hW0
  refine (l11Num_any _ _ _ _ _ _ W0).mono ?_
  rintro e w1 ⟨rfl, hb⟩
  have Z1 := hide (Z0.out.on hb)
  clear hb Z0
  unfold fieldV
  go_wp2_with fail
  refine (l11Word_any _ _ _ _ _ _).mono ?_
  rintro e w2 ⟨rfl, hb⟩
  have Z2 := hide ((Z1.out.on (one_al _ _)).on hb)
  clear hb Z1
  unfold fieldV
  go_wp2_with fail
  have X := fun cs t c2 t2 => hide (shp Z2.out cs t c2 t2)
  refine (l11Num_any _ _ _ _ _ _ _).mono ?_
  rintro e w3 ⟨rfl, hb⟩
  have Z3 := hide ((X _ _ _ _).out.1.on hb)
  have P3 := hide ((X _ _ _ _).out.2.on hb)
  clear hb X Z2 
  unfold fieldV
  go_wp2_with fail
  refine (l11Word_any _ _ _ _ _ _).mono ?_
  rintro e w4 ⟨rfl, hb⟩
  have Z4 := hide ((Z3.out.on (one_al _ _)).on hb)
  have P4 := hide ((P3.out.on (one_al _ _)).on hb)
  clear hb Z3 P3
  unfold fieldV
  go_wp2_with fail
  refine (l11Link_any _ _ _ _).mono ?_
  rintro e w5 ⟨rfl, hb⟩
  have Z5 := hide (Z4.out.on hb)
  have P5 := hide (P4.out.on hb)
  clear hb Z4 P4
  unfold fieldV
  go_wp2_with fail
  refine (l11Link_any _ _ _ _).mono ?_
  rintro e w6 ⟨rfl, hb⟩
  have Z6 := hide (Z5.out.on hb)
  have P6 := hide (P5.out.on hb)
  clear hb Z5 P5
  unfold fieldV
  go_wp2_with fail
  refine (l11Link_any _ _ _ _).mono ?_
  rintro e w7 ⟨rfl, hb⟩
  have Z7 := hide (Z6.out.on hb)
  have P7 := hide (P6.out.on hb)
  clear hb Z6 P6
  unfold fieldV
  go_wp2_with fail
  have X := fun cs t c2 t2 => hide (shp Z7.out cs t c2 t2)
  refine (l11Num_any _ _ _ _ _ _ _).mono ?_
  rintro e w8 ⟨rfl, hb⟩
  have Z8 := hide ((X _ _ _ _).out.1.on hb)
  have Q8 := hide ((X _ _ _ _).out.2.on hb)
  have P8 := hide ((P7.out.on (two_al _ _ _)).on hb)
  clear hb X Z7 P7
  unfold fieldV
  go_wp2_with fail
  refine (l11Word_any _ _ _ _ _ _).mono ?_
  rintro e w9 ⟨rfl, hb⟩
  have Z9 := hide ((Z8.out.on (one_al _ _)).on hb)
  have P9 := hide ((P8.out.on (one_al _ _)).on hb)
  have Q9 := hide ((Q8.out.on (one_al _ _)).on hb)
  clear hb Z8 P8 Q8
  unfold fieldV
  have zl := Z9.out.z.lt
  have hp : ∀ o1 o2 o3 o4 i, ((((w9.alloc o1).alloc o2).alloc o3).alloc o4).cell? ⟨w2.heap.size + 1, i, none⟩ = _ := fun o1 o2 o3 o4 i => ((((P9.out.on (one_al _ o1)).on (one_al _ o2)).on (one_al _ o3)).on (one_al _ o4)).cell i
  have hq : ∀ o1 o2 o3 o4 i, ((((w9.alloc o1).alloc o2).alloc o3).alloc o4).cell? ⟨w7.heap.size + 1, i, none⟩ = _ := fun o1 o2 o3 o4 i => ((((Q9.out.on (one_al _ o1)).on (one_al _ o2)).on (one_al _ o3)).on (one_al _ o4)).cell i
  have ht : ∀ o1 c t o3 o4 i, ((((w9.alloc o1).alloc (.cells c t)).alloc o3).alloc o4).cell? ⟨w9.heap.size + 1, i, none⟩ = c[i]? := fun o1 c t o3 o4 i => (((Box.new (w9.alloc o1) c t _ (by simp)).on (one_al _ o3)).on (one_al _ o4)).cell i
  have hz : ∀ o1 o2 o3 o4 o5 i, (((((w9.alloc o1).alloc o2).alloc o3).alloc o4).alloc o5).cell? ⟨w.heap.size, i, none⟩ = _ := fun o1 o2 o3 o4 o5 i => (((((Z9.out.z.on (one_al _ o1)).on (one_al _ o2)).on (one_al _ o3)).on (one_al _ o4)).on (one_al _ o5)).cell i
  have hzf : ∀ o1 o2 o3 o4 o5 i, (((((w9.alloc o1).alloc o2).alloc o3).alloc o4).alloc o5).frozen? ⟨w.heap.size, i, none⟩ = false := fun o1 o2 o3 o4 o5 i => (((((Z9.out.z.on (one_al _ o1)).on (one_al _ o2)).on (one_al _ o3)).on (one_al _ o4)).on (one_al _ o5)).free i
  go_wp2
  refine bodyPost_ret (v := .agg #[.slice (some ⟨w9.heap.size + 1 + 1 + 1 + 1, 0, none⟩) 3 3, .slice (some ⟨w9.heap.size + 1 + 1, 0, none⟩) 3 3, .slice (some ⟨w9.heap.size + 1 + 1 + 1, 0, none⟩) 3 3]) (by simp [results, Tryd.results52, go_sem, hz]) rfl ⟨_, _, _, [⟨⟨#[100, 101, 118]⟩, ⟨#[]⟩⟩, ⟨⟨#[108, 97, 98]⟩, ⟨#[100, 101, 118]⟩⟩, ⟨⟨#[111, 112, 115]⟩, ⟨#[]⟩⟩], rfl, ?_, rfl, by decide, ?_⟩
  · refine TmsAt.mono (lo := w.heap.size + 1) ?_ (by omega)
    repeat (refine TmsAt.setCell ?_ (by simp only []; omega) _)
    exact TmsAt.box3 _ _ _ _ _ _ ((Box.new _ _ _ _ (by simp)).on (one_al _ _)) (by omega) (by unfold maxLen; decide)
  · repeat (refine Below.setCell ?_ (by simp only []; omega) _)
    exact (((((Z9.out.on (one_al _ _)).on (one_al _ _)).on (one_al _ _)).on (one_al _ _)).on (one_al _ _)).b
end Go.Proofs.YtobijdenhbpdfaaDoor
