import Derived.Test.YtjkkbkdpoebfaaaGreatV31
import Derived.Test.YtjkkbkdpoebfaaaGreatV46
namespace Go.Proofs.YtjkkbkdpoebfaaaGreat
open Go.RowKit Go.Deep

theorem placeZ_lt {Fs : List Fd} {s : ByteArray} (h : plOf Fs s < Fs.length) : placeZ Fs s = plOf Fs s := by unfold placeZ; rw [if_pos h]
/-- a mend that is ok puts something where it takes from nowhere -/
theorem put_some {Ss : List Sh} {Ms : List Md} (hmb : mendsB Ss Ms = true) {m : Md} (hm : m ∈ Ms) (hf : m.fr.toList.isEmpty = true) : m.put.toList.isEmpty = false := by
  have hb := mendsB_mend hmb hm
  unfold mendB at hb
  cases hs : shOf Ss m.kind with
  | none => rw [hs] at hb; cases hb
  | some y =>
    rw [hs] at hb
    simp only [mendS, Bool.and_eq_true] at hb
    have hform := hb.1.2
    unfold formB at hform
    simp only [Bool.and_eq_true] at hform
    have h2 := hform.2
    rw [hf] at h2
    cases hpe : m.put.toList.isEmpty with
    | true => rw [hpe] at h2; simp at h2
    | false => rfl

set_option maxRecDepth 20000 in
set_option maxHeartbeats 8000000 in
theorem wgDecided_true (lo lm : Nat) (kind nm team : ByteArray) (v mv vv hv : Value) (en : Bool) (ver : Int) (Fs : List Fd) (Ms : List Md) (V Ho : List ByteArray) (w : World) (hF : FdsAt lo w v Fs) (hM : MdsAt lm w mv Ms) (hV : StrsAt w vv V) (hH : StrsAt w hv Ho)
    (h6 : Fs.length ≤ 10) (hl : Fs.length = V.length) (hn : Named Fs kind Ms) (h12 : Ms.length ≤ 40) (hfx : ∀ k (_ : k < Fs.length) (hk' : k < V.length) (u : ByteArray), decM Fs kind Ms V Fs[k].nm = some u → V[k] = u) (hput : ∀ m ∈ Ms, m.fr.toList.isEmpty = true → m.put.toList.isEmpty = false) :
    Calls Tryz.prog 12 #[v, mv, .agg #[.string kind, .string nm, .string team, vv, .bool en, hv, .int .i64 ver]] w fun e w' => e = .returned (.bool true) ∧ Below w.heap.size w w' := by
  have HF := hide hF
  have HM := hide hM
  have HVV := hide hV
  have HN := hide hn
  have HFX := hide hfx
  have HPT := hide hput
  obtain ⟨fa, fcap, rfl⟩ := hF.form
  obtain ⟨ma, mcap, rfl⟩ := hM.form
  obtain ⟨a, cap, rfl⟩ := hV.form'
  obtain ⟨a', cap', rfl⟩ := hH.form'
  have HL := hide hl
  have n1 : V.length ≤ 10 := by omega
  clear hF hM hV hH hn hl hfx hput
  go_enter Tryz.func12, Tryz.ntmps12
  go_wp2
  generalize hWa : w.alloc _ = Wa
  have hza : Wa.heap.size = w.heap.size + 1 := by rw [← hWa]; simp
  have HBa : Hid (Below w.heap.size w Wa) := by rw [← hWa]; exact one_al _ _
  have FO : Hid (Box Wa w.heap.size #[.string kind, .string nm, .string team, .slice a V.length cap, .bool en, .slice a' Ho.length cap', .int .i64 ver]) := by rw [← hWa]; exact Box.new _ _ _ _ rfl
  clear hWa
  have HZA := hide hza
  clear hza
  go_loopw [7] (fun i wr => ∃ k : Nat, i = .int .i64 k ∧ k ≤ Fs.length ∧ Below Wa.heap.size Wa wr) (fun i _ => Fs.length - (intOf i).toNat)
  case atStart => exact ⟨0, rfl, Nat.zero_le _, Below.refl _ _⟩
  case round =>
    obtain ⟨k, rfl, hk, hb0⟩ := hrel
    have HB0 := hide hb0
    clear hb0
    by_cases hkl : k < Fs.length
    · have hki : (k : Int) < (Fs.length : Int) := by omega
      have hkv : k < V.length := by have := HL.out; omega
      obtain ⟨vb, vo, rfl, hvb, hvc0⟩ := HVV.out.full' (by omega)
      obtain ⟨fb, fo, rfl, hfb, hfc0⟩ := HF.out.full' (by omega)
      obtain ⟨-, wvk, hcellk, -⟩ := hfc0 k hkl
      have HCK : Hid (w.cell? ⟨fb, fo + k * 11, none⟩ = some (.string Fs[k].nm)) := hcellk.c0
      have HFK := hide (HFX.out k hkl hkv)
      clear hfc0 hcellk
      have HVC := hide hvc0
      clear hvc0
      generalize hfk : Fs[k].nm = f at *
      have HFKN := hide hfk
      clear hfk
      generalize wr = wR at *
      go_wp2
      go_loopw [8] (fun i wr => ∃ k : Nat, i = .int .i64 k ∧ k ≤ Ms.length ∧ Below Wa.heap.size Wa wr ∧ ∀ i (h : i < Ms.length), i < k → (forB kind f Ms[i] && appB Fs V Ms[i]) = false) (fun i _ => Ms.length - (intOf i).toNat)
      case atStart => exact ⟨0, rfl, by omega, HB0.out, fun i _ h => by omega⟩
      case round =>
        obtain ⟨i, rfl, hi, hb, hall⟩ := hrel
        have HA := hide hall
        have HB := hide hb
        have HBw : Hid (Below w.heap.size w wr) := HBa.out.trans (hb.mono (by have := HZA.out; omega))
        have FOr := hide (FO.out.on hb)
        clear hall hb
        have g1 := FOr.out.cell
        have gl := FOr.out.lt
        have hvr : vb < wr.heap.size := Nat.lt_of_lt_of_le hvb HBw.out.size
        have hfr : fb < wr.heap.size := Nat.lt_of_lt_of_le hfb HBw.out.size
        have hvc : ∀ i (h : i < V.length), wr.cell? ⟨vb, vo + i, none⟩ = some (.string V[i]) := fun i h => by rw [HBw.out.cell (p := ⟨vb, _, none⟩) hvb]; exact HVC.out i h
        have fc : wr.cell? ⟨fb, fo + k * 11, none⟩ = some (.string f) := by rw [HBw.out.cell (p := ⟨fb, _, none⟩) hfb]; exact HCK.out
        have vk := hvc k hkv
        by_cases hlt : i < Ms.length
        · obtain ⟨b, off, rfl, hbw, hc⟩ := HM.out.full' (by omega)
          obtain ⟨hsz, hcell⟩ := hc i hlt
          obtain ⟨c0, c1, c2, c3, c4, c5⟩ := hcell.below HBw.out hbw
          clear hcell hc
          have HNX : Hid ((forB kind f Ms[i] && appB Fs V Ms[i]) = false → ∀ j (h : j < Ms.length), j < i + 1 → (forB kind f Ms[j] && appB Fs V Ms[j]) = false) := fun h j hj hji => by
            by_cases e : j = i
            · subst e; exact h
            · exact HA.out j hj (by omega)
          have HFr : ∀ o n, Hid (FdsAt lo ((wr.alloc o).drewN n) (.slice (some ⟨fb, fo, none⟩) Fs.length fcap) Fs) := fun o n => HF.out.below (below_drewN (HBw.out.alloc HBw.out.size _) _)
          cases hk1 : (Ms[i].kind.toList == kind.toList) with
          | false =>
            clear hvc
            go_wp2
            go_quiet (fail)
            go_wp2
            go_roundw
            case rel => exact ⟨i + 1, by go_num, by omega, (by first | exact below_drewN (HB.out.alloc HB.out.size _) _ | exact below_drewN (below_drewN (HB.out.alloc HB.out.size _) _) _ | exact HB.out.alloc HB.out.size _), HNX.out (by unfold forB; simp [hk1])⟩
            case measure => simp [intOf]; omega
          | true =>
            cases hf1 : (Ms[i].field.toList == f.toList) with
            | false =>
              clear hvc
              go_wp2
              go_quiet (fail)
              go_wp2
              go_roundw
              case rel => exact ⟨i + 1, by go_num, by omega, (by first | exact below_drewN (HB.out.alloc HB.out.size _) _ | exact below_drewN (below_drewN (HB.out.alloc HB.out.size _) _) _ | exact HB.out.alloc HB.out.size _), HNX.out (by unfold forB; simp [hf1])⟩
              case measure => simp [intOf]; omega
            | true =>
              have HFOR : Hid (forB kind f Ms[i] = true) := by unfold Hid forB; simp [hk1, hf1]
              have HNM := hide (HN.out Ms[i] (List.getElem_mem hlt) (bytes_eq.1 hk1))
              cases hwe : Ms[i].wh.toList.isEmpty with
              | true =>
                go_wp2
                go_quiet (fail)
                cases hfe : Ms[i].fr.toList.isEmpty with
                | true =>
                  have hpe := HPT.out Ms[i] (List.getElem_mem hlt) hfe
                  have HD : Hid (decM Fs kind Ms V f = some (givenV Fs V Ms[i])) := decM_some hlt (by rw [HFOR.out]; unfold appB; simp [hwe, hfe]) HA.out
                  have HVE : Hid (V[k] = Ms[i].put) := by have h := HFK.out _ HD.out; unfold givenV at h; rw [if_pos hfe] at h; exact h
                  have hke : (V[k].toList == Ms[i].put.toList) = true := by rw [HVE.out]; exact bytes_refl _
                  clear hvc
                  go_wp2
                  go_roundw
                  case rel => exact ⟨k + 1, by go_num, by omega, (by first | exact below_drewN (HB.out.alloc HB.out.size _) _ | exact below_drewN (below_drewN (HB.out.alloc HB.out.size _) _) _ | exact HB.out.alloc HB.out.size _)⟩
                  case measure => simp [intOf]; omega
                | false =>
                  have hp2 : plOf Fs Ms[i].fr < Fs.length := plOf_lt.2 (by rcases HNM.out.2 with h | h; rw [h] at hfe; cases hfe; exact h)
                  have hp2v : plOf Fs Ms[i].fr < V.length := by have := HL.out; omega
                  have hpi2 : placeZ Fs Ms[i].fr = plOf Fs Ms[i].fr := placeZ_lt hp2
                  have ck2 := hvc _ hp2v
                  have HVA2 : Hid (valAt Fs V Ms[i].fr = V[plOf Fs Ms[i].fr]) := by unfold Hid valAt; rw [List.getElem?_eq_getElem hp2v]; rfl
                  generalize hpp2 : plOf Fs Ms[i].fr = p2 at *
                  clear hvc
                  go_wp2
                  go_quiet ((go_at_call 28; exact (wgPlace_any lo _ Fs Ms[i].fr _ (HFr _ _).out).mono fun _ _ h => ⟨h.1, _, h.2⟩))
                  cases hve : V[p2].toList.isEmpty with
                  | true =>
                    go_wp2
                    go_roundw
                    case rel => exact ⟨i + 1, by go_num, by omega, (by first | exact below_drewN (HB.out.alloc HB.out.size _) _ | exact below_drewN (below_drewN (HB.out.alloc HB.out.size _) _) _ | exact HB.out.alloc HB.out.size _), HNX.out (by unfold appB; simp [hfe, HVA2.out, hve])⟩
                    case measure => simp [intOf]; omega
                  | false =>
                    have HD : Hid (decM Fs kind Ms V f = some (givenV Fs V Ms[i])) := decM_some hlt (by rw [HFOR.out]; unfold appB; simp [hwe, hfe, HVA2.out, hve]) HA.out
                    have HVE : Hid (V[k] = V[p2]) := by have h := HFK.out _ HD.out; unfold givenV at h; rw [if_neg (by rw [hfe]; simp), HVA2.out] at h; exact h
                    have hke : (V[k].toList == V[p2].toList) = true := by rw [HVE.out]; exact bytes_refl _
                    go_wp2
                    go_roundw
                    case rel => exact ⟨k + 1, by go_num, by omega, (by first | exact below_drewN (HB.out.alloc HB.out.size _) _ | exact below_drewN (below_drewN (HB.out.alloc HB.out.size _) _) _ | exact HB.out.alloc HB.out.size _)⟩
                    case measure => simp [intOf]; omega
              | false =>
                have hp1 : plOf Fs Ms[i].wh < Fs.length := plOf_lt.2 (by rcases HNM.out.1 with h | h; rw [h] at hwe; cases hwe; exact h)
                have hp1v : plOf Fs Ms[i].wh < V.length := by have := HL.out; omega
                have hpi1 : placeZ Fs Ms[i].wh = plOf Fs Ms[i].wh := placeZ_lt hp1
                have ck1 := hvc _ hp1v
                have HVA1 : Hid (valAt Fs V Ms[i].wh = V[plOf Fs Ms[i].wh]) := by unfold Hid valAt; rw [List.getElem?_eq_getElem hp1v]; rfl
                generalize hpp1 : plOf Fs Ms[i].wh = p1 at *
                cases hvi : (V[p1].toList == Ms[i].is.toList) with
                | false =>
                  clear hvc
                  go_wp2
                  go_quiet ((go_at_call 28; exact (wgPlace_any lo _ Fs Ms[i].wh _ (HFr _ _).out).mono fun _ _ h => ⟨h.1, _, h.2⟩))
                  go_wp2
                  go_roundw
                  case rel => exact ⟨i + 1, by go_num, by omega, (by first | exact below_drewN (HB.out.alloc HB.out.size _) _ | exact below_drewN (below_drewN (HB.out.alloc HB.out.size _) _) _ | exact HB.out.alloc HB.out.size _), HNX.out (by unfold appB; simp [hwe, HVA1.out, hvi])⟩
                  case measure => simp [intOf]; omega
                | true =>
                  go_wp2
                  go_quiet ((go_at_call 28; exact (wgPlace_any lo _ Fs Ms[i].wh _ (HFr _ _).out).mono fun _ _ h => ⟨h.1, _, h.2⟩))
                  cases hfe : Ms[i].fr.toList.isEmpty with
                  | true =>
                    have hpe := HPT.out Ms[i] (List.getElem_mem hlt) hfe
                    have HD : Hid (decM Fs kind Ms V f = some (givenV Fs V Ms[i])) := decM_some hlt (by rw [HFOR.out]; unfold appB; simp [hwe, HVA1.out, hvi, hfe]) HA.out
                    have HVE : Hid (V[k] = Ms[i].put) := by have h := HFK.out _ HD.out; unfold givenV at h; rw [if_pos hfe] at h; exact h
                    have hke : (V[k].toList == Ms[i].put.toList) = true := by rw [HVE.out]; exact bytes_refl _
                    clear hvc
                    go_wp2
                    go_roundw
                    case rel => exact ⟨k + 1, by go_num, by omega, (by first | exact below_drewN (HB.out.alloc HB.out.size _) _ | exact below_drewN (below_drewN (HB.out.alloc HB.out.size _) _) _ | exact HB.out.alloc HB.out.size _)⟩
                    case measure => simp [intOf]; omega
                  | false =>
                    have hp2 : plOf Fs Ms[i].fr < Fs.length := plOf_lt.2 (by rcases HNM.out.2 with h | h; rw [h] at hfe; cases hfe; exact h)
                    have hp2v : plOf Fs Ms[i].fr < V.length := by have := HL.out; omega
                    have hpi2 : placeZ Fs Ms[i].fr = plOf Fs Ms[i].fr := placeZ_lt hp2
                    have ck2 := hvc _ hp2v
                    have HVA2 : Hid (valAt Fs V Ms[i].fr = V[plOf Fs Ms[i].fr]) := by unfold Hid valAt; rw [List.getElem?_eq_getElem hp2v]; rfl
                    generalize hpp2 : plOf Fs Ms[i].fr = p2 at *
                    clear hvc
                    go_wp2
                    go_quiet ((go_at_call 28; exact (wgPlace_any lo _ Fs Ms[i].fr _ (HFr _ _).out).mono fun _ _ h => ⟨h.1, _, h.2⟩))
                    cases hve : V[p2].toList.isEmpty with
                    | true =>
                      go_wp2
                      go_roundw
                      case rel => exact ⟨i + 1, by go_num, by omega, (by first | exact below_drewN (HB.out.alloc HB.out.size _) _ | exact below_drewN (below_drewN (HB.out.alloc HB.out.size _) _) _ | exact HB.out.alloc HB.out.size _), HNX.out (by unfold appB; simp [hfe, HVA2.out, hve])⟩
                      case measure => simp [intOf]; omega
                    | false =>
                      have HD : Hid (decM Fs kind Ms V f = some (givenV Fs V Ms[i])) := decM_some hlt (by rw [HFOR.out]; unfold appB; simp [hwe, HVA1.out, hvi, hfe, HVA2.out, hve]) HA.out
                      have HVE : Hid (V[k] = V[p2]) := by have h := HFK.out _ HD.out; unfold givenV at h; rw [if_neg (by rw [hfe]; simp), HVA2.out] at h; exact h
                      have hke : (V[k].toList == V[p2].toList) = true := by rw [HVE.out]; exact bytes_refl _
                      go_wp2
                      go_roundw
                      case rel => exact ⟨k + 1, by go_num, by omega, (by first | exact below_drewN (HB.out.alloc HB.out.size _) _ | exact below_drewN (below_drewN (HB.out.alloc HB.out.size _) _) _ | exact HB.out.alloc HB.out.size _)⟩
                      case measure => simp [intOf]; omega
        · clear hvc
          go_wp2
          go_roundw
          case rel => exact ⟨k + 1, by go_num, by omega, HB.out⟩
          case measure => simp [intOf]; omega
    · go_wp2
      go_ret
      exact ⟨rfl, HBa.out.trans (HB0.out.mono (by have := HZA.out; omega))⟩
end Go.Proofs.YtjkkbkdpoebfaaaGreat
