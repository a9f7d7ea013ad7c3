import Derived.Test.YtjkkbkdpoebfaaaGreatV30
import Derived.Deep.AppendLies
import Derived.Lib.BufferMore
namespace Go.Proofs.YtjkkbkdpoebfaaaGreat
open Go.RowKit Go.Deep

/-- a row of one's own, by its entries: nothing, or a block with the entries' cells -/
theorem owns_at {β : Type} {cells : β → List Value} {sz base : Nat} {e : TypeId} {W : World} {v : Value} {L : List β} (h : W.ownsRow base e sz v L.length (flatC cells L)) (hc : ∀ x, (cells x).length = sz) :
    (∃ (a : Option Addr) (cap : Nat), v = .slice a 0 cap ∧ L = []) ∨
    ∃ (b cap : Nat), v = .slice (some ⟨b, 0, none⟩) L.length cap ∧ L ≠ [] ∧ L.length ≤ maxLen ∧ b < W.heap.size ∧ base ≤ b ∧ L.length ≤ cap ∧ v.ownBlock = some b ∧
      ∀ i (hi : i < L.length) j, j < sz → W.cell? ⟨b, 0 + i * sz + j, none⟩ = (cells L[i])[j]? := by
  rcases h.2 with ⟨hv, hn⟩ | ⟨g, cap, cur, hv, h1, h2, h3, h4, h5, h6⟩
  · exact Or.inl ⟨_, _, hv, List.length_eq_zero_iff.mp hn⟩
  · by_cases h0 : L = []
    · subst h0; exact Or.inl ⟨_, _, hv, rfl⟩
    · have hg : v.ownBlock = some g := by rw [hv]; rfl
      refine Or.inr ⟨g, cap, hv, h0, by omega, (owns_lt h hg).1, h1, h3, hg, fun i hi j hj => ?_⟩
      have hlt : i * sz + j < L.length * sz := by
        have : (i + 1) * sz ≤ L.length * sz := Nat.mul_le_mul_right _ hi
        rw [Nat.add_mul] at this; omega
      rw [Nat.zero_add, cell_of_row W g _ cur e (0, 0) h2, ← flatC_at cells sz hc L i j hi hj, ← h6, List.getElem?_take_of_lt hlt]
      simp
theorem StrsK.in {K : Nat → Prop} {W : World} {v : Value} {L : List ByteArray} {lo : Nat} (h : StrsK K W v L) (hk : ∀ k, K k → lo ≤ k ∧ k < W.heap.size) : StrsIn lo W v L := by
  rcases h with h | ⟨b, off, cap, h1, h2, h3, h4, h5, h6⟩
  · exact Or.inl h
  · exact Or.inr ⟨b, off, cap, h1, h2, h3, (hk b h4).2, h5, h6, (hk b h4).1⟩
theorem few_size {f : Fd} (h : FdFew f) : FdSize f := ⟨by have := h.nm; unfold maxLen; omega, by have := h.tt; unfold maxLen; omega, by have := h.df; unfold maxLen; omega, by have := h.we; unfold maxLen; omega⟩
theorem mdFew_size {m : Md} (h : MdFew m) : MdSize m := ⟨by have := h.s0; unfold maxLen; omega, by have := h.s1; unfold maxLen; omega, by have := h.s2; unfold maxLen; omega, by have := h.s3; unfold maxLen; omega, by have := h.s4; unfold maxLen; omega, by have := h.s5; unfold maxLen; omega⟩
/-- a row of mends, as the mends' reader has it -/
theorem MdR.at {base : Nat} {v : Value} {L : List Md} {W : World} (h : MdR base v L W) : MdsAt base W v L := by
  rcases owns_at h.own mdC_len with h1 | ⟨b, cap, h1, h2, h3, h4, h5, h6, _, h7⟩
  · exact Or.inl h1
  · refine Or.inr ⟨b, 0, cap, h1, h2, h3, h4, h5, h6, fun i hi => ⟨mdFew_size (h.few _ (List.getElem_mem hi)), ?_⟩⟩
    have c := h7 i hi
    exact ⟨c 0 (by omega), c 1 (by omega), c 2 (by omega), c 3 (by omega), c 4 (by omega), c 5 (by omega)⟩
/-- a shape's fields, as the fields' reader has them -/
theorem ShP.at {K : Nat → Prop} {W : World} {x : SX} {lo : Nat} (h : ShP K W x) (hk : ∀ k, K k → lo ≤ k ∧ k < W.heap.size) : FdsAt lo W x.fv (x.fs.map Prod.snd) := by
  rcases owns_at h.own fdC_len with ⟨a, cap, h1, h2⟩ | ⟨b, cap, h1, h2, h3, h4, h5, h6, hb, h7⟩
  · exact Or.inl ⟨a, cap, h1, by rw [h2]; rfl⟩
  · refine Or.inr ⟨b, 0, cap, by rw [List.length_map]; exact h1, by simpa using h2, by rw [List.length_map]; exact h3, h4, (hk b (h.blk b hb)).1, by rw [List.length_map]; exact h6, fun i hi => ?_⟩
    rw [List.length_map] at hi
    have hy := h.inn _ (List.getElem_mem hi)
    have c := h7 i hi
    rw [List.getElem_map]
    exact ⟨few_size hy.1, x.fs[i].1, ⟨c 0 (by omega), c 1 (by omega), c 2 (by omega), c 3 (by omega), c 4 (by omega), c 5 (by omega), c 6 (by omega), c 7 (by omega), c 8 (by omega), c 9 (by omega), c 10 (by omega)⟩, hy.2.in hk⟩
/-- a row of shapes, as the shapes' reader has it -/
theorem shsG_at {lo : Nat} {v : Value} {L : List SX} {W : World} (h : ShsG lo v L W) : ShsAt lo W v (L.map SX.sh) := by
  rcases owns_at h.own shC_len with ⟨a, cap, h1, h2⟩ | ⟨b, cap, h1, h2, h3, h4, h5, h6, hb, h7⟩
  · exact Or.inl ⟨a, cap, h1, by rw [h2]; rfl⟩
  · refine Or.inr ⟨b, 0, cap, by rw [List.length_map]; exact h1, by simpa using h2, by rw [List.length_map]; exact h3, h4, h5, fun i hi => ?_⟩
    rw [List.length_map] at hi
    obtain ⟨K, hP, hK⟩ := h.inn _ (List.getElem_mem hi)
    have c := h7 i hi
    rw [List.getElem_map]
    exact ⟨by have := hP.kd; show L[i].kd.size ≤ maxLen; unfold maxLen; omega, L[i].fv, c 0 (by omega), c 1 (by omega), hP.at fun k hk => ⟨(hK k hk).1, (hK k hk).2.1⟩⟩
end Go.Proofs.YtjkkbkdpoebfaaaGreat
namespace Go.Proofs.YtjkkbkdpoebfaaaGreat
open Go.RowKit Go.Deep

theorem StrsK.form {K : Nat → Prop} {W : World} {v : Value} {L : List ByteArray} (h : StrsK K W v L) : ∃ a n cap, v = .slice a n cap := by
  rcases h with ⟨a, cap, h, _⟩ | ⟨b, off, cap, h, _⟩
  · exact ⟨_, _, _, h⟩
  · exact ⟨_, _, _, h⟩
/-- a shape's fields in memory -/
def FsAt (fg : Nat) (fs : List (Value × Fd)) (W : World) : Prop := ∀ j (hj : j < fs.length), W.rangeAt fg (j * 11) (fdL (fs[j]'hj).2 (fs[j]'hj).1)
theorem fsAt_of {K : Nat → Prop} {w W : World} {ρ fg fc : Nat} {kd : ByteArray} {fs : List (Value × Fd)} (h : ShP K w ⟨.slice (some ⟨fg, 0, none⟩) fs.length fc, kd, fs⟩) (ht : Tch ρ w W) (hn : fg ≠ ρ) : FsAt fg fs W := fun j hj k u hu => by
  have hlt : fg < w.heap.size := (owns_lt h.own rfl).1
  obtain ⟨-, -, hcs⟩ := owns_cell (W' := W) h.own (ht.block fg hlt hn)
  have hk : k < 11 := by
    rcases Nat.lt_or_ge k 11 with h | h
    · exact h
    · rw [List.getElem?_eq_none (by show 11 ≤ k; exact h)] at hu; cases hu
  have hlt2 : j * 11 + k < fs.length * 11 := by omega
  rw [hcs (j * 11 + k) hlt2]
  exact (flatC_at fdC 11 fdC_len fs j k hj hk).trans hu
theorem step_append_at {P : Program} {w : World} {ops : Array Oper} {o : Oper} {a : Act} {K : Act → World → Prop} {Q : Exit → Act → World → Prop} {E : Prop} (hgd : o.guard = none) (s x : Operand) (t : TypeId)
    (ho : o.op = .call { callee := .builtin .append, args := #[s, x], argTypes := #[t, t] })
    (base : Nat) (e : TypeId) (i : TypeInfo) (z : Value) (size bytes : Nat) (ht : P.underlying t = some (.slice e)) (hi : P.info? e = some i) (hz : i.zero = some z)
    (hsize : i.size = size) (hby : i.bytes = bytes) (hzs : z.cells.size = size) (hsz : 0 < size)
    (v : Value) (n : Nat) (xs : List Value) (hs : a.eval s = v) (hown : w.ownsRow base e size v n xs)
    (ad : Addr) (m c : Nat) (news : List Value) (hx : a.eval x = .slice (some ad) m c) (hl : news.length = m * size) (hnews : ∀ j u, news[j]? = some u → w.cell? (ad.add j) = some u) (h1 : ∀ u ∈ news, u.oneCell' = true)
    (h63 : n + m ≤ maxLen) (hbytes : (n + m) * bytes ≤ 140737488355328) (hbase : base ≤ w.heap.size)
    (h : ∀ v' w', w'.ownsRow base e size v' (n + m) (xs ++ news) → w.grownBy w' v.ownBlock → (v'.ownBlock = v.ownBlock ∨ v'.ownBlock = some w.heap.size) → K (a.put o.dst v') w') :
    if Region.wanted o (yielded ops a.tmps) = true then Oper.wp P o a w K Q else E := by
  have hw : Region.wanted o (yielded ops a.tmps) = true := by simp [Region.wanted, hgd]
  rw [if_pos hw]
  obtain ⟨v', w', hr, h2, h3, _, h5⟩ := run_append_own_at (P := P) w base t o.type e i z size bytes ht hi hz hsize hby hzs hsz v n xs hown ad m c news hl hnews h1 h63 hbytes hbase
  unfold Oper.wp execOp
  simp only [ho, resolve, invoke, builtin, Sem.run_bind, Sem.run_pure, Result.andThen_ok, List.map_toArray, List.map_cons, List.map_nil, hs, hx, hr]
  exact h v' w' h2 h3 h5
theorem box_news {W : World} {ν : Nat} {cs : Array Value} {l : List Value} (h : Box W ν cs) (hl : cs = l.toArray) : ∀ j u, l[j]? = some u → W.cell? ((⟨ν, 0, none⟩ : Addr).add j) = some u := fun j u hu => by
  have hadd : (⟨ν, 0, none⟩ : Addr).add j = ⟨ν, j, none⟩ := by unfold Addr.add; split <;> simp_all
  rw [hadd, h.cell j, hl]
  simpa using hu
theorem box_others {β b : Nat} {cs : Array Value} (hn : β ≠ b) : ∀ (vs : List Value) (o : Nat) {W : World}, Box W β cs → Box (W.setCells b o vs) β cs
  | [], _, _, h => h
  | _ :: vs, o, _, h => box_others hn vs (o + 1) (box_other h (by show β ≠ b; exact hn) _)
theorem grown_below {base n sz : Nat} {e : TypeId} {W w' : World} {v : Value} {cs : List Value} {B : Nat} (_ : W.ownsRow base e sz v n cs) (hg : W.grownBy w' v.ownBlock) (hb : B ≤ W.heap.size) (hn : ∀ k, v.ownBlock = some k → B ≤ k) : Below B W w' :=
  ⟨hg.os, hg.tape, hg.output, hg.size, fun k hk => hg.block k (by omega) fun e => by have := hn k e.symm; omega⟩
theorem own_at {g n cap k : Nat} (h : (Value.slice (some ⟨g, 0, none⟩) n cap).ownBlock = some k) : g = k := by simpa [Value.ownBlock] using h
/-- a cell of a row of one's own is written -/
theorem owns_put {base n sz b cap : Nat} {e : TypeId} {W : World} {cs : List Value} (h : W.ownsRow base e sz (.slice (some ⟨b, 0, none⟩) n cap) n cs) (i : Nat) (_hi : i < n * sz) (u : Value) : (W.setCell ⟨b, i, none⟩ u).ownsRow base e sz (.slice (some ⟨b, 0, none⟩) n cap) n (cs.set i u) := by
  refine ⟨by rw [List.length_set]; exact h.1, ?_⟩
  rcases h.2 with ⟨hv, _⟩ | ⟨g, cap', cur, hv, h1, h2, h3, h4, h5, h6⟩
  · cases hv
  · cases hv
    refine Or.inr ⟨b, cap, cur.setIfInBounds i u, rfl, h1, Lib.heap_setCell_same h2 u, h3, h4, by simpa using h5, ?_⟩
    rw [← h6, Array.toList_setIfInBounds, List.take_set]
/-- cells of a row of one's own are written, one behind the other -/
theorem owns_puts {base n sz b cap : Nat} {e : TypeId} : ∀ (us : List Value) (o : Nat) {W : World} {cs : List Value}, W.ownsRow base e sz (.slice (some ⟨b, 0, none⟩) n cap) n cs → o + us.length ≤ n * sz → ∃ cs', (W.setCells b o us).ownsRow base e sz (.slice (some ⟨b, 0, none⟩) n cap) n cs' ∧ cs'.length = cs.length ∧ ∀ j, cs'[j]? = if o ≤ j ∧ j < o + us.length then us[j - o]? else cs[j]?
  | [], o, W, cs, h, _ => ⟨cs, h, rfl, fun j => by rw [if_neg (by simp)]⟩
  | u :: us, o, W, cs, h, hl => by
    have hl' : o + (us.length + 1) ≤ n * sz := hl
    obtain ⟨cs', h1, h2, h3⟩ := owns_puts us (o + 1) (owns_put h o (by omega) u) (by omega)
    refine ⟨cs', h1, by rw [h2, List.length_set], fun j => ?_⟩
    rw [h3 j]
    have hcl : cs.length = n * sz := h.1
    by_cases hj : j = o
    · subst hj
      rw [if_neg (by omega), if_pos (by simp), Nat.sub_self, List.getElem?_cons_zero, List.getElem?_set_self (by omega)]
    · by_cases hj2 : o + 1 ≤ j ∧ j < o + 1 + us.length
      · rw [if_pos hj2, if_pos (by simp; omega), show j - o = (j - (o + 1)) + 1 by omega, List.getElem?_cons_succ]
      · rw [if_neg hj2, if_neg (by simp; omega), List.getElem?_set_ne (by omega)]
end Go.Proofs.YtjkkbkdpoebfaaaGreat
namespace Go.Proofs.YtjkkbkdpoebfaaaGreat
open Go.RowKit Go.Deep

/-- a place, or nought -/
def placeZ (Fs : List Fd) (s : ByteArray) : Nat := if plOf Fs s < Fs.length then plOf Fs s else 0
theorem placeZ_yes {Fs : List Fd} {s : ByteArray} {k : Nat} (hk : k < Fs.length) (h : (Fs[k].nm.toList == s.toList) = true) (hall : ∀ i (h : i < Fs.length), i < k → (Fs[i].nm.toList == s.toList) = false) : placeZ Fs s = k := by
  unfold placeZ; rw [plOf_at hk h hall, if_pos hk]
theorem placeZ_no {Fs : List Fd} {s : ByteArray} (hall : ∀ i (h : i < Fs.length), (Fs[i].nm.toList == s.toList) = false) : placeZ Fs s = 0 := by
  unfold placeZ; rw [plOf_no hall, if_neg (Nat.lt_irrefl _)]

set_option maxHeartbeats 1000000 in
theorem wgPlace_any (lo : Nat) (v : Value) (Fs : List Fd) (s : ByteArray) (w : World) (hv : FdsAt lo w v Fs) :
    Calls Tryz.prog 28 #[v, .string s] w fun e w' => e = .returned (.int .i64 (placeZ Fs s)) ∧ w' = w := by
  by_cases hL : Fs = []
  · subst hL
    obtain ⟨a, cap, rfl⟩ := nil_form hv
    clear hv
    go_enter Tryz.func28, Tryz.ntmps28
    go_wp2
    go_loop [5] (fun i => i = .int .i64 0) (fun _ => 0)
    case atStart => rfl
    case round =>
      subst hrel
      go_wp2
      go_ret
      exact ⟨rfl, rfl⟩
  · obtain ⟨b, off, cap, rfl, hm, hbw, _, hc⟩ := hv.full hL
    clear hv
    unfold maxLen at hm
    go_enter Tryz.func28, Tryz.ntmps28
    go_wp2
    go_loop [5] (fun i => ∃ k : Nat, i = .int .i64 k ∧ k ≤ Fs.length ∧ ∀ i (h : i < Fs.length), i < k → (Fs[i].nm.toList == s.toList) = false) (fun i => Fs.length - (intOf i).toNat)
    case atStart => exact ⟨0, rfl, by omega, fun i _ h => by omega⟩
    case round =>
      obtain ⟨k, rfl, hk, hall⟩ := hrel
      have HA := hide hall
      clear hall
      by_cases hlt : k < Fs.length
      · obtain ⟨_, wv, hcell, _⟩ := hc k hlt
        have c0 := hcell.c0
        clear hcell
        by_cases he : (Fs[k].nm.toList == s.toList) = true
        · go_wp2
          go_ret
          exact ⟨by rw [placeZ_yes hlt he HA.out]; rfl, rfl⟩
        · have he' : (Fs[k].nm.toList == s.toList) = false := by simpa using he
          clear he
          go_wp2
          go_round
          case rel => exact ⟨k + 1, by go_num, by omega, fun i h h' => by
                        by_cases e : i = k
                        · subst e; exact he'
                        · exact HA.out i h (by omega)⟩
          case measure => simp [intOf]; omega
      · go_wp2
        go_ret
        exact ⟨by rw [placeZ_no fun i h => HA.out i h (by omega)]; rfl, rfl⟩

set_option maxHeartbeats 1000000 in
/-- the same texts in two lists -/
theorem wgTexts_same (v u : Value) (L : List ByteArray) (w : World) (hv : StrsAt w v L) (hu : StrsAt w u L) :
    Calls Tryz.prog 15 #[v, u] w fun e w' => e = .returned (.bool true) ∧ Below w.heap.size w w' := by
  rcases hv with ⟨a, cap, rfl, hL⟩ | ⟨b, off, cap, rfl, hL, hm, hb, hc, _⟩
  · rcases hu with ⟨a', cap', rfl, _⟩ | ⟨_, _, _, _, h, _⟩
    · clear hL
      go_enter Tryz.func15, Tryz.ntmps15
      go_wp2
      go_loop [5] (fun i => i = .int .i64 0) (fun _ => 0)
      case atStart => rfl
      case round =>
        subst hrel
        go_wp2
        go_ret
        exact ⟨rfl, Below.refl _ _⟩
    · exact absurd hL h
  · rcases hu with ⟨_, _, _, h⟩ | ⟨b', off', cap', rfl, _, _, hb', hc', _⟩
    · exact absurd h hL
    · clear hL
      unfold maxLen at hm
      go_enter Tryz.func15, Tryz.ntmps15
      go_wp2
      go_loopw [5] (fun i wr => ∃ k : Nat, i = .int .i64 k ∧ k ≤ L.length ∧ Below w.heap.size w wr) (fun i _ => L.length - (intOf i).toNat)
      case atStart => exact ⟨0, rfl, by omega, Below.refl _ _⟩
      case round =>
        obtain ⟨k, rfl, hk, hbw⟩ := hrel
        have HB := hide hbw
        by_cases hlt : k < L.length
        · have c0 : wr.cell? ⟨b, off + k, none⟩ = _ := (hbw.cell (p := ⟨b, off + k, none⟩) hb).trans (hc k hlt)
          have c1 : wr.cell? ⟨b', off' + k, none⟩ = _ := (hbw.cell (p := ⟨b', off' + k, none⟩) hb').trans (hc' k hlt)
          clear hc hc' hbw hb hb'
          go_wp2
          go_quiet (fail)
          go_wp2
          go_roundw
          case rel => exact ⟨k + 1, by go_num, by omega, below_drewN HB.out _⟩
          case measure => simp [intOf]; omega
        · clear hc hc' hbw hb hb'
          go_wp2
          go_ret
          exact ⟨rfl, HB.out⟩
end Go.Proofs.YtjkkbkdpoebfaaaGreat
namespace Go.Proofs.YtjkkbkdpoebfaaaGreat
open Go.RowKit Go.Deep

set_option maxHeartbeats 2000000 in
/-- the same object, told twice -/
theorem wgObject_same (kd nm tm : ByteArray) (va vb ha hb : Value) (V H : List ByteArray) (en : Bool) (ver : Int) (w : World) (hV : StrsAt w va V) (hV' : StrsAt w vb V) (hH : StrsAt w ha H) (hH' : StrsAt w hb H) :
    Calls Tryz.prog 6 #[.agg #[.string kd, .string nm, .string tm, va, .bool en, ha, .int .i64 ver], .agg #[.string kd, .string nm, .string tm, vb, .bool en, hb, .int .i64 ver]] w fun e w' => e = .returned (.bool true) ∧ Below w.heap.size w w' := by
  have GV := hide hV
  have GV' := hide hV'
  have GH := hide hH
  have GH' := hide hH'
  obtain ⟨a1, c1, rfl⟩ := hV.form'
  obtain ⟨a2, c2, rfl⟩ := hV'.form'
  obtain ⟨a3, c3, rfl⟩ := hH.form'
  obtain ⟨a4, c4, rfl⟩ := hH'.form'
  clear hV hV' hH hH'
  go_enter Tryz.func6, Tryz.ntmps6
  go_upto_region 1 with fail
  obtain ⟨w1, hw1⟩ : ∃ vv, vv = w.alloc (.cells #[.string kd, .string nm, .string tm, .slice a1 V.length c1, .bool en, .slice a3 H.length c3, .int .i64 ver] 27) := ⟨_, rfl⟩
  rw [← hw1]
  have B1 : Hid (Box w1 w.heap.size #[.string kd, .string nm, .string tm, .slice a1 V.length c1, .bool en, .slice a3 H.length c3, .int .i64 ver]) := by unfold Hid; rw [hw1]; exact Box.new _ _ _ _ rfl
  have L1 : Hid (Below w.heap.size w w1) := by unfold Hid; rw [hw1]; exact one_al _ _
  have HZ : w1.heap.size = w.heap.size + 1 := by rw [hw1]; simp
  clear hw1
  obtain ⟨w2, hw2⟩ : ∃ vv, vv = w1.alloc (.cells #[.string kd, .string nm, .string tm, .slice a2 V.length c2, .bool en, .slice a4 H.length c4, .int .i64 ver] 27) := ⟨_, rfl⟩
  rw [← hw2]
  have hx : Below w1.heap.size w1 w2 := by rw [hw2]; exact one_al _ _
  have B2 : Hid (Box w2 (w.heap.size + 1) #[.string kd, .string nm, .string tm, .slice a2 V.length c2, .bool en, .slice a4 H.length c4, .int .i64 ver]) := by unfold Hid; rw [hw2]; exact Box.new _ _ _ _ HZ
  replace B1 := hide (B1.out.on hx)
  have hzz := L1.out.size
  have L2 : Hid (Below w.heap.size w w2) := L1.out.trans (hx.mono hzz)
  clear hw2 hx L1 HZ hzz
  have g1 : ∀ i, w2.cell? ⟨w.heap.size, i, none⟩ = _ := B1.out.cell
  have g2 : ∀ i, w2.cell? ⟨w.heap.size + 1, i, none⟩ = _ := B2.out.cell
  have gl := B1.out.lt
  have gk := B2.out.lt
  go_wp2_with fail
  refine (wgTexts_same _ _ V _ (GV.out.below L2.out) (GV'.out.below L2.out)).mono ?_
  rintro e w3 ⟨rfl, hx⟩
  clear g1 g2 gl gk
  replace B1 := hide (B1.out.on hx)
  replace B2 := hide (B2.out.on hx)
  have L3 : Hid (Below w.heap.size w w3) := L2.out.trans (hx.mono L2.out.size)
  clear hx L2
  have g1 : ∀ i, w3.cell? ⟨w.heap.size, i, none⟩ = _ := B1.out.cell
  have g2 : ∀ i, w3.cell? ⟨w.heap.size + 1, i, none⟩ = _ := B2.out.cell
  have gl := B1.out.lt
  have gk := B2.out.lt
  go_wp2_with fail
  refine (wgTexts_same _ _ H _ (GH.out.below L3.out) (GH'.out.below L3.out)).mono ?_
  rintro e w4 ⟨rfl, hx⟩
  clear g1 g2 gl gk
  replace B1 := hide (B1.out.on hx)
  replace B2 := hide (B2.out.on hx)
  have L4 : Hid (Below w.heap.size w w4) := L3.out.trans (hx.mono L3.out.size)
  clear hx L3
  have g1 : ∀ i, w4.cell? ⟨w.heap.size, i, none⟩ = _ := B1.out.cell
  have g2 : ∀ i, w4.cell? ⟨w.heap.size + 1, i, none⟩ = _ := B2.out.cell
  have gl := B1.out.lt
  have gk := B2.out.lt
  go_wp2
  go_ret
  exact ⟨rfl, L4.out⟩
end Go.Proofs.YtjkkbkdpoebfaaaGreat
namespace Go.Proofs.YtjkkbkdpoebfaaaGreat
open Go.RowKit Go.Deep

set_option maxHeartbeats 2000000 in
/-- texts, turned round -/
theorem wgTurned_any (v : Value) (L : List ByteArray) (w : World) (hv : StrsAt w v L) (hL : L.length ≤ 1000) :
    Calls Tryz.prog 13 #[v] w fun e w' => ∃ v', e = .returned v' ∧ OwnS w.heap.size w' v' L.reverse ∧ Below w.heap.size w w' := by
  obtain ⟨i0, hi, hz0, hz1, hz2⟩ := info_parts Tryz.info9
  have HI := hide (And.intro hi (And.intro hz0 (And.intro hz1 hz2)))
  clear hi hz0 hz1 hz2
  have HV := hide hv
  obtain ⟨a, cap, rfl⟩ := hv.form'
  clear hv
  go_enter Tryz.func13, Tryz.ntmps13
  go_wp2
  go_loopw [3, 4] (fun v i wr => ∃ n : Nat, i = .int .i64 ((n : Int) - 1) ∧ n ≤ L.length ∧ OwnS w.heap.size wr v (L.drop n).reverse ∧ Below w.heap.size w wr) (fun _ i _ => (intOf i + 1).toNat)
  case atStart => exact ⟨L.length, by go_num, Nat.le_refl _, by rw [List.drop_length]; exact OwnS.made w _ rfl (Nat.le_refl _), (Below.refl _ _).alloc (Nat.le_refl _) _⟩
  case round =>
    obtain ⟨n, rfl, hn, hown, hb⟩ := hrel
    have HOW := hide hown
    have HB := hide hb
    have hz := hb.size
    have hR : (L.drop n).reverse.length = L.length - n := by simp
    obtain ⟨va, vcap, rfl⟩ := hown.form
    clear hown hb
    rcases n with _ | k
    · clear hR
      go_wp2
      refine bodyPost_ret (v := .slice va (L.drop 0).reverse.length vcap) (by simp [results, Tryz.results13, go_sem]) rfl ⟨_, rfl, ?_, HB.out⟩
      exact HOW.out
    · have e : ((k + 1 : Nat) : Int) - 1 = (k : Int) := by omega
      rw [e]
      have hk : k < L.length := by omega
      rcases HV.out with ⟨_, _, _, e⟩ | ⟨b, off, c, e, _, hm, hbw, hc, hsz⟩
      · rw [e] at hk; simp at hk
      cases e
      have c0 : wr.cell? ⟨b, off + k, none⟩ = some (.string L[k]) := (HB.out.cell (p := ⟨b, off + k, none⟩) hbw).trans (hc k hk)
      have HS : Hid (L[k].size ≤ maxLen) := hsz _ (List.getElem_mem hk)
      have HD : Hid ((L.drop k).reverse = (L.drop (k + 1)).reverse ++ [L[k]]) := by unfold Hid; rw [List.drop_eq_getElem_cons hk, List.reverse_cons]
      clear hc hsz e
      generalize L[k] = s at *
      generalize (L.drop (k + 1)).reverse = R at *
      go_wp2_with (at_builtin; refine wpList_append_lies _ rfl (.tmp 13) (.tmp 18) 25 rfl (w.heap.size) 9 i0 (.string ⟨#[]⟩) 1 16 Tryz.underlying25 HI.out.1 HI.out.2.1 HI.out.2.2.1 HI.out.2.2.2 rfl (by decide) _ _ _ rfl (HOW.out.below ((Below.refl _ _).alloc (Nat.le_refl _) _)).row ⟨wr.heap.size, 0, none⟩ 1 1 [.string s] rfl rfl (cell_new1 _ _ _ _ rfl) (one_oneCell _) (by decide) (by unfold maxLen; omega) (by omega) (by simp; omega) _ rfl ?_; intro g cap1 w3 hown3 hgrow3 hat3 hlt3)
      go_roundw
      case rel => exact ⟨k, by go_num, by omega, by rw [HD.out, ← hR]; exact HOW.out.snoc hown3 HS.out, (HB.out.alloc (by omega) _).trans ((HOW.out.below ((Below.refl _ _).alloc (Nat.le_refl _) _)).grown hgrow3 (by simp; omega))⟩
      case measure => simp [intOf]
end Go.Proofs.YtjkkbkdpoebfaaaGreat
namespace Go.Proofs.YtjkkbkdpoebfaaaGreat
open Go.RowKit Go.Deep

/-- a kind's fields among shapes -/
def fieldsOf (Ss : List Sh) (kind : ByteArray) : List Fd := ((Ss.find? fun s => s.kind.toList == kind.toList).map Sh.fields).getD []

set_option maxHeartbeats 2000000 in
theorem wgField_any (lo : Nat) (v g1 g2 : Value) (Ss : List Sh) (kind : ByteArray) (w : World) (hv : ShsAt lo w v Ss) (hL : Ss.length ≤ 1000) :
    Calls Tryz.prog 11 #[.agg #[v, g1, g2], .string kind] w fun e w' => ∃ fv, e = .returned fv ∧ FdsAt lo w' fv (fieldsOf Ss kind) ∧ Below w.heap.size w w' := by
  have HV := hide hv
  obtain ⟨a, cap, rfl⟩ := hv.form
  clear hv
  go_enter Tryz.func11, Tryz.ntmps11
  go_upto_region 1 with fail
  generalize hW : w.alloc _ = w1
  have HB : Hid (Below w.heap.size w w1) := by unfold Hid; rw [← hW]; exact one_al _ _
  have BX : Hid (Box w1 w.heap.size #[.slice a Ss.length cap, g1, g2]) := by unfold Hid; rw [← hW]; exact Box.new _ _ _ _ rfl
  clear hW
  have z0 : w1.cell? ⟨w.heap.size, 0, none⟩ = some (.slice a Ss.length cap) := BX.out.cell 0
  have zl := BX.out.lt
  replace HV := hide (HV.out.below HB.out)
  go_wp2
  go_loop [5] (fun i => ∃ k : Nat, i = .int .i64 k ∧ k ≤ Ss.length ∧ ∀ i (h : i < Ss.length), i < k → (Ss[i].kind.toList == kind.toList) = false) (fun i => Ss.length - (intOf i).toNat)
  case atStart => exact ⟨0, rfl, by omega, fun i _ h => by omega⟩
  case round =>
    obtain ⟨k, rfl, hk, hall⟩ := hrel
    have HA := hide hall
    clear hall
    by_cases hlt : k < Ss.length
    · obtain ⟨b, off, rfl, hbw, hc⟩ := HV.out.full' (by omega)
      obtain ⟨_, fv, c0, c1, hf⟩ := hc k hlt
      have HF := hide hf
      clear hc hf
      by_cases he : (Ss[k].kind.toList == kind.toList) = true
      · have HQ : Hid (fieldsOf Ss kind = Ss[k].fields) := by unfold Hid fieldsOf; rw [find_first (p := fun s : Sh => s.kind.toList == kind.toList) hlt he HA.out]; rfl
        obtain ⟨fa, fc, rfl⟩ := HF.out.form
        go_wp2
        refine bodyPost_ret (v := .slice fa Ss[k].fields.length fc) (by simp [results, Tryz.results11, go_sem]) rfl ⟨_, rfl, by rw [HQ.out]; exact HF.out, HB.out⟩
      · have he' : (Ss[k].kind.toList == kind.toList) = false := by simpa using he
        clear he
        go_wp2
        go_round
        case rel => exact ⟨k + 1, by go_num, by omega, fun i h h' => by
                      by_cases e : i = k
                      · subst e; exact he'
                      · exact HA.out i h (by omega)⟩
        case measure => simp [intOf]; omega
    · have HQ : Hid (fieldsOf Ss kind = []) := by unfold Hid fieldsOf; rw [find_none (p := fun s : Sh => s.kind.toList == kind.toList) fun i h => HA.out i h (by omega)]; rfl
      go_wp2
      refine bodyPost_ret (v := .slice (some ⟨w1.heap.size, 0, none⟩) 0 0) (by simp [results, Tryz.results11, go_sem]) rfl ⟨_, rfl, by rw [HQ.out]; exact Or.inl ⟨_, _, rfl, rfl⟩, HB.out.alloc HB.out.size _⟩
end Go.Proofs.YtjkkbkdpoebfaaaGreat
