import Derived.Test.YtpdlcccnlciecaaGreatV14
import Derived.Test.YtpdlcccnlciecaaGreatV15
namespace Go.Proofs.YtpdlcccnlciecaaGreat
open Go.RowKit Go.Deep

/-! what a steward asks for: mathematics -/
def liveL (B : Sb) (s : ByteArray) : List Cp := B.cs.filter (liveB s)
/-- is a copy on a berth that is to be drained? -/
def drB (B : Sb) (c : Cp) : Bool := match B.bs.find? fun x => x.nm.toList == c.be.toList with
  | some x => x.dr
  | none => false
/-- is x to end sooner than y? -/
def sooB (B : Sb) (im : Int) (x y : Cp) : Bool :=
  if (x.st != 3) != (y.st != 3) then x.st != 3
  else if (x.im != im) != (y.im != im) then x.im != im
  else if drB B x != drB B y then drB B x
  else decide (y.nu < x.nu)
def pickC (B : Sb) (im : Int) (best d : Cp) : Cp := if sooB B im d best then d else best
/-- the first to end -/
def fstC (B : Sb) (im : Int) : List Cp → Option Cp
  | [] => none
  | c :: r => some (r.foldl (pickC B im) c)
def enOf (c : Cp) : En := ⟨c.nu, c.ve⟩
def mayL (B : Sb) (L : List Cp) : List Cp := L.filter fun c => mayT B c.se c.nu
def oldL (B : Sb) (x : Sv) : List Cp := (liveL B x.nm).filter fun c => c.im != x.im
def drL (B : Sb) (x : Sv) : List Cp := (liveL B x.nm).filter (drB B)
def failL (B : Sb) (x : Sv) : List Cp := (liveL B x.nm).filter fun c => c.st == 4
def ac0 (x : Sv) : Ac := ⟨x.nm, x.ve, 0, 0, 0, false, [], false⟩
def desF (x : Sv) : Int :=
  let d := (x.ld + x.pr - 1) / x.pr
  let d1 := if d < x.ls then x.ls else d
  if x.ms < d1 then x.ms else d1
def fstE (B : Sb) (im : Int) (L : List Cp) : List En := (fstC B im L).toList.map enOf
/-- the counter -/
def cntF (B : Sb) (x : Sv) : Ac :=
  let n : Int := ((liveL B x.nm).length : Nat)
  if n < x.wa then { ac0 x with cr := x.wa - n }
  else if x.wa < n ∧ (((oldL B x).length = 0 ∧ (drL B x).length = 0) ∨ x.wa + x.ov < n) then
    match fstC B x.im (liveL B x.nm) with
    | some c => if mayT B x.nm c.nu then { ac0 x with es := [enOf c] } else ac0 x
    | none => ac0 x
  else ac0 x
/-- copies are replaced, one at a time -/
def repF (B : Sb) (x : Sv) (L : List Cp) : Ac :=
  let n : Int := ((liveL B x.nm).length : Nat)
  if L.length = 0 ∨ n < x.wa then ac0 x
  else if n < x.wa + x.ov then { ac0 x with cr := 1 }
  else { ac0 x with es := fstE B x.im (mayL B L) }
/-- the scaler -/
def sclF (x : Sv) : Ac :=
  if x.wa < x.ls then { ac0 x with sc := true, wa := x.ls }
  else if x.ms < x.wa then { ac0 x with sc := true, wa := x.ms }
  else if x.wa < desF x then { ac0 x with sc := true, wa := desF x }
  else if desF x < x.wa ∧ 3 ≤ x.cl then { ac0 x with sc := true, wa := x.wa - 1 }
  else if desF x < x.wa then { ac0 x with sc := true, wa := x.wa, cl := x.cl + 1 }
  else if x.cl = 0 then ac0 x
  else { ac0 x with sc := true, wa := x.wa }
/-- what a steward asks for a service -/
def askS (kind : Int) (B : Sb) (x : Sv) : Ac :=
  if kind = 3 then { ac0 x with es := (failL B x).map enOf }
  else if x.gn then
    if kind = 5 then { ac0 x with es := (liveL B x.nm).map enOf, dp := decide ((ctL B.cs x.nm x.im).li + (ctL B.cs x.nm x.im).en = 0) }
    else ac0 x
  else if kind = 1 then cntF B x
  else if kind = 2 then repF B x (oldL B x)
  else if kind = 6 then (if (oldL B x).length = 0 then repF B x (drL B x) else ac0 x)
  else if kind = 4 then (if 0 < x.pr then sclF x else ac0 x)
  else ac0 x
/-- does an act ask for anything? -/
def asksB (A : Ac) : Bool := decide (0 < A.cr) || (A.sc || (!A.es.isEmpty || A.dp))
/-- what a steward asks for -/
def askF (kind : Int) (B : Sb) : List Ac := if validB B then (B.ss.map (askS kind B)).filter asksB else []
theorem live_len (B : Sb) (s : ByteArray) (im : Int) : (((liveL B s).length : Nat) : Int) = (ctL B.cs s im).li := by
  show _ = ct (liveB s) B.cs
  unfold liveL ct
  rw [List.countP_eq_length_filter]
theorem old_len (B : Sb) (x : Sv) : (((oldL B x).length : Nat) : Int) = (ctL B.cs x.nm x.im).ol := by
  show _ = ct (oldB x.nm x.im) B.cs
  unfold oldL liveL ct
  rw [List.filter_filter, List.countP_eq_length_filter]
  congr 2
  exact List.filter_congr fun c _ => by unfold oldB; rw [Bool.and_comm]
/-- sooner, by the order of keys -/
def yesI (a b : Bool) : Int := if a == b then 0 else if a then -1 else 1
theorem yesI_neg (a b : Bool) : yesI a b < 0 ↔ (a = true ∧ b = false) := by cases a <;> cases b <;> decide
theorem yesI_zero (a b : Bool) : yesI a b = 0 ↔ a = b := by cases a <;> cases b <;> decide
def soonI (B : Sb) (im : Int) (x y : Cp) : Int := orI (yesI (x.st != 3) (y.st != 3)) (orI (yesI (x.im != im) (y.im != im)) (orI (yesI (drB B x) (drB B y)) (cmpI y.nu x.nu)))
theorem soonI_neg (B : Sb) (im : Int) (x y : Cp) : decide (soonI B im x y < 0) = sooB B im x y := by
  unfold soonI sooB
  generalize (x.st != 3) = a1
  generalize (y.st != 3) = a2
  generalize (x.im != im) = b1
  generalize (y.im != im) = b2
  generalize drB B x = c1
  generalize drB B y = c2
  have h : decide (cmpI y.nu x.nu < 0) = decide (y.nu < x.nu) := by rw [decide_eq_decide, cmpI_neg]
  rw [← h]
  generalize cmpI y.nu x.nu = z
  cases a1 <;> cases a2 <;> cases b1 <;> cases b2 <;> cases c1 <;> cases c2 <;> rfl
end Go.Proofs.YtpdlcccnlciecaaGreat
