import Derived.Test.YtdeammfdkaomlaaGreatV01
import Derived.Test.YtdeammfdkaomlaaGreatV03
import Derived.Test.YtdeammfdkaomlaaGreatV04
namespace Go.Proofs.YtdeammfdkaomlaaGreat
open Go.RowKit Go.Deep

def emptyOrName (s : ByteArray) : Bool := s.toList.isEmpty || nameB s

set_option maxHeartbeats 400000 in
theorem emptyOrName_any (s : ByteArray) (w : World) (hs : s.size ≤ maxLen) :
    Calls Tryz.prog 165 #[.string s] w fun e w' => e = .returned (.bool (emptyOrName s)) ∧ w' = w := by
  have hk := isName_any s w hs
  cases he : s.toList.isEmpty with
  | true =>
    go_enter Tryz.func165, Tryz.ntmps165
    go_wp2
    go_ret
    exact ⟨ret_bool (by simp [emptyOrName, he]), rfl⟩
  | false =>
    go_enter Tryz.func165, Tryz.ntmps165
    go_wp2_with fail
    refine hk.mono ?_
    rintro e w1 ⟨rfl, rfl⟩
    go_wp2
    go_ret
    exact ⟨ret_bool (by simp [emptyOrName, he]), rfl⟩

section
variable (nm to df we : ByteArray) (le mo ro : Int) (mu fx : Bool) (a : Option Addr) (n cap : Nat) (w : World)

/-- what a kind does not use is nothing -/
def bare1 (n : Nat) (to : ByteArray) (ro : Int) : Bool := ((n : Int) == 0) && to.toList.isEmpty && (ro == 0)
def bare2 (le mo : Int) (to : ByteArray) (ro : Int) (we : ByteArray) : Bool := (le == 0) && (mo == 0) && we.toList.isEmpty && to.toList.isEmpty && (ro == 0)
def bare3 (n : Nat) (to : ByteArray) (ro : Int) (we : ByteArray) : Bool := we.toList.isEmpty && ((n : Int) == 0) && to.toList.isEmpty && (ro == 0)
def bare4 (le mo : Int) (n : Nat) (we : ByteArray) : Bool := (le == 0) && (mo == 0) && we.toList.isEmpty && ((n : Int) == 0)

end
end Go.Proofs.YtdeammfdkaomlaaGreat
namespace Go.Proofs.YtdeammfdkaomlaaGreat
open Go.RowKit Go.Deep

def sound1 (le mo : Int) (we : ByteArray) : Bool := decide (0 ≤ le) && decide (le ≤ mo) && decide (mo ≤ 1000000) && emptyOrName we
def sound2 (n : Nat) (L : List ByteArray) : Bool := decide (1 ≤ (n : Int)) && decide ((n : Int) ≤ 6) && ascB L
def sound3 (le mo : Int) : Bool := decide (1 ≤ le) && decide (le ≤ mo) && decide (mo ≤ 40)
def role4 (ro : Int) (mu : Bool) : Bool := ro == 1 || ro == 3 || ro == 2 && !mu
def sound4 (Ss : List Sh) (to : ByteArray) (ro : Int) (mu : Bool) (df : ByteArray) : Bool := hasK Ss to && df.toList.isEmpty && role4 ro mu

end Go.Proofs.YtdeammfdkaomlaaGreat
namespace Go.Proofs.YtdeammfdkaomlaaGreat
open Go.RowKit Go.Deep


/-- what is asked of a field by its kind -/
def restB (Ss : List Sh) (f : Fd) : Bool :=
  if f.kd = 1 then bare1 f.words.length f.to f.ro && sound1 f.le f.mo f.we && (f.df.toList.isEmpty || fitsB 1 f.le f.mo f.words f.df)
  else if f.kd = 2 then bare2 f.le f.mo f.to f.ro f.we && sound2 f.words.length f.words && (f.df.toList.isEmpty || fitsB 2 f.le f.mo f.words f.df)
  else if f.kd = 3 then bare3 f.words.length f.to f.ro f.we && sound3 f.le f.mo && (f.df.toList.isEmpty || fitsB 3 f.le f.mo f.words f.df)
  else if f.kd = 4 then bare4 f.le f.mo f.words.length f.we && sound4 Ss f.to f.ro f.mu f.df && (f.df.toList.isEmpty || fitsB 4 f.le f.mo f.words f.df)
  else false

/-- a name that a field ahead has -/
def dupB (Fs : List Fd) (s : ByteArray) : Bool := Fs.any fun x => x.nm.toList == s.toList
/-- place k of fields -/
def fieldAt (Ss : List Sh) (Fs : List Fd) (k : Nat) : Bool :=
  match Fs[k]? with
  | some f => nameB f.nm && restB Ss f && !dupB (Fs.take k) f.nm
  | none => true
def fieldsB (Ss : List Sh) (Fs : List Fd) : Bool := decide (Fs.length ≤ 6) && (List.range Fs.length).all (fieldAt Ss Fs)
/-- place i of shapes -/
def shapeAt (Ss : List Sh) (i : Nat) : Bool :=
  match Ss[i]? with
  | some x => nameB x.kind && (match Ss[i - 1]? with | some y => i == 0 || Op.bytesLess y.kind.toList x.kind.toList | none => true) && fieldsB Ss x.fields
  | none => true
def shapesB (Ss : List Sh) : Bool := decide (Ss.length ≤ 6) && (List.range Ss.length).all (shapeAt Ss)
end Go.Proofs.YtdeammfdkaomlaaGreat
namespace Go.Proofs.YtdeammfdkaomlaaGreat
open Go.RowKit Go.Deep

/-- a stewards' book -/
structure Sb where
  now : Int
  ss : List Sv
  cs : List Cp
  bs : List Be
/-- a book in memory, all of it above lo -/
structure SbAt (lo : Nat) (w : World) (sv cv bv : Value) (B : Sb) : Prop where
  svs : SvsAt lo w sv B.ss
  cps : CpsAt lo w cv B.cs
  bes : BesAt lo w bv B.bs
theorem SbAt.below {lo : Nat} {w w' : World} {sv cv bv : Value} {B : Sb} (h : SbAt lo w sv cv bv B) (hb : Below w.heap.size w w') : SbAt lo w' sv cv bv B :=
  ⟨h.svs.below hb, h.cps.below hb, h.bes.below hb⟩
theorem SbAt.mono {lo lo' : Nat} {w : World} {sv cv bv : Value} {B : Sb} (h : SbAt lo w sv cv bv B) (hl : lo' ≤ lo) : SbAt lo' w sv cv bv B :=
  ⟨h.svs.mono hl, h.cps.mono hl, h.bes.mono hl⟩
theorem SbAt.set {lo : Nat} {w : World} {sv cv bv : Value} {B : Sb} (h : SbAt lo w sv cv bv B) {p : Addr} (hp : p.block < lo) (u : Value) : SbAt lo (w.setCell p u) sv cv bv B :=
  ⟨h.svs.set hp u, h.cps.set hp u, h.bes.set hp u⟩
end Go.Proofs.YtdeammfdkaomlaaGreat
