import Derived.Test.YtmaagbnjpdijnaaYB2
import Derived.Test.YtmaagbnjpdijnaaYB1
import Derived.Test.YtmaagbnjpdijnaaYA2
import Derived.Test.YtmaagbnjpdijnaaYA1
namespace Go.Proofs.Ytmaagbnjpdijnaa
open Go.RowKit Go.Deep

section
variable (nm to df we : ByteArray) (le mo ro : Int) (mu fx : Bool) (a : Option Addr) (L : List ByteArray) (cap : Nat) (w : World)

end

/-- what is asked of a field by its kind -/
def restB (Ss : List Sh) (f : Fd) : Bool :=
  if f.kd = 1 then bare1 f.words.length f.to f.ro && sound1 f.le f.mo f.we && (f.df.toList.isEmpty || fitsB 1 f.le f.mo f.words f.df)
  else if f.kd = 2 then bare2 f.le f.mo f.to f.ro f.we && sound2 f.words.length f.words && (f.df.toList.isEmpty || fitsB 2 f.le f.mo f.words f.df)
  else if f.kd = 3 then bare3 f.words.length f.to f.ro f.we && sound3 f.le f.mo && (f.df.toList.isEmpty || fitsB 3 f.le f.mo f.words f.df)
  else if f.kd = 4 then bare4 f.le f.mo f.words.length f.we && sound4 Ss f.to f.ro f.mu f.df && (f.df.toList.isEmpty || fitsB 4 f.le f.mo f.words f.df)
  else false

/-- a name that a field ahead has -/
def dupB (Fs : List Fd) (s : ByteArray) : Bool := Fs.any fun x => x.nm.toList == s.toList
/-- place k of fields -/
def fieldAt (Ss : List Sh) (Fs : List Fd) (k : Nat) : Bool :=
  match Fs[k]? with
  | some f => nameB f.nm && restB Ss f && !dupB (Fs.take k) f.nm
  | none => true
def fieldsB (Ss : List Sh) (Fs : List Fd) : Bool := decide (Fs.length ≤ 6) && (List.range Fs.length).all (fieldAt Ss Fs)
/-- place i of shapes -/
def shapeAt (Ss : List Sh) (i : Nat) : Bool :=
  match Ss[i]? with
  | some x => nameB x.kind && (match Ss[i - 1]? with | some y => i == 0 || Op.bytesLess y.kind.toList x.kind.toList | none => true) && fieldsB Ss x.fields
  | none => true
def shapesB (Ss : List Sh) : Bool := decide (Ss.length ≤ 6) && (List.range Ss.length).all (shapeAt Ss)
end Go.Proofs.Ytmaagbnjpdijnaa

