
import Derived.Test.YtdcomaelhpjejaaRR
namespace Go.Proofs.Ytdcomaelhpjejaa
open Go.RowKit Go.Deep

theorem sizeRr : (Try.prog.info? 37).map (·.size) = some 18 := by kernel_rfl
theorem res_rr {P : Program} {fn : Func} {p : Tmp} {ty : TypeId} (h : fn.results = #[.cell p ty]) (tmps : Array Value) (w : World) (b o : Nat) (cs : List Value) (d : TypeDesc)
    (hp : tmps.getD p undef = .pointer (some ⟨b, o, none⟩)) (hc : w.rangeAt b o cs) (hu : P.underlying ty = some d) (hd : d.isRow = true) (hi : (P.info? ty).map (·.size) = some cs.length) :
    (results fn tmps).run P w = .ok (.agg cs.toArray) w := by
  have hp' : tmps[p]?.getD undef = .pointer (some ⟨b, o, none⟩) := by simpa using hp
  simp [results, h, hp', asAddr, run_loadVar_mid w b o ty cs d hc hu hd hi]
theorem sets_of {P : World → Prop} {lo b : Nat} (h : ∀ (w : World) (p : Addr) (u : Value), p.block < lo → P w → P (w.setCell p u)) (hb : b < lo) : ∀ (vs : List Value) (o : Nat) (w : World), P w → P (w.setCells b o vs)
  | [], _, _, hP => hP
  | v :: vs, o, w, hP => sets_of h hb vs (o + 1) _ (h w ⟨b, o, none⟩ v hb hP)

end Go.Proofs.Ytdcomaelhpjejaa
