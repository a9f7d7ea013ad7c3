import Derived.Test.YtdeammfdkaomlaaGreatM37
import Derived.Test.YtdeammfdkaomlaaGreatM38
import Derived.Test.YtdeammfdkaomlaaGreatM43
open Go.Proofs.Tryz
namespace Go.Proofs.YtdeammfdkaomlaaGreat
open Go.RowKit Go.Deep
variable {L:List Ra} {ix:Int}
theorem ZgK (h:atA L ix=true):Zcg L ix=L:=by unfold atA at h;unfold Zcg;rw [if_pos (of_decide_eq_true h)]
theorem Zh5 (h:atA L ix=false):Zcg L ix=L.take (Zch L ix) ++ [⟨ix,[]⟩] ++ L.drop (Zch L ix):=by unfold atA at h;unfold Zcg;rw [if_neg (of_decide_eq_false h)]
theorem Zga (L:List Ra) (ix:Int):Zch L ix<=L.length:=by
 unfold Zch;exact (List.takeWhile_sublist _).length_le
theorem Zke (L:List Ra) (ix:Int):∃ h:Zch L ix < (Zcg L ix).length,(Zcg L ix)[Zch L ix].ix=ix/\((Zcg L ix)[Zch L ix].fr=[]\/∃ a ∈ L,(Zcg L ix)[Zch L ix].fr=a.fr):=by
 have hp:=Zga L ix
 cases hq:atA L ix with
 | true=>
  have he:=ZgK hq;have hm:=of_decide_eq_true (show decide ((L[Zch L ix]?).map (·.ix)=some ix)=true from hq)
  have hlt:Zch L ix < L.length:=by
   rcases Nat.lt_or_ge (Zch L ix) L.length with h | h
   . exact h
   . rw [List.getElem?_eq_none h] at hm;cases hm
  rw [List.getElem?_eq_getElem hlt] at hm;simp only [Option.map_some,Option.some.injEq] at hm;simp only [he];exact⟨hlt,hm,Or.inr ⟨_,List.getElem_mem hlt,rfl⟩⟩
 | false=>
  have he:=Zh5 hq;simp only [he];have hl:(L.take (Zch L ix)).length=Zch L ix:=by rw [List.length_take];omega
  have hlt:Zch L ix < (L.take (Zch L ix) ++ [(⟨ix,[]⟩:Ra)] ++ L.drop (Zch L ix)).length:=by simp;omega
  have hx:(L.take (Zch L ix) ++ [(⟨ix,[]⟩:Ra)] ++ L.drop (Zch L ix))[Zch L ix]=⟨ix,[]⟩:=by
   rw [List.getElem_append_left (by simp;omega),List.getElem_append_right (by omega)];simp [hl]
  exact⟨hlt,by rw [hx],Or.inl (by rw [hx])⟩
theorem ZgI (L:List Ra) (ix:Int):(Zcg L ix).length<=L.length+1:=by
 unfold Zcg
 split
 . omega
 . simp;have:=Zga L ix;omega
theorem Zj8 (U:Rr) (a:Ra) (h1:1<=a.ix):Zj7 U a=((a.ix == U.dk.kn+1)&&(decide (U.of < 2*(a.fr.length:Int))&&Zj1 U.dk.sl a.ix U.ba)):=by
 unfold Zj7 Zj1
 by_cases h:a.ix<=(U.dk.sl.length:Int)
 . rw [decide_eq_true h];rfl
 . rw [decide_eq_false h,List.getElem?_eq_none (by omega)];rfl
theorem ZgG {P:Ra->Prop} (h:∀ a ∈ L,P a) (hn:P ⟨ix,[]⟩):∀ a ∈ Zcg L ix,P a:=by
 unfold Zcg
 split
 . exact h
 . intro a ha
   rcases List.mem_append.1 ha with ha | ha
   . rcases List.mem_append.1 ha with ha | ha
     . exact h a (List.mem_of_mem_take ha)
     . rw [List.mem_singleton.1 ha];exact hn
   . exact h a (List.mem_of_mem_drop ha)
end Go.Proofs.YtdeammfdkaomlaaGreat
