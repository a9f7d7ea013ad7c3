import Derived.Test.YtbdhbihhgfpnnaaGreatV52
import Derived.Test.YtbdhbihhgfpnnaaGreatV53
set_option maxHeartbeats 16000000
set_option maxRecDepth 100000
open Go.Proofs.Tryz
namespace Go.Proofs.YtbdhbihhgfpnnaaGreat
open Go.ChangeShapes Go.WideShapes Go.ChangeAt Go.RowKit Go.Deep
open Go.ChangeMaps (open_string shut_string)
theorem Zl3 (os:Os) (started:os.Started) (H:Type) (enc:TypeId×Value->H) :
 ReturnsInHanded {} Tryz.checked os 3 .any (Rows.fnExactHallOkSpec.pre6 enc prog f3 Rows.fnExactHallOkRow.domain false) (Rows.fnExactHallOkSpec.post enc prog f3 false true false false):=by
 refine returnsInHanded_of_change (C:=Tryz.checked) Tryz.own started (by kernel_rfl) func3
  (ChangeSpec.witness6 (enc:=enc) (C:=Tryz.checked) false ⟨#[],#[.agg #[.slice none 0 0,.slice none 0 0],.agg #[.int .i64 0,.int .i64 0,.int .i64 0,.slice none 0 0,.slice none 0 0,.slice none 0 0,.slice none 0 0,.int .i64 0,.slice none 0 0,.slice none 0 0,.slice none 0 0]],[]⟩ 8 (by kernel_rfl) (by kernel_rfl) (by kernel_rfl) (by kernel_rfl)) ?_
 intro W base args ds gs before hval0 hW hcnd _;have hval:∀ (j:Nat) t v,f3.params[j]?=some t->args[j]?=some v->Value.okWide prog W .any base t v:=hval0
 have hW':=hW;obtain⟨p,q,hA0,hV,rfl,hfz,hnd⟩:=hW;have hA:DataW.TrodAll enc prog W 0 (fun _=>true) true f3.params.toList args.toList ds p:=hA0;rw [params3] at hA hval;obtain⟨v0,v1,d0,d1,p0,p1,rfl,rfl,rfl,h0,h1⟩:=trodAll_two hA;obtain⟨rfl,rfl⟩:=trodVars_none hV;have h0k:=h0;have h1k:=h1;clear hA0 hval0;simp only [List.append_nil] at hW';have hlt0:∀ x ∈ p0,x.block < W.heap.size:=fun x hx=>by simpa using hW'.lt x (by simp [hx])
 have hlt1:∀ x ∈ p1,x.block < W.heap.size:=fun x hx=>by simpa using hW'.lt x (by simp [hx])
 obtain⟨cs,U,rfl,hU⟩:=Zri (hval 0 25 v0 rfl rfl) h0;obtain⟨ds,B,T,rfl,hB⟩:=Zrh (hval 1 37 v1 rfl rfl) h1;obtain⟨FF,hFF⟩:=Zcr.exists [ZcB] [Za6] B.os;refine (Zmc (okB U B T FF) cs ds U B T W hU hB (fun cs ds w h1 h2 h3 h4=>ZmA cs ds U B T FF w h1 h2 h3 h4 hFF) (fun cs ds w h1 h2 h3 h4=>Zl8 cs ds U B T FF w h1 h2 h3 h4 hFF)).mono fun e W' ⟨he,hb⟩=>?_
 subst he;have hargs0:=Below.trod Tryz.laidOut (by kernel_rfl) (of_decide_eq_true (by kernel_rfl)) h0k hb hlt0;have hargs1:=Below.trod Tryz.laidOut (by kernel_rfl) (of_decide_eq_true (by kernel_rfl)) h1k hb hlt1;exact⟨_,rfl,⟨_,_,_,[],_,[],hW',trodAll_mk1 (shut_bool underlying4 true),trodAll_mk2 hargs0 hargs1,rfl,hb.frame _,fun h=>by cases h⟩⟩
theorem ZnJ:Tryz.pinned.checked.prog.funcNamed Rows.fnExactHallOkRow.func=some 3:=by kernel_rfl
theorem Zb3 {a b:Bool} (ha:a=true) (hb:b=true):(a&&b)=true:=by rw [ha,hb];rfl
theorem ZrX:(Rows.fnExactHallOkRow.wf (OpenSpec.ofChange Rows.fnExactHallOkSpec))=true:=by kernel_rfl
theorem ZrY:(laidOutB Tryz.pinned.checked.prog)=true:=by kernel_rfl
theorem ZrZ:(mapsRowed Tryz.pinned.checked.prog)=true:=by kernel_rfl
theorem Zr0:(f3.params.all (Tryz.pinned.checked.prog.readableRec ·))=true:=by kernel_rfl
theorem Zr1:(namedTie Tryz.pinned.checked.prog Rows.fnExactHallOkRow.named Rows.fnExactHallOkSpec.vars)=true:=by kernel_rfl
theorem Zr2:((Rows.fnExactHallOkRow.stops == []))=true:=by kernel_rfl
theorem Zr3:((Tryz.pinned.checked.prog.stops == []))=true:=by kernel_rfl
theorem Zr4:((Rows.fnExactHallOkRow.knobs == []))=true:=by kernel_rfl
theorem Zr5:((Tryz.pinned.checked.prog.stopKnobs == []))=true:=by kernel_rfl
theorem Zr6:((Rows.fnExactHallOkRow.inPlace == Tryz.pinned.checked.prog.inPlace 3))=true:=by kernel_rfl
theorem ZqE:((Rows.fnExactHallOkRow.unfollowed == Tryz.pinned.checked.prog.unfollowed 3))=true:=by kernel_rfl
theorem ZqF:((Rows.fnExactHallOkRow.recurses == Tryz.pinned.checked.prog.recurses 3))=true:=by kernel_rfl
theorem ZqG:((Rows.fnExactHallOkRow.named == Tryz.pinned.checked.prog.varsNamed 3))=true:=by kernel_rfl
theorem ZqH:((Rows.fnExactHallOkRow.maps == (f3.params.toList ++ Rows.fnExactHallOkSpec.plain.varTypes Tryz.pinned.checked.prog).any (Tryz.pinned.checked.prog.mapsRec ·)))=true:=by kernel_rfl
theorem ZqI:((Rows.fnExactHallOkRow.ifaces == (f3.params.toList ++ Rows.fnExactHallOkSpec.plain.varTypes Tryz.pinned.checked.prog).any (Tryz.pinned.checked.prog.ifacesRec ·)))=true:=by kernel_rfl
theorem ZqJ:((Rows.fnExactHallOkRow.mapsOut == Tryz.pinned.checked.prog.mapsAmong f3.resultTypes.toList))=true:=by kernel_rfl
theorem ZqK:((Rows.fnExactHallOkRow.loops == (f3.params.toList ++ Rows.fnExactHallOkSpec.plain.varTypes Tryz.pinned.checked.prog).any (Tryz.pinned.checked.prog.loopsFrom ·)))=true:=by kernel_rfl
theorem ZqL:((Rows.fnExactHallOkRow.wideKeys == (f3.params.toList ++ Rows.fnExactHallOkSpec.plain.varTypes Tryz.pinned.checked.prog ++ f3.resultTypes.toList).any (Tryz.pinned.checked.prog.wideKeysFrom ·)))=true:=by kernel_rfl
theorem ZqM:(Rows.fnExactHallOkSpec.vars.all (Tryz.pinned.checked.prog.varReadable ·))=true:=by kernel_rfl
theorem ZqN:(f3.resultTypes.all (fun t=>Tryz.pinned.checked.prog.readableRec t&&decide (t < Tryz.pinned.checked.prog.types.size)))=true:=by kernel_rfl
theorem ZqO:((Rows.fnExactHallOkRow.ifacesOut == f3.resultTypes.toList.any (Tryz.pinned.checked.prog.ifacesRec ·)))=true:=by kernel_rfl
theorem ZqP:((Rows.fnExactHallOkRow.loopsOut == f3.resultTypes.toList.any (Tryz.pinned.checked.prog.loopsFrom ·)))=true:=by kernel_rfl
theorem ZqQ:((Rows.fnExactHallOkRow.plainKeys == Tryz.pinned.checked.prog.plainKeys))=true:=by kernel_rfl
theorem ZqR:(Rows.fnExactHallOkRow.shortTexts.isNone)=true:=by kernel_rfl
theorem ZqS:(Tryz.pinned.checked.prog.stopsHeard)=true:=by kernel_rfl
theorem ZqT:(Tryz.pinned.checked.prog.mayEnter)=true:=by kernel_rfl
theorem ZqU:((Rows.fnExactHallOkRow.lifted == Tryz.pinned.checked.prog.liftsFinal))=true:=by kernel_rfl
theorem ZqV:((Tryz.pinned.checked.prog.make == some Rows.fnExactHallOkRow.make))=true:=by kernel_rfl
theorem ZqW:((Rows.fnExactHallOkRow.kinds == (if Rows.fnExactHallOkRow.domain.isEmpty then [] else f3.params.toList.map fun t=>match Tryz.pinned.checked.prog.underlying t with | some (.int k)=>some k | _=>none)))=true:=by kernel_rfl
theorem ZqX:((Rows.fnExactHallOkRow.pinned == Rows.fnExactHallOkRow.pinnedBy))=true:=by kernel_rfl
theorem ZqY:((Rows.fnExactHallOkRow.veiled == (f3.params.toList ++ Rows.fnExactHallOkSpec.plain.varTypes Tryz.pinned.checked.prog ++ f3.resultTypes.toList).any (Tryz.pinned.checked.prog.veiledRec ·)))=true:=by kernel_rfl
theorem ZqZ:(Rows.fnExactHallOkRow.veiledFits Tryz.pinned.checked.prog f3.params.toList (f3.params.toList ++ Rows.fnExactHallOkSpec.plain.varTypes Tryz.pinned.checked.prog ++ f3.resultTypes.toList))=true:=by kernel_rfl
theorem Zl2:joinedFacts Tryz.pinned.checked.prog 3 f3 Rows.fnExactHallOkSpec Rows.fnExactHallOkRow=true:=Zb3 (Zb3 (Zb3 (Zb3 (Zb3 (Zb3 (Zb3 (Zb3 (Zb3 (Zb3 (Zb3 (Zb3 (Zb3 (Zb3 (Zb3 (Zb3 (Zb3 (Zb3 (Zb3 (Zb3 (Zb3 (Zb3 (Zb3 (Zb3 (Zb3 (Zb3 (Zb3 (Zb3 (Zb3 (Zb3 (Zb3 ZrX ZrY) ZrZ) Zr0) Zr1) Zr2) Zr3) Zr4) Zr5) Zr6) ZqE) ZqF) ZqG) ZqH) ZqI) ZqJ) ZqK) ZqL) ZqM) ZqN) ZqO) ZqP) ZqQ) ZqR) ZqS) ZqT) ZqU) ZqV) ZqW) ZqX) ZqY) ZqZ
theorem Zo1:f3.isInstance Tryz.pinned.checked.prog Rows.fnExactHallOkRow.origin Rows.fnExactHallOkRow.targs:=of_decide_eq_true (by kernel_rfl)
theorem Zo2:f3.isWrapper Tryz.pinned.checked.prog Rows.fnExactHallOkRow.wrapper Rows.fnExactHallOkRow.mainSum:=by unfold Func.isWrapper;first|(rw [if_pos (by decide +kernel)];kernel_rfl)|(rw [if_neg (by decide +kernel)];exact⟨rfl,rfl⟩)
theorem hok_holds:Rows.FnExactHallOkSaid:=
 OpenClaim.holds_of_wide 3 f3 rfl rfl rfl rfl rfl rfl rfl ⟨rfl,rfl,rfl,rfl,rfl⟩ rfl rfl rfl rfl rfl ZnJ func3 Zl2 Zo1 Zo2
  (fun os started H enc _=>Zl3 os started H enc)
end Go.Proofs.YtbdhbihhgfpnnaaGreat
