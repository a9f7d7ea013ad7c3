import Derived.Test.YtmappejlmapboaaGreatD53
set_option maxHeartbeats 16000000
set_option maxRecDepth 100000
open Go.Proofs.Tryz
namespace Go.Proofs.YtmappejlmapboaaGreat
open Go.ChangeShapes Go.WideShapes Go.ChangeAt Go.RowKit Go.Deep
open Go.ChangeMaps (open_string shut_string)
theorem Tryz.laidOut:laidOutB prog=true:=by kernel_rfl
theorem ZjJ (os:Os) (started:os.Started) (H:Type) (enc:TypeId×Value->H) :
 ReturnsInHanded {} Tryz.checked os 6 .any (Rows.fnExactGateDoomedSpec.pre6 enc prog f6 Rows.fnExactGateDoomedRow.domain false) (Rows.fnExactGateDoomedSpec.post enc prog f6 false true false false):=by
 refine returnsInHanded_of_change (C:=Tryz.checked) Tryz.own started (by kernel_rfl) func6
  (ChangeSpec.witness6 (enc:=enc) (C:=Tryz.checked) false ⟨#[],#[.agg #[.slice none 0 0,.slice none 0 0,.slice none 0 0],.agg #[.int .i64 0,.int .i64 0,.int .i64 0,.slice none 0 0,.slice none 0 0,.slice none 0 0,.slice none 0 0]],[]⟩ 8 (by kernel_rfl) (by kernel_rfl) (by kernel_rfl) (by kernel_rfl)) ?_
 intro W base args ds gs before hval0 hW hcnd _;have hval:∀ (j:Nat) t v,f6.params[j]?=some t->args[j]?=some v->Value.okWide prog W .any base t v:=hval0
 have hW':=hW;obtain⟨p,q,hA0,hV,rfl,hfz,hnd⟩:=hW;have hA:DataW.TrodAll enc prog W 0 (fun _=>true) true f6.params.toList args.toList ds p:=hA0;rw [params6] at hA hval;obtain⟨v0,v1,d0,d1,p0,p1,rfl,rfl,rfl,h0,h1⟩:=trodAll_two hA;obtain⟨rfl,rfl⟩:=trodVars_none hV;have h0k:=h0;have h1k:=h1;clear hA0 hval0;simp only [List.append_nil] at hW';have hlt0:∀ x ∈ p0,x.block < W.heap.size:=fun x hx=>by simpa using hW'.lt x (by simp [hx])
 have hlt1:∀ x ∈ p1,x.block < W.heap.size:=fun x hx=>by simpa using hW'.lt x (by simp [hx])
 obtain⟨sv,mv,tv,Ss,Ms,Ts,rfl,hL⟩:=Zr3 (hval 0 26 v0 rfl rfl) h0;obtain⟨ov,gv,lv,pv,B,rfl,hB⟩:=ZqH (hval 1 32 v1 rfl rfl) h1;refine (Zou _ _ _ _ _ _ _ Ss Ms Ts B W hL hB).mono fun e W' ⟨he,hb⟩=>?_
 subst he;have hargs0:=Below.trod Tryz.laidOut (by kernel_rfl) (of_decide_eq_true (by kernel_rfl)) h0k hb hlt0;have hargs1:=Below.trod Tryz.laidOut (by kernel_rfl) (of_decide_eq_true (by kernel_rfl)) h1k hb hlt1;exact⟨_,rfl,⟨_,_,_,[],_,[],hW',trodAll_mk1 (shut_bool underlying4 true),trodAll_mk2 hargs0 hargs1,rfl,hb.frame _,fun h=>by cases h⟩⟩
theorem Zkz:Tryz.pinned.checked.prog.funcNamed Rows.fnExactGateDoomedRow.func=some 6:=by kernel_rfl
theorem Zcj {a b:Bool} (ha:a=true) (hb:b=true):(a&&b)=true:=by rw [ha,hb];rfl
theorem ZpU:(Rows.fnExactGateDoomedRow.wf (OpenSpec.ofChange Rows.fnExactGateDoomedSpec))=true:=by kernel_rfl
theorem ZpV:(laidOutB Tryz.pinned.checked.prog)=true:=by kernel_rfl
theorem ZpW:(mapsRowed Tryz.pinned.checked.prog)=true:=by kernel_rfl
theorem ZpX:(f6.params.all (Tryz.pinned.checked.prog.readableRec ·))=true:=by kernel_rfl
theorem ZpY:(namedTie Tryz.pinned.checked.prog Rows.fnExactGateDoomedRow.named Rows.fnExactGateDoomedSpec.vars)=true:=by kernel_rfl
theorem ZpZ:((Rows.fnExactGateDoomedRow.stops == []))=true:=by kernel_rfl
theorem Zp0:((Tryz.pinned.checked.prog.stops == []))=true:=by kernel_rfl
theorem Zp1:((Rows.fnExactGateDoomedRow.knobs == []))=true:=by kernel_rfl
theorem Zp2:((Tryz.pinned.checked.prog.stopKnobs == []))=true:=by kernel_rfl
theorem Zp3:((Rows.fnExactGateDoomedRow.inPlace == Tryz.pinned.checked.prog.inPlace 6))=true:=by kernel_rfl
theorem ZnD:((Rows.fnExactGateDoomedRow.unfollowed == Tryz.pinned.checked.prog.unfollowed 6))=true:=by kernel_rfl
theorem ZnE:((Rows.fnExactGateDoomedRow.recurses == Tryz.pinned.checked.prog.recurses 6))=true:=by kernel_rfl
theorem ZnF:((Rows.fnExactGateDoomedRow.named == Tryz.pinned.checked.prog.varsNamed 6))=true:=by kernel_rfl
theorem ZnG:((Rows.fnExactGateDoomedRow.maps == (f6.params.toList ++ Rows.fnExactGateDoomedSpec.plain.varTypes Tryz.pinned.checked.prog).any (Tryz.pinned.checked.prog.mapsRec ·)))=true:=by kernel_rfl
theorem ZnH:((Rows.fnExactGateDoomedRow.ifaces == (f6.params.toList ++ Rows.fnExactGateDoomedSpec.plain.varTypes Tryz.pinned.checked.prog).any (Tryz.pinned.checked.prog.ifacesRec ·)))=true:=by kernel_rfl
theorem ZnI:((Rows.fnExactGateDoomedRow.mapsOut == Tryz.pinned.checked.prog.mapsAmong f6.resultTypes.toList))=true:=by kernel_rfl
theorem ZnJ:((Rows.fnExactGateDoomedRow.loops == (f6.params.toList ++ Rows.fnExactGateDoomedSpec.plain.varTypes Tryz.pinned.checked.prog).any (Tryz.pinned.checked.prog.loopsFrom ·)))=true:=by kernel_rfl
theorem ZnK:((Rows.fnExactGateDoomedRow.wideKeys == (f6.params.toList ++ Rows.fnExactGateDoomedSpec.plain.varTypes Tryz.pinned.checked.prog ++ f6.resultTypes.toList).any (Tryz.pinned.checked.prog.wideKeysFrom ·)))=true:=by kernel_rfl
theorem ZnL:(Rows.fnExactGateDoomedSpec.vars.all (Tryz.pinned.checked.prog.varReadable ·))=true:=by kernel_rfl
theorem ZnM:(f6.resultTypes.all (fun t=>Tryz.pinned.checked.prog.readableRec t&&decide (t < Tryz.pinned.checked.prog.types.size)))=true:=by kernel_rfl
theorem ZnN:((Rows.fnExactGateDoomedRow.ifacesOut == f6.resultTypes.toList.any (Tryz.pinned.checked.prog.ifacesRec ·)))=true:=by kernel_rfl
theorem ZnO:((Rows.fnExactGateDoomedRow.loopsOut == f6.resultTypes.toList.any (Tryz.pinned.checked.prog.loopsFrom ·)))=true:=by kernel_rfl
theorem ZnP:((Rows.fnExactGateDoomedRow.plainKeys == Tryz.pinned.checked.prog.plainKeys))=true:=by kernel_rfl
theorem ZnQ:(Rows.fnExactGateDoomedRow.shortTexts.isNone)=true:=by kernel_rfl
theorem ZnR:(Tryz.pinned.checked.prog.stopsHeard)=true:=by kernel_rfl
theorem ZnS:(Tryz.pinned.checked.prog.mayEnter)=true:=by kernel_rfl
theorem ZnT:((Rows.fnExactGateDoomedRow.lifted == Tryz.pinned.checked.prog.liftsFinal))=true:=by kernel_rfl
theorem ZnU:((Tryz.pinned.checked.prog.make == some Rows.fnExactGateDoomedRow.make))=true:=by kernel_rfl
theorem ZnV:((Rows.fnExactGateDoomedRow.kinds == (if Rows.fnExactGateDoomedRow.domain.isEmpty then [] else f6.params.toList.map fun t=>match Tryz.pinned.checked.prog.underlying t with | some (.int k)=>some k | _=>none)))=true:=by kernel_rfl
theorem ZnW:((Rows.fnExactGateDoomedRow.pinned == Rows.fnExactGateDoomedRow.pinnedBy))=true:=by kernel_rfl
theorem ZnX:((Rows.fnExactGateDoomedRow.veiled == (f6.params.toList ++ Rows.fnExactGateDoomedSpec.plain.varTypes Tryz.pinned.checked.prog ++ f6.resultTypes.toList).any (Tryz.pinned.checked.prog.veiledRec ·)))=true:=by kernel_rfl
theorem ZnY:(Rows.fnExactGateDoomedRow.veiledFits Tryz.pinned.checked.prog f6.params.toList (f6.params.toList ++ Rows.fnExactGateDoomedSpec.plain.varTypes Tryz.pinned.checked.prog ++ f6.resultTypes.toList))=true:=by kernel_rfl
theorem ZjI:joinedFacts Tryz.pinned.checked.prog 6 f6 Rows.fnExactGateDoomedSpec Rows.fnExactGateDoomedRow=true:=Zcj (Zcj (Zcj (Zcj (Zcj (Zcj (Zcj (Zcj (Zcj (Zcj (Zcj (Zcj (Zcj (Zcj (Zcj (Zcj (Zcj (Zcj (Zcj (Zcj (Zcj (Zcj (Zcj (Zcj (Zcj (Zcj (Zcj (Zcj (Zcj (Zcj (Zcj ZpU ZpV) ZpW) ZpX) ZpY) ZpZ) Zp0) Zp1) Zp2) Zp3) ZnD) ZnE) ZnF) ZnG) ZnH) ZnI) ZnJ) ZnK) ZnL) ZnM) ZnN) ZnO) ZnP) ZnQ) ZnR) ZnS) ZnT) ZnU) ZnV) ZnW) ZnX) ZnY
theorem ZlM:f6.isInstance Tryz.pinned.checked.prog Rows.fnExactGateDoomedRow.origin Rows.fnExactGateDoomedRow.targs:=of_decide_eq_true (by kernel_rfl)
theorem ZlO:f6.isWrapper Tryz.pinned.checked.prog Rows.fnExactGateDoomedRow.wrapper Rows.fnExactGateDoomedRow.mainSum:=by unfold Func.isWrapper;first|(rw [if_pos (by decide +kernel)];kernel_rfl)|(rw [if_neg (by decide +kernel)];exact⟨rfl,rfl⟩)
theorem doomed_holds:Rows.FnExactGateDoomedSaid:=
 OpenClaim.holds_of_wide 6 f6 rfl rfl rfl rfl rfl rfl rfl ⟨rfl,rfl,rfl,rfl,rfl⟩ rfl rfl rfl rfl rfl Zkz func6 ZjI ZlM ZlO
  (fun os started H enc _=>ZjJ os started H enc)
end Go.Proofs.YtmappejlmapboaaGreat
