import Derived.Test.YtmappejlmapboaaGreatV53
set_option maxHeartbeats 16000000
set_option maxRecDepth 100000
open Go.Proofs.Tryz
namespace Go.Proofs.YtmappejlmapboaaGreat
open Go.ChangeShapes Go.WideShapes Go.ChangeAt Go.RowKit Go.Deep
open Go.ChangeMaps (open_string shut_string)
theorem Tryz.laidOut:laidOutB prog=true:=by kernel_rfl
theorem Zkx (os:Os) (started:os.Started) (H:Type) (enc:TypeId×Value->H) :
 ReturnsInHanded {} Tryz.checked os 3 .any (Rows.fnExactGateMarkSpec.pre6 enc prog f3 Rows.fnExactGateMarkRow.domain false) (Rows.fnExactGateMarkSpec.post enc prog f3 false true false false):=by
 refine returnsInHanded_of_change (C:=Tryz.checked) Tryz.own started (by kernel_rfl) func3
  (ChangeSpec.witness6 (enc:=enc) (C:=Tryz.checked) false ⟨#[],#[.agg #[.slice none 0 0,.slice none 0 0,.slice none 0 0],.agg #[.int .i64 0,.int .i64 0,.int .i64 0,.slice none 0 0,.slice none 0 0,.slice none 0 0,.slice none 0 0]],[]⟩ 8 (by kernel_rfl) (by kernel_rfl) (by kernel_rfl) (by kernel_rfl)) ?_
 intro W base args ds gs before hval0 hW hcnd _;have hval:∀ (j:Nat) t v,f3.params[j]?=some t->args[j]?=some v->Value.okWide prog W .any base t v:=hval0
 have hW':=hW;obtain⟨p,q,hA0,hV,rfl,hfz,hnd⟩:=hW;have hA:DataW.TrodAll enc prog W 0 (fun _=>true) true f3.params.toList args.toList ds p:=hA0;rw [params3] at hA hval;obtain⟨v0,v1,d0,d1,p0,p1,rfl,rfl,rfl,h0,h1⟩:=trodAll_two hA;obtain⟨rfl,rfl⟩:=trodVars_none hV;have h0k:=h0;have h1k:=h1;clear hA0 hval0;simp only [List.append_nil] at hW';have hlt0:∀ x ∈ p0,x.block < W.heap.size:=fun x hx=>by simpa using hW'.lt x (by simp [hx])
 have hlt1:∀ x ∈ p1,x.block < W.heap.size:=fun x hx=>by simpa using hW'.lt x (by simp [hx])
 obtain⟨sv,mv,tv,Ss,Ms,Ts,rfl,hL⟩:=ZpK (hval 0 26 v0 rfl rfl) h0;obtain⟨ov,gv,lv,pv,B,rfl,hB⟩:=Zn4 (hval 1 32 v1 rfl rfl) h1;refine (Zpd _ _ _ _ _ _ _ Ss Ms Ts B W hL hB).mono fun e W' ⟨he,hb⟩=>?_
 subst he;have hargs0:=Below.trod Tryz.laidOut (by kernel_rfl) (of_decide_eq_true (by kernel_rfl)) h0k hb hlt0;have hargs1:=Below.trod Tryz.laidOut (by kernel_rfl) (of_decide_eq_true (by kernel_rfl)) h1k hb hlt1;exact⟨_,rfl,⟨_,_,_,[],_,[],hW',trodAll_mk1 (shut_bool underlying4 true),trodAll_mk2 hargs0 hargs1,rfl,hb.frame _,fun h=>by cases h⟩⟩
theorem Zmb:Tryz.pinned.checked.prog.funcNamed Rows.fnExactGateMarkRow.func=some 3:=by kernel_rfl
theorem Zb1 {a b:Bool} (ha:a=true) (hb:b=true):(a&&b)=true:=by rw [ha,hb];rfl
theorem ZqQ:(Rows.fnExactGateMarkRow.wf (OpenSpec.ofChange Rows.fnExactGateMarkSpec))=true:=by kernel_rfl
theorem ZqR:(laidOutB Tryz.pinned.checked.prog)=true:=by kernel_rfl
theorem ZqS:(mapsRowed Tryz.pinned.checked.prog)=true:=by kernel_rfl
theorem ZqT:(f3.params.all (Tryz.pinned.checked.prog.readableRec ·))=true:=by kernel_rfl
theorem ZqU:(namedTie Tryz.pinned.checked.prog Rows.fnExactGateMarkRow.named Rows.fnExactGateMarkSpec.vars)=true:=by kernel_rfl
theorem ZqV:((Rows.fnExactGateMarkRow.stops == []))=true:=by kernel_rfl
theorem ZqW:((Tryz.pinned.checked.prog.stops == []))=true:=by kernel_rfl
theorem ZqX:((Rows.fnExactGateMarkRow.knobs == []))=true:=by kernel_rfl
theorem ZqY:((Tryz.pinned.checked.prog.stopKnobs == []))=true:=by kernel_rfl
theorem ZqZ:((Rows.fnExactGateMarkRow.inPlace == Tryz.pinned.checked.prog.inPlace 3))=true:=by kernel_rfl
theorem Zpi:((Rows.fnExactGateMarkRow.unfollowed == Tryz.pinned.checked.prog.unfollowed 3))=true:=by kernel_rfl
theorem Zpj:((Rows.fnExactGateMarkRow.recurses == Tryz.pinned.checked.prog.recurses 3))=true:=by kernel_rfl
theorem Zpk:((Rows.fnExactGateMarkRow.named == Tryz.pinned.checked.prog.varsNamed 3))=true:=by kernel_rfl
theorem Zpl:((Rows.fnExactGateMarkRow.maps == (f3.params.toList ++ Rows.fnExactGateMarkSpec.plain.varTypes Tryz.pinned.checked.prog).any (Tryz.pinned.checked.prog.mapsRec ·)))=true:=by kernel_rfl
theorem Zpm:((Rows.fnExactGateMarkRow.ifaces == (f3.params.toList ++ Rows.fnExactGateMarkSpec.plain.varTypes Tryz.pinned.checked.prog).any (Tryz.pinned.checked.prog.ifacesRec ·)))=true:=by kernel_rfl
theorem Zpn:((Rows.fnExactGateMarkRow.mapsOut == Tryz.pinned.checked.prog.mapsAmong f3.resultTypes.toList))=true:=by kernel_rfl
theorem Zpo:((Rows.fnExactGateMarkRow.loops == (f3.params.toList ++ Rows.fnExactGateMarkSpec.plain.varTypes Tryz.pinned.checked.prog).any (Tryz.pinned.checked.prog.loopsFrom ·)))=true:=by kernel_rfl
theorem Zpp:((Rows.fnExactGateMarkRow.wideKeys == (f3.params.toList ++ Rows.fnExactGateMarkSpec.plain.varTypes Tryz.pinned.checked.prog ++ f3.resultTypes.toList).any (Tryz.pinned.checked.prog.wideKeysFrom ·)))=true:=by kernel_rfl
theorem Zpq:(Rows.fnExactGateMarkSpec.vars.all (Tryz.pinned.checked.prog.varReadable ·))=true:=by kernel_rfl
theorem Zpr:(f3.resultTypes.all (fun t=>Tryz.pinned.checked.prog.readableRec t&&decide (t < Tryz.pinned.checked.prog.types.size)))=true:=by kernel_rfl
theorem Zps:((Rows.fnExactGateMarkRow.ifacesOut == f3.resultTypes.toList.any (Tryz.pinned.checked.prog.ifacesRec ·)))=true:=by kernel_rfl
theorem Zpt:((Rows.fnExactGateMarkRow.loopsOut == f3.resultTypes.toList.any (Tryz.pinned.checked.prog.loopsFrom ·)))=true:=by kernel_rfl
theorem Zpu:((Rows.fnExactGateMarkRow.plainKeys == Tryz.pinned.checked.prog.plainKeys))=true:=by kernel_rfl
theorem Zpv:(Rows.fnExactGateMarkRow.shortTexts.isNone)=true:=by kernel_rfl
theorem Zpw:(Tryz.pinned.checked.prog.stopsHeard)=true:=by kernel_rfl
theorem Zpx:(Tryz.pinned.checked.prog.mayEnter)=true:=by kernel_rfl
theorem Zpy:((Rows.fnExactGateMarkRow.lifted == Tryz.pinned.checked.prog.liftsFinal))=true:=by kernel_rfl
theorem Zpz:((Tryz.pinned.checked.prog.make == some Rows.fnExactGateMarkRow.make))=true:=by kernel_rfl
theorem ZpA:((Rows.fnExactGateMarkRow.kinds == (if Rows.fnExactGateMarkRow.domain.isEmpty then [] else f3.params.toList.map fun t=>match Tryz.pinned.checked.prog.underlying t with | some (.int k)=>some k | _=>none)))=true:=by kernel_rfl
theorem ZpB:((Rows.fnExactGateMarkRow.pinned == Rows.fnExactGateMarkRow.pinnedBy))=true:=by kernel_rfl
theorem ZpC:((Rows.fnExactGateMarkRow.veiled == (f3.params.toList ++ Rows.fnExactGateMarkSpec.plain.varTypes Tryz.pinned.checked.prog ++ f3.resultTypes.toList).any (Tryz.pinned.checked.prog.veiledRec ·)))=true:=by kernel_rfl
theorem ZpD:(Rows.fnExactGateMarkRow.veiledFits Tryz.pinned.checked.prog f3.params.toList (f3.params.toList ++ Rows.fnExactGateMarkSpec.plain.varTypes Tryz.pinned.checked.prog ++ f3.resultTypes.toList))=true:=by kernel_rfl
theorem Zkw:joinedFacts Tryz.pinned.checked.prog 3 f3 Rows.fnExactGateMarkSpec Rows.fnExactGateMarkRow=true:=Zb1 (Zb1 (Zb1 (Zb1 (Zb1 (Zb1 (Zb1 (Zb1 (Zb1 (Zb1 (Zb1 (Zb1 (Zb1 (Zb1 (Zb1 (Zb1 (Zb1 (Zb1 (Zb1 (Zb1 (Zb1 (Zb1 (Zb1 (Zb1 (Zb1 (Zb1 (Zb1 (Zb1 (Zb1 (Zb1 (Zb1 ZqQ ZqR) ZqS) ZqT) ZqU) ZqV) ZqW) ZqX) ZqY) ZqZ) Zpi) Zpj) Zpk) Zpl) Zpm) Zpn) Zpo) Zpp) Zpq) Zpr) Zps) Zpt) Zpu) Zpv) Zpw) Zpx) Zpy) Zpz) ZpA) ZpB) ZpC) ZpD
theorem ZnQ:f3.isInstance Tryz.pinned.checked.prog Rows.fnExactGateMarkRow.origin Rows.fnExactGateMarkRow.targs:=of_decide_eq_true (by kernel_rfl)
theorem ZnR:f3.isWrapper Tryz.pinned.checked.prog Rows.fnExactGateMarkRow.wrapper Rows.fnExactGateMarkRow.mainSum:=by unfold Func.isWrapper;first|(rw [if_pos (by decide +kernel)];kernel_rfl)|(rw [if_neg (by decide +kernel)];exact⟨rfl,rfl⟩)
theorem mark_holds:Rows.FnExactGateMarkSaid:=
 OpenClaim.holds_of_wide 3 f3 rfl rfl rfl rfl rfl rfl rfl ⟨rfl,rfl,rfl,rfl,rfl⟩ rfl rfl rfl rfl rfl Zmb func3 Zkw ZnQ ZnR
  (fun os started H enc _=>Zkx os started H enc)
end Go.Proofs.YtmappejlmapboaaGreat
