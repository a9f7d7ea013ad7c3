import Derived.Test.YtmappejlmapboaaGreatG53
set_option maxHeartbeats 16000000
set_option maxRecDepth 100000
open Go.Proofs.Tryz
namespace Go.Proofs.YtmappejlmapboaaGreat
open Go.ChangeShapes Go.WideShapes Go.ChangeAt Go.RowKit Go.Deep
open Go.ChangeMaps (open_string shut_string)
theorem Tryz.laidOut:laidOutB prog=true:=by kernel_rfl
theorem Zj8 (os:Os) (started:os.Started) (H:Type) (enc:TypeId×Value->H) :
 ReturnsInHanded {} Tryz.checked os 4 .any (Rows.fnExactGateGoingSpec.pre6 enc prog f4 Rows.fnExactGateGoingRow.domain false) (Rows.fnExactGateGoingSpec.post enc prog f4 false true false false):=by
 refine returnsInHanded_of_change (C:=Tryz.checked) Tryz.own started (by kernel_rfl) func4
  (ChangeSpec.witness6 (enc:=enc) (C:=Tryz.checked) false ⟨#[],#[.agg #[.slice none 0 0,.slice none 0 0,.slice none 0 0],.agg #[.int .i64 0,.int .i64 0,.int .i64 0,.slice none 0 0,.slice none 0 0,.slice none 0 0,.slice none 0 0]],[]⟩ 8 (by kernel_rfl) (by kernel_rfl) (by kernel_rfl) (by kernel_rfl)) ?_
 intro W base args ds gs before hval0 hW hcnd _;have hval:∀ (j:Nat) t v,f4.params[j]?=some t->args[j]?=some v->Value.okWide prog W .any base t v:=hval0
 have hW':=hW;obtain⟨p,q,hA0,hV,rfl,hfz,hnd⟩:=hW;have hA:DataW.TrodAll enc prog W 0 (fun _=>true) true f4.params.toList args.toList ds p:=hA0;rw [params4] at hA hval;obtain⟨v0,v1,d0,d1,p0,p1,rfl,rfl,rfl,h0,h1⟩:=trodAll_two hA;obtain⟨rfl,rfl⟩:=trodVars_none hV;have h0k:=h0;have h1k:=h1;clear hA0 hval0;simp only [List.append_nil] at hW';have hlt0:∀ x ∈ p0,x.block < W.heap.size:=fun x hx=>by simpa using hW'.lt x (by simp [hx])
 have hlt1:∀ x ∈ p1,x.block < W.heap.size:=fun x hx=>by simpa using hW'.lt x (by simp [hx])
 obtain⟨sv,mv,tv,Ss,Ms,Ts,rfl,hL⟩:=Zrg (hval 0 26 v0 rfl rfl) h0;obtain⟨ov,gv,lv,pv,B,rfl,hB⟩:=ZpM (hval 1 32 v1 rfl rfl) h1;refine (Zpw _ _ _ _ _ _ _ Ss Ms Ts B W hL hB).mono fun e W' ⟨he,hb⟩=>?_
 subst he;have hargs0:=Below.trod Tryz.laidOut (by kernel_rfl) (of_decide_eq_true (by kernel_rfl)) h0k hb hlt0;have hargs1:=Below.trod Tryz.laidOut (by kernel_rfl) (of_decide_eq_true (by kernel_rfl)) h1k hb hlt1;exact⟨_,rfl,⟨_,_,_,[],_,[],hW',trodAll_mk1 (shut_bool underlying4 true),trodAll_mk2 hargs0 hargs1,rfl,hb.frame _,fun h=>by cases h⟩⟩
theorem Zlj:Tryz.pinned.checked.prog.funcNamed Rows.fnExactGateGoingRow.func=some 4:=by kernel_rfl
theorem Zcg {a b:Bool} (ha:a=true) (hb:b=true):(a&&b)=true:=by rw [ha,hb];rfl
theorem ZqU:(Rows.fnExactGateGoingRow.wf (OpenSpec.ofChange Rows.fnExactGateGoingSpec))=true:=by kernel_rfl
theorem ZqV:(laidOutB Tryz.pinned.checked.prog)=true:=by kernel_rfl
theorem ZqW:(mapsRowed Tryz.pinned.checked.prog)=true:=by kernel_rfl
theorem ZqX:(f4.params.all (Tryz.pinned.checked.prog.readableRec ·))=true:=by kernel_rfl
theorem ZqY:(namedTie Tryz.pinned.checked.prog Rows.fnExactGateGoingRow.named Rows.fnExactGateGoingSpec.vars)=true:=by kernel_rfl
theorem ZqZ:((Rows.fnExactGateGoingRow.stops == []))=true:=by kernel_rfl
theorem Zq0:((Tryz.pinned.checked.prog.stops == []))=true:=by kernel_rfl
theorem Zq1:((Rows.fnExactGateGoingRow.knobs == []))=true:=by kernel_rfl
theorem Zq2:((Tryz.pinned.checked.prog.stopKnobs == []))=true:=by kernel_rfl
theorem Zq3:((Rows.fnExactGateGoingRow.inPlace == Tryz.pinned.checked.prog.inPlace 4))=true:=by kernel_rfl
theorem Zo2:((Rows.fnExactGateGoingRow.unfollowed == Tryz.pinned.checked.prog.unfollowed 4))=true:=by kernel_rfl
theorem Zo3:((Rows.fnExactGateGoingRow.recurses == Tryz.pinned.checked.prog.recurses 4))=true:=by kernel_rfl
theorem Zo4:((Rows.fnExactGateGoingRow.named == Tryz.pinned.checked.prog.varsNamed 4))=true:=by kernel_rfl
theorem Zo5:((Rows.fnExactGateGoingRow.maps == (f4.params.toList ++ Rows.fnExactGateGoingSpec.plain.varTypes Tryz.pinned.checked.prog).any (Tryz.pinned.checked.prog.mapsRec ·)))=true:=by kernel_rfl
theorem Zo6:((Rows.fnExactGateGoingRow.ifaces == (f4.params.toList ++ Rows.fnExactGateGoingSpec.plain.varTypes Tryz.pinned.checked.prog).any (Tryz.pinned.checked.prog.ifacesRec ·)))=true:=by kernel_rfl
theorem Zo7:((Rows.fnExactGateGoingRow.mapsOut == Tryz.pinned.checked.prog.mapsAmong f4.resultTypes.toList))=true:=by kernel_rfl
theorem Zo8:((Rows.fnExactGateGoingRow.loops == (f4.params.toList ++ Rows.fnExactGateGoingSpec.plain.varTypes Tryz.pinned.checked.prog).any (Tryz.pinned.checked.prog.loopsFrom ·)))=true:=by kernel_rfl
theorem Zo9:((Rows.fnExactGateGoingRow.wideKeys == (f4.params.toList ++ Rows.fnExactGateGoingSpec.plain.varTypes Tryz.pinned.checked.prog ++ f4.resultTypes.toList).any (Tryz.pinned.checked.prog.wideKeysFrom ·)))=true:=by kernel_rfl
theorem Zpa:(Rows.fnExactGateGoingSpec.vars.all (Tryz.pinned.checked.prog.varReadable ·))=true:=by kernel_rfl
theorem Zpb:(f4.resultTypes.all (fun t=>Tryz.pinned.checked.prog.readableRec t&&decide (t < Tryz.pinned.checked.prog.types.size)))=true:=by kernel_rfl
theorem Zpc:((Rows.fnExactGateGoingRow.ifacesOut == f4.resultTypes.toList.any (Tryz.pinned.checked.prog.ifacesRec ·)))=true:=by kernel_rfl
theorem Zpd:((Rows.fnExactGateGoingRow.loopsOut == f4.resultTypes.toList.any (Tryz.pinned.checked.prog.loopsFrom ·)))=true:=by kernel_rfl
theorem Zpe:((Rows.fnExactGateGoingRow.plainKeys == Tryz.pinned.checked.prog.plainKeys))=true:=by kernel_rfl
theorem Zpf:(Rows.fnExactGateGoingRow.shortTexts.isNone)=true:=by kernel_rfl
theorem Zpg:(Tryz.pinned.checked.prog.stopsHeard)=true:=by kernel_rfl
theorem Zph:(Tryz.pinned.checked.prog.mayEnter)=true:=by kernel_rfl
theorem Zpi:((Rows.fnExactGateGoingRow.lifted == Tryz.pinned.checked.prog.liftsFinal))=true:=by kernel_rfl
theorem Zpj:((Tryz.pinned.checked.prog.make == some Rows.fnExactGateGoingRow.make))=true:=by kernel_rfl
theorem Zpk:((Rows.fnExactGateGoingRow.kinds == (if Rows.fnExactGateGoingRow.domain.isEmpty then [] else f4.params.toList.map fun t=>match Tryz.pinned.checked.prog.underlying t with | some (.int k)=>some k | _=>none)))=true:=by kernel_rfl
theorem Zpl:((Rows.fnExactGateGoingRow.pinned == Rows.fnExactGateGoingRow.pinnedBy))=true:=by kernel_rfl
theorem Zpm:((Rows.fnExactGateGoingRow.veiled == (f4.params.toList ++ Rows.fnExactGateGoingSpec.plain.varTypes Tryz.pinned.checked.prog ++ f4.resultTypes.toList).any (Tryz.pinned.checked.prog.veiledRec ·)))=true:=by kernel_rfl
theorem Zpn:(Rows.fnExactGateGoingRow.veiledFits Tryz.pinned.checked.prog f4.params.toList (f4.params.toList ++ Rows.fnExactGateGoingSpec.plain.varTypes Tryz.pinned.checked.prog ++ f4.resultTypes.toList))=true:=by kernel_rfl
theorem Zj7:joinedFacts Tryz.pinned.checked.prog 4 f4 Rows.fnExactGateGoingSpec Rows.fnExactGateGoingRow=true:=Zcg (Zcg (Zcg (Zcg (Zcg (Zcg (Zcg (Zcg (Zcg (Zcg (Zcg (Zcg (Zcg (Zcg (Zcg (Zcg (Zcg (Zcg (Zcg (Zcg (Zcg (Zcg (Zcg (Zcg (Zcg (Zcg (Zcg (Zcg (Zcg (Zcg (Zcg ZqU ZqV) ZqW) ZqX) ZqY) ZqZ) Zq0) Zq1) Zq2) Zq3) Zo2) Zo3) Zo4) Zo5) Zo6) Zo7) Zo8) Zo9) Zpa) Zpb) Zpc) Zpd) Zpe) Zpf) Zpg) Zph) Zpi) Zpj) Zpk) Zpl) Zpm) Zpn
theorem Znb:f4.isInstance Tryz.pinned.checked.prog Rows.fnExactGateGoingRow.origin Rows.fnExactGateGoingRow.targs:=of_decide_eq_true (by kernel_rfl)
theorem Znd:f4.isWrapper Tryz.pinned.checked.prog Rows.fnExactGateGoingRow.wrapper Rows.fnExactGateGoingRow.mainSum:=by unfold Func.isWrapper;first|(rw [if_pos (by decide +kernel)];kernel_rfl)|(rw [if_neg (by decide +kernel)];exact⟨rfl,rfl⟩)
theorem going_holds:Rows.FnExactGateGoingSaid:=
 OpenClaim.holds_of_wide 4 f4 rfl rfl rfl rfl rfl rfl rfl ⟨rfl,rfl,rfl,rfl,rfl⟩ rfl rfl rfl rfl rfl Zlj func4 Zj7 Znb Znd
  (fun os started H enc _=>Zj8 os started H enc)
end Go.Proofs.YtmappejlmapboaaGreat
