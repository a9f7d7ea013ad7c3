import Derived.Test.YtcfjmagkinpaeaaGreatGLSafe
import Derived.Test.YtcfjmagkinpaeaaGreatGOpW
set_option maxHeartbeats 16000000
set_option maxRecDepth 100000
open Go.Proofs.Tryz
namespace Go.Proofs.YtcfjmagkinpaeaaGreat
open Go.ChangeShapes Go.WideShapes Go.ChangeAt Go.RowKit Go.Deep
open Go.ChangeMaps (open_string shut_string)
theorem and_s {a b:Bool} (ha:a=true) (hb:b=true):(a&&b)=true:=by rw [ha,hb];rfl
theorem ZkD (os:Os) (started:os.Started) (H:Type) (enc:TypeId×Value→H) :
 ReturnsInHanded {} Tryz.checked os 4 .any (Rows.fnExactGateSafeSpec.pre6 enc prog f4 Rows.fnExactGateSafeRow.domain false) (Rows.fnExactGateSafeSpec.post enc prog f4 false true false false):=by
 refine returnsInHanded_of_change (C:=Tryz.checked) Tryz.own started (by kernel_rfl) func4
  (ChangeSpec.witness6 (enc:=enc) (C:=Tryz.checked) false ⟨#[],#[.agg #[.slice none 0 0,.slice none 0 0,.slice none 0 0],.agg #[.int .i64 0,.int .i64 0,.int .i64 0,.slice none 0 0,.slice none 0 0,.slice none 0 0,.slice none 0 0],.agg #[.int .i64 0,.int .i64 0,.int .i64 0,.slice none 0 0,.slice none 0 0,.slice none 0 0,.slice none 0 0,.slice none 0 0]],[]⟩ 8 (by kernel_rfl) (by kernel_rfl) (by kernel_rfl) (by kernel_rfl)) ?_
 intro W base args ds gs before hval0 hW hcnd _;have hval:∀ (j:Nat) t v,f4.params[j]?=some t→args[j]?=some v→Value.okWide prog W .any base t v:=hval0
 have hW':=hW;obtain⟨p,q,hA0,hV,rfl,hfz,hnd⟩:=hW;have hA:DataW.TrodAll enc prog W 0 (fun _=>true) true f4.params.toList args.toList ds p:=hA0;rw [params4] at hA hval;obtain⟨v0,v1,v2,d0,d1,d2,p0,p1,p2,rfl,rfl,rfl,h0,h1,h2⟩:=trodAll_three hA;obtain⟨rfl,rfl⟩:=trodVars_none hV;have h0k:=h0;have h1k:=h1;have h2k:=h2;clear hA0 hval0;simp only [List.append_nil] at hW';have hlt0:∀ x ∈ p0,x.block < W.heap.size:=fun x hx=>by simpa using hW'.lt x (by simp [hx])
 have hlt1:∀ x ∈ p1,x.block < W.heap.size:=fun x hx=>by simpa using hW'.lt x (by simp [hx])
 have hlt2:∀ x ∈ p2,x.block < W.heap.size:=fun x hx=>by simpa using hW'.lt x (by simp [hx])
 obtain⟨sv,mv,tv,Ss,Ms,Ts,rfl,hL⟩:=Zle (hval 0 26 v0 rfl rfl) h0;obtain⟨fo,fg,fl,fp,f,rfl,hF⟩:=ZnO (hval 1 32 v1 rfl rfl) h1;obtain⟨ov,gv,lv,pv,dv,U,rfl,hA1⟩:=ZhJ (hval 2 35 v2 rfl rfl) h2;refine (ZpC _ _ _ _ _ _ _ _ _ _ _ _ Ss Ms Ts f U W hL hF hA1).mono fun e W' ⟨he,hb⟩=>?_
 subst he;have hargs0:=Below.trod Tryz.laidOut (by kernel_rfl) (of_decide_eq_true (by kernel_rfl)) h0k hb hlt0;have hargs1:=Below.trod Tryz.laidOut (by kernel_rfl) (of_decide_eq_true (by kernel_rfl)) h1k hb hlt1;have hargs2:=Below.trod Tryz.laidOut (by kernel_rfl) (of_decide_eq_true (by kernel_rfl)) h2k hb hlt2;exact⟨_,rfl,⟨_,_,_,[],_,[],hW',trodAll_mk1 (shut_bool underlying4 true),trodAll_mk3 hargs0 hargs1 hargs2,rfl,hb.frame _,fun h=>by cases h⟩⟩
theorem Zms:Tryz.pinned.checked.prog.funcNamed Rows.fnExactGateSafeRow.func=some 4:=by kernel_rfl
theorem ZrT:(Rows.fnExactGateSafeRow.wf (OpenSpec.ofChange Rows.fnExactGateSafeSpec))=true:=by kernel_rfl
theorem ZrU:(laidOutB Tryz.pinned.checked.prog)=true:=by kernel_rfl
theorem ZrV:(mapsRowed Tryz.pinned.checked.prog)=true:=by kernel_rfl
theorem ZrW:(f4.params.all (Tryz.pinned.checked.prog.readableRec ·))=true:=by kernel_rfl
theorem ZrX:(namedTie Tryz.pinned.checked.prog Rows.fnExactGateSafeRow.named Rows.fnExactGateSafeSpec.vars)=true:=by kernel_rfl
theorem ZrY:((Rows.fnExactGateSafeRow.stops == []))=true:=by kernel_rfl
theorem ZrZ:((Tryz.pinned.checked.prog.stops == []))=true:=by kernel_rfl
theorem Zr0:((Rows.fnExactGateSafeRow.knobs == []))=true:=by kernel_rfl
theorem Zr1:((Tryz.pinned.checked.prog.stopKnobs == []))=true:=by kernel_rfl
theorem Zr2:((Rows.fnExactGateSafeRow.inPlace == Tryz.pinned.checked.prog.inPlace 4))=true:=by kernel_rfl
theorem ZpZ:((Rows.fnExactGateSafeRow.unfollowed == Tryz.pinned.checked.prog.unfollowed 4))=true:=by kernel_rfl
theorem Zp0:((Rows.fnExactGateSafeRow.recurses == Tryz.pinned.checked.prog.recurses 4))=true:=by kernel_rfl
theorem Zp1:((Rows.fnExactGateSafeRow.named == Tryz.pinned.checked.prog.varsNamed 4))=true:=by kernel_rfl
theorem Zp2:((Rows.fnExactGateSafeRow.maps == (f4.params.toList ++ Rows.fnExactGateSafeSpec.plain.varTypes Tryz.pinned.checked.prog).any (Tryz.pinned.checked.prog.mapsRec ·)))=true:=by kernel_rfl
theorem Zp3:((Rows.fnExactGateSafeRow.ifaces == (f4.params.toList ++ Rows.fnExactGateSafeSpec.plain.varTypes Tryz.pinned.checked.prog).any (Tryz.pinned.checked.prog.ifacesRec ·)))=true:=by kernel_rfl
theorem Zp4:((Rows.fnExactGateSafeRow.mapsOut == Tryz.pinned.checked.prog.mapsAmong f4.resultTypes.toList))=true:=by kernel_rfl
theorem Zp5:((Rows.fnExactGateSafeRow.loops == (f4.params.toList ++ Rows.fnExactGateSafeSpec.plain.varTypes Tryz.pinned.checked.prog).any (Tryz.pinned.checked.prog.loopsFrom ·)))=true:=by kernel_rfl
theorem Zp6:((Rows.fnExactGateSafeRow.wideKeys == (f4.params.toList ++ Rows.fnExactGateSafeSpec.plain.varTypes Tryz.pinned.checked.prog ++ f4.resultTypes.toList).any (Tryz.pinned.checked.prog.wideKeysFrom ·)))=true:=by kernel_rfl
theorem Zp7:(Rows.fnExactGateSafeSpec.vars.all (Tryz.pinned.checked.prog.varReadable ·))=true:=by kernel_rfl
theorem Zp8:(f4.resultTypes.all (fun t=>Tryz.pinned.checked.prog.readableRec t&&decide (t < Tryz.pinned.checked.prog.types.size)))=true:=by kernel_rfl
theorem Zp9:((Rows.fnExactGateSafeRow.ifacesOut == f4.resultTypes.toList.any (Tryz.pinned.checked.prog.ifacesRec ·)))=true:=by kernel_rfl
theorem Zqa:((Rows.fnExactGateSafeRow.loopsOut == f4.resultTypes.toList.any (Tryz.pinned.checked.prog.loopsFrom ·)))=true:=by kernel_rfl
theorem Zqb:((Rows.fnExactGateSafeRow.plainKeys == Tryz.pinned.checked.prog.plainKeys))=true:=by kernel_rfl
theorem Zqc:(Rows.fnExactGateSafeRow.shortTexts.isNone)=true:=by kernel_rfl
theorem Zqd:(Tryz.pinned.checked.prog.stopsHeard)=true:=by kernel_rfl
theorem Zqe:(Tryz.pinned.checked.prog.mayEnter)=true:=by kernel_rfl
theorem Zqf:((Rows.fnExactGateSafeRow.lifted == Tryz.pinned.checked.prog.liftsFinal))=true:=by kernel_rfl
theorem Zqg:((Tryz.pinned.checked.prog.make == some Rows.fnExactGateSafeRow.make))=true:=by kernel_rfl
theorem Zqh:((Rows.fnExactGateSafeRow.kinds == (if Rows.fnExactGateSafeRow.domain.isEmpty then [] else f4.params.toList.map fun t=>match Tryz.pinned.checked.prog.underlying t with | some (.int k)=>some k | _=>none)))=true:=by kernel_rfl
theorem Zqi:((Rows.fnExactGateSafeRow.pinned == Rows.fnExactGateSafeRow.pinnedBy))=true:=by kernel_rfl
theorem Zqj:((Rows.fnExactGateSafeRow.veiled == (f4.params.toList ++ Rows.fnExactGateSafeSpec.plain.varTypes Tryz.pinned.checked.prog ++ f4.resultTypes.toList).any (Tryz.pinned.checked.prog.veiledRec ·)))=true:=by kernel_rfl
theorem Zqk:(Rows.fnExactGateSafeRow.veiledFits Tryz.pinned.checked.prog f4.params.toList (f4.params.toList ++ Rows.fnExactGateSafeSpec.plain.varTypes Tryz.pinned.checked.prog ++ f4.resultTypes.toList))=true:=by kernel_rfl
theorem ZkC:joinedFacts Tryz.pinned.checked.prog 4 f4 Rows.fnExactGateSafeSpec Rows.fnExactGateSafeRow=true:=and_s (and_s (and_s (and_s (and_s (and_s (and_s (and_s (and_s (and_s (and_s (and_s (and_s (and_s (and_s (and_s (and_s (and_s (and_s (and_s (and_s (and_s (and_s (and_s (and_s (and_s (and_s (and_s (and_s (and_s (and_s ZrT ZrU) ZrV) ZrW) ZrX) ZrY) ZrZ) Zr0) Zr1) Zr2) ZpZ) Zp0) Zp1) Zp2) Zp3) Zp4) Zp5) Zp6) Zp7) Zp8) Zp9) Zqa) Zqb) Zqc) Zqd) Zqe) Zqf) Zqg) Zqh) Zqi) Zqj) Zqk
theorem Zn8:f4.isInstance Tryz.pinned.checked.prog Rows.fnExactGateSafeRow.origin Rows.fnExactGateSafeRow.targs:=of_decide_eq_true (by kernel_rfl)
theorem Zn9:f4.isWrapper Tryz.pinned.checked.prog Rows.fnExactGateSafeRow.wrapper Rows.fnExactGateSafeRow.mainSum:=by unfold Func.isWrapper;first|(rw [if_pos (by decide +kernel)];kernel_rfl)|(rw [if_neg (by decide +kernel)];exact⟨rfl,rfl⟩)
theorem safe_holds:Rows.FnExactGateSafeSaid:=
 OpenClaim.holds_of_wide 4 f4 rfl rfl rfl rfl rfl rfl rfl ⟨rfl,rfl,rfl,rfl,rfl⟩ rfl rfl rfl rfl rfl Zms func4 ZkC Zn8 Zn9
  (fun os started H enc _=>ZkD os started H enc)
end Go.Proofs.YtcfjmagkinpaeaaGreat
