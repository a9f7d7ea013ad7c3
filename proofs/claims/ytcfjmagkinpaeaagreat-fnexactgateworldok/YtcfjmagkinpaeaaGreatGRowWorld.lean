import Derived.Test.YtcfjmagkinpaeaaGreatGLWorld
import Derived.Test.YtcfjmagkinpaeaaGreatGOpW
set_option maxHeartbeats 16000000
set_option maxRecDepth 100000
open Go.Proofs.Tryz
namespace Go.Proofs.YtcfjmagkinpaeaaGreat
open Go.ChangeShapes Go.WideShapes Go.ChangeAt Go.RowKit Go.Deep
open Go.ChangeMaps (open_string shut_string)
theorem ZjU (os:Os) (started:os.Started) (H:Type) (enc:TypeId×Value→H) :
 ReturnsInHanded {} Tryz.checked os 3 .any (Rows.fnExactGateWorldOkSpec.pre6 enc prog f3 Rows.fnExactGateWorldOkRow.domain false) (Rows.fnExactGateWorldOkSpec.post enc prog f3 false true false false):=by
 refine returnsInHanded_of_change (C:=Tryz.checked) Tryz.own started (by kernel_rfl) func3
  (ChangeSpec.witness6 (enc:=enc) (C:=Tryz.checked) false ⟨#[],#[.agg #[.slice none 0 0,.slice none 0 0,.slice none 0 0],.agg #[.int .i64 0,.int .i64 0,.int .i64 0,.slice none 0 0,.slice none 0 0,.slice none 0 0,.slice none 0 0,.slice none 0 0]],[]⟩ 8 (by kernel_rfl) (by kernel_rfl) (by kernel_rfl) (by kernel_rfl)) ?_
 intro W base args ds gs before hval0 hW hcnd _;have hval:∀ (j:Nat) t v,f3.params[j]?=some t→args[j]?=some v→Value.okWide prog W .any base t v:=hval0
 have hW':=hW;obtain⟨p,q,hA0,hV,rfl,hfz,hnd⟩:=hW;have hA:DataW.TrodAll enc prog W 0 (fun _=>true) true f3.params.toList args.toList ds p:=hA0;rw [params3] at hA hval;obtain⟨v0,v1,d0,d1,p0,p1,rfl,rfl,rfl,h0,h1⟩:=trodAll_two hA;obtain⟨rfl,rfl⟩:=trodVars_none hV;have h0k:=h0;have h1k:=h1;clear hA0 hval0;simp only [List.append_nil] at hW';have hlt0:∀ x ∈ p0,x.block < W.heap.size:=fun x hx=>by simpa using hW'.lt x (by simp [hx])
 have hlt1:∀ x ∈ p1,x.block < W.heap.size:=fun x hx=>by simpa using hW'.lt x (by simp [hx])
 obtain⟨sv,mv,tv,Ss,Ms,Ts,rfl,hL⟩:=Zle (hval 0 26 v0 rfl rfl) h0;obtain⟨ov,gv,lv,pv,dv,U,rfl,hA1⟩:=ZhJ (hval 1 35 v1 rfl rfl) h1;refine (ZnG _ _ _ _ _ _ _ _ Ss Ms Ts U W hL hA1).mono fun e W' ⟨he,hb⟩=>?_
 subst he;have hargs0:=Below.trod Tryz.laidOut (by kernel_rfl) (of_decide_eq_true (by kernel_rfl)) h0k hb hlt0;have hargs1:=Below.trod Tryz.laidOut (by kernel_rfl) (of_decide_eq_true (by kernel_rfl)) h1k hb hlt1;exact⟨_,rfl,⟨_,_,_,[],_,[],hW',trodAll_mk1 (shut_bool underlying4 true),trodAll_mk2 hargs0 hargs1,rfl,hb.frame _,fun h=>by cases h⟩⟩
theorem ZkR:Tryz.pinned.checked.prog.funcNamed Rows.fnExactGateWorldOkRow.func=some 3:=by kernel_rfl
theorem ZaP {a b:Bool} (ha:a=true) (hb:b=true):(a&&b)=true:=by rw [ha,hb];rfl
theorem ZqA:(Rows.fnExactGateWorldOkRow.wf (OpenSpec.ofChange Rows.fnExactGateWorldOkSpec))=true:=by kernel_rfl
theorem ZqB:(laidOutB Tryz.pinned.checked.prog)=true:=by kernel_rfl
theorem ZqC:(mapsRowed Tryz.pinned.checked.prog)=true:=by kernel_rfl
theorem ZqD:(f3.params.all (Tryz.pinned.checked.prog.readableRec ·))=true:=by kernel_rfl
theorem ZqE:(namedTie Tryz.pinned.checked.prog Rows.fnExactGateWorldOkRow.named Rows.fnExactGateWorldOkSpec.vars)=true:=by kernel_rfl
theorem ZqF:((Rows.fnExactGateWorldOkRow.stops == []))=true:=by kernel_rfl
theorem ZqG:((Tryz.pinned.checked.prog.stops == []))=true:=by kernel_rfl
theorem ZqH:((Rows.fnExactGateWorldOkRow.knobs == []))=true:=by kernel_rfl
theorem ZqI:((Tryz.pinned.checked.prog.stopKnobs == []))=true:=by kernel_rfl
theorem ZqJ:((Rows.fnExactGateWorldOkRow.inPlace == Tryz.pinned.checked.prog.inPlace 3))=true:=by kernel_rfl
theorem Zo3:((Rows.fnExactGateWorldOkRow.unfollowed == Tryz.pinned.checked.prog.unfollowed 3))=true:=by kernel_rfl
theorem Zo4:((Rows.fnExactGateWorldOkRow.recurses == Tryz.pinned.checked.prog.recurses 3))=true:=by kernel_rfl
theorem Zo5:((Rows.fnExactGateWorldOkRow.named == Tryz.pinned.checked.prog.varsNamed 3))=true:=by kernel_rfl
theorem Zo6:((Rows.fnExactGateWorldOkRow.maps == (f3.params.toList ++ Rows.fnExactGateWorldOkSpec.plain.varTypes Tryz.pinned.checked.prog).any (Tryz.pinned.checked.prog.mapsRec ·)))=true:=by kernel_rfl
theorem Zo7:((Rows.fnExactGateWorldOkRow.ifaces == (f3.params.toList ++ Rows.fnExactGateWorldOkSpec.plain.varTypes Tryz.pinned.checked.prog).any (Tryz.pinned.checked.prog.ifacesRec ·)))=true:=by kernel_rfl
theorem Zo8:((Rows.fnExactGateWorldOkRow.mapsOut == Tryz.pinned.checked.prog.mapsAmong f3.resultTypes.toList))=true:=by kernel_rfl
theorem Zo9:((Rows.fnExactGateWorldOkRow.loops == (f3.params.toList ++ Rows.fnExactGateWorldOkSpec.plain.varTypes Tryz.pinned.checked.prog).any (Tryz.pinned.checked.prog.loopsFrom ·)))=true:=by kernel_rfl
theorem Zpa:((Rows.fnExactGateWorldOkRow.wideKeys == (f3.params.toList ++ Rows.fnExactGateWorldOkSpec.plain.varTypes Tryz.pinned.checked.prog ++ f3.resultTypes.toList).any (Tryz.pinned.checked.prog.wideKeysFrom ·)))=true:=by kernel_rfl
theorem Zpb:(Rows.fnExactGateWorldOkSpec.vars.all (Tryz.pinned.checked.prog.varReadable ·))=true:=by kernel_rfl
theorem Zpc:(f3.resultTypes.all (fun t=>Tryz.pinned.checked.prog.readableRec t&&decide (t < Tryz.pinned.checked.prog.types.size)))=true:=by kernel_rfl
theorem Zpd:((Rows.fnExactGateWorldOkRow.ifacesOut == f3.resultTypes.toList.any (Tryz.pinned.checked.prog.ifacesRec ·)))=true:=by kernel_rfl
theorem Zpe:((Rows.fnExactGateWorldOkRow.loopsOut == f3.resultTypes.toList.any (Tryz.pinned.checked.prog.loopsFrom ·)))=true:=by kernel_rfl
theorem Zpf:((Rows.fnExactGateWorldOkRow.plainKeys == Tryz.pinned.checked.prog.plainKeys))=true:=by kernel_rfl
theorem Zpg:(Rows.fnExactGateWorldOkRow.shortTexts.isNone)=true:=by kernel_rfl
theorem Zph:(Tryz.pinned.checked.prog.stopsHeard)=true:=by kernel_rfl
theorem Zpi:(Tryz.pinned.checked.prog.mayEnter)=true:=by kernel_rfl
theorem Zpj:((Rows.fnExactGateWorldOkRow.lifted == Tryz.pinned.checked.prog.liftsFinal))=true:=by kernel_rfl
theorem Zpk:((Tryz.pinned.checked.prog.make == some Rows.fnExactGateWorldOkRow.make))=true:=by kernel_rfl
theorem Zpl:((Rows.fnExactGateWorldOkRow.kinds == (if Rows.fnExactGateWorldOkRow.domain.isEmpty then [] else f3.params.toList.map fun t=>match Tryz.pinned.checked.prog.underlying t with | some (.int k)=>some k | _=>none)))=true:=by kernel_rfl
theorem Zpm:((Rows.fnExactGateWorldOkRow.pinned == Rows.fnExactGateWorldOkRow.pinnedBy))=true:=by kernel_rfl
theorem Zpn:((Rows.fnExactGateWorldOkRow.veiled == (f3.params.toList ++ Rows.fnExactGateWorldOkSpec.plain.varTypes Tryz.pinned.checked.prog ++ f3.resultTypes.toList).any (Tryz.pinned.checked.prog.veiledRec ·)))=true:=by kernel_rfl
theorem Zpo:(Rows.fnExactGateWorldOkRow.veiledFits Tryz.pinned.checked.prog f3.params.toList (f3.params.toList ++ Rows.fnExactGateWorldOkSpec.plain.varTypes Tryz.pinned.checked.prog ++ f3.resultTypes.toList))=true:=by kernel_rfl
theorem ZjT:joinedFacts Tryz.pinned.checked.prog 3 f3 Rows.fnExactGateWorldOkSpec Rows.fnExactGateWorldOkRow=true:=ZaP (ZaP (ZaP (ZaP (ZaP (ZaP (ZaP (ZaP (ZaP (ZaP (ZaP (ZaP (ZaP (ZaP (ZaP (ZaP (ZaP (ZaP (ZaP (ZaP (ZaP (ZaP (ZaP (ZaP (ZaP (ZaP (ZaP (ZaP (ZaP (ZaP (ZaP ZqA ZqB) ZqC) ZqD) ZqE) ZqF) ZqG) ZqH) ZqI) ZqJ) Zo3) Zo4) Zo5) Zo6) Zo7) Zo8) Zo9) Zpa) Zpb) Zpc) Zpd) Zpe) Zpf) Zpg) Zph) Zpi) Zpj) Zpk) Zpl) Zpm) Zpn) Zpo
theorem ZmS:f3.isInstance Tryz.pinned.checked.prog Rows.fnExactGateWorldOkRow.origin Rows.fnExactGateWorldOkRow.targs:=of_decide_eq_true (by kernel_rfl)
theorem ZmT:f3.isWrapper Tryz.pinned.checked.prog Rows.fnExactGateWorldOkRow.wrapper Rows.fnExactGateWorldOkRow.mainSum:=by unfold Func.isWrapper;first|(rw [if_pos (by decide +kernel)];kernel_rfl)|(rw [if_neg (by decide +kernel)];exact⟨rfl,rfl⟩)
theorem world_holds:Rows.FnExactGateWorldOkSaid:=
 OpenClaim.holds_of_wide 3 f3 rfl rfl rfl rfl rfl rfl rfl ⟨rfl,rfl,rfl,rfl,rfl⟩ rfl rfl rfl rfl rfl ZkR func3 ZjT ZmS ZmT
  (fun os started H enc _=>ZjU os started H enc)
end Go.Proofs.YtcfjmagkinpaeaaGreat
