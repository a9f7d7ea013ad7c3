import Derived.Test.YtfohnageehneoaaGreatVLTick
set_option maxHeartbeats 16000000
set_option maxRecDepth 100000
open Go.Proofs.Tryz
namespace Go.Proofs.YtfohnageehneoaaGreat
open Go.ChangeShapes Go.WideShapes Go.ChangeAt Go.RowKit Go.Deep
open Go.ChangeMaps (open_string shut_string)
theorem Zla (os:Os) (started:os.Started) (H:Type) (enc:TypeId×Value→H) :
 ReturnsInHanded {} Tryz.checked os 4 .any (Rows.fnExactGateTickSpec.pre6 enc prog f4 Rows.fnExactGateTickRow.domain false) (Rows.fnExactGateTickSpec.post enc prog f4 false true false false):=by
 refine returnsInHanded_of_change (C:=Tryz.checked) Tryz.own started (by kernel_rfl) func4
  (ChangeSpec.witness6 (enc:=enc) (C:=Tryz.checked) false ⟨#[],#[.agg #[.slice none 0 0,.slice none 0 0,.slice none 0 0],.agg #[.int .i64 0,.int .i64 0,.int .i64 0,.slice none 0 0,.slice none 0 0,.slice none 0 0,.slice none 0 0]],[]⟩ 8 (by kernel_rfl) (by kernel_rfl) (by kernel_rfl) (by kernel_rfl)) ?_
 intro W base args ds gs before hval0 hW hcnd _;have hval:∀ (j:Nat) t v,f4.params[j]?=some t→args[j]?=some v→Value.okWide prog W .any base t v:=hval0
 have hW':=hW;obtain⟨p,q,hA0,hV,rfl,hfz,hnd⟩:=hW;have hA:DataW.TrodAll enc prog W 0 (fun _=>true) true f4.params.toList args.toList ds p:=hA0;rw [params4] at hA hval;obtain⟨v0,v1,d0,d1,p0,p1,rfl,rfl,rfl,h0,h1⟩:=trodAll_two hA;obtain⟨rfl,rfl⟩:=trodVars_none hV;have h0k:=h0;have h1k:=h1;clear hA0 hval0;simp only [List.append_nil] at hW';have hlt0:∀ x ∈ p0,x.block < W.heap.size:=fun x hx=>by simpa using hW'.lt x (by simp [hx])
 have hlt1:∀ x ∈ p1,x.block < W.heap.size:=fun x hx=>by simpa using hW'.lt x (by simp [hx])
 obtain⟨sv,mv,tv,Ss,Ms,Ts,rfl,hL⟩:=ZpV (hval 0 26 v0 rfl rfl) h0;obtain⟨ov,gv,lv,pv,B,rfl,hB⟩:=Zog (hval 1 32 v1 rfl rfl) h1;refine (ZqQ _ _ _ _ _ _ _ Ss Ms Ts B W hL hB).mono fun e W' ⟨he,hb⟩=>?_
 subst he;have hargs0:=Below.trod Tryz.laidOut (by kernel_rfl) (of_decide_eq_true (by kernel_rfl)) h0k hb hlt0;have hargs1:=Below.trod Tryz.laidOut (by kernel_rfl) (of_decide_eq_true (by kernel_rfl)) h1k hb hlt1;exact⟨_,rfl,⟨_,_,_,[],_,[],hW',trodAll_mk1 (shut_bool underlying4 true),trodAll_mk2 hargs0 hargs1,rfl,hb.frame _,fun h=>by cases h⟩⟩
theorem ZmC:Tryz.pinned.checked.prog.funcNamed Rows.fnExactGateTickRow.func=some 4:=by kernel_rfl
theorem Zcf {a b:Bool} (ha:a=true) (hb:b=true):(a&&b)=true:=by rw [ha,hb];rfl
theorem Zr7:(Rows.fnExactGateTickRow.wf (OpenSpec.ofChange Rows.fnExactGateTickSpec))=true:=by kernel_rfl
theorem Zro:(laidOutB Tryz.pinned.checked.prog)=true:=by kernel_rfl
theorem Zrm:(mapsRowed Tryz.pinned.checked.prog)=true:=by kernel_rfl
theorem Zrx:(f4.params.all (Tryz.pinned.checked.prog.readableRec ·))=true:=by kernel_rfl
theorem ZrI:(namedTie Tryz.pinned.checked.prog Rows.fnExactGateTickRow.named Rows.fnExactGateTickSpec.vars)=true:=by kernel_rfl
theorem ZrP:((Rows.fnExactGateTickRow.stops == []))=true:=by kernel_rfl
theorem ZrK:((Tryz.pinned.checked.prog.stops == []))=true:=by kernel_rfl
theorem Zrw:((Rows.fnExactGateTickRow.knobs == []))=true:=by kernel_rfl
theorem Zrb:((Tryz.pinned.checked.prog.stopKnobs == []))=true:=by kernel_rfl
theorem Zr5:((Rows.fnExactGateTickRow.inPlace == Tryz.pinned.checked.prog.inPlace 4))=true:=by kernel_rfl
theorem ZqJ:((Rows.fnExactGateTickRow.unfollowed == Tryz.pinned.checked.prog.unfollowed 4))=true:=by kernel_rfl
theorem Zqc:((Rows.fnExactGateTickRow.recurses == Tryz.pinned.checked.prog.recurses 4))=true:=by kernel_rfl
theorem Zqp:((Rows.fnExactGateTickRow.named == Tryz.pinned.checked.prog.varsNamed 4))=true:=by kernel_rfl
theorem ZqR:((Rows.fnExactGateTickRow.maps == (f4.params.toList ++ Rows.fnExactGateTickSpec.plain.varTypes Tryz.pinned.checked.prog).any (Tryz.pinned.checked.prog.mapsRec ·)))=true:=by kernel_rfl
theorem Zqo:((Rows.fnExactGateTickRow.ifaces == (f4.params.toList ++ Rows.fnExactGateTickSpec.plain.varTypes Tryz.pinned.checked.prog).any (Tryz.pinned.checked.prog.ifacesRec ·)))=true:=by kernel_rfl
theorem Zqa:((Rows.fnExactGateTickRow.mapsOut == Tryz.pinned.checked.prog.mapsAmong f4.resultTypes.toList))=true:=by kernel_rfl
theorem Zp1:((Rows.fnExactGateTickRow.loops == (f4.params.toList ++ Rows.fnExactGateTickSpec.plain.varTypes Tryz.pinned.checked.prog).any (Tryz.pinned.checked.prog.loopsFrom ·)))=true:=by kernel_rfl
theorem ZqF:((Rows.fnExactGateTickRow.wideKeys == (f4.params.toList ++ Rows.fnExactGateTickSpec.plain.varTypes Tryz.pinned.checked.prog ++ f4.resultTypes.toList).any (Tryz.pinned.checked.prog.wideKeysFrom ·)))=true:=by kernel_rfl
theorem Zqg:(Rows.fnExactGateTickSpec.vars.all (Tryz.pinned.checked.prog.varReadable ·))=true:=by kernel_rfl
theorem Zqk:(f4.resultTypes.all (fun t=>Tryz.pinned.checked.prog.readableRec t&&decide (t < Tryz.pinned.checked.prog.types.size)))=true:=by kernel_rfl
theorem ZpP:((Rows.fnExactGateTickRow.ifacesOut == f4.resultTypes.toList.any (Tryz.pinned.checked.prog.ifacesRec ·)))=true:=by kernel_rfl
theorem Zqv:((Rows.fnExactGateTickRow.loopsOut == f4.resultTypes.toList.any (Tryz.pinned.checked.prog.loopsFrom ·)))=true:=by kernel_rfl
theorem Zqx:((Rows.fnExactGateTickRow.plainKeys == Tryz.pinned.checked.prog.plainKeys))=true:=by kernel_rfl
theorem Zp3:(Rows.fnExactGateTickRow.shortTexts.isNone)=true:=by kernel_rfl
theorem ZpN:(Tryz.pinned.checked.prog.stopsHeard)=true:=by kernel_rfl
theorem Zqb:(Tryz.pinned.checked.prog.mayEnter)=true:=by kernel_rfl
theorem ZqL:((Rows.fnExactGateTickRow.lifted == Tryz.pinned.checked.prog.liftsFinal))=true:=by kernel_rfl
theorem ZpQ:((Tryz.pinned.checked.prog.make == some Rows.fnExactGateTickRow.make))=true:=by kernel_rfl
theorem ZpR:((Rows.fnExactGateTickRow.kinds == (if Rows.fnExactGateTickRow.domain.isEmpty then [] else f4.params.toList.map fun t=>match Tryz.pinned.checked.prog.underlying t with | some (.int k)=>some k | _=>none)))=true:=by kernel_rfl
theorem Zql:((Rows.fnExactGateTickRow.pinned == Rows.fnExactGateTickRow.pinnedBy))=true:=by kernel_rfl
theorem Zp9:((Rows.fnExactGateTickRow.veiled == (f4.params.toList ++ Rows.fnExactGateTickSpec.plain.varTypes Tryz.pinned.checked.prog ++ f4.resultTypes.toList).any (Tryz.pinned.checked.prog.veiledRec ·)))=true:=by kernel_rfl
theorem Zqw:(Rows.fnExactGateTickRow.veiledFits Tryz.pinned.checked.prog f4.params.toList (f4.params.toList ++ Rows.fnExactGateTickSpec.plain.varTypes Tryz.pinned.checked.prog ++ f4.resultTypes.toList))=true:=by kernel_rfl
theorem Zlk:joinedFacts Tryz.pinned.checked.prog 4 f4 Rows.fnExactGateTickSpec Rows.fnExactGateTickRow=true:=Zcf (Zcf (Zcf (Zcf (Zcf (Zcf (Zcf (Zcf (Zcf (Zcf (Zcf (Zcf (Zcf (Zcf (Zcf (Zcf (Zcf (Zcf (Zcf (Zcf (Zcf (Zcf (Zcf (Zcf (Zcf (Zcf (Zcf (Zcf (Zcf (Zcf (Zcf Zr7 Zro) Zrm) Zrx) ZrI) ZrP) ZrK) Zrw) Zrb) Zr5) ZqJ) Zqc) Zqp) ZqR) Zqo) Zqa) Zp1) ZqF) Zqg) Zqk) ZpP) Zqv) Zqx) Zp3) ZpN) Zqb) ZqL) ZpQ) ZpR) Zql) Zp9) Zqw
theorem ZpA:f4.isInstance Tryz.pinned.checked.prog Rows.fnExactGateTickRow.origin Rows.fnExactGateTickRow.targs:=of_decide_eq_true (by kernel_rfl)
theorem Zpd:f4.isWrapper Tryz.pinned.checked.prog Rows.fnExactGateTickRow.wrapper Rows.fnExactGateTickRow.mainSum:=by unfold Func.isWrapper;first|(rw [if_pos (by decide +kernel)];kernel_rfl)|(rw [if_neg (by decide +kernel)];exact⟨rfl,rfl⟩)
theorem tick_holds:Rows.FnExactGateTickSaid:=
 OpenClaim.holds_of_wide 4 f4 rfl rfl rfl rfl rfl rfl rfl ⟨rfl,rfl,rfl,rfl,rfl⟩ rfl rfl rfl rfl rfl ZmC func4 Zlk ZpA Zpd
  (fun os started H enc _=>Zla os started H enc)
end Go.Proofs.YtfohnageehneoaaGreat
