import Derived.Test.YtkiefplmnoapfaaGreatV44
import Derived.Test.YtkiefplmnoapfaaGreatV53
set_option maxHeartbeats 16000000
set_option maxRecDepth 100000
open Go.Proofs.Tryz
namespace Go.Proofs.YtkiefplmnoapfaaGreat
open Go.ChangeShapes Go.WideShapes Go.ChangeAt Go.RowKit Go.Deep
open Go.ChangeMaps (open_string shut_string)
theorem ZfM (os:Os) (started:os.Started) (H:Type) (enc:TypeId×Value->H) :
 ReturnsInHanded {} Tryz.checked os 3 .any (Rows.fnExactRecTakeSpec.pre6 enc prog f3 Rows.fnExactRecTakeRow.domain false) (Rows.fnExactRecTakeSpec.post enc prog f3 false true false false):=by
 refine returnsInHanded_of_change (C:=Tryz.checked) Tryz.own started (by kernel_rfl) func3
  (ChangeSpec.witness6 (enc:=enc) (C:=Tryz.checked) false ⟨#[],#[.agg zR,.agg #[.int .i64 0,.int .i64 0,.int .i64 0,.int .i64 0,.int .i64 0,.int .i64 0,.string .empty,.slice none 0 0]],[]⟩ 8 (by kernel_rfl) (by kernel_rfl) (by kernel_rfl) (by kernel_rfl)) ?_
 intro W base args ds gs before hval0 hW hcnd _;have hval:∀ (j:Nat) t v,f3.params[j]?=some t->args[j]?=some v->Value.okWide prog W .any base t v:=hval0
 have hW':=hW;obtain⟨p,q,hA0,hV,rfl,hfz,hnd⟩:=hW;have hA:DataW.TrodAll enc prog W 0 (fun _=>true) true f3.params.toList args.toList ds p:=hA0;rw [params3] at hA hval;obtain⟨v0,v1,d0,d1,p0,p1,rfl,rfl,rfl,h0,h1⟩:=trodAll_two hA;obtain⟨rfl,rfl⟩:=trodVars_none hV;have h0k:=h0;have h1k:=h1;clear hA0 hval0;simp only [List.append_nil] at hW';have hlt0:∀ x ∈ p0,x.block < W.heap.size:=fun x hx=>by simpa using hW'.lt x (by simp [hx])
 have hlt1:∀ x ∈ p1,x.block < W.heap.size:=fun x hx=>by simpa using hW'.lt x (by simp [hx])
 obtain⟨cs,U,rfl,hU⟩:=Zkj (hval 0 30 v0 rfl rfl) h0;obtain⟨csm,M,rfl,hM⟩:=Zki (hval 1 32 v1 rfl rfl) h1;refine (Zjp cs U (ZcV U M) csm M W hU hM (fun hn _=>⟨Zgo hn hU.sizes hM.slz hM.txz,fun cs csm w h h'=>ZfO cs U csm M w h h' hn⟩) (fun hn _ cs csm w h h'=>ZfB cs U csm M w h h' hn)).mono fun e W' ⟨he,hb⟩=>?_
 subst he;have hargs0:=Below.trod Tryz.laidOut (by kernel_rfl) (of_decide_eq_true (by kernel_rfl)) h0k hb hlt0;have hargs1:=Below.trod Tryz.laidOut (by kernel_rfl) (of_decide_eq_true (by kernel_rfl)) h1k hb hlt1;exact⟨_,rfl,⟨_,_,_,[],_,[],hW',trodAll_mk1 (shut_bool underlying4 true),trodAll_mk2 hargs0 hargs1,rfl,hb.frame _,fun h=>by cases h⟩⟩
theorem Zgl:Tryz.pinned.checked.prog.funcNamed Rows.fnExactRecTakeRow.func=some 3:=by kernel_rfl
theorem ZbI {a b:Bool} (ha:a=true) (hb:b=true):(a&&b)=true:=by rw [ha,hb];rfl
theorem ZjE:(Rows.fnExactRecTakeRow.wf (OpenSpec.ofChange Rows.fnExactRecTakeSpec))=true:=by kernel_rfl
theorem ZjF:(laidOutB Tryz.pinned.checked.prog)=true:=by kernel_rfl
theorem ZjG:(mapsRowed Tryz.pinned.checked.prog)=true:=by kernel_rfl
theorem ZjH:(f3.params.all (Tryz.pinned.checked.prog.readableRec ·))=true:=by kernel_rfl
theorem ZjI:(namedTie Tryz.pinned.checked.prog Rows.fnExactRecTakeRow.named Rows.fnExactRecTakeSpec.vars)=true:=by kernel_rfl
theorem ZjJ:((Rows.fnExactRecTakeRow.stops == []))=true:=by kernel_rfl
theorem ZjK:((Tryz.pinned.checked.prog.stops == []))=true:=by kernel_rfl
theorem ZjL:((Rows.fnExactRecTakeRow.knobs == []))=true:=by kernel_rfl
theorem ZjM:((Tryz.pinned.checked.prog.stopKnobs == []))=true:=by kernel_rfl
theorem ZjN:((Rows.fnExactRecTakeRow.inPlace == Tryz.pinned.checked.prog.inPlace 3))=true:=by kernel_rfl
theorem Zij:((Rows.fnExactRecTakeRow.unfollowed == Tryz.pinned.checked.prog.unfollowed 3))=true:=by kernel_rfl
theorem Zik:((Rows.fnExactRecTakeRow.recurses == Tryz.pinned.checked.prog.recurses 3))=true:=by kernel_rfl
theorem Zil:((Rows.fnExactRecTakeRow.named == Tryz.pinned.checked.prog.varsNamed 3))=true:=by kernel_rfl
theorem Zim:((Rows.fnExactRecTakeRow.maps == (f3.params.toList ++ Rows.fnExactRecTakeSpec.plain.varTypes Tryz.pinned.checked.prog).any (Tryz.pinned.checked.prog.mapsRec ·)))=true:=by kernel_rfl
theorem Zin:((Rows.fnExactRecTakeRow.ifaces == (f3.params.toList ++ Rows.fnExactRecTakeSpec.plain.varTypes Tryz.pinned.checked.prog).any (Tryz.pinned.checked.prog.ifacesRec ·)))=true:=by kernel_rfl
theorem Zio:((Rows.fnExactRecTakeRow.mapsOut == Tryz.pinned.checked.prog.mapsAmong f3.resultTypes.toList))=true:=by kernel_rfl
theorem Zip:((Rows.fnExactRecTakeRow.loops == (f3.params.toList ++ Rows.fnExactRecTakeSpec.plain.varTypes Tryz.pinned.checked.prog).any (Tryz.pinned.checked.prog.loopsFrom ·)))=true:=by kernel_rfl
theorem Ziq:((Rows.fnExactRecTakeRow.wideKeys == (f3.params.toList ++ Rows.fnExactRecTakeSpec.plain.varTypes Tryz.pinned.checked.prog ++ f3.resultTypes.toList).any (Tryz.pinned.checked.prog.wideKeysFrom ·)))=true:=by kernel_rfl
theorem Zir:(Rows.fnExactRecTakeSpec.vars.all (Tryz.pinned.checked.prog.varReadable ·))=true:=by kernel_rfl
theorem Zis:(f3.resultTypes.all (fun t=>Tryz.pinned.checked.prog.readableRec t&&decide (t < Tryz.pinned.checked.prog.types.size)))=true:=by kernel_rfl
theorem Zit:((Rows.fnExactRecTakeRow.ifacesOut == f3.resultTypes.toList.any (Tryz.pinned.checked.prog.ifacesRec ·)))=true:=by kernel_rfl
theorem Ziu:((Rows.fnExactRecTakeRow.loopsOut == f3.resultTypes.toList.any (Tryz.pinned.checked.prog.loopsFrom ·)))=true:=by kernel_rfl
theorem Ziv:((Rows.fnExactRecTakeRow.plainKeys == Tryz.pinned.checked.prog.plainKeys))=true:=by kernel_rfl
theorem Ziw:(Rows.fnExactRecTakeRow.shortTexts.isNone)=true:=by kernel_rfl
theorem Zix:(Tryz.pinned.checked.prog.stopsHeard)=true:=by kernel_rfl
theorem Ziy:(Tryz.pinned.checked.prog.mayEnter)=true:=by kernel_rfl
theorem Ziz:((Rows.fnExactRecTakeRow.lifted == Tryz.pinned.checked.prog.liftsFinal))=true:=by kernel_rfl
theorem ZiA:((Tryz.pinned.checked.prog.make == some Rows.fnExactRecTakeRow.make))=true:=by kernel_rfl
theorem ZiB:((Rows.fnExactRecTakeRow.kinds == (if Rows.fnExactRecTakeRow.domain.isEmpty then [] else f3.params.toList.map fun t=>match Tryz.pinned.checked.prog.underlying t with | some (.int k)=>some k | _=>none)))=true:=by kernel_rfl
theorem ZiC:((Rows.fnExactRecTakeRow.pinned == Rows.fnExactRecTakeRow.pinnedBy))=true:=by kernel_rfl
theorem ZiD:((Rows.fnExactRecTakeRow.veiled == (f3.params.toList ++ Rows.fnExactRecTakeSpec.plain.varTypes Tryz.pinned.checked.prog ++ f3.resultTypes.toList).any (Tryz.pinned.checked.prog.veiledRec ·)))=true:=by kernel_rfl
theorem ZiE:(Rows.fnExactRecTakeRow.veiledFits Tryz.pinned.checked.prog f3.params.toList (f3.params.toList ++ Rows.fnExactRecTakeSpec.plain.varTypes Tryz.pinned.checked.prog ++ f3.resultTypes.toList))=true:=by kernel_rfl
theorem ZfL:joinedFacts Tryz.pinned.checked.prog 3 f3 Rows.fnExactRecTakeSpec Rows.fnExactRecTakeRow=true:=ZbI (ZbI (ZbI (ZbI (ZbI (ZbI (ZbI (ZbI (ZbI (ZbI (ZbI (ZbI (ZbI (ZbI (ZbI (ZbI (ZbI (ZbI (ZbI (ZbI (ZbI (ZbI (ZbI (ZbI (ZbI (ZbI (ZbI (ZbI (ZbI (ZbI (ZbI ZjE ZjF) ZjG) ZjH) ZjI) ZjJ) ZjK) ZjL) ZjM) ZjN) Zij) Zik) Zil) Zim) Zin) Zio) Zip) Ziq) Zir) Zis) Zit) Ziu) Ziv) Ziw) Zix) Ziy) Ziz) ZiA) ZiB) ZiC) ZiD) ZiE
theorem Zhi:f3.isInstance Tryz.pinned.checked.prog Rows.fnExactRecTakeRow.origin Rows.fnExactRecTakeRow.targs:=of_decide_eq_true (by kernel_rfl)
theorem Zhj:f3.isWrapper Tryz.pinned.checked.prog Rows.fnExactRecTakeRow.wrapper Rows.fnExactRecTakeRow.mainSum:=by unfold Func.isWrapper;first|(rw [if_pos (by decide +kernel)];kernel_rfl)|(rw [if_neg (by decide +kernel)];exact⟨rfl,rfl⟩)
theorem rtake_holds:Rows.FnExactRecTakeSaid:=
 OpenClaim.holds_of_wide 3 f3 rfl rfl rfl rfl rfl rfl rfl ⟨rfl,rfl,rfl,rfl,rfl⟩ rfl rfl rfl rfl rfl Zgl func3 ZfL Zhi Zhj
  (fun os started H enc _=>ZfM os started H enc)
end Go.Proofs.YtkiefplmnoapfaaGreat
