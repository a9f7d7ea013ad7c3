import Derived.Test.YtdeammfdkaomlaaGreatM22
import Derived.OrdersHeld
import Derived.Laws.IdiomCopy
set_option maxHeartbeats 16000000
set_option maxRecDepth 100000
open Go.Proofs.Tryz
namespace Go.Proofs.YtdeammfdkaomlaaGreat
open Go.RowKit Go.Deep
section
variable {i fuel:Nat} {D:List Nat} {o:Oper} {a:Act} {w:World}
section
variable {P:Program} {ops:Array Oper} {Q:Exit->Act->World->Prop} {md:Region.Mode} {S:World->Prop} {B:List Nat}
def ZbY (P:Program) (md:Region.Mode) (ops:Array Oper) (Q:Exit->Act->World->Prop) (S:World->Prop) (B:List Nat):Nat->Array Bool->Act->World->Prop
 | 0,listed,a,w=>Region.ready md ops listed=[]/\Q .normal a w
 | fuel+1,listed,a,w=>
  (Region.ready md ops listed=[]->Q .normal a w)/\
  ∀ i ∈ Region.ready md ops listed,wpOp P ops Q i (fun a' w'=>(i ∉ B->S w')/\ZbY P md ops Q S B fuel (listed.setIfInBounds i true) a' w') a w
theorem ZeP:∀ (fuel:Nat) (listed:Array Bool) (a:Act) (w:World),ZbY P md ops Q S B fuel listed a w->wpAny P md ops Q fuel listed a w
 | 0,_,_,_,h=>h
 | fuel+1,_,_,_,h=>⟨h.1,fun i hi=>wpOp_mono (fun a' w' h'=>ZeP fuel _ a' w' h'.2) (h.2 i hi)⟩
def ZfH (md:Region.Mode) (ops:Array Oper) (i:Nat) (D:List Nat):Bool:=D.all fun j=>match ops[j]? with
 | some oj=>oj.after.any fun e=>Region.binds md e&&((e.on == i) || D.contains e.on)
 | none=>false
theorem ZiZ {listed:Array Bool} (hD:ZfH md ops i D=true) (hi:listed.getD i true=false) (hun:∀ j ∈ D,listed.getD j true=false) {j:Nat} (hj:j ∈ Region.ready md ops listed):j ∉ D:=by
 intro hjD;unfold ZfH at hD;rw [List.all_eq_true] at hD;have h1:=hD j hjD;obtain⟨-,oj,hoj,hall⟩:=mem_ready.1 hj;rw [hoj] at h1;simp only [Array.any_eq_true] at h1;obtain⟨k,hk,he⟩:=h1;rw [Bool.and_eq_true,Bool.or_eq_true,beq_iff_eq] at he;have h2:=hall _ (Array.getElem_mem hk) he.1
 have h3:listed.getD (oj.after[k]).on true=false:=by
  rcases he.2 with h | h
  . rw [h];exact hi
  . exact hun _ (by simpa using h)
 rcases Nat.lt_or_ge (oj.after[k]).on listed.size with h' | h'
 . simp [h'] at h2 h3;rw [h3] at h2;cases h2
 . simp [Array.getElem?_eq_none h'] at h2
theorem ZfJ {oi:Oper}{v:Value} (hi:ops[i]?=some oi) (hsel:∀ (j:Nat) (o:Oper) cs b,ops[j]?=some o->o.op≠.select cs b)
 (hQ:∀ c a w,Q (.panic c) (a.put oi.dst v) w->Q (.panic c) a w) (hD:ZfH md ops i D=true) (hl:∀ b ∈ B,b ∈ D) (hil:i ∉ B) (hiD:i ∉ D) :
 ∀ (fuel:Nat) (listed:Array Bool) (a:Act) (w:World),
  (∀ j oj,ops[j]?=some oj->j≠i->listed.getD j true=false->(∀ e ∈ oj.after,Region.binds md e=true->e.on≠i)->oi.apart ops oj=true)->
  (∀ j ∈ D,listed.getD j true=false)->
  i ∈ Region.ready md ops listed->YieldsIf P ops S oi v a->S w->
  ZbY P md ops Q S B fuel (listed.setIfInBounds i true) (a.put oi.dst v) w->ZbY P md ops Q S B (fuel+1) listed a w:=by
 intro fuel
 induction fuel with
 | zero=>
  intro listed a w _ _ hr hy hS H;refine⟨fun h=>(by rw [h] at hr;cases hr),fun j hj=>?_⟩
  by_cases hji:j=i
  . subst hji;exact hy.wpOp hi hS ⟨fun _=>hS,H⟩
  . have:=ready_mono hj hji
    rw [H.1] at this
    cases this
 | succ fuel ih=>
  intro listed a w hfree hun hr hy hS H;refine⟨fun h=>(by rw [h] at hr;cases hr),fun j hj=>?_⟩
  by_cases hji:j=i
  . subst hji;exact hy.wpOp hi hS ⟨fun _=>hS,H⟩
  . have hjD:j ∉ D:=ZiZ hD (mem_ready.1 hr).1 hun hj
    have hjl:j ∉ B:=fun e=>hjD (hl j e)
    have h1:=H.2 j (ready_mono hj hji);obtain⟨hjun,oj,hoj,hall⟩:=mem_ready.1 hj
    have hnot:∀ e ∈ oj.after,Region.binds md e=true->e.on≠i:=fun e he hb heq=>by
     have h1:=hall e he hb;have h0:=(mem_ready.1 hr).1;rw [heq] at h1
     rcases Nat.lt_or_ge i listed.size with h' | h'
     . simp [h'] at h0 h1;rw [h0] at h1;cases h1
     . simp [Array.getElem?_eq_none h'] at h1
    have h2:=wpOp_putIf hoj (hfree j oj hoj hji hjun hnot) (fun cs b=>hsel i oi cs b hi) (fun cs b=>hsel j oj cs b hoj) hQ hy h1
    have hfree':∀ k ok,ops[k]?=some ok->k≠i->(listed.setIfInBounds j true).getD k true=false->
     (∀ e ∈ ok.after,Region.binds md e=true->e.on≠i)->oi.apart ops ok=true:=fun k ok hk hki hun hno=>by
     refine hfree k ok hk hki ?_ hno
     by_cases hjk:j=k
     . subst hjk;exact hjun
     . rw [getD_set_ne true hjk] at hun;exact hun
    have hun':∀ k ∈ D,(listed.setIfInBounds j true).getD k true=false:=fun k hk=>by
     rw [getD_set_ne true (fun e=>hjD (by rw [e];exact hk))];exact hun k hk
    refine wpOp_mono (fun a' w' h3=>⟨h3.2.1,ih (listed.setIfInBounds j true) a' w' hfree' hun' (ready_mono hr (Ne.symm hji)) h3.1 (h3.2.1 hjl) ?_⟩) h2;rw [Array.setIfInBounds_comm _ _ hji];exact h3.2.2
theorem Zbu (D:List Nat) {i:Nat} {oi:Oper} {v:Value} {fuel:Nat} {listed:Array Bool} {a:Act} {w:World} (hi:ops[i]?=some oi)
 (hs:Region.noSelect ops=true) (hf:Region.free md ops listed i=true) (hr:(Region.ready md ops listed).contains i=true)
 (hD:(ZfH md ops i D&&(B.all fun b=>D.contains b)&&!(B.contains i)&&!D.contains i&&D.all fun j=>!listed.getD j true)=true)
 (hQ:∀ c a w,Q (.panic c) (a.put oi.dst v) w->Q (.panic c) a w) (hy:YieldsIf P ops S oi v a) (hS:S w)
 (h:ZbY P md ops Q S B fuel (listed.setIfInBounds i true) (a.put oi.dst v) w):ZbY P md ops Q S B (fuel+1) listed a w:=by
 simp only [Bool.and_eq_true,Bool.not_eq_true',List.all_eq_true] at hD;obtain⟨⟨⟨⟨h1,h2⟩,h3⟩,h4⟩,h5⟩:=hD;exact ZfJ hi (Region.noSelect_spec hs) hQ h1 (fun b hb=>by simpa using h2 b hb) (by simpa using h3) (by simpa using h4) fuel listed a w (Region.free_spec hi hf) h5 (by simpa using hr) hy hS h
theorem tB (i:Nat) (v:Value) (D:List Nat) {oi:Oper} {fuel:Nat} {listed:Array Bool} {a:Act} {w:World} (hi:ops[i]?=some oi) (hS:S w)
 (h:ZbY P md ops Q S B fuel (listed.setIfInBounds i true) (a.put oi.dst v) w)
 (hs:Region.noSelect ops=true:=by kernel_rfl) (hf:Region.free md ops listed i=true:=by kernel_rfl) (hr:(Region.ready md ops listed).contains i=true:=by kernel_rfl)
 (hD:(ZfH md ops i D&&(B.all fun b=>D.contains b)&&!(B.contains i)&&!D.contains i&&D.all fun j=>!listed.getD j true)=true:=by kernel_rfl)
 (hQ:∀ c a w,Q (.panic c) (a.put oi.dst v) w->Q (.panic c) a w:=by exact fun _ _ _ h=>h)
 (hy:YieldsIf P ops S oi v a:=by exact Or.inl ⟨by rfl,fun W hW=>by (repeat obtain⟨_,hW⟩:_/\_:=hW);go_simp⟩):ZbY P md ops Q S B (fuel+1) listed a w:=
 Zbu D hi hs hf hr hD hQ hy hS h
theorem ZdH {listed:Array Bool} (hr:Region.ready md ops listed=[i]) (ho:ops[i]?=some o)
 (h:∀ K':Act->World->Prop,Shut (∀ a w,(i ∉ B->S w)->((i ∉ B->S w)->ZbY P md ops Q S B fuel (listed.setIfInBounds i true) a w)->K' a w)->if Region.wanted o (yielded ops a.tmps)=true then Oper.wp P o a w K' Q else K' (a.put o.dst undef) w):ZbY P md ops Q S B (fuel+1) listed a w:=by
 refine⟨fun h0=>(by rw [hr] at h0;cases h0),fun j hj=>?_⟩;rw [hr] at hj;have:=List.mem_singleton.1 hj;subst this;exact wpOp_step ho fun K' hK=>h K' fun a w hS hW=>hK a w ⟨hS,hW hS⟩
theorem oB (i:Nat) {o:Oper} {fuel:Nat} {listed:Array Bool} {a:Act} {w:World} (ho:ops[i]?=some o)
 (h:∀ K':Act->World->Prop,Shut (∀ a w,(i ∉ B->S w)->((i ∉ B->S w)->ZbY P md ops Q S B fuel (listed.setIfInBounds i true) a w)->K' a w)->if Region.wanted o (yielded ops a.tmps)=true then Oper.wp P o a w K' Q else K' (a.put o.dst undef) w)
 (hr:Region.ready md ops listed=[i]:=by kernel_rfl):ZbY P md ops Q S B (fuel+1) listed a w:=ZdH hr ho h
theorem ZbG {i':Nat}{o':Oper}{listed:Array Bool} (hr:Region.ready md ops listed=[i,i']) (ho:ops[i]?=some o) (ho':ops[i']?=some o')
 (h:∀ K':Act->World->Prop,Shut (∀ a w,(i ∉ B->S w)->((i ∉ B->S w)->ZbY P md ops Q S B fuel (listed.setIfInBounds i true) a w)->K' a w)->if Region.wanted o (yielded ops a.tmps)=true then Oper.wp P o a w K' Q else K' (a.put o.dst undef) w)
 (h':∀ K':Act->World->Prop,Shut (∀ a w,(i' ∉ B->S w)->((i' ∉ B->S w)->ZbY P md ops Q S B fuel (listed.setIfInBounds i' true) a w)->K' a w)->if Region.wanted o' (yielded ops a.tmps)=true then Oper.wp P o' a w K' Q else K' (a.put o'.dst undef) w):ZbY P md ops Q S B (fuel+1) listed a w:=by
 refine⟨fun h0=>(by rw [hr] at h0;cases h0),fun j hj=>?_⟩;rw [hr] at hj
 rcases List.mem_cons.1 hj with rfl | hj
 . exact wpOp_step ho fun K' hK=>h K' fun a w hS hW=>hK a w ⟨hS,hW hS⟩
 . have:=List.mem_singleton.1 hj
   subst this;exact wpOp_step ho' fun K' hK=>h' K' fun a w hS hW=>hK a w ⟨hS,hW hS⟩
theorem Zak {listed:Array Bool} (hr:Region.ready md ops listed=[]) (h:Q .normal a w):∀ fuel,ZbY P md ops Q S B fuel listed a w
 | 0=>⟨hr,h⟩
 | _+1=>⟨fun _=>h,by rw [hr];simp⟩
theorem Zan (B:List Nat) {id:Nat} {a:Act} {w:World} (hm:P.follows .mixedOrders=true) (hS:S w.drew)
 (h:S w.drew->ZbY P .any ops Q S B ops.size (Array.replicate ops.size false) a w.drew):(Code.region id ops true).wp P Q a w:=
 wp_region_any hm (ZeP _ _ _ _ (h hS))
end
end
theorem ZfS (lo:Nat) (M:Rm) (a:Option Addr) (c:Nat) (w:World) (hv:Zat lo w (.slice a M.sl.length c) M.sl) (hn:M.sl.length<=1048576) :
 Calls prog 148 #[.agg (rmL M a c).toArray] w fun e w'=>∃ b m,e=.returned (.agg (rmL M b m).toArray)/\Zw_ w w'/\Zay rsL 2 w' w.heap.size w'.heap.size (.slice b M.sl.length m) M.sl:=by
 have HV:=Zaa hv;clear hv
 show Calls prog 148 #[.agg #[.int .i64 M.kd,.int .i64 M.fr,.int .i64 M.tt,.int .i64 M.ba,.int .i64 M.ix,.int .i64 M.kn,.string M.tx,.slice a M.sl.length c]] w _
 go_enter func148,ntmps148;go_wp2_with fail
 obtain⟨wz,hwz,FX,FR,HB⟩:∃ wz,wz=(w.alloc (.cells #[.int .i64 M.kd,.int .i64 M.fr,.int .i64 M.tt,.int .i64 M.ba,.int .i64 M.ix,.int .i64 M.kn,.string M.tx,.slice a M.sl.length c] 102)).alloc (.cells #[.int .i64 0,.int .i64 0,.int .i64 0,.int .i64 0,.int .i64 0,.int .i64 0,.string ⟨#[]⟩,.slice none 0 0] 102)/\
  Hd (Box wz w.heap.size #[.int .i64 M.kd,.int .i64 M.fr,.int .i64 M.tt,.int .i64 M.ba,.int .i64 M.ix,.int .i64 M.kn,.string M.tx,.slice a M.sl.length c])/\Hd (Box wz (w.heap.size+1) #[.int .i64 0,.int .i64 0,.int .i64 0,.int .i64 0,.int .i64 0,.int .i64 0,.string ⟨#[]⟩,.slice none 0 0])/\Hd (Zw_ w wz):=
  ⟨_,rfl,(Box.new w _ _ _ rfl).on (Zab _ _),Box.new _ _ _ _ (by simp),(Zab _ _).trans ((Zab _ _).mono (by simp))⟩
 rw [<- hwz];clear hwz;have hz0:w.heap.size+2<=wz.heap.size:=by have:=FR.o.lt;omega
 refine (ZcI lo _ M.sl _ (HV.o.below HB.o) hn).mono ?_;rintro e x0 ⟨u,rfl,hb,hs⟩;obtain⟨b0,m0,rfl⟩:=hs.form;have hx0:wz.heap.size<=x0.heap.size:=hb.size;have N0:Hd (Zay rsL 2 x0 wz.heap.size x0.heap.size (.slice b0 M.sl.length m0) M.sl):=hs;replace FX:=Zaa (FX.o.on hb);replace FR:=Zaa (FR.o.on hb);replace HB:=Zaa (bt HB.o hb);clear hb hs;have g0:=FX.o.cell;have g1:=FX.o.free;have g2:=FR.o.cell;have g3:=FR.o.free;go_wp2;refine bodyPost_ret (v:=.agg (rmL M b0 m0).toArray) (by simp [results,results148,go_sem,g2,rmL]) rfl ⟨b0,m0,rfl,?_,?_⟩
 . repeat (refine Below.setCell ?_ (by simp only [];omega) _)
   exact HB.o
 . refine Zay.wide (lo:=wz.heap.size) (hi:=x0.heap.size) ?_ (by omega) (by simp [World.setCell])
   repeat (refine Zay.set ?_ (by simp only [];omega) _)
   exact N0.o
theorem ZfR (lo:Nat) (X:Ra) (a:Option Addr) (c:Nat) (w:World) (hv:ZaR lo w (.slice a X.fr.length c) X.fr) (hn:X.fr.length<=1048576) :
 Calls prog 151 #[.agg (raL X a c).toArray] w fun e w'=>∃ b m,e=.returned (.agg (raL X b m).toArray)/\Zw_ w w'/\Zay inL 1 w' w.heap.size w'.heap.size (.slice b X.fr.length m) X.fr:=by
 have HV:=Zaa hv;clear hv
 show Calls prog 151 #[.agg #[.int .i64 X.ix,.slice a X.fr.length c]] w _
 go_enter func151,ntmps151;go_wp2_with (at_builtin;refine Hd.o ?_)
 obtain⟨wz,hwz,FX,FR,HB⟩:∃ wz,wz=(w.alloc (.cells #[.int .i64 X.ix,.slice a X.fr.length c] 170)).alloc (.cells #[.int .i64 0,.slice none 0 0] 170)/\
  Hd (Box wz w.heap.size #[.int .i64 X.ix,.slice a X.fr.length c])/\Hd (Box wz (w.heap.size+1) #[.int .i64 0,.slice none 0 0])/\Hd (Zw_ w wz):=
  ⟨_,rfl,(Box.new w _ _ _ rfl).on (Zab _ _),Box.new _ _ _ _ (by simp),(Zab _ _).trans ((Zab _ _).mono (by simp))⟩
 rw [<- hwz];clear hwz;have hz0:w.heap.size+2<=wz.heap.size:=by have:=FR.o.lt;omega
 have HW:=Zaa (HV.o.below HB.o);refine Zaa ?_;refine Zdj ZaE (by decide) underlying51 Zbe rfl (w:=wz) (lo:=wz.heap.size) (hi':=wz.heap.size) (L:=[]) X.fr rfl (.const (.slice none 0 0)) (.tmp 4) rfl rfl (Zay.nil _ _ _ _ _) a X.fr.length c rfl rfl (fun e=>HW.o.nilN e) HW.o.src (ZaO _) (by simp;omega) (by decide) ?_;intro u x0 h1 h2;have hb:Below wz.heap.size wz x0:=h1.none Zl_;rw [List.nil_append] at h2;have hs:=Zay.freshB h2 h1.size;obtain⟨b0,m0,rfl⟩:=hs.form;have hx0:wz.heap.size<=x0.heap.size:=hb.size;have N0:=Zaa hs;replace FX:=Zaa (FX.o.on hb);replace FR:=Zaa (FR.o.on hb);replace HB:=Zaa (bt HB.o hb);clear hb h1 h2 hs HW;have g0:=FX.o.cell;have g1:=FX.o.free;have g2:=FR.o.cell;have g3:=FR.o.free;go_wp2
 refine bodyPost_ret (v:=.agg (raL X b0 m0).toArray) (by simp [results,results151,go_sem,g2,raL]) rfl ⟨b0,m0,rfl,?_,?_⟩
 . repeat (refine Below.setCell ?_ (by simp only [];omega) _)
   exact HB.o
 . refine Zay.wide (lo:=wz.heap.size) (hi:=x0.heap.size) ?_ (by omega) (by simp [World.setCell])
   repeat (refine Zay.set ?_ (by simp only [];omega) _)
   exact N0.o
theorem ZkP:(prog.info? 9).map (·.size)=some 1:=by kernel_rfl
theorem Zg2 (lo:Nat) (v:Value) (L:List Zy_) (w:World) (hv:Zbf lo w v L) (hn:L.length<=1048576) :
 Calls prog 149 #[v] w fun e w'=>∃ v',e=.returned v'/\Zw_ w w'/\Zay tyL 1 w' w.heap.size w'.heap.size v' L:=by
 have hnil:=fun W a n c=>Lib.run_eql_slice_nil (P:=prog) W 50 9 a n c 0 0 underlying50
 obtain⟨i0,hi,hz0,hz1,hz2⟩:=info_parts Zh2
 have hmk:∀ u:World,(Instr.makeSlice 50 (.int .i64 (L.length:Int)) (.int .i64 (L.length:Int))).run prog u=.ok (.slice (some ⟨u.heap.size,0,none⟩) L.length L.length) (u.alloc (.cells (madeCells (Value.cells (.string ⟨#[]⟩)) L.length) 9)):=fun u=>by
  have h:=run_make (P:=prog) u 50 9 i0 _ underlying50 hi hz0 .i64 .i64 L.length L.length (by omega) (by omega) (by rw [hz2];omega) (by omega);rw [hz1] at h
  simpa using h
 clear hi hz0 hz1 hz2;have HV:=Zaa hv;obtain⟨a,cap,rfl⟩:=hv.form;clear hv
 cases a with
 | none=>
  have h0:=HV.o.nilN rfl;obtain rfl:=List.eq_nil_of_length_eq_zero h0;go_enter func149,ntmps149;go_wp2;go_ret;exact⟨_,rfl,Below.refl _ _,Zay.nil _ _ _ _ _⟩
 | some ad=>
  obtain⟨W,hW⟩:∃ W,W=w.alloc (.cells (madeCells #[.string ⟨#[]⟩] L.length) 9):=⟨_,rfl⟩
  have HF:Hd (FR tyL 1 W w.heap.size (w.heap.size+1) w.heap.size L.length []):=by unfold Hd;rw [hW];exact Zbb tyL 1 w _ _ L.length (by rw [size_madeCells,Nat.mul_one]) (by unfold maxLen;omega)
  have HB:Hd (Zw_ w W):=by unfold Hd;rw [hW];exact Zab _ _
  have hwz1:w.heap.size+1<=W.heap.size:=by rw [hW];simp
  have HW:=Zaa (HV.o.below HB.o);have hlv:(Zai tyL L).length=L.length:=by rw [Zaw ZbN,Nat.mul_one]
  have hcp:∀ ty,(Builtin.copy_ #[50,50] ty #[.slice (some ⟨w.heap.size,0,none⟩) L.length L.length,.slice (some ad) L.length cap]).run prog (w.alloc (.cells (madeCells #[.string ⟨#[]⟩] L.length) 9))=.ok (goInt (Zai tyL L).length) (W.setCells w.heap.size 0 (Zai tyL L)):=fun ty=>by
   rw [<- hW];exact run_copy_cells (P:=prog) W 50 50 ty 9 w.heap.size 0 L.length L.length ad L.length cap (Zai tyL L) underlying50 ZkP (by rw [hlv];exact (Nat.min_self _).symm) (HW.o.src ad rfl) (fun j hj=>HF.o.th _ (by omega)) (fun j _=>HF.o.fz _) (Zgj L)
  have HFn:Hd (FR tyL 1 (W.setCells w.heap.size 0 (Zai tyL L)) w.heap.size (w.heap.size+1) w.heap.size L.length L):=by
   have:=HF.o.put ZbN (M:=L) (by simp);unfold Hd
   simpa using this
  have HBn:Hd (Zw_ w (W.setCells w.heap.size 0 (Zai tyL L))):=Below.sets Zl_ _ _ HB.o;have hsz:(W.setCells w.heap.size 0 (Zai tyL L)).heap.size=W.heap.size:=Za6 ..;clear hW hlv;generalize World.setCells _ _ _ _=W2 at*;go_enter func149,ntmps149;go_wp2;go_ret;exact⟨_,rfl,HBn.o,Or.inr ⟨w.heap.size,L.length,rfl,HFn.o.bs,by omega,by omega,HFn.o.le,HFn.o.mx,HFn.o.th,HFn.o.fz,HFn.o.rg⟩⟩
end Go.Proofs.YtdeammfdkaomlaaGreat
