import Derived.Test.YtmappejlmapboaaGreatG40
import Derived.OrdersHeld
set_option maxHeartbeats 16000000
set_option maxRecDepth 100000
open Go.Proofs.Tryz
namespace Go.Proofs.YtmappejlmapboaaGreat
section
open Go.RowKit Go.Deep Go.Shelf Go.Maps
variable {w W0 W:World} {mb:Nat}
theorem Zmn {b off i:Nat}{x:Ob}{vv0 vv1:Value} (h:Zcf w b (off+i*7) x vv0 vv1) (hbw:b < w.heap.size) (h0:Zw_ w W0) (hg:W0.grownBy W (some mb)) (hm:w.heap.size<=mb):Zcf W b (off+i*7) x vv0 vv1:=by
 have e:W.heap[b]?=w.heap[b]?:=(hg.block b (by have:=h0.size;omega) (fun e=>by injection e with e;omega)).trans (h0.block b hbw);have c:∀ o,W.cell? ⟨b,o,none⟩=w.cell? ⟨b,o,none⟩:=fun o=>World.cell?_of_block (a:=⟨b,o,none⟩) e
 exact⟨by rw [c];exact h.c0,by rw [c];exact h.c1,by rw [c];exact h.c2,by rw [c];exact h.c3,by rw [c];exact h.c4,by rw [c];exact h.c5,by rw [c];exact h.c6⟩
theorem Zdv (h0:Zw_ w W0) (hg:W0.grownBy W (some mb)) (hm:w.heap.size<=mb):Zw_ w W:=
 h0.trans ⟨hg.os,hg.tape,hg.output,hg.size,fun k hk=>hg.block k (by have:=h0.size;omega) (fun e=>by injection e with e;omega)⟩
theorem ZaM {W':World} (hb:Below W.heap.size W W') (row:Option Nat):W.grownBy W' row:=⟨hb.os,hb.tape,hb.output,hb.size,fun k hk _=>hb.block k hk⟩
end
section
open Go.RowKit Go.Deep
variable {i fuel n:Nat} {D:List Nat} {o:Oper} {a:Act} {w:World}
section
variable {P:Program} {ops:Array Oper} {Q:Exit->Act->World->Prop} {md:Region.Mode} {T:Nat->World->Prop}
def ZdU (P:Program) (md:Region.Mode) (ops:Array Oper) (Q:Exit->Act->World->Prop) (T:Nat->World->Prop):Nat->Array Bool->Act->World->Prop
 | 0,listed,a,w=>Region.ready md ops listed=[]/\Q .normal a w
 | fuel+1,listed,a,w=>
  (Region.ready md ops listed=[]->Q .normal a w)/\
  ∀ i ∈ Region.ready md ops listed,wpOp P ops Q i (fun a' w'=>T i w'/\ZdU P md ops Q T fuel (listed.setIfInBounds i true) a' w') a w
theorem ZiX:∀ (fuel:Nat) (listed:Array Bool) (a:Act) (w:World),ZdU P md ops Q T fuel listed a w->wpAny P md ops Q fuel listed a w
 | 0,_,_,_,h=>h
 | fuel+1,_,_,_,h=>⟨h.1,fun i hi=>wpOp_mono (fun a' w' h'=>ZiX fuel _ a' w' h'.2) (h.2 i hi)⟩
def ZmG (md:Region.Mode) (ops:Array Oper) (i:Nat) (D:List Nat):Bool:=D.all fun j=>match ops[j]? with
 | some oj=>oj.after.any fun e=>Region.binds md e&&((e.on == i) || D.contains e.on)
 | none=>false
theorem Zqx {listed:Array Bool} (hD:ZmG md ops i D=true) (hi:listed.getD i true=false) (hun:∀ j ∈ D,listed.getD j true=false) {j:Nat} (hj:j ∈ Region.ready md ops listed):j ∉ D:=by
 intro hjD;unfold ZmG at hD;rw [List.all_eq_true] at hD;have h1:=hD j hjD;obtain⟨-,oj,hoj,hall⟩:=mem_ready.1 hj;rw [hoj] at h1;simp only [Array.any_eq_true] at h1;obtain⟨k,hk,he⟩:=h1;rw [Bool.and_eq_true,Bool.or_eq_true,beq_iff_eq] at he;have h2:=hall _ (Array.getElem_mem hk) he.1
 have h3:listed.getD (oj.after[k]).on true=false:=by
  rcases he.2 with h | h
  . rw [h];exact hi
  . exact hun _ (by simpa using h)
 rcases Nat.lt_or_ge (oj.after[k]).on listed.size with h' | h'
 . simp [h'] at h2 h3;rw [h3] at h2;cases h2
 . simp [Array.getElem?_eq_none h'] at h2
theorem Zk0 {S:World->Prop}{oi:Oper}{v:Value} (hi:ops[i]?=some oi) (hsel:∀ (j:Nat) (o:Oper) cs b,ops[j]?=some o->o.op≠.select cs b)
 (hQ:∀ c a w,Q (.panic c) (a.put oi.dst v) w->Q (.panic c) a w) (hD:ZmG md ops i D=true) (hTi:∀ w,S w->T i w) :
 ∀ (fuel:Nat) (listed:Array Bool) (a:Act) (w:World),
  (∀ j,listed.getD j true=false->j ∉ D->j≠i->∀ w,T j w->S w)->
  (∀ j oj,ops[j]?=some oj->j≠i->listed.getD j true=false->(∀ e ∈ oj.after,Region.binds md e=true->e.on≠i)->oi.apart ops oj=true)->
  (∀ j ∈ D,listed.getD j true=false)->
  i ∈ Region.ready md ops listed->YieldsIf P ops S oi v a->S w->
  ZdU P md ops Q T fuel (listed.setIfInBounds i true) (a.put oi.dst v) w->ZdU P md ops Q T (fuel+1) listed a w:=by
 intro fuel
 induction fuel with
 | zero=>
  intro listed a w _ _ _ hr hy hS H;refine⟨fun h=>(by rw [h] at hr;cases hr),fun j hj=>?_⟩
  by_cases hji:j=i
  . subst hji;exact hy.wpOp hi hS ⟨hTi _ hS,H⟩
  . have:=ready_mono hj hji
    rw [H.1] at this
    cases this
 | succ fuel ih=>
  intro listed a w hTS hfree hun hr hy hS H;refine⟨fun h=>(by rw [h] at hr;cases hr),fun j hj=>?_⟩
  by_cases hji:j=i
  . subst hji;exact hy.wpOp hi hS ⟨hTi _ hS,H⟩
  . have hjD:j ∉ D:=Zqx hD (mem_ready.1 hr).1 hun hj
    have h1:=H.2 j (ready_mono hj hji);obtain⟨hjun,oj,hoj,hall⟩:=mem_ready.1 hj
    have hnot:∀ e ∈ oj.after,Region.binds md e=true->e.on≠i:=fun e he hb heq=>by
     have h1:=hall e he hb;have h0:=(mem_ready.1 hr).1;rw [heq] at h1
     rcases Nat.lt_or_ge i listed.size with h' | h'
     . simp [h'] at h0 h1;rw [h0] at h1;cases h1
     . simp [Array.getElem?_eq_none h'] at h1
    have h2:=wpOp_putIf hoj (hfree j oj hoj hji hjun hnot) (fun cs b=>hsel i oi cs b hi) (fun cs b=>hsel j oj cs b hoj) hQ hy h1
    have hback:∀ k,(listed.setIfInBounds j true).getD k true=false->listed.getD k true=false:=fun k hk=>by
     by_cases hjk:j=k
     . subst hjk;exact hjun
     . rw [getD_set_ne true hjk] at hk;exact hk
    have hfree':∀ k ok,ops[k]?=some ok->k≠i->(listed.setIfInBounds j true).getD k true=false->
     (∀ e ∈ ok.after,Region.binds md e=true->e.on≠i)->oi.apart ops ok=true:=fun k ok hk hki hun hno=>hfree k ok hk hki (hback k hun) hno
    have hun':∀ k ∈ D,(listed.setIfInBounds j true).getD k true=false:=fun k hk=>by
     rw [getD_set_ne true (fun e=>hjD (by rw [e];exact hk))];exact hun k hk
    refine wpOp_mono (fun a' w' h3=>⟨h3.2.1,ih (listed.setIfInBounds j true) a' w' (fun k hk=>hTS k (hback k hk)) hfree' hun' (ready_mono hr (Ne.symm hji)) h3.1 (hTS j hjun hjD hji _ h3.2.1) ?_⟩) h2;rw [Array.setIfInBounds_comm _ _ hji];exact h3.2.2
theorem Za5 (S:World->Prop) (D:List Nat) {i:Nat} {oi:Oper} {v:Value} {fuel:Nat} {listed:Array Bool} {a:Act} {w:World} (hi:ops[i]?=some oi)
 (hs:Region.noSelect ops=true) (hf:Region.free md ops listed i=true) (hr:(Region.ready md ops listed).contains i=true)
 (hD:(ZmG md ops i D&&D.all fun j=>!listed.getD j true)=true) (hTi:∀ w,S w->T i w) (hTS:∀ j,listed.getD j true=false->j ∉ D->j≠i->∀ w,T j w->S w)
 (hQ:∀ c a w,Q (.panic c) (a.put oi.dst v) w->Q (.panic c) a w) (hy:YieldsIf P ops S oi v a) (hS:S w)
 (h:ZdU P md ops Q T fuel (listed.setIfInBounds i true) (a.put oi.dst v) w):ZdU P md ops Q T (fuel+1) listed a w:=by
 simp only [Bool.and_eq_true,Bool.not_eq_true',List.all_eq_true] at hD;exact Zk0 hi (Region.noSelect_spec hs) hQ hD.1 hTi fuel listed a w hTS (Region.free_spec hi hf) hD.2 (by simpa using hr) hy hS h
theorem ZbC {listed:Array Bool} (hr:Region.ready md ops listed=[i]) (ho:ops[i]?=some o)
 (h:∀ K':Act->World->Prop,Shut (∀ a w,T i w->ZdU P md ops Q T fuel (listed.setIfInBounds i true) a w->K' a w)->if Region.wanted o (yielded ops a.tmps)=true then Oper.wp P o a w K' Q else K' (a.put o.dst undef) w):ZdU P md ops Q T (fuel+1) listed a w:=by
 refine⟨fun h0=>(by rw [hr] at h0;cases h0),fun j hj=>?_⟩;rw [hr] at hj;have:=List.mem_singleton.1 hj;subst this;exact wpOp_step ho fun K' hK=>h K' fun a w hS hW=>hK a w ⟨hS,hW⟩
theorem ZiW {i':Nat}{o':Oper}{listed:Array Bool} (hr:Region.ready md ops listed=[i,i']) (ho:ops[i]?=some o) (ho':ops[i']?=some o')
 (h:∀ K':Act->World->Prop,Shut (∀ a w,T i w->ZdU P md ops Q T fuel (listed.setIfInBounds i true) a w->K' a w)->if Region.wanted o (yielded ops a.tmps)=true then Oper.wp P o a w K' Q else K' (a.put o.dst undef) w)
 (h':∀ K':Act->World->Prop,Shut (∀ a w,T i' w->ZdU P md ops Q T fuel (listed.setIfInBounds i' true) a w->K' a w)->if Region.wanted o' (yielded ops a.tmps)=true then Oper.wp P o' a w K' Q else K' (a.put o'.dst undef) w):ZdU P md ops Q T (fuel+1) listed a w:=by
 refine⟨fun h0=>(by rw [hr] at h0;cases h0),fun j hj=>?_⟩;rw [hr] at hj
 rcases List.mem_cons.1 hj with rfl | hj
 . exact wpOp_step ho fun K' hK=>h K' fun a w hS hW=>hK a w ⟨hS,hW⟩
 . have:=List.mem_singleton.1 hj
   subst this;exact wpOp_step ho' fun K' hK=>h' K' fun a w hS hW=>hK a w ⟨hS,hW⟩
theorem Zfu {listed:Array Bool} (hr:Region.ready md ops listed=[]) (h:Q .normal a w):∀ fuel,ZdU P md ops Q T fuel listed a w
 | 0=>⟨hr,h⟩
 | _+1=>⟨fun _=>h,by rw [hr];simp⟩
end
section
variable {P:Program} {ops:Array Oper} {Q:Exit->Act->World->Prop} {md:Region.Mode}
theorem ZlT {row:String}{args:Array Value}{R:Value->World->Prop} (h:Rows P row args w R):RowsIn Fence.wide n P row args w R:=fun c cs _=>by
 obtain⟨v,w',r,s⟩:=h c cs;exact⟨v,w',r,stepsIn_wide.2 s⟩
theorem Zqv {K K':Act->World->Prop} (hK:∀ a w,K a w->K' a w) (hno:¬ LetsOut Q) {r:Result Next} (h:o.upon P a K Q r):o.uponIn Fence.wide n P a K' Q r:=by
 have hd:Fence.wide.depth.isSome=true->1<=n:=fun h=>by cases h
 match r,h with
 | .ok (.value v) w',h=>exact hK _ _ h
 | .ok .skip w',h=>exact hK _ _ h
 | .ok (.defer d) w',h=>exact hK _ _ h
 | .ok (.enter f args) w',h=>
  refine⟨hd,callsIn_wide.2 (h.mono ?_)⟩;intro e w2 he
  cases e with
  | returned v=>exact hK _ _ he
  | panicked chain=>exact he
  | outgrown=>exact absurd he hno
 | .ok (.row row args) w',h=>exact⟨hd,ZlT (h.mono fun v w2 hv=>hK _ _ hv)⟩
 | .halt (.panic v) w',h=>exact h
theorem ZpL {K K':Act->World->Prop} (hK:∀ a w,K a w->K' a w) (hno:¬ LetsOut Q) (h:wpOp P ops Q i K a w):wpOpIn Fence.wide n P ops Q i K' a w:=by
 unfold wpOp at h;unfold wpOpIn
 split at h
 . rename_i e
   rw [e];exact hK _ _ h
 . rename_i o e
   rw [e];dsimp only
   split at h
   . rename_i hw
     rw [if_pos hw]
     rcases h with h | h
     . exact⟨fun _ _=>trivial,Zqv hK hno h⟩
     . exact absurd h.2 hno
   . rename_i hw
     rw [if_neg hw];exact⟨fun _ _=>trivial,hK _ _ h⟩
theorem Zid (hno:¬ LetsOut Q):∀ (fuel:Nat) (listed:Array Bool) (a:Act) (w:World),wpAny P md ops Q fuel listed a w->wpAnyIn Fence.wide n P md ops Q fuel listed a w
 | 0,_,_,_,h=>h
 | fuel+1,_,_,_,h=>⟨h.1,fun i hi=>ZpL (fun a w h'=>Zid hno fuel _ a w h') hno (h.2 i hi)⟩
theorem Zh4 (T:Nat->World->Prop) {n id l:Nat} {a:Act} {w:World} (hm:P.follows .mixedOrders=true) (hnd:ops.all (fun o=>match o.op with | .defer _=>false | _=>true)=true) (hno:¬ LetsOut Q)
 (h:ZdU P .any ops Q T ops.size (Array.replicate ops.size false) a w.drew):(Code.region id ops true).wpIn (Fence.wide.inRound l) n P Q a w:=
 ZgJ hm hnd (Zid hno _ _ _ _ (ZiX _ _ _ _ h))
end
end
open Go.RowKit Go.Deep
variable {wr w1:World} {B k:Nat} {Xl:List Ob}
def Za8 (wr:World) (B:Nat) (Xl:List Ob) (k:Nat) (c:Nat->Nat):Prop:=
 B < c 0/\(∀ i,i < k->c i<=c (i+1))/\c k<=wr.heap.size/\∃ f,wr.rowIs B 128 (Xl.length*7) f/\∀ i (h:i < Xl.length),i < k->Zc5 Xl[i]/\∃ (vv0 vv1:Value) (m1:Nat),(c i)<=m1/\m1<=(c (i+1))/\f (i*7)=.string Xl[i].kd/\f (i*7+1)=.string Xl[i].nm/\f (i*7+2)=.string Xl[i].tm/\f (i*7+3)=vv0/\f (i*7+4)=.bool Xl[i].en/\f (i*7+5)=vv1/\f (i*7+6)=.int .i64 Xl[i].ver/\Zad (c i) m1 wr vv0 Xl[i].vs/\Zad m1 (c (i+1)) wr vv1 Xl[i].hs
theorem Za8.le {c:Nat->Nat} (h:Za8 wr B Xl k c) {i:Nat}:∀ {j:Nat},i<=j->j<=k->c i<=c j:=by
 intro j
 induction j with
 | zero=>intro hij _;have:i=0:=by omega
         subst this;exact Nat.le_refl _
 | succ j ih=>
  intro hij hjn
  by_cases e:i=j+1
  . subst e;exact Nat.le_refl _
  . exact Nat.le_trans (ih (by omega) (by omega)) (h.2.1 j (by omega))
theorem Za8.below {c:Nat->Nat} (h:Za8 wr B Xl k c) (hb:Below wr.heap.size wr w1):Za8 w1 B Xl k c:=by
 obtain⟨g1,g2,g3,f,hr,hall⟩:=h;refine⟨g1,g2,Nat.le_trans g3 hb.size,f,hr.of_block (hb.block B hr.lt),fun i hi hik=>?_⟩;obtain⟨hz,vv0,vv1,m1,q0,q1,h0,h1,h2,h3,h4,h5,h6,l0,l1⟩:=hall i hi hik;exact⟨hz,vv0,vv1,m1,q0,q1,h0,h1,h2,h3,h4,h5,h6,l0.below hb,l1.below hb⟩
theorem Za8.free {c:Nat->Nat} (h:Za8 wr B Xl k c) (i:Nat):wr.frozen? ⟨B,i,none⟩=false:=by
 obtain⟨_,_,_,f,hr,_⟩:=h;exact hr.frozen i
theorem Za8.there {c:Nat->Nat} (h:Za8 wr B Xl k c) (i:Nat) (hi:i < Xl.length*7):∃ v,wr.cell? ⟨B,i,none⟩=some v:=by
 obtain⟨_,_,_,f,hr,_⟩:=h;exact⟨_,hr.cell hi⟩
theorem Za8.step {c:Nat->Nat}{vv0 vv1:Value}{m1:Nat} (h:Za8 w1 B Xl k c) (hk:k < Xl.length) (hz:Zc5 Xl[k]) (d:Nat) (hd0:c k<=d) (hd:d<=w1.heap.size) (r0:(c k)<=m1) (r1:m1<=d) (e0:Zad (c k) m1 w1 vv0 Xl[k].vs) (e1:Zad m1 d w1 vv1 Xl[k].hs) :
 Za8 (((((((w1.setCell ⟨B,k*7,none⟩ (.string Xl[k].kd)).setCell ⟨B,k*7+1,none⟩ (.string Xl[k].nm)).setCell ⟨B,k*7+2,none⟩ (.string Xl[k].tm)).setCell ⟨B,k*7+3,none⟩ (vv0)).setCell ⟨B,k*7+4,none⟩ (.bool Xl[k].en)).setCell ⟨B,k*7+5,none⟩ (vv1)).setCell ⟨B,k*7+6,none⟩ (.int .i64 Xl[k].ver)) B Xl (k+1) (fun j=>if j<=k then c j else d):=by
 have hle:=fun i (hi:i<=k)=>h.le (i:=0) (j:=i) Zz_ hi
 have hle2:=fun i (hi:i < k)=>h.le (i:=i+1) (j:=k) (by omega) Zl_
 obtain⟨g1,g2,g3,f,hr,hall⟩:=h;have hts:Zag B (B+1) w1 (((((((w1.setCell ⟨B,k*7,none⟩ (.string Xl[k].kd)).setCell ⟨B,k*7+1,none⟩ (.string Xl[k].nm)).setCell ⟨B,k*7+2,none⟩ (.string Xl[k].tm)).setCell ⟨B,k*7+3,none⟩ (vv0)).setCell ⟨B,k*7+4,none⟩ (.bool Xl[k].en)).setCell ⟨B,k*7+5,none⟩ (vv1)).setCell ⟨B,k*7+6,none⟩ (.int .i64 Xl[k].ver)):=((((((Zag.setB B _ _ _).trans (Zag.setB B _ _ _)).trans (Zag.setB B _ _ _)).trans (Zag.setB B _ _ _)).trans (Zag.setB B _ _ _)).trans (Zag.setB B _ _ _)).trans (Zag.setB B _ _ _);refine⟨by simpa using g1,fun i hi=>?_,?_,_,(((((((hr.set _ _).set _ _).set _ _).set _ _).set _ _).set _ _).set _ _),fun i hi hik=>?_⟩
 . dsimp only
   by_cases e:i=k
   . subst e;rw [if_pos Zl_,if_neg (by omega)];exact hd0
   . rw [if_pos (by omega),if_pos (by omega)];exact g2 i (by omega)
 . dsimp only;rw [if_neg (by omega)];exact Nat.le_trans hd hts.size
 by_cases e:i=k
 . subst e
   dsimp only;rw [if_pos Zl_,if_neg (by omega)];have hb0:=hle i Zl_;exact⟨hz,vv0,vv1,m1,r0,r1,by simp,by simp,by simp,by simp,by simp,by simp,by simp,e0.touch hts (by omega),e1.touch hts (by omega)⟩
 . dsimp only
   rw [if_pos (by omega),if_pos (by omega)];have hb0:=hle i (by omega);obtain⟨hz,vv0,vv1,m1,q0,q1,h0,h1,h2,h3,h4,h5,h6,l0,l1⟩:=hall i hi (by omega);refine⟨hz,vv0,vv1,m1,q0,q1,?_,?_,?_,?_,?_,?_,?_,l0.touch hts (by omega),l1.touch hts (by omega)⟩
   . rw [if_neg (by omega),if_neg (by omega),if_neg (by omega),if_neg (by omega),if_neg (by omega),if_neg (by omega),if_neg (by omega)];exact h0
   . rw [if_neg (by omega),if_neg (by omega),if_neg (by omega),if_neg (by omega),if_neg (by omega),if_neg (by omega),if_neg (by omega)];exact h1
   . rw [if_neg (by omega),if_neg (by omega),if_neg (by omega),if_neg (by omega),if_neg (by omega),if_neg (by omega),if_neg (by omega)];exact h2
   . rw [if_neg (by omega),if_neg (by omega),if_neg (by omega),if_neg (by omega),if_neg (by omega),if_neg (by omega),if_neg (by omega)];exact h3
   . rw [if_neg (by omega),if_neg (by omega),if_neg (by omega),if_neg (by omega),if_neg (by omega),if_neg (by omega),if_neg (by omega)];exact h4
   . rw [if_neg (by omega),if_neg (by omega),if_neg (by omega),if_neg (by omega),if_neg (by omega),if_neg (by omega),if_neg (by omega)];exact h5
   . rw [if_neg (by omega),if_neg (by omega),if_neg (by omega),if_neg (by omega),if_neg (by omega),if_neg (by omega),if_neg (by omega)];exact h6
theorem Za8.own {c:Nat->Nat} (h:Za8 wr B Xl k c) (hk:k=Xl.length) (hne:Xl≠[]) (hm:Xl.length<=maxLen):ZbU B wr.heap.size wr (.slice (some ⟨B,0,none⟩) Xl.length Xl.length) Xl:=by
 subst hk;have hle:=fun i (hi:i<=Xl.length)=>h.le (i:=0) (j:=i) Zz_ hi
 have hle2:=fun i (hi:i < Xl.length)=>h.le (i:=i+1) (j:=Xl.length) (by omega) Zl_
 have hle3:=fun i j (hi:i < j) (hj:j < Xl.length)=>h.le (i:=i+1) (j:=j) (by omega) (by omega)
 obtain⟨g1,g2,g3,f,hr,hall⟩:=h;have h0:0 < Xl.length:=List.length_pos_iff.2 hne
 refine Or.inr ⟨B,0,Xl.length,fun i=>(c i,c (i+1)),fun i=>if h:i < Xl.length then Xl[i] else Xl[0],rfl,hne,hm,Nat.le_refl _,fun i hi=>by simp [hi],hr.lt,Nat.le_refl _,hr.lt,fun i hi=>⟨by have:=hle i (by omega);simp only [];omega,by have:=hle2 i hi;simp only [];omega,Or.inl (by have:=hle i (by omega);simp only [];omega)⟩,hle3,fun i=>hr.frozen i,fun i hi=>?_⟩;obtain⟨hz,vv0,vv1,m1,q0,q1,h0,h1,h2,h3,h4,h5,h6,l0,l1⟩:=hall i hi hi;simp only [hi,dif_pos];rw [Nat.zero_add];exact⟨hz,vv0,vv1,m1,q0,q1,⟨by rw [hr.cell (by omega),h0],by rw [hr.cell (by omega),h1],by rw [hr.cell (by omega),h2],by rw [hr.cell (by omega),h3],by rw [hr.cell (by omega),h4],by rw [hr.cell (by omega),h5],by rw [hr.cell (by omega),h6]⟩,l0,l1⟩
theorem Za8.new (w:World) (Xl:List Ob) (z:Array Value):Za8 (w.alloc (.cells (madeCells z (Xl.length*7)) 128)) w.heap.size Xl 0 (fun _=>w.heap.size+1):=by
 refine⟨Nat.lt_succ_self _,fun i hi=>by omega,by simp,fun i=>(madeCells z (Xl.length*7)).getD i default,?_,fun i _ h=>by omega⟩;have:=World.rowIs_alloc w (madeCells z (Xl.length*7)) 128 (fun i=>(madeCells z (Xl.length*7)).getD i default) (fun i hi=>by simp [Array.getD,hi])
 rwa [size_madeCells] at this
theorem Zn7 (lo:Nat) (v:Value) (Xl:List Ob) (w:World) (hv:Za2 lo w v Xl) (hn:Zbl Xl) :
 Calls prog 39 #[v] w fun e w'=>∃ v',e=.returned v'/\Zw_ w w'/\ZbU w.heap.size w'.heap.size w' v' Xl:=by
 obtain⟨i0,hi,hz0,hz1,hz2⟩:=info_parts Tryz.info128;have HSM:=Zab hn.2;have hn1:=hn.1;clear hn
 by_cases hL:Xl=[]
 . subst hL
   obtain⟨a,cap,rfl⟩:=hv.form;clear hv
   have hmk:∀ u:World,(Instr.makeSlice 43 (.int .i64 0) (.int .i64 0)).run prog u=.ok (.slice (some ⟨u.heap.size,0,none⟩) 0 0) (u.alloc (.cells (madeCells (Value.cells (.agg #[.string ⟨#[]⟩,.string ⟨#[]⟩,.string ⟨#[]⟩,.slice none 0 0,.bool false,.slice none 0 0,.int .i64 0])) 0) 128)):=fun u=>by
    have h:=run_make (P:=prog) u 43 128 i0 _ underlying43 hi hz0 .i64 .i64 0 0 (by omega) (by omega) (by omega) (by omega)
    simpa [hz1] using h
   go_enter func39,ntmps39;go_wp2
   go_loop [4] (fun i=>i=.int .i64 0) (fun _=>0)
   case atStart=>rfl
   case round=>
    subst hrel;go_wp2;go_ret;exact⟨_,rfl,Zb_.alloc Zl_ _,Or.inl ⟨_,_,rfl,rfl⟩⟩
 . obtain⟨b,off,cap,rfl,hm,hbw,_,hc⟩:=hv.full hL
   clear hv;have HM:Hd (Xl.length<=maxLen):=hm;unfold maxLen at hm
   have hmk:∀ u:World,(Instr.makeSlice 43 (.int .i64 (Xl.length:Int)) (.int .i64 (Xl.length:Int))).run prog u=.ok (.slice (some ⟨u.heap.size,0,none⟩) Xl.length Xl.length) (u.alloc (.cells (madeCells (Value.cells (.agg #[.string ⟨#[]⟩,.string ⟨#[]⟩,.string ⟨#[]⟩,.slice none 0 0,.bool false,.slice none 0 0,.int .i64 0])) (Xl.length*7)) 128)):=fun u=>by
    have h:=run_make (P:=prog) u 43 128 i0 _ underlying43 hi hz0 .i64 .i64 Xl.length Xl.length (by omega) (by omega) (by rw [hz2];omega) (by omega);rw [hz1] at h
    simpa using h
   clear hi hz0 hz1 hz2;go_enter func39,ntmps39;go_wp2;clear hmk
   go_loopw [4] (fun i wr=>∃ (k:Nat) (c:Nat->Nat),i=.int .i64 k/\k<=Xl.length/\Zw_ w wr/\Za8 wr w.heap.size Xl k c) (fun i _=>Xl.length - (intOf i).toNat)
   case atStart=>exact⟨0,_,rfl,by omega,Zb_.alloc Zl_ _,Za8.new w Xl _⟩
   case round=>
    obtain⟨k,c,rfl,hk,hb,hf⟩:=hrel
    by_cases hlt:k < Xl.length
    . obtain⟨hs,vv0,vv1,hc,hv0,hv1⟩:=hc k hlt
      have HB:=Zab hb;have HF:=Zab hf;have HSZ:=Zab hs;obtain⟨x0,y0,rfl⟩:=hv0.at.form';obtain⟨x1,y1,rfl⟩:=hv1.at.form';obtain⟨c0,c1,c2,c3,c4,c5,c6⟩:=hc.below hb hbw;have HV0:=Zab (hv0.below hb);clear hv0;have HV1:=Zab (hv1.below hb);clear hv1;clear hc hb hf hs;go_wp2_with fail;refine (Zn6 _ _ _ _ _ _ _ Xl[k].vs Xl[k].hs _ HV0.o.at HV1.o.at (HSM.o k hlt).1 (HSM.o k hlt).2).mono ?_;rintro e w1 ⟨z0,z1,rfl,hb1,mid,hmid,hmw,hO0,hO1⟩;obtain⟨s0,t0,rfl⟩:=hO0.at.form';obtain⟨s1,t1,rfl⟩:=hO1.at.form';have hf1:=HF.o.below hb1;have hB:Hd (Zw_ w w1):=HB.o.trans (hb1.mono HB.o.size);have HST:=Zab (hf1.step hlt HSZ.o w1.heap.size (Nat.le_trans HF.o.2.2.1 hb1.size) Zl_ (Nat.le_trans HF.o.2.2.1 hmid) hmw (hO0.wide HF.o.2.2.1 Zl_) hO1);have hfr:=hf1.free;obtain⟨o0,ho0⟩:=hf1.there (k*7) (by omega)
      obtain⟨o1,ho1⟩:=hf1.there (k*7+1) (by omega);obtain⟨o2,ho2⟩:=hf1.there (k*7+2) (by omega);obtain⟨o3,ho3⟩:=hf1.there (k*7+3) (by omega);obtain⟨o4,ho4⟩:=hf1.there (k*7+4) (by omega);obtain⟨o5,ho5⟩:=hf1.there (k*7+5) (by omega);obtain⟨o6,ho6⟩:=hf1.there (k*7+6) (by omega);clear hf1 hb1 HF HB c0 c1 c2 c3 c4 c5 c6;go_wp2;go_roundw
      . 
       exact⟨k+1,_,by go_num,by omega,(((((((hB.o.setCell Zl_ _).setCell Zl_ _).setCell Zl_ _).setCell Zl_ _).setCell Zl_ _).setCell Zl_ _).setCell Zl_ _),HST.o⟩
      . simp [intOf];omega
    . have e:k=Xl.length:=by omega
      go_wp2;go_ret;exact⟨_,rfl,hb,hf.own e hL HM.o⟩
end Go.Proofs.YtmappejlmapboaaGreat
