import Derived.Test.YtfohnageehneoaaGreatVLA
import Derived.Test.YtfohnageehneoaaGreatVBOG
import Derived.Test.YtfohnageehneoaaGreatVMM
open Go.Proofs.Tryz
namespace Go.Proofs.YtfohnageehneoaaGreat
open Go.RowKit Go.Deep Go.Maps
theorem Zfl (a b:Int):wrap64 (wrap64 a+b)=wrap64 (a+b):=by unfold wrap64;omega
theorem Zhk (a b:Int):wrap64 (wrap64 a+wrap64 b)=wrap64 (a+b):=by unfold wrap64;omega
abbrev Tri:=Zy_×Zy_×Int
def ZrR (T:List Tri):Prop:=∀ p ∈ T,p.1.size≤maxLen∧p.2.1.size≤maxLen
def ZkY (T:List Tri) (a b:Zy_):Int:=(T.map fun p=>if (p.1=a∧p.2.1=b) then p.2.2 else 0).sum
theorem Zhp (A B:List Tri) (a b:Zy_):ZkY (A ++ B) a b=ZkY A a b+ZkY B a b:=by simp [ZkY]
theorem ZlV (p:Tri) (a b:Zy_):ZkY [p] a b=if (p.1=a∧p.2.1=b) then p.2.2 else 0:=by simp [ZkY]
structure ZfB {H:Type} (T:List Tri) (D:DataW H):Prop where
 isMap:IsMap D
 sums:∀ a b:Zy_,a.size≤maxLen→b.size≤maxLen→D.atKey (Zfc a b) (.lit (.int .i64 0))=.lit (.int .i64 (wrap64 (ZkY T a b)))
 has:∀ p ∈ T,Maps.has D (Zfc p.1 p.2.1)=true
theorem ZgP (a b:Zy_):WideAt.IsKeyLit (Zfc a b):=trivial
theorem ZfB.start {H:Type}:ZfB [] (.map []:DataW H):=⟨⟨[],rfl⟩,fun a b _ _=>by simp [ZkY,wrap64];rfl,fun p hp=>by cases hp⟩
theorem Zq3 {a b a' b':Zy_} (ha:a.size≤maxLen) (hb:b.size≤maxLen) (ha':a'.size≤maxLen) (hb':b'.size≤maxLen) (h:¬ (a=a'∧b=b')):Zfc a b≠Zfc a' b':=fun e=>h (ZgS.inj ZlT ha hb ha' hb' e)
theorem ZfB.step {H:Type} {T:List Tri} {D:DataW H} (h:ZfB T D) {t r:Zy_} (ht:t.size≤maxLen) (hr:r.size≤maxLen) {c:Int} (hat:D.atKey (Zfc t r) (.lit (.int .i64 0))=.lit (.int .i64 c)) (n:Int) :
 ZfB (T ++ [(t,r,n)]) (D.put (Zfc t r) (.lit (.int .i64 (wrap64 (c+n))))):=by
 have hc:=hat.symm.trans (h.sums t r ht hr);injection hc with hc
 injection hc with _ hc
 refine⟨h.isMap.put _ _,fun a b ha hb=>?_,fun p hp=>?_⟩
 · by_cases e:t=a∧r=b
   · obtain⟨rfl,rfl⟩:=e
     rw [atKey_put_same h.isMap (ZgP _ _),Zhp,ZlV,if_pos ⟨rfl,rfl⟩,hc,Zfl]
   · rw [atKey_put_other (Zq3 ha hb ht hr (fun e'=>e ⟨e'.1.symm,e'.2.symm⟩)),h.sums a b ha hb,Zhp,ZlV,if_neg e,Int.add_zero]
 · by_cases e:Zfc p.1 p.2.1=Zfc t r
   · rw [e]
     exact has_put_same h.isMap (ZgP _ _) _
   · rw [has_put_other e]
     rcases List.mem_append.1 hp with hp | hp
     · exact h.has p hp
     · simp at hp
       subst hp;exact absurd rfl e
def Zhd (Ts:List Tm) (team r:Zy_) (p:Tri):Int:=if (p.2.1.toList == r.toList&&Zbe Ts p.1 team)=true then p.2.2 else 0
def Zkw (Ts:List Tm) (team r:Zy_) (T:List Tri) (left:Lit→Bool):Int:=(T.map fun p=>if left (Zfc p.1 p.2.1)=true then 0 else Zhd Ts team r p).sum
theorem ZnD {H:Type} {T:List Tri} {D:DataW H} (h:ZfB T D) (Ts:List Tm) (team r:Zy_):Zkw Ts team r T (Maps.has D)=0:=by
 have:∀ L:List Tri,(∀ p ∈ L,Maps.has D (Zfc p.1 p.2.1)=true)→Zkw Ts team r L (Maps.has D)=0:=by
  intro L
  induction L with
  | nil=>intro _;rfl
  | cons p L ih=>
   intro hL;have h1:=hL p (List.mem_cons_self ..);have h2:=ih (fun q hq=>hL q (List.mem_cons_of_mem _ hq));unfold Zkw at h2 ⊢;rw [List.map_cons,List.sum_cons,h2,if_pos h1]
   rfl
 exact this T h.has
theorem ZqP {left:Lit→Bool} (h:∀ kl,left kl=false) (Ts:List Tm) (team r:Zy_) (T:List Tri):Zkw Ts team r T left=(T.map (Zhd Ts team r)).sum:=by
 unfold Zkw;simp [h]
theorem Zj8 (Ts:List Tm) (team r:Zy_) {left:Lit→Bool} {a b:Zy_} (ha:a.size≤maxLen) (hb:b.size≤maxLen) (hl:left (Zfc a b)=true):∀ (T:List Tri),ZrR T→
 Zkw Ts team r T (fun z=>left z&&!z.sameKey (Zfc a b))=Zkw Ts team r T left+(if (b.toList == r.toList&&Zbe Ts a team)=true then ZkY T a b else 0)
 | [],_=>by simp [Zkw,ZkY]
 | p :: T,hT=>by
  have ih:=Zj8 Ts team r ha hb hl T (fun q hq=>hT q (List.mem_cons_of_mem _ hq));obtain⟨s1,s2⟩:=hT p (List.mem_cons_self ..);unfold Zkw ZkY at ih ⊢;simp only [List.map_cons,List.sum_cons];rw [ih]
  by_cases e:p.1=a∧p.2.1=b
  · obtain⟨e1,e2⟩:=e
    have hs:(Zfc a b).sameKey (Zfc a b)=true:=by unfold Zfc;simp [Lit.sameKey]
    unfold Zhd;simp only [hs,hl,Bool.not_true,Bool.and_false,Bool.false_eq_true,if_false,if_true,e1,e2,eq_self,and_self]
    cases hc:(b.toList == r.toList&&Zbe Ts a team)
    · simp only [Bool.false_eq_true,if_false];omega
    · simp only [if_true];omega
  · have hs:(Zfc p.1 p.2.1).sameKey (Zfc a b)=false:=sameKey_ne (Zq3 s1 s2 ha hb e)
    simp only [hs,Bool.not_false,Bool.and_true,if_neg e]
    cases hc:(b.toList == r.toList&&Zbe Ts a team)
    · simp only [Bool.false_eq_true,if_false];omega
    · simp only [if_true];omega
def Zcu (Ss:List Sh) (Os:List Ob):List Tri:=Os.flatMap fun o=>(Zei Ss o.kd o.vs).map fun p=>(o.tm,p.1,p.2)
theorem Zm4 (Ss:List Sh) (A:List Ob) (o:Ob):Zcu Ss (A ++ [o])=Zcu Ss A ++ (Zei Ss o.kd o.vs).map fun p=>(o.tm,p.1,p.2):=by simp [Zcu]
def Zdn (Ss:List Sh) (Ts:List Tm) (Os:List Ob) (team r:Zy_):Int:=(Os.map fun o=>if Zbe Ts o.tm team=true then ZdK Ss o.kd o.vs r else 0).sum
theorem Zm5 (Ts:List Tm) (team r t:Zy_) (L:List (Zy_×Int)):((L.map fun p=>((t,p.1,p.2):Tri)).map (Zhd Ts team r)).sum=if Zbe Ts t team=true then ZmY r L else 0:=by
 induction L with
 | nil=>simp [ZmY]
 | cons p L ih=>
  rw [List.map_cons,List.map_cons,List.sum_cons,ih];unfold ZmY Zhd;rw [List.map_cons,List.sum_cons]
  cases h1:Zbe Ts t team <;> cases h2:(p.1.toList == r.toList) <;> simp
theorem ZnA (Ss:List Sh) (Ts:List Tm) (team r:Zy_) (Os:List Ob):((Zcu Ss Os).map (Zhd Ts team r)).sum=Zdn Ss Ts Os team r:=by
 induction Os with
 | nil=>rfl
 | cons o Os ih=>
  have e:Zcu Ss (o :: Os)=((Zei Ss o.kd o.vs).map fun p=>(o.tm,p.1,p.2)) ++ Zcu Ss Os:=by simp [Zcu]
  rw [e,List.map_append,List.sum_append,ih,Zm5,Zmn]
  rfl
theorem ZnI (Ss:List Sh) (Ts:List Tm) (A:List Ob) (o:Ob) (team r:Zy_):Zdn Ss Ts (A ++ [o]) team r=Zdn Ss Ts A team r+(if Zbe Ts o.tm team=true then ZdK Ss o.kd o.vs r else 0):=by simp [Zdn]
theorem Zpa (Ss:List Sh) (kind:Zy_) (V:List Zy_):(Zei Ss kind V).length≤V.length+1:=by
 unfold Zei
 split
 · split
   · rename_i x _ _
     have:=ZfW x.fields V V.length;have h1:(Zdz kind).length≤1:=by unfold Zdz;split <;> simp
     rw [List.length_append];omega
   · simp
 · simp
theorem Zjv (Ss:List Sh):∀ Os:List Ob,(∀ o ∈ Os,o.vs.length≤1048576)→(Zcu Ss Os).length≤Os.length*1048577
 | [],_=>by simp [Zcu]
 | o :: Os,h=>by
  have ih:=Zjv Ss Os (fun q hq=>h q (List.mem_cons_of_mem _ hq));have h1:=h o (List.mem_cons_self ..);have h2:=Zpa Ss o.kd o.vs;have e:Zcu Ss (o :: Os)=((Zei Ss o.kd o.vs).map fun p=>(o.tm,p.1,p.2)) ++ Zcu Ss Os:=by simp [Zcu]
  rw [e,List.length_append,List.length_map,List.length_cons]
  omega
end Go.Proofs.YtfohnageehneoaaGreat
namespace Go.Proofs.YtfohnageehneoaaGreat
open Go.RowKit Go.Deep Go.Shelf
theorem Zd3 {F:Fence} {n:Nat} {P:Program} {md:Region.Mode} {ops:Array Oper} {Q:Exit→Act→World→Prop} (l:Nat) (hnd:∀ (i:Nat) (o:Oper),ops[i]?=some o→∀ c,o.op≠.defer c) :
 ∀ (fuel:Nat) (listed:Array Bool) (a:Act) (w:World),wpAnyIn F n P md ops Q fuel listed a w→wpAnyIn (F.inRound l) n P md ops Q fuel listed a w
 | 0,_,_,_,h=>h
 | fuel+1,listed,a,w,⟨h0,h1⟩=>⟨h0,fun i hi=>by
  have h2:=h1 i hi;unfold wpOpIn at h2 ⊢
  split
  · rename_i e
    rw [e] at h2;exact Zd3 l hnd fuel _ _ _ h2
  · rename_i o e
    rw [e] at h2;simp only at h2
    split
    · rename_i hw
      rw [if_pos hw] at h2;have h3:=Oper.wpIn_mono (fun a w h=>Zd3 l hnd fuel _ a w h) h2;obtain⟨g1,g2⟩:=h3;refine⟨g1,?_⟩;rw [Oper.semAt_plain _ _ _ (hnd i o e)] at g2 ⊢;exact g2
    · rename_i hw
      rw [if_neg hw] at h2;exact⟨h2.1,Zd3 l hnd fuel _ _ _ h2.2⟩⟩
theorem ZjH {F:Fence} {n:Nat} {P:Program} {id l:Nat} {ops:Array Oper} {Q:Exit→Act→World→Prop} {a:Act} {w:World} (hm:P.follows .mixedOrders=true) (hnd:ops.all (fun o=>match o.op with | .defer _=>false | _=>true)=true)
 (h:wpAnyIn F n P .any ops Q ops.size (Array.replicate ops.size false) a w.drew):(Code.region id ops true).wpIn (F.inRound l) n P Q a w:=by
 refine wpIn_region_any hm (Zd3 l (fun i o e c hc=>?_) _ _ _ _ h);have:=Array.all_eq_true_iff_forall_mem.1 hnd o (Array.mem_of_getElem? e);rw [hc] at this
 cases this
end Go.Proofs.YtfohnageehneoaaGreat
