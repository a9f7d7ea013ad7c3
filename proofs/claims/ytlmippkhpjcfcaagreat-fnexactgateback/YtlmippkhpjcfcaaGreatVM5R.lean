import Derived.Test.YtlmippkhpjcfcaaGreatVLA
import Derived.Test.YtlmippkhpjcfcaaGreatVBOG
import Derived.Test.YtlmippkhpjcfcaaGreatVMM
open Go.Proofs.Tryz
namespace Go.Proofs.YtlmippkhpjcfcaaGreat
open Go.RowKit Go.Deep Go.Maps
theorem ZfB (a b:Int):wrap64 (wrap64 a+b)=wrap64 (a+b):=by unfold wrap64;omega
theorem Zhc (a b:Int):wrap64 (wrap64 a+wrap64 b)=wrap64 (a+b):=by unfold wrap64;omega
abbrev Tri:=Zy_×Zy_×Int
def Zsq (T:List Tri):Prop:=∀ p ∈ T,p.1.size≤maxLen∧p.2.1.size≤maxLen
def ZlX (T:List Tri) (a b:Zy_):Int:=(T.map fun p=>if (p.1=a∧p.2.1=b) then p.2.2 else 0).sum
theorem Zhn (A B:List Tri) (a b:Zy_):ZlX (A ++ B) a b=ZlX A a b+ZlX B a b:=by simp [ZlX]
theorem ZmF (p:Tri) (a b:Zy_):ZlX [p] a b=if (p.1=a∧p.2.1=b) then p.2.2 else 0:=by simp [ZlX]
structure ZfP {H:Type} (T:List Tri) (D:DataW H):Prop where
 isMap:IsMap D
 sums:∀ a b:Zy_,a.size≤maxLen→b.size≤maxLen→D.atKey (Zfs a b) (.lit (.int .i64 0))=.lit (.int .i64 (wrap64 (ZlX T a b)))
 has:∀ p ∈ T,Maps.has D (Zfs p.1 p.2.1)=true
theorem Zg6 (a b:Zy_):WideAt.IsKeyLit (Zfs a b):=trivial
theorem ZfP.start {H:Type}:ZfP [] (.map []:DataW H):=⟨⟨[],rfl⟩,fun a b _ _=>by simp [ZlX,wrap64];rfl,fun p hp=>by cases hp⟩
theorem Zrq {a b a' b':Zy_} (ha:a.size≤maxLen) (hb:b.size≤maxLen) (ha':a'.size≤maxLen) (hb':b'.size≤maxLen) (h:¬ (a=a'∧b=b')):Zfs a b≠Zfs a' b':=fun e=>h (Zho.inj Zmv ha hb ha' hb' e)
theorem ZfP.step {H:Type} {T:List Tri} {D:DataW H} (h:ZfP T D) {t r:Zy_} (ht:t.size≤maxLen) (hr:r.size≤maxLen) {c:Int} (hat:D.atKey (Zfs t r) (.lit (.int .i64 0))=.lit (.int .i64 c)) (n:Int) :
 ZfP (T ++ [(t,r,n)]) (D.put (Zfs t r) (.lit (.int .i64 (wrap64 (c+n))))):=by
 have hc:=hat.symm.trans (h.sums t r ht hr);injection hc with hc
 injection hc with _ hc
 refine⟨h.isMap.put _ _,fun a b ha hb=>?_,fun p hp=>?_⟩
 · by_cases e:t=a∧r=b
   · obtain⟨rfl,rfl⟩:=e
     rw [atKey_put_same h.isMap (Zg6 _ _),Zhn,ZmF,if_pos ⟨rfl,rfl⟩,hc,ZfB]
   · rw [atKey_put_other (Zrq ha hb ht hr (fun e'=>e ⟨e'.1.symm,e'.2.symm⟩)),h.sums a b ha hb,Zhn,ZmF,if_neg e,Int.add_zero]
 · by_cases e:Zfs p.1 p.2.1=Zfs t r
   · rw [e]
     exact has_put_same h.isMap (Zg6 _ _) _
   · rw [has_put_other e]
     rcases List.mem_append.1 hp with hp | hp
     · exact h.has p hp
     · simp at hp
       subst hp;exact absurd rfl e
def Zhd (Ts:List Tm) (team r:Zy_) (p:Tri):Int:=if (p.2.1.toList == r.toList&&Zbf Ts p.1 team)=true then p.2.2 else 0
def Zk4 (Ts:List Tm) (team r:Zy_) (T:List Tri) (left:Lit→Bool):Int:=(T.map fun p=>if left (Zfs p.1 p.2.1)=true then 0 else Zhd Ts team r p).sum
theorem Znd {H:Type} {T:List Tri} {D:DataW H} (h:ZfP T D) (Ts:List Tm) (team r:Zy_):Zk4 Ts team r T (Maps.has D)=0:=by
 have:∀ L:List Tri,(∀ p ∈ L,Maps.has D (Zfs p.1 p.2.1)=true)→Zk4 Ts team r L (Maps.has D)=0:=by
  intro L
  induction L with
  | nil=>intro _;rfl
  | cons p L ih=>
   intro hL;have h1:=hL p (List.mem_cons_self ..);have h2:=ih (fun q hq=>hL q (List.mem_cons_of_mem _ hq));unfold Zk4 at h2 ⊢;rw [List.map_cons,List.sum_cons,h2,if_pos h1]
   rfl
 exact this T h.has
theorem ZqN {left:Lit→Bool} (h:∀ kl,left kl=false) (Ts:List Tm) (team r:Zy_) (T:List Tri):Zk4 Ts team r T left=(T.map (Zhd Ts team r)).sum:=by
 unfold Zk4;simp [h]
theorem Zki (Ts:List Tm) (team r:Zy_) {left:Lit→Bool} {a b:Zy_} (ha:a.size≤maxLen) (hb:b.size≤maxLen) (hl:left (Zfs a b)=true):∀ (T:List Tri),Zsq T→
 Zk4 Ts team r T (fun z=>left z&&!z.sameKey (Zfs a b))=Zk4 Ts team r T left+(if (b.toList == r.toList&&Zbf Ts a team)=true then ZlX T a b else 0)
 | [],_=>by simp [Zk4,ZlX]
 | p :: T,hT=>by
  have ih:=Zki Ts team r ha hb hl T (fun q hq=>hT q (List.mem_cons_of_mem _ hq));obtain⟨s1,s2⟩:=hT p (List.mem_cons_self ..);unfold Zk4 ZlX at ih ⊢;simp only [List.map_cons,List.sum_cons];rw [ih]
  by_cases e:p.1=a∧p.2.1=b
  · obtain⟨e1,e2⟩:=e
    have hs:(Zfs a b).sameKey (Zfs a b)=true:=by unfold Zfs;simp [Lit.sameKey]
    unfold Zhd;simp only [hs,hl,Bool.not_true,Bool.and_false,Bool.false_eq_true,if_false,if_true,e1,e2,eq_self,and_self]
    cases hc:(b.toList == r.toList&&Zbf Ts a team)
    · simp only [Bool.false_eq_true,if_false];omega
    · simp only [if_true];omega
  · have hs:(Zfs p.1 p.2.1).sameKey (Zfs a b)=false:=sameKey_ne (Zrq s1 s2 ha hb e)
    simp only [hs,Bool.not_false,Bool.and_true,if_neg e]
    cases hc:(b.toList == r.toList&&Zbf Ts a team)
    · simp only [Bool.false_eq_true,if_false];omega
    · simp only [if_true];omega
def ZcA (Ss:List Sh) (Os:List Ob):List Tri:=Os.flatMap fun o=>(Zev Ss o.kd o.vs).map fun p=>(o.tm,p.1,p.2)
theorem ZnK (Ss:List Sh) (A:List Ob) (o:Ob):ZcA Ss (A ++ [o])=ZcA Ss A ++ (Zev Ss o.kd o.vs).map fun p=>(o.tm,p.1,p.2):=by simp [ZcA]
def Zdr (Ss:List Sh) (Ts:List Tm) (Os:List Ob) (team r:Zy_):Int:=(Os.map fun o=>if Zbf Ts o.tm team=true then ZdV Ss o.kd o.vs r else 0).sum
theorem ZnP (Ts:List Tm) (team r t:Zy_) (L:List (Zy_×Int)):((L.map fun p=>((t,p.1,p.2):Tri)).map (Zhd Ts team r)).sum=if Zbf Ts t team=true then Zoq r L else 0:=by
 induction L with
 | nil=>simp [Zoq]
 | cons p L ih=>
  rw [List.map_cons,List.map_cons,List.sum_cons,ih];unfold Zoq Zhd;rw [List.map_cons,List.sum_cons]
  cases h1:Zbf Ts t team <;> cases h2:(p.1.toList == r.toList) <;> simp
theorem Zny (Ss:List Sh) (Ts:List Tm) (team r:Zy_) (Os:List Ob):((ZcA Ss Os).map (Zhd Ts team r)).sum=Zdr Ss Ts Os team r:=by
 induction Os with
 | nil=>rfl
 | cons o Os ih=>
  have e:ZcA Ss (o :: Os)=((Zev Ss o.kd o.vs).map fun p=>(o.tm,p.1,p.2)) ++ ZcA Ss Os:=by simp [ZcA]
  rw [e,List.map_append,List.sum_append,ih,ZnP,ZnC]
  rfl
theorem Znw (Ss:List Sh) (Ts:List Tm) (A:List Ob) (o:Ob) (team r:Zy_):Zdr Ss Ts (A ++ [o]) team r=Zdr Ss Ts A team r+(if Zbf Ts o.tm team=true then ZdV Ss o.kd o.vs r else 0):=by simp [Zdr]
theorem Zpn (Ss:List Sh) (kind:Zy_) (V:List Zy_):(Zev Ss kind V).length≤V.length+1:=by
 unfold Zev
 split
 · split
   · rename_i x _ _
     have:=ZfW x.fields V V.length;have h1:(ZdB kind).length≤1:=by unfold ZdB;split <;> simp
     rw [List.length_append];omega
   · simp
 · simp
theorem ZjJ (Ss:List Sh):∀ Os:List Ob,(∀ o ∈ Os,o.vs.length≤1048576)→(ZcA Ss Os).length≤Os.length*1048577
 | [],_=>by simp [ZcA]
 | o :: Os,h=>by
  have ih:=ZjJ Ss Os (fun q hq=>h q (List.mem_cons_of_mem _ hq));have h1:=h o (List.mem_cons_self ..);have h2:=Zpn Ss o.kd o.vs;have e:ZcA Ss (o :: Os)=((Zev Ss o.kd o.vs).map fun p=>(o.tm,p.1,p.2)) ++ ZcA Ss Os:=by simp [ZcA]
  rw [e,List.length_append,List.length_map,List.length_cons]
  omega
end Go.Proofs.YtlmippkhpjcfcaaGreat
namespace Go.Proofs.YtlmippkhpjcfcaaGreat
open Go.RowKit Go.Deep Go.Shelf
theorem Zef {F:Fence} {n:Nat} {P:Program} {md:Region.Mode} {ops:Array Oper} {Q:Exit→Act→World→Prop} (l:Nat) (hnd:∀ (i:Nat) (o:Oper),ops[i]?=some o→∀ c,o.op≠.defer c) :
 ∀ (fuel:Nat) (listed:Array Bool) (a:Act) (w:World),wpAnyIn F n P md ops Q fuel listed a w→wpAnyIn (F.inRound l) n P md ops Q fuel listed a w
 | 0,_,_,_,h=>h
 | fuel+1,listed,a,w,⟨h0,h1⟩=>⟨h0,fun i hi=>by
  have h2:=h1 i hi;unfold wpOpIn at h2 ⊢
  split
  · rename_i e
    rw [e] at h2;exact Zef l hnd fuel _ _ _ h2
  · rename_i o e
    rw [e] at h2;simp only at h2
    split
    · rename_i hw
      rw [if_pos hw] at h2;have h3:=Oper.wpIn_mono (fun a w h=>Zef l hnd fuel _ a w h) h2;obtain⟨g1,g2⟩:=h3;refine⟨g1,?_⟩;rw [Oper.semAt_plain _ _ _ (hnd i o e)] at g2 ⊢;exact g2
    · rename_i hw
      rw [if_neg hw] at h2;exact⟨h2.1,Zef l hnd fuel _ _ _ h2.2⟩⟩
theorem Zkn {F:Fence} {n:Nat} {P:Program} {id l:Nat} {ops:Array Oper} {Q:Exit→Act→World→Prop} {a:Act} {w:World} (hm:P.follows .mixedOrders=true) (hnd:ops.all (fun o=>match o.op with | .defer _=>false | _=>true)=true)
 (h:wpAnyIn F n P .any ops Q ops.size (Array.replicate ops.size false) a w.drew):(Code.region id ops true).wpIn (F.inRound l) n P Q a w:=by
 refine wpIn_region_any hm (Zef l (fun i o e c hc=>?_) _ _ _ _ h);have:=Array.all_eq_true_iff_forall_mem.1 hnd o (Array.mem_of_getElem? e);rw [hc] at this
 cases this
end Go.Proofs.YtlmippkhpjcfcaaGreat
