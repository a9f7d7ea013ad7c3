import Derived.Test.YtcfjmagkinpaeaaGreatGLA
import Derived.Test.YtcfjmagkinpaeaaGreatGBOG
open Go.Proofs.Tryz
namespace Go.Proofs.YtcfjmagkinpaeaaGreat
open Go.RowKit Go.Deep Go.Maps
theorem Zfr (a b:Int):wrap64 (wrap64 a+b)=wrap64 (a+b):=by unfold wrap64;omega
theorem Zg6 (a b:Int):wrap64 (wrap64 a+wrap64 b)=wrap64 (a+b):=by unfold wrap64;omega
abbrev Tri:=Zy_×Zy_×Int
def Zq2 (T:List Tri):Prop:=∀ p ∈ T,p.1.size≤maxLen∧p.2.1.size≤maxLen
def Zkd (T:List Tri) (a b:Zy_):Int:=(T.map fun p=>if (p.1=a∧p.2.1=b) then p.2.2 else 0).sum
theorem ZgD (A B:List Tri) (a b:Zy_):Zkd (A ++ B) a b=Zkd A a b+Zkd B a b:=by simp [Zkd]
theorem Zk5 (p:Tri) (a b:Zy_):Zkd [p] a b=if (p.1=a∧p.2.1=b) then p.2.2 else 0:=by simp [Zkd]
structure Ze8 {H:Type} (T:List Tri) (D:DataW H):Prop where
 isMap:IsMap D
 sums:∀ a b:Zy_,a.size≤maxLen→b.size≤maxLen→D.atKey (Ze4 a b) (.lit (.int .i64 0))=.lit (.int .i64 (wrap64 (Zkd T a b)))
 has:∀ p ∈ T,Maps.has D (Ze4 p.1 p.2.1)=true
theorem ZgC (a b:Zy_):WideAt.IsKeyLit (Ze4 a b):=trivial
theorem Ze8.start {H:Type}:Ze8 [] (.map []:DataW H):=⟨⟨[],rfl⟩,fun a b _ _=>by simp [Zkd,wrap64];rfl,fun p hp=>by cases hp⟩
theorem ZqK {a b a' b':Zy_} (ha:a.size≤maxLen) (hb:b.size≤maxLen) (ha':a'.size≤maxLen) (hb':b'.size≤maxLen) (h:¬ (a=a'∧b=b')):Ze4 a b≠Ze4 a' b':=fun e=>h (Zgi.inj ZkX ha hb ha' hb' e)
theorem Ze8.step {H:Type} {T:List Tri} {D:DataW H} (h:Ze8 T D) {t r:Zy_} (ht:t.size≤maxLen) (hr:r.size≤maxLen) {c:Int} (hat:D.atKey (Ze4 t r) (.lit (.int .i64 0))=.lit (.int .i64 c)) (n:Int) :
 Ze8 (T ++ [(t,r,n)]) (D.put (Ze4 t r) (.lit (.int .i64 (wrap64 (c+n))))):=by
 have hc:=hat.symm.trans (h.sums t r ht hr);injection hc with hc
 injection hc with _ hc
 refine⟨h.isMap.put _ _,fun a b ha hb=>?_,fun p hp=>?_⟩
 · by_cases e:t=a∧r=b
   · obtain⟨rfl,rfl⟩:=e
     rw [atKey_put_same h.isMap (ZgC _ _),ZgD,Zk5,if_pos ⟨rfl,rfl⟩,hc,Zfr]
   · rw [atKey_put_other (ZqK ha hb ht hr (fun e'=>e ⟨e'.1.symm,e'.2.symm⟩)),h.sums a b ha hb,ZgD,Zk5,if_neg e,Int.add_zero]
 · by_cases e:Ze4 p.1 p.2.1=Ze4 t r
   · rw [e]
     exact has_put_same h.isMap (ZgC _ _) _
   · rw [has_put_other e]
     rcases List.mem_append.1 hp with hp | hp
     · exact h.has p hp
     · simp at hp
       subst hp;exact absurd rfl e
def Zg2 (Ts:List Tm) (team r:Zy_) (p:Tri):Int:=if (p.2.1.toList == r.toList&&ZaA Ts p.1 team)=true then p.2.2 else 0
def ZjZ (Ts:List Tm) (team r:Zy_) (T:List Tri) (left:Lit→Bool):Int:=(T.map fun p=>if left (Ze4 p.1 p.2.1)=true then 0 else Zg2 Ts team r p).sum
theorem ZmO {H:Type} {T:List Tri} {D:DataW H} (h:Ze8 T D) (Ts:List Tm) (team r:Zy_):ZjZ Ts team r T (Maps.has D)=0:=by
 have:∀ L:List Tri,(∀ p ∈ L,Maps.has D (Ze4 p.1 p.2.1)=true)→ZjZ Ts team r L (Maps.has D)=0:=by
  intro L
  induction L with
  | nil=>intro _;rfl
  | cons p L ih=>
   intro hL;have h1:=hL p (List.mem_cons_self ..);have h2:=ih (fun q hq=>hL q (List.mem_cons_of_mem _ hq));unfold ZjZ at h2 ⊢;rw [List.map_cons,List.sum_cons,h2,if_pos h1]
   rfl
 exact this T h.has
theorem Zqy {left:Lit→Bool} (h:∀ kl,left kl=false) (Ts:List Tm) (team r:Zy_) (T:List Tri):ZjZ Ts team r T left=(T.map (Zg2 Ts team r)).sum:=by
 unfold ZjZ;simp [h]
theorem ZjJ (Ts:List Tm) (team r:Zy_) {left:Lit→Bool} {a b:Zy_} (ha:a.size≤maxLen) (hb:b.size≤maxLen) (hl:left (Ze4 a b)=true):∀ (T:List Tri),Zq2 T→
 ZjZ Ts team r T (fun z=>left z&&!z.sameKey (Ze4 a b))=ZjZ Ts team r T left+(if (b.toList == r.toList&&ZaA Ts a team)=true then Zkd T a b else 0)
 | [],_=>by simp [ZjZ,Zkd]
 | p :: T,hT=>by
  have ih:=ZjJ Ts team r ha hb hl T (fun q hq=>hT q (List.mem_cons_of_mem _ hq));obtain⟨s1,s2⟩:=hT p (List.mem_cons_self ..);unfold ZjZ Zkd at ih ⊢;simp only [List.map_cons,List.sum_cons];rw [ih]
  by_cases e:p.1=a∧p.2.1=b
  · obtain⟨e1,e2⟩:=e
    have hs:(Ze4 a b).sameKey (Ze4 a b)=true:=by unfold Ze4;simp [Lit.sameKey]
    unfold Zg2;simp only [hs,hl,Bool.not_true,Bool.and_false,Bool.false_eq_true,if_false,if_true,e1,e2,eq_self,and_self]
    cases hc:(b.toList == r.toList&&ZaA Ts a team)
    · simp only [Bool.false_eq_true,if_false];omega
    · simp only [if_true];omega
  · have hs:(Ze4 p.1 p.2.1).sameKey (Ze4 a b)=false:=sameKey_ne (ZqK s1 s2 ha hb e)
    simp only [hs,Bool.not_false,Bool.and_true,if_neg e]
    cases hc:(b.toList == r.toList&&ZaA Ts a team)
    · simp only [Bool.false_eq_true,if_false];omega
    · simp only [if_true];omega
def Zcl (Ss:List Sh) (Os:List Ob):List Tri:=Os.flatMap fun o=>(Zem Ss o.kd o.vs).map fun p=>(o.tm,p.1,p.2)
theorem ZmU (Ss:List Sh) (A:List Ob) (o:Ob):Zcl Ss (A ++ [o])=Zcl Ss A ++ (Zem Ss o.kd o.vs).map fun p=>(o.tm,p.1,p.2):=by simp [Zcl]
def Zdi (Ss:List Sh) (Ts:List Tm) (Os:List Ob) (team r:Zy_):Int:=(Os.map fun o=>if ZaA Ts o.tm team=true then ZdJ Ss o.kd o.vs r else 0).sum
theorem ZmL (Ts:List Tm) (team r t:Zy_) (L:List (Zy_×Int)):((L.map fun p=>((t,p.1,p.2):Tri)).map (Zg2 Ts team r)).sum=if ZaA Ts t team=true then Zmo r L else 0:=by
 induction L with
 | nil=>simp [Zmo]
 | cons p L ih=>
  rw [List.map_cons,List.map_cons,List.sum_cons,ih];unfold Zmo Zg2;rw [List.map_cons,List.sum_cons]
  cases h1:ZaA Ts t team <;> cases h2:(p.1.toList == r.toList) <;> simp
theorem ZmN (Ss:List Sh) (Ts:List Tm) (team r:Zy_) (Os:List Ob):((Zcl Ss Os).map (Zg2 Ts team r)).sum=Zdi Ss Ts Os team r:=by
 induction Os with
 | nil=>rfl
 | cons o Os ih=>
  have e:Zcl Ss (o :: Os)=((Zem Ss o.kd o.vs).map fun p=>(o.tm,p.1,p.2)) ++ Zcl Ss Os:=by simp [Zcl]
  rw [e,List.map_append,List.sum_append,ih,ZmL,Zmr]
  rfl
theorem ZmM (Ss:List Sh) (Ts:List Tm) (A:List Ob) (o:Ob) (team r:Zy_):Zdi Ss Ts (A ++ [o]) team r=Zdi Ss Ts A team r+(if ZaA Ts o.tm team=true then ZdJ Ss o.kd o.vs r else 0):=by simp [Zdi]
theorem Zo2 (Ss:List Sh) (kind:Zy_) (V:List Zy_):(Zem Ss kind V).length≤V.length+1:=by
 unfold Zem
 split
 · split
   · rename_i x _ _
     have:=ZfB x.fields V V.length;have h1:(Zds kind).length≤1:=by unfold Zds;split <;> simp
     rw [List.length_append];omega
   · simp
 · simp
theorem ZjW (Ss:List Sh):∀ Os:List Ob,(∀ o ∈ Os,o.vs.length≤1048576)→(Zcl Ss Os).length≤Os.length*1048577
 | [],_=>by simp [Zcl]
 | o :: Os,h=>by
  have ih:=ZjW Ss Os (fun q hq=>h q (List.mem_cons_of_mem _ hq));have h1:=h o (List.mem_cons_self ..);have h2:=Zo2 Ss o.kd o.vs;have e:Zcl Ss (o :: Os)=((Zem Ss o.kd o.vs).map fun p=>(o.tm,p.1,p.2)) ++ Zcl Ss Os:=by simp [Zcl]
  rw [e,List.length_append,List.length_map,List.length_cons]
  omega
end Go.Proofs.YtcfjmagkinpaeaaGreat
namespace Go.Proofs.YtcfjmagkinpaeaaGreat
open Go.RowKit Go.Deep Go.Shelf
theorem ZdM {F:Fence} {n:Nat} {P:Program} {md:Region.Mode} {ops:Array Oper} {Q:Exit→Act→World→Prop} (l:Nat) (hnd:∀ (i:Nat) (o:Oper),ops[i]?=some o→∀ c,o.op≠.defer c) :
 ∀ (fuel:Nat) (listed:Array Bool) (a:Act) (w:World),wpAnyIn F n P md ops Q fuel listed a w→wpAnyIn (F.inRound l) n P md ops Q fuel listed a w
 | 0,_,_,_,h=>h
 | fuel+1,listed,a,w,⟨h0,h1⟩=>⟨h0,fun i hi=>by
  have h2:=h1 i hi;unfold wpOpIn at h2 ⊢
  split
  · rename_i e
    rw [e] at h2;exact ZdM l hnd fuel _ _ _ h2
  · rename_i o e
    rw [e] at h2;simp only at h2
    split
    · rename_i hw
      rw [if_pos hw] at h2;have h3:=Oper.wpIn_mono (fun a w h=>ZdM l hnd fuel _ a w h) h2;obtain⟨g1,g2⟩:=h3;refine⟨g1,?_⟩;rw [Oper.semAt_plain _ _ _ (hnd i o e)] at g2 ⊢;exact g2
    · rename_i hw
      rw [if_neg hw] at h2;exact⟨h2.1,ZdM l hnd fuel _ _ _ h2.2⟩⟩
theorem Zjx {F:Fence} {n:Nat} {P:Program} {id l:Nat} {ops:Array Oper} {Q:Exit→Act→World→Prop} {a:Act} {w:World} (hm:P.follows .mixedOrders=true) (hnd:ops.all (fun o=>match o.op with | .defer _=>false | _=>true)=true)
 (h:wpAnyIn F n P .any ops Q ops.size (Array.replicate ops.size false) a w.drew):(Code.region id ops true).wpIn (F.inRound l) n P Q a w:=by
 refine wpIn_region_any hm (ZdM l (fun i o e c hc=>?_) _ _ _ _ h);have:=Array.all_eq_true_iff_forall_mem.1 hnd o (Array.mem_of_getElem? e);rw [hc] at this
 cases this
end Go.Proofs.YtcfjmagkinpaeaaGreat
