import Derived.Test.YtdeammfdkaomlaaGreatM39
import Derived.Test.YtdeammfdkaomlaaGreatM44
open Go.Proofs.Tryz
namespace Go.Proofs.YtdeammfdkaomlaaGreat
open Go.RowKit Go.Deep
section
variable {L:List Ra} {x n:Int} {r:List Int}
theorem ZjU {L:List Int}:Asc L↔L.Pairwise (· < ·):=by
 rw [List.pairwise_iff_getElem];exact⟨fun h i j hi hj hij=>h i j hi hj hij,fun h a b ha hb hab=>h a b ha hb hab⟩
theorem ZhF:Zi2 L↔L.Pairwise (fun x y=>x.ix < y.ix):=by
 rw [List.pairwise_iff_getElem];exact⟨fun h i j hi hj hij=>h i j hi hj hij,fun h a b ha hb hab=>h a b ha hb hab⟩
theorem ZhD (h:x < n):ZbD (x :: r) n=x :: ZbD r n:=by
 have e:ZdK (x :: r) n=ZdK r n+1:=by unfold ZdK;rw [List.takeWhile_cons,if_pos (by simpa using h)];rfl
 unfold ZbD;rw [e,List.getElem?_cons_succ]
 split <;> simp
theorem ZhC (h:¬ x < n):ZbD (x :: r) n=if x=n then x :: r else n :: x :: r:=by
 have e:ZdK (x :: r) n=0:=by unfold ZdK;rw [List.takeWhile_cons,if_neg (by simpa using h)];rfl
 unfold ZbD;rw [e];simp
theorem Zgv:∀ {L:List Int} {y:Int},y ∈ ZbD L n->y=n\/y ∈ L
 | [],y,h=>by
  have e:ZbD [] n=[n]:=by unfold ZbD ZdK;simp
  rw [e] at h;exact .inl (by simpa using h)
 | x :: r,y,h=>by
  by_cases hx:x < n
  . rw [ZhD hx,List.mem_cons] at h
    rcases h with rfl | h
    . exact .inr (List.mem_cons_self ..)
    . exact (Zgv h).imp id (List.mem_cons_of_mem _)
  . rw [ZhC hx] at h
    split at h
    . exact .inr h
    . rw [List.mem_cons] at h
      exact h
theorem Zgu:∀ {L:List Int},L.Pairwise (· < ·)->(ZbD L n).Pairwise (· < ·)
 | [],_=>by
  have e:ZbD [] n=[n]:=by unfold ZbD ZdK;simp
  rw [e];simp
 | x :: r,h=>by
  obtain⟨h1,h2⟩:=List.pairwise_cons.1 h
  by_cases hx:x < n
  . rw [ZhD hx,List.pairwise_cons]
    refine⟨fun y hy=>?_,Zgu h2⟩
    rcases Zgv hy with rfl | hy
    . exact hx
    . exact h1 y hy
  . rw [ZhC hx]
    split
    . exact h
    . rw [List.pairwise_cons]
      refine⟨fun y hy=>?_,h⟩
      rcases List.mem_cons.1 hy with rfl | hy
      . omega
      . have:=h1 y hy
        omega
theorem Zh4 {x:Ra}{r:List Ra} (h:x.ix < n):Zcg (x :: r) n=x :: Zcg r n:=by
 have e:Zch (x :: r) n=Zch r n+1:=by unfold Zch;rw [List.takeWhile_cons,if_pos (by simpa using h)];rfl
 unfold Zcg;rw [e,List.getElem?_cons_succ]
 split <;> simp
theorem Zh3 {x:Ra}{r:List Ra} (h:¬ x.ix < n):Zcg (x :: r) n=if x.ix=n then x :: r else ⟨n,[]⟩ :: x :: r:=by
 have e:Zch (x :: r) n=0:=by unfold Zch;rw [List.takeWhile_cons,if_neg (by simpa using h)];rfl
 unfold Zcg;rw [e];simp
theorem ZgJ:∀ {L:List Ra} {y:Ra},y ∈ Zcg L n->y=⟨n,[]⟩\/y ∈ L
 | [],y,h=>by
  have e:Zcg [] n=[⟨n,[]⟩]:=by unfold Zcg Zch;simp
  rw [e] at h;exact .inl (by simpa using h)
 | x :: r,y,h=>by
  by_cases hx:x.ix < n
  . rw [Zh4 hx,List.mem_cons] at h
    rcases h with rfl | h
    . exact .inr (List.mem_cons_self ..)
    . exact (ZgJ h).imp id (List.mem_cons_of_mem _)
  . rw [Zh3 hx] at h
    split at h
    . exact .inr h
    . rw [List.mem_cons] at h
      exact h
theorem ZgH:∀ {L:List Ra},L.Pairwise (fun x y=>x.ix < y.ix)->(Zcg L n).Pairwise (fun x y=>x.ix < y.ix)
 | [],_=>by
  have e:Zcg [] n=[⟨n,[]⟩]:=by unfold Zcg Zch;simp
  rw [e];simp
 | x :: r,h=>by
  obtain⟨h1,h2⟩:=List.pairwise_cons.1 h
  by_cases hx:x.ix < n
  . rw [Zh4 hx,List.pairwise_cons]
    refine⟨fun y hy=>?_,ZgH h2⟩
    rcases ZgJ hy with rfl | hy
    . exact hx
    . exact h1 y hy
  . rw [Zh3 hx]
    split
    . exact h
    . rw [List.pairwise_cons]
      refine⟨fun y hy=>?_,h⟩
      rcases List.mem_cons.1 hy with rfl | hy
      . show n < y.ix
        omega
      . have:=h1 y hy
        show n < y.ix
        omega
theorem Zja {k:Nat} (h:Zi2 L):Zi2 (Zd1 L k n):=by
 unfold Zd1
 cases hk:L[k]? with
 | none=>exact h
 | some a=>
  obtain⟨hkl,rfl⟩:=List.getElem?_eq_some_iff.1 hk
  have e:∀ i (hi:i < L.length) (hi':i < (L.set k { L[k] with fr:=ZbD L[k].fr n }).length),(L.set k { L[k] with fr:=ZbD L[k].fr n })[i].ix=L[i].ix:=fun i hi hi'=>by
   rw [List.getElem_set]
   split
   . rename_i e;subst e;rfl
   . rfl
  intro x y hx hy hxy;rw [e x (by simpa using hx) hx,e y (by simpa using hy) hy];exact h x y _ _ hxy
structure Zc3 (c:Nat) (U:Rr):Prop where
 k0:0<=U.dk.kn
 k1:U.dk.kn<=1000
 al:U.ac.length<=c
 ai:∀ a ∈ U.ac,1<=a.ix/\a.ix<=1000/\a.fr.length<=c/\Asc a.fr
 sc:Zi2 U.ac
theorem ZhA {c:Nat}{U:Rr}{ix:Int} (h:Zc3 c U) (h1:1<=ix) (h2:ix<=1000) :
 Zc3 (c+1) (ZcR U ix n)/\∃ k A,ZcR U ix n={ U with dk:={ U.dk with kn:=k },ac:=A }:=by
 obtain⟨A,hA⟩:∃ A,A=Zd1 (Zcg U.ac ix) (Zch U.ac ix) n:=⟨_,rfl⟩
 have hl:A.length<=c+1:=by rw [hA,Zc7];have:=ZgI U.ac ix;have:=h.al;omega
 have hi:∀ a ∈ A,1<=a.ix/\a.ix<=1000/\a.fr.length<=c+1/\Asc a.fr:=by
  rw [hA];refine Zc6 (P:=fun a=>1<=a.ix/\a.ix<=1000/\a.fr.length<=c/\Asc a.fr) (ZgG h.ai ⟨h1,h2,Nat.zero_le _,fun a b ha=>absurd ha (Nat.not_lt_zero _)⟩) (fun a p=>⟨p.1,p.2.1,by omega,p.2.2.2⟩) (fun a p=>⟨p.1,p.2.1,?_,ZjU.2 (Zgu (ZjU.1 p.2.2.2))⟩);have:=ZbU a.fr n;have:=p.2.2.1
  show (ZbD a.fr n).length<=c+1
  omega
 have hs:Zi2 A:=by rw [hA];exact Zja (ZhF.2 (ZgH (ZhF.1 h.sc)))
 have hv:Zhx { U with ac:=A } (ZcR U ix n):=by
  unfold ZcR;rw [<- hA,<- ZeT];exact ZfO (U:={ U with ac:=A }) h.k0 h.k1 (fun i hi'=>⟨(hi _ (List.getElem_mem hi')).1,(hi _ (List.getElem_mem hi')).2.1⟩) _ Zl_
 refine⟨⟨hv.k0,hv.k1,?_,?_,?_⟩,(ZcR U ix n).dk.kn,A,hv.e⟩
 . rw [hv.e];exact hl
 . rw [hv.e];exact hi
 . rw [hv.e];exact hs
end
theorem ZbK {c:Nat} {U:Rr} (h:Zc3 c U):∀ k,k<=1000->Zc3 (c+k) (ZbW U k)/\∃ kn A,ZbW U k={ U with dk:={ U.dk with kn:=kn },ac:=A }
 | 0,_=>⟨h,U.dk.kn,U.ac,rfl⟩
 | k+1,hk=>by
  obtain⟨h1,kn,A,h2⟩:=ZbK h k (by omega);rw [ZcG];have hw:Zc3 (c+(k+1)) (ZbW U k):=⟨h1.k0,h1.k1,by have:=h1.al;omega,fun a ha=>by obtain⟨p,q,r,s⟩:=h1.ai a ha;exact⟨p,q,by omega,s⟩,h1.sc⟩;unfold ack1
  split
  . rename_i s hs
    split
    . obtain⟨h3,kn',A',h4⟩:=ZhA (ix:=(k:Int)+1) (n:=(ZbW U k).nu) h1 (by omega) (by omega)
      exact⟨h3,kn',A',by rw [h4,h2]⟩
    . exact⟨hw,kn,A,h2⟩
  . exact⟨hw,kn,A,h2⟩
theorem ZjK (L:List Rs) (s:Rs):ZgQ L (L.length+1) s=L ++ [s]:=by
 unfold ZgQ;rw [show L.length+1 - L.length=1 by omega,show L.length+1 - 1=L.length by omega];simp
theorem Zcb {U:Rr} (h:U.dk.sl.length<=120):∀ k,k<=U.wi.length->∃ T,ZeQ U k={ U with dk:={ U.dk with sl:=U.dk.sl ++ T } }/\(U.dk.sl ++ T).length<=120/\∀ s ∈ T,s.ba=U.ba/\s.tx ∈ U.wi
 | 0,_=>⟨[],by rw [List.append_nil];rfl,by rw [List.append_nil];exact h,fun s hs=>by cases hs⟩
 | k+1,hk=>by
  obtain⟨T,h1,h2,h3⟩:=Zcb h k (by omega);rw [Zer U (by omega)];unfold wsh1
  split
  . rename_i hc
    rw [h1] at hc |-;dsimp only at hc |-;simp only [Bool.and_eq_true,decide_eq_true_eq] at hc;refine⟨T ++ [⟨U.ba,U.wi[k]⟩],?_,?_,fun s hs=>?_⟩
    . unfold ZdA
      dsimp only;rw [ZjK,List.append_assoc]
    . have:=hc.2
      simp only [List.length_append,List.length_cons,List.length_nil] at this |-
      omega
    . rcases List.mem_append.1 hs with hs | hs
      . exact h3 s hs
      . rw [List.mem_singleton] at hs
        subst hs;exact⟨rfl,List.getElem_mem _⟩
  . exact⟨T,h1,h2,h3⟩
theorem ZhX {L:List Rs} {tx:Zy_} (h:∀ x ∈ L,0 < x.ba\/x.tx.toList=[]) (ht:tx.toList≠[]):Zdd L tx=Zhw L tx:=by
 unfold Zdd Zhw;rw [Bool.eq_iff_iff,List.any_eq_true,List.any_eq_true]
 constructor
 . rintro⟨x,hx,hq⟩
   rw [Bool.and_eq_true] at hq;exact⟨x,hx,hq.2⟩
 . rintro⟨x,hx,hq⟩
   refine⟨x,hx,?_⟩;rw [Bool.and_eq_true];refine⟨?_,hq⟩
   rcases h x hx with h | h
   . exact decide_eq_true h
   . rw [beq_iff_eq] at hq
     exact absurd (hq ▸ h) ht
end Go.Proofs.YtdeammfdkaomlaaGreat
