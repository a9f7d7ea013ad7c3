import Derived.Test.YtbdhbihhgfpnnaaGreatV46
import Derived.Test.YtbdhbihhgfpnnaaGreatV48
open Go.Proofs.Tryz
namespace Go.Proofs.YtbdhbihhgfpnnaaGreat
open Go.RowKit Go.Deep
variable {T:Sb} {Ss:List Sh} {Ms:List Md} {Ts:List Tm} {B:Bk} {x:Sh}
theorem ZoF {X:Type}{f:X->Zy_}{L:List X} (nx:∀ j (hj:j+1 < L.length),Op.bytesLess (f L[j]).toList (f L[j+1]).toList=true):L.Pairwise fun x y=>Op.bytesLess (f x).toList (f y).toList=true:=by
 have lt:∀ i d (hj:i+d+1 < L.length),Op.bytesLess (f (L[i]'(by omega))).toList (f L[i+d+1]).toList=true:=fun i d=>by
  induction d with
  | zero=>exact fun hj=>nx i hj
  | succ d ih=>exact fun hj=>Zdp (ih (by omega)) (nx (i+d+1) hj)
 rw [List.pairwise_iff_getElem];intro i j hi hj hij;obtain⟨d,rfl⟩:∃ d,j=i+d+1:=⟨j - i - 1,by omega⟩
 exact lt i d hj
theorem ZpO (h:ZaW T=true):upS T.ss:=by
 unfold ZaW at h;simp only [Bool.and_eq_true] at h;have hr:ZcK rSv T.ss=true:=h.2.2.2.2.1.2;refine ZoF (f:=Sv.nm) fun j hj=>?_
 have:=Zel (k:=j+1) hj hr
 rwa [ZdJ hj] at this
theorem Zgx {FF:Nat->List Zy_} (hS:Ss=[x]) (h:ZcP Ss Ms Ts B FF=true) (i:Nat) (hi:i < B.os.length):B.os[i].kd=x.kind/\B.os[i].vs.length=x.fields.length:=by
 unfold ZcP Zds Zav at h;simp only [Bool.and_eq_true] at h;have ha:=Zel (k:=i) hi h.2.2.1.2.2;rw [Ziy hi] at ha
 cases hs:Zci Ss B.os[i].kd with
 | none=>rw [Zfq hs] at ha;cases ha
 | some y=>
  rw [Zfr hs] at ha;unfold Zci at hs;have hm:=List.mem_of_find?_eq_some hs;rw [hS] at hm;have hy:y=x:=by simpa using hm
  have hp:=List.find?_some (p:=fun z:Sh=>z.kind.toList == B.os[i].kd.toList) hs;subst hy;simp only [Bool.and_eq_true] at ha;have h0:=ha.1;unfold Zcb at h0;simp only [Bool.and_eq_true,decide_eq_true_eq] at h0;exact⟨(ZaI.1 hp).symm,Zee h0.1⟩
theorem Zqd {FF:Nat->List Zy_} (hS:Ss=[x]) (h:ZcP Ss Ms Ts B FF=true):upO B.os:=by
 have hr:Zdl Zfy B.os=true:=by
  unfold ZcP Zds Zav at h;simp only [Bool.and_eq_true] at h;exact h.2.2.1.2.1
 refine ZoF (f:=Ob.nm) fun j hj=>?_
 have:=Zel hj hr;rw [Zdk hj] at this;have hc:=of_decide_eq_true this;unfold Zfy Zes orI at hc;rw [(Zgx hS h j (by omega)).1,(Zgx hS h (j+1) hj).1,Zi4,if_pos rfl] at hc;exact ZdB.1 hc
def okB (U:Ho) (B:Bk) (T:Sb) (FF:Nat->List Zy_):Bool:=Zbs U&&(ZcP [ZcB] [Za6] U.tm B FF&&(ZaW T&&Zb6 B.os T.ss))
theorem ZrB {FF:Nat->List Zy_} (h:ZcP [ZcB] Ms Ts B FF=true) (hv:ZaW T=true):Zb6 B.os T.ss=ZcL B.os T.ss:=by
 refine Zg2 B.os T.ss (Zqd rfl h) (ZpO hv) fun o ho=>?_
 obtain⟨i,hi,rfl⟩:=List.getElem_of_mem ho;exact (Zgx rfl h i hi).2
end Go.Proofs.YtbdhbihhgfpnnaaGreat
