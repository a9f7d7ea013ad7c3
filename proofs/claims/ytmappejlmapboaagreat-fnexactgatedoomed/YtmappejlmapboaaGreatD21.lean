import Derived.Test.YtmappejlmapboaaGreatD20
set_option maxHeartbeats 16000000
set_option maxRecDepth 100000
open Go.Proofs.Tryz
namespace Go.Proofs.YtmappejlmapboaaGreat
open Go.RowKit Go.Deep
section
variable {i:Nat} {L A B:List Bool}
section
variable (n:Nat) (So Ho:Nat->Bool) (E:Nat->Nat->Bool)
def Stays (i:Nat):Prop:=∀ P:Nat->Prop,(∀ i,i < n->(So i=false\/Ho i=true)->P i)->(∀ k i,P k->i < n->E k i=true->P i)->P i
variable {n So Ho E}
theorem Stays.base (i:Nat) (hi:i < n) (h:So i=false\/Ho i=true):Stays n So Ho E i:=fun _ b _=>b i hi h
theorem Stays.step (k i:Nat) (hk:Stays n So Ho E k) (hi:i < n) (h:E k i=true):Stays n So Ho E i:=fun P b s=>s k i (hk P b s) hi h
theorem Stays.lt (h:Stays n So Ho E i):i < n:=h (· < n) (fun _ hi _=>hi) fun _ _ _ hi _=>hi
variable (n So Ho E)
def Zfu (L:List Bool) (i:Nat):Bool:=(List.range n).any fun k=>!(L[k]?.getD false)&&E k i
def Zdj (L:List Bool) (i:Nat):List Bool:=if L[i]?.getD false&&(Ho i || Zfu n E L i) then L.set i false else L
def Zbv (L:List Bool):Nat->List Bool
 | 0=>L
 | i+1=>Zdj n Ho E (Zbv L i) i
def passes (L:List Bool):Nat->List Bool
 | 0=>L
 | m+1=>Zbv n Ho E (passes L m) n
def ZbG:List Bool:=passes n Ho E ((List.range n).map So) (n+1)
variable {n So Ho E}
theorem Zgy (L:List Bool) (i:Nat):(Zdj n Ho E L i).length=L.length:=by
 unfold Zdj
 split <;> simp
theorem ZgH (L:List Bool):∀ i,(Zbv n Ho E L i).length=L.length
 | 0=>rfl
 | i+1=>by unfold Zbv;rw [Zgy,ZgH L i]
theorem ZgI (L:List Bool):∀ m,(passes n Ho E L m).length=L.length
 | 0=>rfl
 | m+1=>by unfold passes;rw [ZgH,ZgI L m]
theorem ZkK:(ZbG n So Ho E).length=n:=by unfold ZbG;rw [ZgI];simp
def Zbx (n:Nat) (So Ho:Nat->Bool) (E:Nat->Nat->Bool) (L:List Bool):Prop:=L.length=n/\∀ i,i < n->L[i]?.getD false=false->Stays n So Ho E i
theorem ZjP {j:Nat}:(L.set i false)[j]?.getD false=if j=i then false else L[j]?.getD false:=by
 rw [List.getElem?_set]
 by_cases h:i=j
 . subst h
   simp
   by_cases h2:i < L.length <;> simp [h2]
 . rw [if_neg h,if_neg (fun e=>h e.symm)]
theorem Zi0:Zfu n E L i=true↔∃ k,k < n/\L[k]?.getD false=false/\E k i=true:=by
 unfold Zfu;rw [List.any_eq_true]
 constructor
 . rintro⟨k,hk,h⟩
   rw [Bool.and_eq_true,Bool.not_eq_true'] at h;exact⟨k,List.mem_range.1 hk,h.1,h.2⟩
 . rintro⟨k,hk,h1,h2⟩
   exact⟨k,List.mem_range.2 hk,by rw [h1,h2];rfl⟩
theorem Zbx.drop (h:Zbx n So Ho E L) {i:Nat} (hi:i < n):Zbx n So Ho E (Zdj n Ho E L i):=by
 refine⟨by rw [Zgy];exact h.1,fun j hj hf=>?_⟩;unfold Zdj at hf
 split at hf
 . rename_i hc
   rw [ZjP] at hf
   by_cases e:j=i
   . subst e
     rw [Bool.and_eq_true,Bool.or_eq_true] at hc
     rcases hc.2 with h1 | h1
     . exact .base j hj (Or.inr h1)
     . obtain⟨k,hk,hkf,he⟩:=Zi0.1 h1
       exact .step k j (h.2 k hk hkf) hj he
   . rw [if_neg e] at hf
     exact h.2 j hj hf
 . exact h.2 j hj hf
theorem Zbx.pass (h:Zbx n So Ho E L):∀ i,i<=n->Zbx n So Ho E (Zbv n Ho E L i)
 | 0,_=>h
 | i+1,hi=>(Zbx.pass h i (by omega)).drop (by omega)
theorem Zbx.passes (h:Zbx n So Ho E L):∀ m,Zbx n So Ho E (passes n Ho E L m)
 | 0=>h
 | m+1=>(Zbx.passes h m).pass n Zl_
theorem Zbx.start:Zbx n So Ho E ((List.range n).map So):=
 ⟨by simp,fun i hi hf=>.base i hi (Or.inl (by simpa [hi] using hf))⟩
def Zca (L L':List Bool):Prop:=L.length=L'.length/\∀ i:Nat,L[i]?.getD false=true->L'[i]?.getD false=true
theorem Zca.refl (L:List Bool):Zca L L:=⟨rfl,fun _ h=>h⟩
theorem Zca.trans {C:List Bool} (h:Zca A B) (h':Zca B C):Zca A C:=⟨h.1.trans h'.1,fun i hi=>h'.2 i (h.2 i hi)⟩
theorem Zil (L:List Bool) (i:Nat):Zca (Zdj n Ho E L i) L:=by
 refine⟨Zgy L i,fun j hj=>?_⟩;unfold Zdj at hj
 split at hj
 . rw [ZjP] at hj
   split at hj
   . cases hj
   . exact hj
 . exact hj
theorem Zep (L:List Bool):∀ i,Zca (Zbv n Ho E L i) L
 | 0=>Zca.refl L
 | i+1=>(Zil _ i).trans (Zep L i)
theorem Zgl (L:List Bool):∀ m,Zca (passes n Ho E L m) L
 | 0=>Zca.refl L
 | m+1=>(Zep _ n).trans (Zgl L m)
def ZrG (n:Nat) (Ho:Nat->Bool) (E:Nat->Nat->Bool) (L:List Bool):Prop:=∀ i,i < n->(L[i]?.getD false&&(Ho i || Zfu n E L i))=false
theorem Za2 (h:Zca A B):A.count true<=B.count true/\(A.count true=B.count true->A=B):=by
 obtain⟨hl,hw⟩:=h
 induction A generalizing B with
 | nil=>
  cases B with
  | nil=>exact⟨Nat.le_refl _,fun _=>rfl⟩
  | cons b B=>cases hl
 | cons a A ih=>
  cases B with
  | nil=>cases hl
  | cons b B=>
   have hl':A.length=B.length:=by simpa using hl
   obtain⟨h1,h2⟩:=ih hl' fun i hi=>by simpa using hw (i+1) (by simpa using hi)
   have h0:a=true->b=true:=fun e=>by simpa using hw 0 (by simpa using e)
   rw [List.count_cons,List.count_cons]
   cases a <;> cases b <;> simp at h0 |-
   . exact⟨h1,h2⟩
   . exact⟨by omega,fun e=>by omega⟩
   . exact⟨h1,h2⟩
theorem ZqS (h:Zbv n Ho E L n=L):ZrG n Ho E L:=by
 have step:∀ i,i<=n->Zbv n Ho E L i=L:=fun i hi=>by
  have go:∀ d,d<=n->Zbv n Ho E L (n - d)=L:=fun d=>by
   induction d with
   | zero=>intro _;exact h
   | succ d ih=>
    intro hd;have h1:=ih (by omega);have h2:n - d=(n - (d+1))+1:=by omega
    rw [h2] at h1
    have w1:Zca L (Zbv n Ho E L (n - (d+1))):=by
     have:=Zil (n:=n) (Ho:=Ho) (E:=E) (Zbv n Ho E L (n - (d+1))) (n - (d+1));have e:Zdj n Ho E (Zbv n Ho E L (n - (d+1))) (n - (d+1))=L:=h1;rw [e] at this;exact this
    have w2:=Zep (n:=n) (Ho:=Ho) (E:=E) L (n - (d+1));exact (Za2 w2).2 (Nat.le_antisymm (Za2 w2).1 (Za2 w1).1)
  have:=go (n - i) (by omega)
  rwa [show n - (n - i)=i by omega] at this
 intro i hi;have h1:=step i (by omega);have h2:=step (i+1) (by omega);unfold Zbv at h2;rw [h1] at h2;unfold Zdj at h2
 split at h2
 . rename_i hc
   rw [Bool.and_eq_true] at hc;have:(L.set i false)[i]?.getD false=false:=by rw [ZjP,if_pos rfl]
   rw [h2,hc.1] at this
   cases this
 . rename_i hc
   simpa using hc
theorem Zjm (h:ZrG n Ho E L):∀ i,i<=n->Zbv n Ho E L i=L
 | 0,_=>rfl
 | i+1,hi=>by
  unfold Zbv;rw [Zjm h i (by omega)];unfold Zdj;rw [h i (by omega)]
  rfl
theorem Zg9 (L:List Bool) (hl:L.length=n):∀ m,ZrG n Ho E (passes n Ho E L m)\/(passes n Ho E L m).count true+m<=n
 | 0=>Or.inr (by have:=List.count_le_length (a:=true) (l:=L);simp [passes];omega)
 | m+1=>by
  rcases Zg9 L hl m with h | h
  . left
    unfold passes;rw [Zjm h n Zl_];exact h
  . by_cases e:Zbv n Ho E (passes n Ho E L m) n=passes n Ho E L m
    . left
      unfold passes;rw [e];exact ZqS e
    . right
      have w:=Zep (n:=n) (Ho:=Ho) (E:=E) (passes n Ho E L m) n;have h1:=(Za2 w).1;have h2:(Zbv n Ho E (passes n Ho E L m) n).count true≠(passes n Ho E L m).count true:=fun e'=>e ((Za2 w).2 e')
      unfold passes
      omega
theorem Ziu:ZrG n Ho E (ZbG n So Ho E):=by
 rcases Zg9 (n:=n) (Ho:=Ho) (E:=E) ((List.range n).map So) (by simp) (n+1) with h | h
 . exact h
 . omega
theorem ZkJ (hi:i < n):(ZbG n So Ho E)[i]?.getD false=true↔¬ Stays n So Ho E i:=by
 have hout:Zbx n So Ho E (ZbG n So Ho E):=Zbx.start.passes (n+1);have hin:Zca (ZbG n So Ho E) ((List.range n).map So):=Zgl _ (n+1);have hst:=Ziu (n:=n) (So:=So) (Ho:=Ho) (E:=E)
 have no:∀ j:Nat,Stays n So Ho E j->j < n/\(ZbG n So Ho E)[j]?.getD false=false:=fun j h=>by
  refine h (fun j=>j < n/\(ZbG n So Ho E)[j]?.getD false=false) (fun j hj h=>⟨hj,?_⟩) fun k j ih hj he=>⟨hj,?_⟩
  .
   rcases h with h | h
   . cases hg:(ZbG n So Ho E)[j]?.getD false with
     | false=>rfl
     | true=>
      have:=hin.2 j hg;simp [hj,h] at this
   . have:=hst j hj
     rw [h] at this
     simpa using this
  .
   have:=hst j hj;have hkb:Zfu n E (ZbG n So Ho E) j=true:=Zi0.2 ⟨k,ih.1,ih.2,he⟩;rw [hkb] at this
   simpa using this
 constructor
 . intro h hs
   rw [(no i hs).2] at h
   cases h
 . intro h
   cases hg:(ZbG n So Ho E)[i]?.getD false with
   | true=>rfl
   | false=>exact (h (hout.2 i hi hg)).elim
end
end
def ZpP (a b:Int):Int:=if a < b then -1 else if b < a then 1 else 0
theorem ZrL {a b:Int}:ZpP a b < 0↔a < b:=by unfold ZpP;split <;> (try split) <;> omega
theorem Zj3 (a:Int) (w:World):Calls prog 274 #[.int .i64 a] w fun e w'=>e=.returned (.bool false)/\w'=w:=by
 go_enter func274,ntmps274;go_wp2;go_ret;exact⟨rfl,rfl⟩
theorem ZnB (a b:Int) (w:World) :
 Calls prog 244 #[.int .i64 a,.int .i64 b] w fun e w'=>e=.returned (.int .i64 (ZpP a b))/\w'=w:=by
 by_cases h1:a < b
 . have HE:Hd (ZpP a b= -1):=if_pos h1
   go_enter func244,ntmps244;go_wp2_with (go_at_call 274;refine (Zj3 _ _).mono ?_;rintro e w' ⟨rfl,rfl⟩);go_ret;exact⟨ZaE HE.o.symm,rfl⟩
 . by_cases h2:b < a
   . have HE:Hd (ZpP a b=1):=by unfold Hd ZpP;rw [if_neg h1,if_pos h2]
     go_enter func244,ntmps244;go_wp2_with (go_at_call 274;refine (Zj3 _ _).mono ?_;rintro e w' ⟨rfl,rfl⟩);go_ret;exact⟨ZaE HE.o.symm,rfl⟩
   . have HE:Hd (ZpP a b=0):=by unfold Hd ZpP;rw [if_neg h1,if_neg h2]
     go_enter func244,ntmps244;go_wp2_with (go_at_call 274;refine (Zj3 _ _).mono ?_;rintro e w' ⟨rfl,rfl⟩);go_ret;exact⟨ZaE HE.o.symm,rfl⟩
theorem ZnA (x y:Gr) (va:Option Addr) (vn vc:Nat) (va':Option Addr) (vn' vc':Nat) (w:World) :
 Calls prog 215 #[.agg #[.int .i64 x.nu,.string x.tw,.string x.gb,.slice va vn vc,.string x.kd,.string x.tm,.string x.pf],.agg #[.int .i64 y.nu,.string y.tw,.string y.gb,.slice va' vn' vc',.string y.kd,.string y.tm,.string y.pf]] w fun e w'=>e=.returned (.int .i64 (ZpP x.nu y.nu))/\Zw_ w w':=by
 go_enter func215,ntmps215;go_wp2_with (go_at_call 244;refine (ZnB _ _ _).mono ?_;rintro e w' ⟨rfl,rfl⟩);go_ret;exact⟨rfl,(Zb_.alloc Zl_ _).alloc (by simp) _⟩
theorem ZaR (n lo hi:Int) (w:World) :
 Calls prog 209 #[.int .i64 n,.int .i64 lo,.int .i64 hi] w fun e w'=>e=.returned (.bool (inB lo hi n))/\w'=w:=by
 rw [Zg0]
 by_cases h:lo<=n
 . by_cases h2:n<=hi
   . go_enter func209,ntmps209
     go_wp2;go_ret;exact⟨by rw [decide_eq_true h,decide_eq_true h2];rfl,rfl⟩
   . go_enter func209,ntmps209
     go_wp2;go_ret;exact⟨by simp [h2],rfl⟩
 . go_enter func209,ntmps209
   go_wp2;go_ret;exact⟨by rw [decide_eq_false (show ¬ lo<=n by omega)];rfl,rfl⟩
def ZcP {X:Type} (c:X->X->Int) (L:List X):Nat->Bool
 | 0=>true
 | j+1=>match L[j]?,L[j+1]? with
  | some x,some y=>decide (c x y < 0)
  | _,_=>true
def ZdN {X:Type} (c:X->X->Int) (L:List X):Bool:=(List.range L.length).all (ZcP c L)
theorem Zek {X:Type}{c:X->X->Int}{L:List X}{j:Nat} (h:j+1 < L.length):ZcP c L (j+1)=decide (c L[j] L[j+1] < 0):=by
 show (match L[j]?,L[j+1]? with | some x,some y=>decide (c x y < 0) | _,_=>true)=_
 rw [List.getElem?_eq_getElem (by omega),List.getElem?_eq_getElem h]
def Zgv (x y:Ob):Int:=Zfs x.kd x.nm y.kd y.nm
def Zhm (x y:Gr):Int:=ZpP x.nu y.nu
def Zdt (x y:Le):Int:=Zfs x.tm x.re y.tm y.re
def ZhA (x y:Pu):Int:=Znz x.dr x.tm x.re y.dr y.tm y.re
theorem Znx (lo:Nat) (v:Value) (Xl:List Ob) (w:World) (hv:Za3 lo w v Xl) :
 Calls prog 210 #[v,.func (.func 211) #[] #[]] w fun e w'=>e=.returned (.bool (ZdN Zgv Xl))/\Zw_ w w':=by
 have HV:=Zab hv;have hm:=hv.max;unfold maxLen at hm;obtain⟨a,cap,rfl⟩:=hv.form;clear hv;go_enter func210,ntmps210;go_wp2
 go_loopw [5] (fun i wr=>∃ m:Nat,i=.int .i64 m/\1<=m/\(m<=Xl.length\/m=1)/\Zw_ w wr/\∀ j,j < m->ZcP Zgv Xl j=true) (fun i _=>Xl.length+1 - (intOf i).toNat)
 case atStart=>exact⟨1,rfl,Nat.le_refl _,Or.inr rfl,Below.refl _ _,fun j hj=>by rw [show j=0 by omega];rfl⟩
 case round=>
  obtain⟨m,rfl,hm1,hk,hb,hall⟩:=hrel;have HB:=Zab hb;have HA:=Zab hall;clear hb hall
  by_cases hlt:m < Xl.length
  . obtain⟨k,hkm⟩:∃ k,m=k+1:=⟨m - 1,by omega⟩
    have hlt0:k < Xl.length:=by omega
    obtain⟨b,off,rfl,hbw,-,hc⟩:=HV.o.full' (by omega);obtain⟨hs,vv0,vv1,hcell,hv0,hv1⟩:=hc k hlt0;obtain⟨ht,vv0',vv1',hdell,hw0,hw1⟩:=hc m hlt;obtain⟨va0,vc0,rfl⟩:=hv0.at.form';obtain⟨va1,vc1,rfl⟩:=hv1.at.form';obtain⟨vb0,vd0,rfl⟩:=hw0.at.form';obtain⟨vb1,vd1,rfl⟩:=hw1.at.form';obtain⟨c0,c1,c2,c3,c4,c5,c6⟩:=hcell.below HB.o hbw;obtain⟨d0,d1,d2,d3,d4,d5,d6⟩:=hdell.below HB.o hbw
    have HS:Hd (ZcP Zgv Xl m=decide (Zgv Xl[k] Xl[m] < 0)):=by
     subst hkm;exact Zek hlt
    have e2:IntKind.i64.wrap ((m:Int) - 1)=k:=by rw [IntWalk.i64_left];unfold wrap64;omega
    have HKM:=Zab hkm;clear hc hcell hdell hs ht hkm hk hv0 hw0 hv1 hw1;go_wp2
    go_region_with (go_at_call 211;refine (ZlH Xl[k] Xl[m] _ _ _ _ _ _ _ _ _ _ _ _ _).mono ?_;rintro e w1 ⟨rfl,hb1⟩;have hB:Hd (Zw_ w w1):=(HB.o.drew).trans (hb1.mono HB.o.size);clear hb1)
    all_goals by_cases hq:0<=Zfs Xl[k].kd Xl[k].nm Xl[m].kd Xl[m].nm
    all_goals first
     | (have HN:Hd (ZdN Zgv Xl=false):=ZaZ hlt (HS.o.trans (decide_eq_false (by unfold Zgv;omega)))
        go_wp2;go_ret;exact⟨Zaa HN.o.symm,hB.o⟩)
     | (have HT:Hd (ZcP Zgv Xl m=true):=HS.o.trans (decide_eq_true (by unfold Zgv;omega))
        go_wp2;go_roundw
        case rel=>exact⟨m+1,by go_num,by omega,by omega,hB.o,fun j hj=>by
                   by_cases e:j=m
                   . rw [e];exact HT.o
                   . exact HA.o j (by omega)⟩
        . simp [intOf];omega)
  . have HT:Hd (ZdN Zgv Xl=true):=Za1 (fun i hi=>HA.o i (by omega))
    go_wp2;go_ret;exact⟨Zaa HT.o.symm,HB.o⟩
theorem Znv (lo:Nat) (v:Value) (Xl:List Gr) (w:World) (hv:ZbX lo w v Xl) :
 Calls prog 214 #[v,.func (.func 215) #[] #[]] w fun e w'=>e=.returned (.bool (ZdN Zhm Xl))/\Zw_ w w':=by
 have HV:=Zab hv;have hm:=hv.max;unfold maxLen at hm;obtain⟨a,cap,rfl⟩:=hv.form;clear hv;go_enter func214,ntmps214;go_wp2
 go_loopw [5] (fun i wr=>∃ m:Nat,i=.int .i64 m/\1<=m/\(m<=Xl.length\/m=1)/\Zw_ w wr/\∀ j,j < m->ZcP Zhm Xl j=true) (fun i _=>Xl.length+1 - (intOf i).toNat)
 case atStart=>exact⟨1,rfl,Nat.le_refl _,Or.inr rfl,Below.refl _ _,fun j hj=>by rw [show j=0 by omega];rfl⟩
 case round=>
  obtain⟨m,rfl,hm1,hk,hb,hall⟩:=hrel;have HB:=Zab hb;have HA:=Zab hall;clear hb hall
  by_cases hlt:m < Xl.length
  . obtain⟨k,hkm⟩:∃ k,m=k+1:=⟨m - 1,by omega⟩
    have hlt0:k < Xl.length:=by omega
    obtain⟨b,off,rfl,hbw,-,hc⟩:=HV.o.full' (by omega);obtain⟨hs,vv0,hcell,hv0⟩:=hc k hlt0;obtain⟨ht,vv0',hdell,hw0⟩:=hc m hlt;obtain⟨va0,vc0,rfl⟩:=hv0.form;obtain⟨vb0,vd0,rfl⟩:=hw0.form;obtain⟨c0,c1,c2,c3,c4,c5,c6⟩:=hcell.below HB.o hbw;obtain⟨d0,d1,d2,d3,d4,d5,d6⟩:=hdell.below HB.o hbw
    have HS:Hd (ZcP Zhm Xl m=decide (Zhm Xl[k] Xl[m] < 0)):=by
     subst hkm;exact Zek hlt
    have e2:IntKind.i64.wrap ((m:Int) - 1)=k:=by rw [IntWalk.i64_left];unfold wrap64;omega
    have HKM:=Zab hkm;clear hc hcell hdell hs ht hkm hk hv0 hw0;go_wp2
    go_region_with (go_at_call 215;refine (ZnA Xl[k] Xl[m] _ _ _ _ _ _ _).mono ?_;rintro e w1 ⟨rfl,hb1⟩;have hB:Hd (Zw_ w w1):=(HB.o.drew).trans (hb1.mono HB.o.size);clear hb1)
    all_goals by_cases hq:0<=ZpP Xl[k].nu Xl[m].nu
    all_goals first
     | (have HN:Hd (ZdN Zhm Xl=false):=ZaZ hlt (HS.o.trans (decide_eq_false (by unfold Zhm;omega)))
        go_wp2;go_ret;exact⟨Zaa HN.o.symm,hB.o⟩)
     | (have HT:Hd (ZcP Zhm Xl m=true):=HS.o.trans (decide_eq_true (by unfold Zhm;omega))
        go_wp2;go_roundw
        case rel=>exact⟨m+1,by go_num,by omega,by omega,hB.o,fun j hj=>by
                   by_cases e:j=m
                   . rw [e];exact HT.o
                   . exact HA.o j (by omega)⟩
        . simp [intOf];omega)
  . have HT:Hd (ZdN Zhm Xl=true):=Za1 (fun i hi=>HA.o i (by omega))
    go_wp2;go_ret;exact⟨Zaa HT.o.symm,HB.o⟩
theorem Znw (lo:Nat) (v:Value) (Xl:List Le) (w:World) (hv:ZbJ lo w v Xl) :
 Calls prog 218 #[v,.func (.func 219) #[] #[]] w fun e w'=>e=.returned (.bool (ZdN Zdt Xl))/\Zw_ w w':=by
 have HV:=Zab hv;have hm:=hv.max;unfold maxLen at hm;obtain⟨a,cap,rfl⟩:=hv.form;clear hv;go_enter func218,ntmps218;go_wp2
 go_loopw [5] (fun i wr=>∃ m:Nat,i=.int .i64 m/\1<=m/\(m<=Xl.length\/m=1)/\Zw_ w wr/\∀ j,j < m->ZcP Zdt Xl j=true) (fun i _=>Xl.length+1 - (intOf i).toNat)
 case atStart=>exact⟨1,rfl,Nat.le_refl _,Or.inr rfl,Below.refl _ _,fun j hj=>by rw [show j=0 by omega];rfl⟩
 case round=>
  obtain⟨m,rfl,hm1,hk,hb,hall⟩:=hrel;have HB:=Zab hb;have HA:=Zab hall;clear hb hall
  by_cases hlt:m < Xl.length
  . obtain⟨k,hkm⟩:∃ k,m=k+1:=⟨m - 1,by omega⟩
    have hlt0:k < Xl.length:=by omega
    obtain⟨b,off,rfl,hbw,-,hc⟩:=HV.o.full' (by omega);obtain⟨hs,hcell⟩:=hc k hlt0;obtain⟨ht,hdell⟩:=hc m hlt;obtain⟨c0,c1,c2,c3⟩:=hcell.below HB.o hbw;obtain⟨d0,d1,d2,d3⟩:=hdell.below HB.o hbw
    have HS:Hd (ZcP Zdt Xl m=decide (Zdt Xl[k] Xl[m] < 0)):=by
     subst hkm;exact Zek hlt
    have e2:IntKind.i64.wrap ((m:Int) - 1)=k:=by rw [IntWalk.i64_left];unfold wrap64;omega
    have HKM:=Zab hkm;clear hc hcell hdell hs ht hkm hk;go_wp2
    go_region_with (go_at_call 219;refine (Zgw Xl[k] Xl[m] _).mono ?_;rintro e w1 ⟨rfl,hb1⟩;have hB:Hd (Zw_ w w1):=(HB.o.drew).trans (hb1.mono HB.o.size);clear hb1)
    all_goals by_cases hq:0<=Zfs Xl[k].tm Xl[k].re Xl[m].tm Xl[m].re
    all_goals first
     | (have HN:Hd (ZdN Zdt Xl=false):=ZaZ hlt (HS.o.trans (decide_eq_false (by unfold Zdt;omega)))
        go_wp2;go_ret;exact⟨Zaa HN.o.symm,hB.o⟩)
     | (have HT:Hd (ZcP Zdt Xl m=true):=HS.o.trans (decide_eq_true (by unfold Zdt;omega))
        go_wp2;go_roundw
        case rel=>exact⟨m+1,by go_num,by omega,by omega,hB.o,fun j hj=>by
                   by_cases e:j=m
                   . rw [e];exact HT.o
                   . exact HA.o j (by omega)⟩
        . simp [intOf];omega)
  . have HT:Hd (ZdN Zdt Xl=true):=Za1 (fun i hi=>HA.o i (by omega))
    go_wp2;go_ret;exact⟨Zaa HT.o.symm,HB.o⟩
theorem Zny (lo:Nat) (v:Value) (Xl:List Pu) (w:World) (hv:Zb9 lo w v Xl) :
 Calls prog 220 #[v,.func (.func 221) #[] #[]] w fun e w'=>e=.returned (.bool (ZdN ZhA Xl))/\Zw_ w w':=by
 have HV:=Zab hv;have hm:=hv.max;unfold maxLen at hm;obtain⟨a,cap,rfl⟩:=hv.form;clear hv;go_enter func220,ntmps220;go_wp2
 go_loopw [5] (fun i wr=>∃ m:Nat,i=.int .i64 m/\1<=m/\(m<=Xl.length\/m=1)/\Zw_ w wr/\∀ j,j < m->ZcP ZhA Xl j=true) (fun i _=>Xl.length+1 - (intOf i).toNat)
 case atStart=>exact⟨1,rfl,Nat.le_refl _,Or.inr rfl,Below.refl _ _,fun j hj=>by rw [show j=0 by omega];rfl⟩
 case round=>
  obtain⟨m,rfl,hm1,hk,hb,hall⟩:=hrel;have HB:=Zab hb;have HA:=Zab hall;clear hb hall
  by_cases hlt:m < Xl.length
  . obtain⟨k,hkm⟩:∃ k,m=k+1:=⟨m - 1,by omega⟩
    have hlt0:k < Xl.length:=by omega
    obtain⟨b,off,rfl,hbw,-,hc⟩:=HV.o.full' (by omega);obtain⟨hs,hcell⟩:=hc k hlt0;obtain⟨ht,hdell⟩:=hc m hlt;obtain⟨c0,c1,c2,c3,c4⟩:=hcell.below HB.o hbw;obtain⟨d0,d1,d2,d3,d4⟩:=hdell.below HB.o hbw
    have HS:Hd (ZcP ZhA Xl m=decide (ZhA Xl[k] Xl[m] < 0)):=by
     subst hkm;exact Zek hlt
    have e2:IntKind.i64.wrap ((m:Int) - 1)=k:=by rw [IntWalk.i64_left];unfold wrap64;omega
    have HKM:=Zab hkm;clear hc hcell hdell hs ht hkm hk;go_wp2
    go_region_with (go_at_call 221;refine (ZnC Xl[k] Xl[m] _).mono ?_;rintro e w1 ⟨rfl,hb1⟩;have hB:Hd (Zw_ w w1):=(HB.o.drew).trans (hb1.mono HB.o.size);clear hb1)
    all_goals by_cases hq:0<=Znz Xl[k].dr Xl[k].tm Xl[k].re Xl[m].dr Xl[m].tm Xl[m].re
    all_goals first
     | (have HN:Hd (ZdN ZhA Xl=false):=ZaZ hlt (HS.o.trans (decide_eq_false (by unfold ZhA;omega)))
        go_wp2;go_ret;exact⟨Zaa HN.o.symm,hB.o⟩)
     | (have HT:Hd (ZcP ZhA Xl m=true):=HS.o.trans (decide_eq_true (by unfold ZhA;omega))
        go_wp2;go_roundw
        case rel=>exact⟨m+1,by go_num,by omega,by omega,hB.o,fun j hj=>by
                   by_cases e:j=m
                   . rw [e];exact HT.o
                   . exact HA.o j (by omega)⟩
        . simp [intOf];omega)
  . have HT:Hd (ZdN ZhA Xl=true):=Za1 (fun i hi=>HA.o i (by omega))
    go_wp2;go_ret;exact⟨Zaa HT.o.symm,HB.o⟩
section
variable {b o c0 c1 lo hi off n lo' hi':Nat} {w w' v wr v':World} {x y:Gr} {Xl:List Gr} {vv0:Value}
def Zgo (b o c0 c1:Nat) (w:World) (x:Gr):Prop:=ZeE x/\∃ (vv0:Value),c0<=c1/\ZcS w b o x vv0/\Zav c0 c1 w vv0 x.vb
theorem Zgo.near {o1 d0 d1:Nat} (h:Zgo b o c0 c1 w x) (hn:ZbV b o1 7 d0 d1 w w') (ho:o+7<=o1\/o1+7<=o) (hi:c1<=d0\/d1<=c0) (hb:b < c0\/c1<=b):Zgo b o c0 c1 w' x:=by
 obtain⟨hs,vv0,q0,hc,l0⟩:=h;obtain⟨h0,h1,h2,h3,h4,h5,h6⟩:=hc;have e:∀ t,t < 7->w'.cell? ⟨b,o+t,none⟩=w.cell? ⟨b,o+t,none⟩:=fun t ht=>hn.cell _ (by omega)
 have e0:w'.cell? ⟨b,o,none⟩=w.cell? ⟨b,o,none⟩:=hn.cell _ (by omega);exact⟨hs,vv0,q0,⟨e0.trans h0,(e 1 (by omega)).trans h1,(e 2 (by omega)).trans h2,(e 3 (by omega)).trans h3,(e 4 (by omega)).trans h4,(e 5 (by omega)).trans h5,(e 6 (by omega)).trans h6⟩,l0.near hn (by omega) (by omega)⟩
theorem Zgo.touch (h:Zgo b o c0 c1 w x) (ht:Zag lo hi w w') (hlt:b < w.heap.size) (hb:b < lo\/hi<=b) (hi':c1<=lo\/hi<=c0):Zgo b o c0 c1 w' x:=by
 obtain⟨hs,vv0,q0,hc,l0⟩:=h;obtain⟨h0,h1,h2,h3,h4,h5,h6⟩:=hc;exact⟨hs,vv0,q0,⟨(ht.cell (p:=⟨b,o,none⟩) hlt hb).trans h0,(ht.cell (p:=⟨b,o+1,none⟩) hlt hb).trans h1,(ht.cell (p:=⟨b,o+2,none⟩) hlt hb).trans h2,(ht.cell (p:=⟨b,o+3,none⟩) hlt hb).trans h3,(ht.cell (p:=⟨b,o+4,none⟩) hlt hb).trans h4,(ht.cell (p:=⟨b,o+5,none⟩) hlt hb).trans h5,(ht.cell (p:=⟨b,o+6,none⟩) hlt hb).trans h6⟩,l0.touch ht (by omega)⟩
theorem Zgo.below (h:Zgo b o c0 c1 w x) (ht:Zw_ w w') (hlt:b < w.heap.size):Zgo b o c0 c1 w' x:=by
 obtain⟨hs,vv0,q0,hc,l0⟩:=h;obtain⟨h0,h1,h2,h3,h4,h5,h6⟩:=hc;exact⟨hs,vv0,q0,⟨(ht.cell (p:=⟨b,o,none⟩) hlt).trans h0,(ht.cell (p:=⟨b,o+1,none⟩) hlt).trans h1,(ht.cell (p:=⟨b,o+2,none⟩) hlt).trans h2,(ht.cell (p:=⟨b,o+3,none⟩) hlt).trans h3,(ht.cell (p:=⟨b,o+4,none⟩) hlt).trans h4,(ht.cell (p:=⟨b,o+5,none⟩) hlt).trans h5,(ht.cell (p:=⟨b,o+6,none⟩) hlt).trans h6⟩,l0.below ht⟩
structure ZfT (lo hi:Nat) (w:World) (b off n:Nat) (c:Nat->Nat×Nat) (X:Nat->Gr):Prop where
 lt:b < w.heap.size
 low:lo<=b
 bh:b < hi
 seg:∀ i,i < n->lo<=(c i).1/\(c i).2<=hi/\(b < (c i).1\/(c i).2<=b)
 mono:∀ i j,i < j->j < n->(c i).2<=(c j).1
 frz:∀ i,w.frozen? ⟨b,i,none⟩=false
 row:∀ i,i < n->Zgo b (off+i*7) (c i).1 (c i).2 w (X i)
theorem ZfT.near {c:Nat->Nat×Nat}{X:Nat->Gr} (h:ZfT lo hi w b off n c X) {j:Nat} (hj:j < n) (hn:ZbV b (off+j*7) 7 (c j).1 (c j).2 w w') {x:Gr} (hx:Zgo b (off+j*7) (c j).1 (c j).2 w' x):ZfT lo hi w' b off n c (fun i=>if i=j then x else X i):=by
 refine⟨Zk_ h.lt hn.size,h.low,h.bh,h.seg,h.mono,fun i=>(hn.frz i).trans (h.frz i),fun i hi'=>?_⟩
 by_cases e:i=j
 . subst e;rw [if_pos rfl];exact hx
 . rw [if_neg e]
   refine (h.row i hi').near hn (by omega) ?_ (h.seg i hi').2.2
   rcases Nat.lt_or_ge i j with hij | hij
   . exact Or.inl (h.mono i j hij hj)
   . exact Or.inr (h.mono j i (by omega) hi')
theorem ZfT.touch {c:Nat->Nat×Nat}{X:Nat->Gr} (h:ZfT lo hi w b off n c X) (ht:Zag lo' hi' w w') (ho:hi<=lo'\/hi'<=lo):ZfT lo hi w' b off n c X:=by
 have h1:=h.low;have h2:=h.bh;refine⟨Zk_ h.lt ht.size,h.low,h.bh,h.seg,h.mono,fun i=>(ht.frozen (p:=⟨b,i,none⟩) h.lt (by simp only [];omega)).trans (h.frz i),fun i hi'=>?_⟩;have h5:=h.seg i hi';exact (h.row i hi').touch ht h.lt (by omega) (by omega)
theorem ZfT.below {c:Nat->Nat×Nat}{X:Nat->Gr} (h:ZfT lo hi w b off n c X) (ht:Zw_ w w'):ZfT lo hi w' b off n c X:=
 ⟨Zk_ h.lt ht.size,h.low,h.bh,h.seg,h.mono,fun i=>(ht.frozen (p:=⟨b,i,none⟩) h.lt).trans (h.frz i),fun i hi'=>(h.row i hi').below ht h.lt⟩
theorem ZfT.to {c:Nat->Nat×Nat}{X Y:Nat->Gr} (h:ZfT lo hi w b off n c X) (e:∀ i,i < n->X i=Y i):ZfT lo hi w b off n c Y:=
 ⟨h.lt,h.low,h.bh,h.seg,h.mono,h.frz,fun i hi'=>e i hi' ▸ h.row i hi'⟩
def Zb8 (lo hi:Nat) (w:World) (v:Value) (Xl:List Gr):Prop:=
 (∃ (a:Option Addr) (cap:Nat),v=.slice a 0 cap/\Xl=[])\/
 ∃ (b off cap:Nat) (c:Nat->Nat×Nat) (X:Nat->Gr),v=.slice (some ⟨b,off,none⟩) Xl.length cap/\Xl≠[]/\Xl.length<=maxLen/\Xl.length<=cap/\(∀ i (h:i < Xl.length),X i=Xl[i])/\ZfT lo hi w b off Xl.length c X
theorem Zb8.touch {v:Value} (h:Zb8 lo hi w v Xl) (ht:Zag lo' hi' w w') (ho:hi<=lo'\/hi'<=lo):Zb8 lo hi w' v Xl:=by
 rcases h with h | ⟨b,off,cap,c,X,h1,h2,h3,h4,h5,h6⟩
 . exact Or.inl h
 . exact Or.inr ⟨b,off,cap,c,X,h1,h2,h3,h4,h5,h6.touch ht ho⟩
theorem Zb8.below {v:Value} (h:Zb8 lo hi w v Xl) (ht:Zw_ w w'):Zb8 lo hi w' v Xl:=by
 rcases h with h | ⟨b,off,cap,c,X,h1,h2,h3,h4,h5,h6⟩
 . exact Or.inl h
 . exact Or.inr ⟨b,off,cap,c,X,h1,h2,h3,h4,h5,h6.below ht⟩
theorem Zb8.form {v:Value} (h:Zb8 lo hi w v Xl):∃ a cap,v=.slice a Xl.length cap:=by
 rcases h with ⟨a,cap,h,rfl⟩ | ⟨b,off,cap,c,X,h1,_⟩
 . exact⟨a,cap,h⟩
 . exact⟨_,cap,h1⟩
theorem Zb8.at {v:Value} (h:Zb8 lo hi w v Xl):ZbX lo w v Xl:=by
 rcases h with h | ⟨b,off,cap,c,X,h1,h2,h3,h4,h5,h6⟩
 . exact Or.inl h
 . refine Or.inr ⟨b,off,cap,h1,h2,h3,h6.lt,h6.low,h4,fun i hi'=>?_⟩
   have hr:=h6.row i hi';have g0:=h6.seg i hi';rw [h5 i hi'] at hr;obtain⟨hs,vv0,q0,hc,l0⟩:=hr;exact⟨hs,vv0,hc,(l0.in').mono (by omega)⟩
def ZtA (k:Int) (x:Gr):Gr:=⟨k,mtB (k+1),mtB (k+1+1),Zev (k+1+1+1) x.vb.length,mtB (k+1+1+1+x.vb.length),mtB (k+1+1+1+x.vb.length+1),mtB (k+1+1+1+x.vb.length+1+1)⟩
def Zt5 (x:Gr):Nat:=6+x.vb.length
def Zd2 (Xl:List Gr) (i:Nat):Nat:=((Xl.take i).map Zt5).sum
def Zoz (k:Int) (Xl:List Gr):List Gr:=Xl.mapIdx (fun i x=>ZtA (k+(Zd2 Xl i:Int)) x)
theorem ZdU (k:Int) (Xl:List Gr):(Zoz k Xl).length=Xl.length:=by unfold Zoz;simp
theorem Zqw (k:Int) (Xl:List Gr) (i:Nat) (h:i < (Zoz k Xl).length) (h':i < Xl.length):(Zoz k Xl)[i]=ZtA (k+(Zd2 Xl i:Int)) Xl[i]:=List.getElem_mapIdx (f:=fun i x=>ZtA (k+(Zd2 Xl i:Int)) x) (h:=h)
theorem Zjf {i:Nat} (h:i < Xl.length):Zd2 Xl (i+1)=Zd2 Xl i+Zt5 Xl[i]:=by
 unfold Zd2;rw [List.take_succ_eq_append_getElem h,List.map_append,List.sum_append];simp
theorem Zna (hn:Ze3 Xl):∀ {i:Nat},i<=Xl.length->Zd2 Xl i<=i*3000000:=by
 intro i
 induction i with
 | zero=>intro _;simp [Zd2]
 | succ i ih=>
  intro hi';have h1:=ih (by omega);rw [Zjf (by omega)]
  have h2:Zt5 Xl[i]<=3000000:=by
   have hsm:=hn.2 i (by omega);unfold ZeF at hsm;unfold Zt5
   omega
  omega
structure Zfo (wr:World) (b o c0 c1:Nat) (vv0:Value) (v:World) (y:Gr):Prop where
 near:ZbV b o 7 c0 c1 wr v
 bc:b < c0\/c1<=b
 q0:c0<=c1
 cells:ZcS v b o y vv0
 l0:Zav c0 c1 v vv0 y.vb
 frz:∀ i,v.frozen? ⟨b,i,none⟩=false
 lt:b < v.heap.size
theorem Zfo.below (h:Zfo wr b o c0 c1 vv0 v y) (hb:Below v.heap.size v v'):Zfo wr b o c0 c1 vv0 v' y:=
 ⟨h.near.trans (ZbV.below hb h.lt),h.bc,h.q0,h.cells.below hb h.lt,h.l0.below hb,fun i=>(hb.frozen (p:=⟨b,i,none⟩) h.lt).trans (h.frz i),Zk_ h.lt hb.size⟩
theorem Zfo.s0 (h:Zfo wr b o c0 c1 vv0 v y) (u:Int):Zfo wr b o c0 c1 vv0 (v.setCell ⟨b,o,none⟩ (.int .i64 u)) { y with nu:=u }:=by
 obtain⟨h0,h1,h2,h3,h4,h5,h6⟩:=h.cells;have ht:Zag b (b+1) v (v.setCell ⟨b,o,none⟩ (.int .i64 u)):=Zag.setCell _ _ _ _ _ ⟨Nat.le_refl _,by simp only [];omega⟩;have hbc:=h.bc;have hq0:=h.q0;exact⟨h.near.trans (ZbV.set _ _ _ _ _ _ _ _ (by omega) (by omega)),h.bc,h.q0,⟨World.cell?_setCell_same' _ _ _ (by rw [h0];rfl),(cne (by omega)).trans h1,(cne (by omega)).trans h2,(cne (by omega)).trans h3,(cne (by omega)).trans h4,(cne (by omega)).trans h5,(cne (by omega)).trans h6⟩,h.l0.touch ht (by omega),fun i=>by rw [World.frozen?_setCell];exact h.frz i,by simpa [World.setCell] using h.lt⟩
theorem Zfo.s1 (h:Zfo wr b o c0 c1 vv0 v y) (u:Zy_):Zfo wr b o c0 c1 vv0 (v.setCell ⟨b,o+1,none⟩ (.string u)) { y with tw:=u }:=by
 obtain⟨h0,h1,h2,h3,h4,h5,h6⟩:=h.cells;have ht:Zag b (b+1) v (v.setCell ⟨b,o+1,none⟩ (.string u)):=Zag.setCell _ _ _ _ _ ⟨Nat.le_refl _,by simp only [];omega⟩;have hbc:=h.bc;have hq0:=h.q0;exact⟨h.near.trans (ZbV.set _ _ _ _ _ _ _ _ (by omega) (by omega)),h.bc,h.q0,⟨(cne (by omega)).trans h0,World.cell?_setCell_same' _ _ _ (by rw [h1];rfl),(cne (by omega)).trans h2,(cne (by omega)).trans h3,(cne (by omega)).trans h4,(cne (by omega)).trans h5,(cne (by omega)).trans h6⟩,h.l0.touch ht (by omega),fun i=>by rw [World.frozen?_setCell];exact h.frz i,by simpa [World.setCell] using h.lt⟩
theorem Zfo.s2 (h:Zfo wr b o c0 c1 vv0 v y) (u:Zy_):Zfo wr b o c0 c1 vv0 (v.setCell ⟨b,o+2,none⟩ (.string u)) { y with gb:=u }:=by
 obtain⟨h0,h1,h2,h3,h4,h5,h6⟩:=h.cells;have ht:Zag b (b+1) v (v.setCell ⟨b,o+2,none⟩ (.string u)):=Zag.setCell _ _ _ _ _ ⟨Nat.le_refl _,by simp only [];omega⟩;have hbc:=h.bc;have hq0:=h.q0;exact⟨h.near.trans (ZbV.set _ _ _ _ _ _ _ _ (by omega) (by omega)),h.bc,h.q0,⟨(cne (by omega)).trans h0,(cne (by omega)).trans h1,World.cell?_setCell_same' _ _ _ (by rw [h2];rfl),(cne (by omega)).trans h3,(cne (by omega)).trans h4,(cne (by omega)).trans h5,(cne (by omega)).trans h6⟩,h.l0.touch ht (by omega),fun i=>by rw [World.frozen?_setCell];exact h.frz i,by simpa [World.setCell] using h.lt⟩
theorem Zfo.s4 (h:Zfo wr b o c0 c1 vv0 v y) (u:Zy_):Zfo wr b o c0 c1 vv0 (v.setCell ⟨b,o+4,none⟩ (.string u)) { y with kd:=u }:=by
 obtain⟨h0,h1,h2,h3,h4,h5,h6⟩:=h.cells;have ht:Zag b (b+1) v (v.setCell ⟨b,o+4,none⟩ (.string u)):=Zag.setCell _ _ _ _ _ ⟨Nat.le_refl _,by simp only [];omega⟩;have hbc:=h.bc;have hq0:=h.q0;exact⟨h.near.trans (ZbV.set _ _ _ _ _ _ _ _ (by omega) (by omega)),h.bc,h.q0,⟨(cne (by omega)).trans h0,(cne (by omega)).trans h1,(cne (by omega)).trans h2,(cne (by omega)).trans h3,World.cell?_setCell_same' _ _ _ (by rw [h4];rfl),(cne (by omega)).trans h5,(cne (by omega)).trans h6⟩,h.l0.touch ht (by omega),fun i=>by rw [World.frozen?_setCell];exact h.frz i,by simpa [World.setCell] using h.lt⟩
theorem Zfo.s5 (h:Zfo wr b o c0 c1 vv0 v y) (u:Zy_):Zfo wr b o c0 c1 vv0 (v.setCell ⟨b,o+5,none⟩ (.string u)) { y with tm:=u }:=by
 obtain⟨h0,h1,h2,h3,h4,h5,h6⟩:=h.cells;have ht:Zag b (b+1) v (v.setCell ⟨b,o+5,none⟩ (.string u)):=Zag.setCell _ _ _ _ _ ⟨Nat.le_refl _,by simp only [];omega⟩;have hbc:=h.bc;have hq0:=h.q0;exact⟨h.near.trans (ZbV.set _ _ _ _ _ _ _ _ (by omega) (by omega)),h.bc,h.q0,⟨(cne (by omega)).trans h0,(cne (by omega)).trans h1,(cne (by omega)).trans h2,(cne (by omega)).trans h3,(cne (by omega)).trans h4,World.cell?_setCell_same' _ _ _ (by rw [h5];rfl),(cne (by omega)).trans h6⟩,h.l0.touch ht (by omega),fun i=>by rw [World.frozen?_setCell];exact h.frz i,by simpa [World.setCell] using h.lt⟩
theorem Zfo.s6 (h:Zfo wr b o c0 c1 vv0 v y) (u:Zy_):Zfo wr b o c0 c1 vv0 (v.setCell ⟨b,o+6,none⟩ (.string u)) { y with pf:=u }:=by
 obtain⟨h0,h1,h2,h3,h4,h5,h6⟩:=h.cells;have ht:Zag b (b+1) v (v.setCell ⟨b,o+6,none⟩ (.string u)):=Zag.setCell _ _ _ _ _ ⟨Nat.le_refl _,by simp only [];omega⟩;have hbc:=h.bc;have hq0:=h.q0;exact⟨h.near.trans (ZbV.set _ _ _ _ _ _ _ _ (by omega) (by omega)),h.bc,h.q0,⟨(cne (by omega)).trans h0,(cne (by omega)).trans h1,(cne (by omega)).trans h2,(cne (by omega)).trans h3,(cne (by omega)).trans h4,(cne (by omega)).trans h5,World.cell?_setCell_same' _ _ _ (by rw [h6];rfl)⟩,h.l0.touch ht (by omega),fun i=>by rw [World.frozen?_setCell];exact h.frz i,by simpa [World.setCell] using h.lt⟩
theorem Zfo.m0' (h:Zfo wr b o c0 c1 vv0 v y) (ht:Zag c0 c1 v v') {L:List Int} (hl:Zav c0 c1 v' vv0 L):Zfo wr b o c0 c1 vv0 v' { y with vb:=L }:=by
 obtain⟨h0,h1,h2,h3,h4,h5,h6⟩:=h.cells;have hbc:=h.bc;have hq0:=h.q0;have hlt:=h.lt;have e:∀ i,v'.cell? ⟨b,i,none⟩=v.cell? ⟨b,i,none⟩:=fun i=>ht.cell (p:=⟨b,i,none⟩) h.lt (by simp only [];omega)
 exact⟨h.near.trans (ZbV.touch ht h.lt (by omega) (by omega) (by omega)),h.bc,h.q0,⟨(e _).trans h0,(e _).trans h1,(e _).trans h2,(e _).trans h3,(e _).trans h4,(e _).trans h5,(e _).trans h6⟩,hl,fun i=>(ht.frozen (p:=⟨b,i,none⟩) h.lt (by simp only [];omega)).trans (h.frz i),Zk_ h.lt ht.size⟩
end
theorem Zmg (lo hi:Nat) (v:Value) (Xl:List Gr) (k:Int) (w:World) (hv:Zb8 lo hi w v Xl) (hn:Ze3 Xl) (h0:0<=k) (hk:k<=2000000000000000000) :
 Calls prog 56 #[v,.int .i64 k] w fun e w'=>e=.returned (.int .i64 (k+(Zd2 Xl Xl.length:Int)))/\Zag lo hi w w'/\Zb8 lo hi w' v (Zoz k Xl):=by
 rcases hv with ⟨a,cap,rfl,rfl⟩ | ⟨b,off,cap,c,X,rfl,hne,hm,hcap,hX,hR⟩
 . go_enter func56,ntmps56
   go_wp2
   go_loop [5,1] (fun i q=>i=.int .i64 0/\q=.int .i64 k) (fun _ _=>0)
   case atStart=>exact⟨rfl,rfl⟩
   case round=>
    obtain⟨rfl,rfl⟩:=hrel;go_wp2;go_ret;exact⟨by simp [Zd2],Zag.refl _ _ _,Or.inl ⟨_,_,rfl,rfl⟩⟩
 . have hlen:=hn.1
   have HN:=Zab hn;have HX:=Zab hX;have HR0:=Zab hR;have HM:=Zab hm;have HC:=Zab hcap;have HNE:=Zab hne;clear hn hX hR hm hcap hne;go_enter func56,ntmps56;go_wp2
   go_loopw [5,1] (fun i q wr=>∃ j:Nat,i=.int .i64 j/\q=.int .i64 (k+(Zd2 Xl j:Int))/\j<=Xl.length/\Zag lo hi w wr/\ZfT lo hi wr b off Xl.length c (fun i=>if i < j then ZtA (k+(Zd2 Xl i:Int)) (X i) else X i)) (fun i _ _=>Xl.length - (intOf i).toNat)
   case atStart=>exact⟨0,rfl,by simp [Zd2],by omega,Zag.refl _ _ _,HR0.o.to (fun i _=>by simp)⟩
   case round=>
    obtain⟨j,rfl,rfl,hj,ht,hr⟩:=hrel;have HT:=Zab ht;have HR:=Zab hr;clear ht hr HR0
    by_cases hlt:j < Xl.length
    . have hpos:=Zna HN.o (i:=j) (by omega)
      have HP:=Zab (Zjf hlt)
      have hone:Zgo b (off+j*7) (c j).1 (c j).2 wr (X j):=by
       have:=HR.o.row j hlt;simp only [Nat.lt_irrefl,if_false] at this;exact this
      have hxj:X j=Xl[j]:=HX.o j hlt;obtain⟨x,hx⟩:∃ x,x=X j:=⟨_,rfl⟩
      rw [<- hx] at hone;obtain⟨hs,vv0,q0,hc,l0⟩:=hone;have hs0:x.vb.length<=1048576:=by have:=HN.o.2 j hlt;rw [hx,hxj];unfold ZeF at this;omega
      have HXJ:=Zab hxj;have HXX:=Zab hx;obtain⟨K,hK⟩:∃ K,K=k+(Zd2 Xl j:Int):=⟨_,rfl⟩
      rw [<- hK];have hK0:0<=K:=by omega
      have hK1:K<=2500000000000000000:=by omega
      have HK:=Zab hK;have HBC:Hd (b < (c j).1\/(c j).2<=b):=(HR.o.seg j hlt).2.2;have HS:Hd (Zfo wr b (off+j*7) (c j).1 (c j).2 vv0 wr x):=⟨ZbV.refl _ _ _ _ _ _,HBC.o,q0,hc,l0,HR.o.frz,HR.o.lt⟩;clear hpos hxj hx hs hc l0 q0 hK;obtain⟨d0,d1,d2,d3,d4,d5,d6⟩:=HS.o.cells;have fz:=HS.o.frz;go_wp2_with fail;clear d0 d1 d2 d3 d4 d5 d6 fz;obtain⟨v1,hv1,HS1⟩:∃ v',v'=(wr.setCell ⟨b,off+j*7,none⟩ (.int .i64 (K)))/\Hd (Zfo wr b (off+j*7) (c j).1 (c j).2 vv0 v' ⟨K,x.tw,x.gb,x.vb,x.kd,x.tm,x.pf⟩):=⟨_,rfl,(HS.o.s0 (K))⟩
      rw [<- hv1];clear hv1 HS;refine (Zal _ _ (by omega)).mono ?_;rintro e v2 ⟨rfl,hb⟩;have HS2:=Zab (HS1.o.below hb);clear hb HS1;obtain⟨d0,d1,d2,d3,d4,d5,d6⟩:=HS2.o.cells;have fz:=HS2.o.frz;go_wp2_with fail;clear d0 d1 d2 d3 d4 d5 d6 fz;obtain⟨v3,hv3,HS3⟩:∃ v',v'=(v2.setCell ⟨b,off+j*7+1,none⟩ (.string (mtB (K+1))))/\Hd (Zfo wr b (off+j*7) (c j).1 (c j).2 vv0 v' ⟨K,mtB (K+1),x.gb,x.vb,x.kd,x.tm,x.pf⟩):=⟨_,rfl,(HS2.o.s1 (mtB (K+1)))⟩
      rw [<- hv3];clear hv3 HS2;refine (Zal _ _ (by omega)).mono ?_;rintro e v4 ⟨rfl,hb⟩;have HS4:=Zab (HS3.o.below hb);clear hb HS3;obtain⟨d0,d1,d2,d3,d4,d5,d6⟩:=HS4.o.cells;have fz:=HS4.o.frz;go_wp2_with fail;clear d0 d1 d2 d3 d4 d5 d6 fz;obtain⟨v5,hv5,HS5⟩:∃ v',v'=(v4.setCell ⟨b,off+j*7+2,none⟩ (.string (mtB (K+1+1))))/\Hd (Zfo wr b (off+j*7) (c j).1 (c j).2 vv0 v' ⟨K,mtB (K+1),mtB (K+1+1),x.vb,x.kd,x.tm,x.pf⟩):=⟨_,rfl,(HS4.o.s2 (mtB (K+1+1)))⟩
      rw [<- hv5];clear hv5 HS4;refine (Zg6 _ _ _ x.vb _ _ HS5.o.l0 (by omega) (by omega)).mono ?_;rintro e v6 ⟨rfl,ht,hl⟩;have HS6:Hd (Zfo wr b (off+j*7) (c j).1 (c j).2 vv0 v6 ⟨K,mtB (K+1),mtB (K+1+1),Zev (K+1+1+1) x.vb.length,x.kd,x.tm,x.pf⟩):=HS5.o.m0' ht hl;clear ht hl HS5;obtain⟨d0,d1,d2,d3,d4,d5,d6⟩:=HS6.o.cells;have fz:=HS6.o.frz;go_wp2_with fail;clear d0 d1 d2 d3 d4 d5 d6 fz;refine (Zal _ _ (by omega)).mono ?_;rintro e v7 ⟨rfl,hb⟩;have HS7:=Zab (HS6.o.below hb);clear hb HS6;obtain⟨d0,d1,d2,d3,d4,d5,d6⟩:=HS7.o.cells;have fz:=HS7.o.frz;go_wp2_with fail;clear d0 d1 d2 d3 d4 d5 d6 fz
      obtain⟨v8,hv8,HS8⟩:∃ v',v'=(v7.setCell ⟨b,off+j*7+4,none⟩ (.string (mtB (K+1+1+1+(x.vb.length:Int)))))/\Hd (Zfo wr b (off+j*7) (c j).1 (c j).2 vv0 v' ⟨K,mtB (K+1),mtB (K+1+1),Zev (K+1+1+1) x.vb.length,mtB (K+1+1+1+(x.vb.length:Int)),x.tm,x.pf⟩):=⟨_,rfl,(HS7.o.s4 (mtB (K+1+1+1+(x.vb.length:Int))))⟩
      rw [<- hv8];clear hv8 HS7;refine (Zal _ _ (by omega)).mono ?_;rintro e v9 ⟨rfl,hb⟩;have HS9:=Zab (HS8.o.below hb);clear hb HS8;obtain⟨d0,d1,d2,d3,d4,d5,d6⟩:=HS9.o.cells;have fz:=HS9.o.frz;go_wp2_with fail;clear d0 d1 d2 d3 d4 d5 d6 fz;obtain⟨v10,hv10,HS10⟩:∃ v',v'=(v9.setCell ⟨b,off+j*7+5,none⟩ (.string (mtB (K+1+1+1+(x.vb.length:Int)+1))))/\Hd (Zfo wr b (off+j*7) (c j).1 (c j).2 vv0 v' ⟨K,mtB (K+1),mtB (K+1+1),Zev (K+1+1+1) x.vb.length,mtB (K+1+1+1+(x.vb.length:Int)),mtB (K+1+1+1+(x.vb.length:Int)+1),x.pf⟩):=⟨_,rfl,(HS9.o.s5 (mtB (K+1+1+1+(x.vb.length:Int)+1)))⟩
      rw [<- hv10];clear hv10 HS9;refine (Zal _ _ (by omega)).mono ?_;rintro e v11 ⟨rfl,hb⟩;have HS11:=Zab (HS10.o.below hb);clear hb HS10;obtain⟨d0,d1,d2,d3,d4,d5,d6⟩:=HS11.o.cells;have fz:=HS11.o.frz;go_wp2;clear d0 d1 d2 d3 d4 d5 d6 fz;obtain⟨v12,hv12,HS12⟩:∃ v',v'=(v11.setCell ⟨b,off+j*7+6,none⟩ (.string (mtB (K+1+1+1+(x.vb.length:Int)+1+1))))/\Hd (Zfo wr b (off+j*7) (c j).1 (c j).2 vv0 v' ⟨K,mtB (K+1),mtB (K+1+1),Zev (K+1+1+1) x.vb.length,mtB (K+1+1+1+(x.vb.length:Int)),mtB (K+1+1+1+(x.vb.length:Int)+1),mtB (K+1+1+1+(x.vb.length:Int)+1+1)⟩):=⟨_,rfl,(HS11.o.s6 (mtB (K+1+1+1+(x.vb.length:Int)+1+1)))⟩
      rw [<- hv12];clear hv12 HS11;have HW:Hd (Zt5 Xl[j]=6+x.vb.length):=by unfold Hd;rw [<- HXJ.o,<- HXX.o];rfl
      have HQ:Hd ((K+1+1+1+(x.vb.length:Int)+1+1+1:Int)=k+(Zd2 Xl (j+1):Int)):=by
       have h1:=HP.o;have h2:=HW.o;have h3:=HK.o;unfold Hd
       omega
      have HRN:=Zab (HR.o.near hlt HS12.o.near (show Zgo b (off+j*7) (c j).1 (c j).2 v12 (ZtA K x) from ⟨⟨Zb4 _ (by omega),Zb4 _ (by omega),Zb4 _ (by omega),Zb4 _ (by omega),Zb4 _ (by omega)⟩,_,HS12.o.q0,HS12.o.cells,HS12.o.l0⟩));have HTN:=Zab (HS12.o.near.wide HR.o.lt (lo':=lo) (hi':=hi) (HR.o.seg j hlt).1 (HR.o.seg j hlt).2.1 ⟨HR.o.low,HR.o.bh⟩);go_roundw
      . 
       refine⟨j+1,by go_num,congrArg (Value.int .i64) HQ.o,by omega,HT.o.trans HTN.o,HRN.o.to (fun i hi'=>?_)⟩
       by_cases e:i=j
       . subst e
         rw [if_pos rfl,if_pos (by omega),<- HK.o,HXX.o]
       . rw [if_neg e]
         by_cases e2:i < j
         . rw [if_pos e2,if_pos (by omega)]
         . rw [if_neg e2,if_neg (by omega)]
      . simp [intOf];omega
    . have e:j=Xl.length:=by omega
      subst e;go_wp2;go_ret;refine⟨rfl,HT.o,Or.inr ⟨b,off,cap,c,fun i=>ZtA (k+(Zd2 Xl i:Int)) (X i),by rw [ZdU],?_,by rw [ZdU];exact HM.o,by rw [ZdU];exact HC.o,fun i h=>?_,?_⟩⟩
      . intro e
        have:=congrArg List.length e;rw [ZdU] at this;exact HNE.o (List.length_eq_zero_iff.1 (by simpa using this))
      . have h':i < Xl.length:=by rw [ZdU] at h;exact h
        rw [Zqw _ _ _ _ h',<- HX.o i h']
      . rw [ZdU]
        exact HR.o.to (fun i hi'=>by rw [if_pos hi'])
end Go.Proofs.YtmappejlmapboaaGreat
