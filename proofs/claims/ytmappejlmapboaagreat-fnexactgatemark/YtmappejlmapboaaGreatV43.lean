import Derived.Test.YtmappejlmapboaaGreatV35
import Derived.Test.YtmappejlmapboaaGreatV42
import Derived.RangeFuncMany
import Derived.RangeFuncGives
import Derived.Sort.MapsRangeIn
import Derived.Sort.KeysCollected
import Derived.Shelf.AbstractIn
import Derived.RegionIn
set_option maxHeartbeats 16000000
set_option maxRecDepth 100000
open Go.Proofs.Tryz
namespace Go.Proofs.YtmappejlmapboaaGreat
section
open Go.RowKit Go.Deep Go.Maps
variable {Os:List Ob} {i j m q:Nat} {x:Int} {Ss:List Sh} {G:List Int}
def Zrp (Os:List Ob) (a b:Zy_) (i:Nat):Bool:=match Os[i]? with
 | some o=>(o.kd.toList == a.toList)&&(o.nm.toList == b.toList)
 | none=>false
theorem Zir {a b:Zy_} (h:i < Os.length):Zrp Os a b i=true↔Os[i].kd=a/\Os[i].nm=b:=by
 unfold Zrp;rw [List.getElem?_eq_getElem h];dsimp only;rw [Bool.and_eq_true,ZaF,ZaF]
def ZoT (Os:List Ob):Prop:=∀ i j (hi:i < Os.length) (hj:j < Os.length),Os[i].kd=Os[j].kd->Os[i].nm=Os[j].nm->i=j
def ZeV (Os:List Ob) (P:Nat->Bool) (a b:Zy_):Option Nat:=(List.range Os.length).find? fun i=>P i&&Zrp Os a b i
structure ZiY (Os:List Ob) (D:DataW Value) (P:Nat->Bool):Prop where
 isMap:IsMap D
 at':∀ a b:Zy_,a.size<=maxLen->b.size<=maxLen->∀ z,D.atKey (ZbY a b) z=match ZeV Os P a b with
  | some i=>.held (.int .i64 (i:Int))
  | none=>z
theorem ZfN {P:Nat->Bool}{a b:Zy_} (h:ZeV Os P a b=some i):P i=true/\∃ hi:i < Os.length,Os[i].kd=a/\Os[i].nm=b:=by
 unfold ZeV at h;have h1:=List.find?_some (p:=fun i=>P i&&Zrp Os a b i) h;have h2:=List.mem_of_find?_eq_some h;rw [Bool.and_eq_true] at h1;exact⟨h1.1,List.mem_range.1 h2,(Zir (List.mem_range.1 h2)).1 h1.2⟩
theorem Zgq {P:Nat->Bool} (hd:ZoT Os) {i:Nat} (hi:i < Os.length) (hp:P i=true):ZeV Os P Os[i].kd Os[i].nm=some i:=by
 cases h:ZeV Os P Os[i].kd Os[i].nm with
 | none=>
  unfold ZeV at h;rw [List.find?_eq_none] at h;exact absurd (by rw [hp,(Zir hi).2 ⟨rfl,rfl⟩];rfl) (h i (List.mem_range.2 hi))
 | some j=>
  obtain⟨-,hj,h1,h2⟩:=ZfN h;rw [hd j i hj hi h1 h2]
theorem ZhY {P:Nat->Bool}{a b:Zy_} (h:∀ i (hi:i < Os.length),P i=true->¬ (Os[i].kd=a/\Os[i].nm=b)):ZeV Os P a b=none:=by
 unfold ZeV;rw [List.find?_eq_none];intro i hi hc;rw [Bool.and_eq_true] at hc;exact h i (List.mem_range.1 hi) hc.1 ((Zir (List.mem_range.1 hi)).1 hc.2)
theorem ZkH {P P':Nat->Bool} (h:∀ i,i < Os.length->P i=P' i) (a b:Zy_):ZeV Os P a b=ZeV Os P' a b:=by
 unfold ZeV
 have:∀ L:List Nat,(∀ i ∈ L,i < Os.length)->L.find? (fun i=>P i&&Zrp Os a b i)=L.find? (fun i=>P' i&&Zrp Os a b i):=by
  intro L
  induction L with
  | nil=>intro _;rfl
  | cons x L ih=>
   intro hL;rw [List.find?_cons,List.find?_cons,h x (hL x (List.mem_cons_self ..)),ih fun i hi=>hL i (List.mem_cons_of_mem _ hi)]
 exact this _ fun i hi=>List.mem_range.1 hi
theorem ZiY.start (Os:List Ob):ZiY Os (.map []) (fun _=>false):=
 ⟨⟨[],rfl⟩,fun a b _ _ z=>by rw [ZhY (fun i hi h=>by cases h)];rfl⟩
theorem ZiY.congr {D:DataW Value}{P P':Nat->Bool} (h:ZiY Os D P) (e:∀ i,i < Os.length->P i=P' i):ZiY Os D P':=
 ⟨h.isMap,fun a b ha hb z=>by rw [h.at' a b ha hb,ZkH e]⟩
theorem ZiY.step {D:DataW Value}{P:Nat->Bool} (h:ZiY Os D P) (hd:ZoT Os) {i:Nat} (hi:i < Os.length) (s0:Os[i].kd.size<=maxLen) (s1:Os[i].nm.size<=maxLen) :
 ZiY Os (D.put (ZbY Os[i].kd Os[i].nm) (.held (.int .i64 (i:Int)))) (fun q=>P q || q == i):=by
 refine⟨h.isMap.put _ _,fun a b ha hb z=>?_⟩
 by_cases e:a=Os[i].kd/\b=Os[i].nm
 . obtain⟨rfl,rfl⟩:=e
   rw [atKey_put_same h.isMap (Zeb _ _),Zgq hd hi (by simp)]
 . rw [atKey_put_other (fun e'=>e (ZdZ.inj ZfT ha hb s0 s1 e')),h.at' a b ha hb]
   have:ZeV Os P a b=ZeV Os (fun q=>P q || q == i) a b:=by
    cases h1:ZeV Os P a b with
    | some j=>
     obtain⟨hp,hj,rfl,rfl⟩:=ZfN h1;rw [Zgq hd hj (by simp [hp])]
    | none=>
     symm
     refine ZhY fun j hj hp hk=>?_
     rw [Bool.or_eq_true] at hp
     rcases hp with hp | hp
     . obtain⟨rfl,rfl⟩:=hk
       rw [Zgq hd hj hp] at h1
       cases h1
     . have:j=i:=by simpa using hp
       subst this;exact e ⟨hk.1.symm,hk.2.symm⟩
   rw [this]
def Zfh (Ss:List Sh) (Os:List Ob) (m i:Nat):Bool:=match Os[i]? with
 | some o=>!o.en&&((Os.take m).any fun e=>e.en&&Zbq Ss o 3 e.kd e.nm)
 | none=>false
theorem ZhN (Ss:List Sh) (o:Ob) (ro:Int) (kd nm:Zy_):Zbq Ss o ro kd nm=(Zgc Ss o).any (Zhs ro kd nm):=by
 unfold Zbq Zgc Zdq
 cases Zca Ss o.kd <;> rfl
theorem Zju {T:List Tie}{a b:Zy_}:x ∈ ZdQ T i a b↔x=(i:Int)/\T.any (Zhs 3 a b)=true:=by
 unfold ZdQ;rw [List.mem_map,List.any_eq_true];exact⟨fun ⟨t,ht,e⟩=>⟨e.symm,t,(List.mem_filter.1 ht).1,(List.mem_filter.1 ht).2⟩,fun ⟨e,t,h1,h2⟩=>⟨t,List.mem_filter.2 ⟨h1,h2⟩,e.symm⟩⟩
theorem Zk6 {a b:Zy_}:x ∈ ZeB Ss Os Os.length a b↔∃ i,∃ h:i < Os.length,x=(i:Int)/\Zbq Ss Os[i] 3 a b=true:=by
 unfold ZeB;rw [List.mem_flatMap]
 constructor
 . rintro⟨i,hi,hx⟩
   have hi:=List.mem_range.1 hi;rw [List.getElem?_eq_getElem hi] at hx;obtain⟨h1,h2⟩:=Zju.1 hx;exact⟨i,hi,h1,by rw [ZhN];exact h2⟩
 . rintro⟨i,hi,rfl,h⟩
   refine⟨i,List.mem_range.2 hi,?_⟩;rw [List.getElem?_eq_getElem hi];exact Zju.2 ⟨rfl,by rw [<- ZhN];exact h⟩
def Zgh (Ss:List Sh) (Os:List Ob) (m:Nat) (G:List Int) (j i:Nat):Bool:=Zfh Ss Os m i || ((match Os[i]? with | some o=>!o.en | none=>false)&&(G.take j).contains (i:Int))
theorem Zl6 (Ss:List Sh) (Os:List Ob) (m:Nat) (G:List Int) (i:Nat):Zgh Ss Os m G 0 i=Zfh Ss Os m i:=by unfold Zgh;simp
theorem Zfb (hj:j < G.length) (x:Int):(G.take (j+1)).contains x=((G.take j).contains x || (x == G[j])):=by
 rw [List.take_succ_eq_append_getElem hj,Bool.eq_iff_iff,List.contains_iff_mem,List.mem_append,Bool.or_eq_true,List.contains_iff_mem,List.mem_singleton,beq_iff_eq]
theorem Zph (hj:j < G.length) (hg:G[j]=(q:Int)) (hq:q < Os.length) (he:Os[q].en=true) (i:Nat):Zgh Ss Os m G (j+1) i=Zgh Ss Os m G j i:=by
 unfold Zgh;rw [Zfb hj,hg]
 by_cases e:i=q
 . subst e
   rw [List.getElem?_eq_getElem hq];simp [he]
 . have:((i:Int) == (q:Int))=false:=by rw [beq_eq_false_iff_ne];omega
   rw [this,Bool.or_false]
theorem ZnO (hj:j < G.length) (hg:G[j]=(q:Int)) (hq:q < Os.length) (he:Os[q].en=false) (i:Nat):Zgh Ss Os m G (j+1) i=(Zgh Ss Os m G j i || i == q):=by
 unfold Zgh;rw [Zfb hj,hg]
 by_cases e:i=q
 . subst e
   rw [List.getElem?_eq_getElem hq];simp [he]
 . have h1:((i:Int) == (q:Int))=false:=by rw [beq_eq_false_iff_ne];omega
   have h2:(i == q)=false:=by rw [beq_eq_false_iff_ne];exact e
   rw [h1,h2,Bool.or_false,Bool.or_false]
theorem Zma (Ss:List Sh) (Os:List Ob) (i:Nat):Zfh Ss Os 0 i=false:=by
 unfold Zfh
 split <;> simp
theorem Zl9 (hm:m < Os.length) (he:Os[m].en=false) (i:Nat):Zfh Ss Os (m+1) i=Zfh Ss Os m i:=by
 unfold Zfh
 split
 . rw [ZdA hm,he]
   simp
 . rfl
theorem Zl8 (hm:m < Os.length) (he:Os[m].en=true) {i:Nat} (hi:i < Os.length) :
 Zgh Ss Os m (ZeB Ss Os Os.length Os[m].kd Os[m].nm) (ZeB Ss Os Os.length Os[m].kd Os[m].nm).length i=Zfh Ss Os (m+1) i:=by
 unfold Zgh Zfh;rw [List.getElem?_eq_getElem hi,List.take_length];dsimp only;rw [ZdA hm,he,Bool.true_and]
 have:(ZeB Ss Os Os.length Os[m].kd Os[m].nm).contains (i:Int)=Zbq Ss Os[i] 3 Os[m].kd Os[m].nm:=by
  rw [Bool.eq_iff_iff,List.contains_iff_mem,Zk6]
  constructor
  . rintro⟨q,hq,e,h⟩
    have:q=i:=by omega
    subst this;exact h
  . exact fun h=>⟨i,hi,rfl,h⟩
 rw [this]
 cases Os[i].en <;> simp
theorem ZnP (Ss:List Sh) (Os:List Ob) (i:Nat):Zfh Ss Os Os.length i=Zee Ss Os i:=by
 unfold Zfh Zee;rw [List.take_length]
 rfl
end
section
open Go.RowKit Go.Deep Go.Maps Go.Sort Go.Shelf
variable {Os:List Ob} {xs:List Int}
structure ZfS (Os:List Ob) (P:Nat->Bool) (xs:List Int):Prop where
 once:xs.Nodup
 mem:∀ x:Int,x ∈ xs↔∃ i,∃ _:i < Os.length,x=(i:Int)/\P i=true
structure Zdx (Os:List Ob) (P:Nat->Bool) (left:Lit->Bool) (xs:List Int):Prop where
 once:xs.Nodup
 mem:∀ x:Int,x ∈ xs↔∃ i,∃ _:i < Os.length,x=(i:Int)/\P i=true/\left (ZbY Os[i].kd Os[i].nm)=false
def Zfx (Os:List Ob):Prop:=∀ i (h:i < Os.length),Os[i].kd.size<=maxLen/\Os[i].nm.size<=maxLen
theorem ZqC (ho:xs.Nodup) (h:∀ x ∈ xs,∃ i,∃ _:i < Os.length,x=(i:Int)):xs.length<=Os.length:=by
 have:=List.Nodup.length_le_of_subset (l₂:=(List.range Os.length).map fun i:Nat=>(i:Int)) ho fun x hx=>by
  obtain⟨i,hi,rfl⟩:=h x hx;exact List.mem_map.2 ⟨i,List.mem_range.2 hi,rfl⟩
 simpa using this
theorem Zdx.start {D:DataW Value}{P:Nat->Bool} (hD:ZiY Os D P) (hd:ZoT Os) (hk:Zfx Os):Zdx Os P (has D) []:=
 ⟨List.nodup_nil,fun x=>⟨(fun h=>by cases h),fun ⟨i,hi,_,hp,hl⟩=>by
  have:has D (ZbY Os[i].kd Os[i].nm)=true:=has_true_of_atKey (y:=.held (.int .i64 (i:Int))) fun zd=>by
   rw [hD.at' _ _ (hk i hi).1 (hk i hi).2,Zgq hd hi hp]
  rw [this] at hl
  cases hl⟩⟩
theorem Zdx.next {D:DataW Value}{P:Nat->Bool}{left:Lit->Bool} (h:Zdx Os P left xs) (hD:ZiY Os D P) (hd:ZoT Os) (hk:Zfx Os) {a b:Zy_} {c:Value}
 (sa:a.size<=maxLen) (sb:b.size<=maxLen) (hl:left (ZbY a b)=true) (hat:∀ zd,D.atKey (ZbY a b) zd=.held c) :
 ∃ i:Nat,c=.int .i64 (i:Int)/\xs.length < Os.length/\Zdx Os P (fun z=>left z&&!z.sameKey (ZbY a b)) (xs ++ [(i:Int)]):=by
 have h1:=hat (.held (.bool true));have h2:=hat (.held (.bool false));rw [hD.at' a b sa sb] at h1 h2
 cases hs:ZeV Os P a b with
 | none=>
  rw [hs] at h1 h2;dsimp only at h1 h2;rw [<- h2] at h1;injection h1 with h1
  injection h1 with h1
  cases h1
 | some i=>
  rw [hs] at h1;dsimp only at h1;injection h1 with h1
  obtain⟨hp,hi,rfl,rfl⟩:=ZfN hs
  have hnew:(i:Int) ∉ xs:=fun hx=>by
   obtain⟨j,hj,e,-,hf⟩:=(h.mem _).1 hx;have:i=j:=by omega
   subst this;rw [hl] at hf
   cases hf
  have ho:(xs ++ [(i:Int)]).Nodup:=List.nodup_append.2 ⟨h.once,by simp,fun x hx y hy=>by
   simp at hy;subst hy;exact fun e=>hnew (e ▸ hx)⟩
  have hm:∀ x:Int,x ∈ xs ++ [(i:Int)]↔∃ j,∃ _:j < Os.length,x=(j:Int)/\P j=true/\(left (ZbY Os[j].kd Os[j].nm)&&!(ZbY Os[j].kd Os[j].nm).sameKey (ZbY Os[i].kd Os[i].nm))=false:=fun x=>by
   rw [List.mem_append,h.mem x]
   constructor
   . rintro (⟨j,hj,e,hpj,hf⟩ | hx)
     . exact⟨j,hj,e,hpj,by rw [hf];rfl⟩
     . refine⟨i,hi,by simpa using hx,hp,?_⟩
       rw [WideAt.sameKey_self (Zeb _ _)];simp
   . rintro⟨j,hj,e,hpj,hf⟩
     by_cases hlj:left (ZbY Os[j].kd Os[j].nm)=false
     . exact Or.inl ⟨j,hj,e,hpj,hlj⟩
     . right
       have hsk:(ZbY Os[j].kd Os[j].nm).sameKey (ZbY Os[i].kd Os[i].nm)=true:=by
        rw [show left (ZbY Os[j].kd Os[j].nm)=true by revert hlj;cases left (ZbY Os[j].kd Os[j].nm) <;> simp] at hf
        simpa using hf
       have hee:ZbY Os[j].kd Os[j].nm=ZbY Os[i].kd Os[i].nm:=by
        unfold ZbY at hsk |-
        simpa [Lit.sameKey] using hsk
       obtain⟨e1,e2⟩:=ZdZ.inj ZfT (hk j hj).1 (hk j hj).2 (hk i hi).1 (hk i hi).2 hee;rw [e,hd j i hj hi e1 e2];exact List.mem_singleton_self _
  refine⟨i,h1.symm,?_,ho,hm⟩
  have:=ZqC (Os:=Os) ho fun x hx=>by
   obtain⟨j,hj,e,-⟩:=(hm x).1 hx;exact⟨j,hj,e⟩
  simp at this
  omega
theorem Zdx.all {P:Nat->Bool}{left:Lit->Bool} (h:Zdx Os P left xs) (hl:∀ kl,left kl=false):ZfS Os P xs:=
 ⟨h.once,fun x=>by
  rw [h.mem x];exact⟨fun ⟨i,hi,e,hp,_⟩=>⟨i,hi,e,hp⟩,fun ⟨i,hi,e,hp⟩=>⟨i,hi,e,hp,hl _⟩⟩⟩
theorem Zm2 (n:Nat) (hn:1<=n) (Os:List Ob) (Pm:Nat->Bool) (hd:ZoT Os) (hk:Zfx Os) (l Bm b nn:Nat) (D:DataW Value) (hD:ZiY Os D Pm) (J:List Int->World->Prop)
 (hY:∀ pre x W,J pre W->pre.length < Os.length->YieldAt Fence.wide (n - 1) prog l #[.int .i64 x] W fun e W'=>e=.returned (.bool true)/\J (pre ++ [x]) W'/\KeepsWalks W W')
 (W:World) (hJ:AbidesFrom W.heap.size J) (hm:W.cell? ⟨Bm,0,none⟩=some (.map (some b))) (hown:W.ownsMap prog 153 Zg8 b nn D) (h0:J [] W) :
 CallsIn Fence.wide n prog 188 #[.func (.yield l) #[] #[],.pointer (some ⟨Bm,0,none⟩)] W fun e W'=>(∃ v,e=.returned v)/\∃ xs,ZfS Os Pm xs/\J xs W':=by
 have hfw:Fence.wide.fn 188:=trivial;refine callsIn_of_wp func188 rfl trivial ?_ rfl;simp only [ntmps188,List.size_toArray,List.length_cons,List.length_nil,Nat.reduceAdd,Nat.reduceSub,Array.replicate_succ,Array.replicate_zero,List.push_toArray,List.append_toArray,List.nil_append,List.cons_append]
 gi_wp2_with (first
  | (gi_at_range;refine wpListIn_range_own _ rfl _ 147 rfl 153 3 Zeo underlying147 _ b nn _ rfl hown ?_;intro w0 hrg0 hg0 hs0)
  | gi_in)
 go_frame
 gi_loopw [4] (fun _ wr=>∃ (left:Lit->Bool) (cnt:Nat) (xs:List Int),wr.ranges prog 153 Zg8 b W.heap.size nn D left cnt/\Zdx Os Pm left xs/\J xs wr)
  (fun _ wr=>wr.rangeLeft b W.heap.size)
 case atStart=>
  exact⟨_,_,[],hrg0,Zdx.start hD hd hk,hJ [] W w0 none h0 hg0 (fun r e=>by cases e)⟩
 case round=>
  obtain⟨left,cnt,xs,hrg,hC,hJs⟩:=hrel
  gi_wp2_with (first
   | (gi_at_next;refine wpListIn_next_ranges _ rfl _ rfl 153 Zeo Zg8 (fun p:Zy_×Zy_=>.agg #[.string p.1,.string p.2]) (fun v:Value=>v) (fun key kl hk=>by obtain⟨a,b,rfl,-⟩:=Zff.inv hk;exact⟨(a,b),rfl⟩) (fun v y hv=>⟨v,rfl⟩) b W.heap.size nn _ _ _ rfl hrg ?_ ?_)
   | gi_in)
  . intro hc0 hl0
    gi_wp2
    go_end0
    exact⟨⟨_,rfl⟩,xs,hC.all hl0,hJs⟩
  . intro x1 x2 c kl yd yp w2 cnt2 hkey hlk hv hat hrg2 hlt hg2 hs2 hen
    obtain⟨a',b',ek,rfl,sa,sb⟩:=Zff.inv hkey
    have ey:yd=.held c:=by
     have:some (DataW.held c,([]:List MemPlace))=some (yd,yp):=hv;injection this with this
     injection this with this _
     exact this.symm
    subst ey;obtain⟨rfl,rfl⟩:x1=a'/\x2=b':=by simpa using ek
    obtain⟨i,rfl,hlen,hC2⟩:=hC.next hD hd hk sa sb hlk hat;have hJ2:J xs w2:=hJ _ wr w2 (some W.heap.size) hJs hg2 (fun r e=>by cases e;exact⟨Nat.le_refl _,hrg.iter_walk⟩);obtain⟨fn,tmps,assign,body,hy,hR⟩:=hY xs i w2 hJ2 hlen;clear hs2
    gi_wp2
    refine hR.mono ?_;rintro e W3 ⟨rfl,hJ3,hk3⟩
    gi_wp2
    have hrg3:=hrg2.of_walks hk3;go_roundw
    . exact⟨_,cnt2,xs ++ [(i:Int)],hrg3,hC2,hJ3⟩
    . rw [hrg3.left_eq,hrg.left_eq];exact hlt
end
section
open Go.RowKit Go.Deep
variable {L:List Int} {wr w1:World} {B k:Nat} {Xl:List Gr}
theorem Zaw.setLow {lo hi:Nat}{w:World}{v:Value} (h:Zaw lo hi w v L) {p:Addr} (hp:p.block < lo) (u:Value):Zaw lo hi (w.setCell p u) v L:=by
 rcases h with h | ⟨b,off,cap,h1,h2,h3,h4,h5,h7,h8,h9⟩
 . exact Or.inl h
 . exact Or.inr ⟨b,off,cap,h1,h2,h3,by simpa [World.setCell] using h4,fun i hi'=>by rw [Zar _ _ _ _ (by show b≠p.block;omega)];exact h5 i hi',h7,h8,fun i=>by rw [World.frozen?_setCell];exact h9 i⟩
theorem ZcN.own (h:ZcN wr B L k) (hk:L.length<=k) (hne:L≠[]) (hm:L.length<=maxLen):Zaw B wr.heap.size wr (.slice (some ⟨B,0,none⟩) L.length L.length) L:=by
 refine Or.inr ⟨B,0,L.length,rfl,hne,hm,World.rowIs.lt h,fun i hi=>?_,Nat.le_refl _,World.rowIs.lt h,fun i=>by rw [Nat.zero_add];exact World.rowIs.frozen h i⟩;rw [Nat.zero_add,World.rowIs.cell h hi];unfold Zo9;rw [if_pos (by omega),List.getD_eq_getElem?_getD,List.getElem?_eq_getElem hi];rfl
theorem ZkR (lo:Nat) (v:Value) (L:List Int) (w:World) (hv:Zat lo w v L) (hn:L.length<=1048576) :
 Calls prog 177 #[v] w fun e w'=>∃ v',e=.returned v'/\Zw_ w w'/\Zaw w.heap.size w'.heap.size w' v' L:=by
 by_cases hL:L=[]
 . subst hL
   obtain⟨a,cap,rfl⟩:=hv.form;clear hv
   have hmk:∀ u:World,(Instr.makeSlice 35 (.int .i64 0) (.int .i64 0)).run prog u=.ok (.slice (some ⟨u.heap.size,0,none⟩) 0 0) (u.alloc (.cells (madeCells #[.int .i64 0] 0) 3)):=
    fun u=>run_make_row' 35 3 (.int .i64 0) 8 underlying35 Tryz.info3 rfl .i64 .i64 0 (by omega) (by omega) u
   go_enter func177,ntmps177;go_wp2
   go_loop [4] (fun i=>i=.int .i64 0) (fun _=>0)
   case atStart=>rfl
   case round=>
    subst hrel;go_wp2;go_ret;exact⟨_,rfl,Zb_.alloc Zl_ _,Or.inl ⟨_,_,rfl,rfl⟩⟩
 . obtain⟨b,off,cap,rfl,hm,hbw,hc⟩:=hv.full hL
   clear hv;have HM:Hd (L.length<=maxLen):=hm;unfold maxLen at hm
   have hmk:∀ u:World,(Instr.makeSlice 35 (.int .i64 (L.length:Int)) (.int .i64 (L.length:Int))).run prog u=.ok (.slice (some ⟨u.heap.size,0,none⟩) L.length L.length) (u.alloc (.cells (madeCells #[.int .i64 0] L.length) 3)):=
    fun u=>run_make_row' 35 3 (.int .i64 0) 8 underlying35 Tryz.info3 rfl .i64 .i64 L.length (by omega) (by omega) u
   go_enter func177,ntmps177;go_wp2;clear hmk
   go_loopw [4] (fun i wr=>∃ k:Nat,i=.int .i64 k/\k<=L.length/\Zw_ w wr/\ZcN wr w.heap.size L k) (fun i _=>L.length - (intOf i).toNat)
   case atStart=>exact⟨0,rfl,by omega,Zb_.alloc Zl_ _,World.rowIs_made w (.int .i64 0) L.length 3⟩
   case round=>
    obtain⟨k,rfl,hk,hb,hf⟩:=hrel
    by_cases hlt:k < L.length
    . have hck:wr.cell? ⟨b,off+k,none⟩=some (.int .i64 L[k]):=by rw [hb.cell (p:=⟨b,off+k,none⟩) hbw];exact hc k hlt
      have hold:wr.cell? ⟨w.heap.size,k,none⟩=some _:=World.rowIs.cell hf hlt;have hfz:wr.frozen? ⟨w.heap.size,k,none⟩=false:=World.rowIs.frozen hf k;go_wp2;go_roundw
      . exact⟨k+1,by go_num,by omega,hb.setCell Zl_ _,hf.step hlt⟩
      . simp [intOf];omega
    . go_wp2
      go_ret;exact⟨_,rfl,hb,ZcN.own hf (by omega) hL HM.o⟩
theorem ZkS (lo:Nat) (r:Ru) (vv:Value) (w:World) (hv:Zat lo w vv r.vb) (hn:r.vb.length<=1048576) :
 Calls prog 140 #[.agg #[vv,.string r.kd,.string r.tm,.string r.pf]] w
  fun e w'=>∃ v',e=.returned (.agg #[v',.string r.kd,.string r.tm,.string r.pf])/\Zw_ w w'/\Zaw w.heap.size w'.heap.size w' v' r.vb:=by
 have HV:=Zab hv;obtain⟨a,cap,rfl⟩:=hv.form;clear hv;go_enter func140,ntmps140;go_wp2_with fail;refine (ZkR lo _ r.vb _ (HV.o.below ?_) hn).mono ?_
 . exact ((Zb_.alloc Zl_ _).alloc (by simp) _).alloc (by simp;omega) _
 rintro e w1 ⟨v',rfl,hb,hs⟩;obtain⟨a',cap',rfl⟩:=hs.form;have HS:Hd (Zaw (w.heap.size+3) w1.heap.size w1 (.slice a' r.vb.length cap') r.vb):=hs.wide (by simp) Zl_;clear hs;have hz:w.heap.size+2 < w1.heap.size:=by have:=hb.size;simp at this;omega
 have hc:∀ b o,b < w.heap.size+3->w1.cell? ⟨b,o,none⟩=_:=fun b o h=>hb.cell (p:=⟨b,o,none⟩) (by simpa using h)
 have hf:∀ b o,b < w.heap.size+3->w1.frozen? ⟨b,o,none⟩=_:=fun b o h=>hb.frozen (p:=⟨b,o,none⟩) (by simpa using h)
 have HB:Hd (Zw_ w w1):=(((Zb_.alloc Zl_ _).alloc (by simp) _).alloc (by simp;omega) _).trans (hb.mono (by simp;omega));clear hb;go_wp2;refine bodyPost_ret (v:=.agg #[.slice a' r.vb.length cap',.string r.kd,.string r.tm,.string r.pf]) (by simp [results,results140,go_sem,hc]) rfl ⟨_,rfl,?_,?_⟩
 . repeat (refine Below.setCell ?_ (by simp only [];omega) _)
   exact HB.o
 . refine Zaw.wide (lo:=w.heap.size+3) (hi:=w1.heap.size) ?_ (by omega) (by simp [World.setCell])
   repeat (refine Zaw.setLow ?_ (by simp only [];omega) _)
   exact HS.o
theorem ZoG (lo:Nat) (x:Gr) (vv0:Value) (w:World) (hv0:Zat lo w vv0 x.vb) (hn:ZdT x) :
 Calls prog 90 #[.agg #[.int .i64 x.nu,.string x.tw,.string x.gb,vv0,.string x.kd,.string x.tm,.string x.pf]] w
  fun e w'=>∃ z0,e=.returned (.agg #[.int .i64 x.nu,.string x.tw,.string x.gb,z0,.string x.kd,.string x.tm,.string x.pf])/\Zw_ w w'/\Zaw w.heap.size w'.heap.size w' z0 x.vb:=by
 have HV:=Zab hv0;obtain⟨a,cap,rfl⟩:=hv0.form;have hn':x.ru.vb.length<=1048576:=hn;clear hv0 hn;go_enter func90,ntmps90;go_wp2_with fail;refine (ZkS lo x.ru _ _ (HV.o.below ?_) hn').mono ?_
 . exact ((Zb_.alloc Zl_ _).alloc (by simp) _).alloc (by simp;omega) _
 rintro e w1 ⟨v',rfl,hb,hs⟩;obtain⟨a',cap',rfl⟩:=hs.form;have HS:Hd (Zaw (w.heap.size+3) w1.heap.size w1 (.slice a' x.ru.vb.length cap') x.vb):=hs.wide (by simp) Zl_;clear hs;have hz:w.heap.size+2 < w1.heap.size:=by have:=hb.size;simp at this;omega
 have hc:∀ b o,b < w.heap.size+3->w1.cell? ⟨b,o,none⟩=_:=fun b o h=>hb.cell (p:=⟨b,o,none⟩) (by simpa using h)
 have hf:∀ b o,b < w.heap.size+3->w1.frozen? ⟨b,o,none⟩=_:=fun b o h=>hb.frozen (p:=⟨b,o,none⟩) (by simpa using h)
 have HB:Hd (Zw_ w w1):=(((Zb_.alloc Zl_ _).alloc (by simp) _).alloc (by simp;omega) _).trans (hb.mono (by simp;omega));clear hb;go_wp2;refine bodyPost_ret (v:=.agg #[.int .i64 x.nu,.string x.tw,.string x.gb,(.slice a' x.ru.vb.length cap'),.string x.kd,.string x.tm,.string x.pf]) (by simp [results,results90,go_sem,hc];exact⟨rfl,rfl,rfl⟩) rfl ⟨_,rfl,?_,?_⟩
 . repeat (refine Below.setCell ?_ (by simp only [];omega) _)
   exact HB.o
 . refine Zaw.wide (lo:=w.heap.size+3) (hi:=w1.heap.size) ?_ (by omega) (by simp [World.setCell])
   repeat (refine Zaw.setLow ?_ (by simp only [];omega) _)
   exact HS.o
def Za1 (wr:World) (B:Nat) (Xl:List Gr) (k:Nat) (c:Nat->Nat):Prop:=
 B < c 0/\(∀ i,i < k->c i<=c (i+1))/\c k<=wr.heap.size/\∃ f,wr.rowIs B 140 (Xl.length*7) f/\∀ i (h:i < Xl.length),i < k->ZdS Xl[i]/\∃ (vv0:Value),(c i)<=(c (i+1))/\f (i*7)=.int .i64 Xl[i].nu/\f (i*7+1)=.string Xl[i].tw/\f (i*7+2)=.string Xl[i].gb/\f (i*7+3)=vv0/\f (i*7+4)=.string Xl[i].kd/\f (i*7+5)=.string Xl[i].tm/\f (i*7+6)=.string Xl[i].pf/\Zaw (c i) (c (i+1)) wr vv0 Xl[i].vb
theorem Za1.le {c:Nat->Nat} (h:Za1 wr B Xl k c) {i:Nat}:∀ {j:Nat},i<=j->j<=k->c i<=c j:=by
 intro j
 induction j with
 | zero=>intro hij _;have:i=0:=by omega
         subst this;exact Nat.le_refl _
 | succ j ih=>
  intro hij hjn
  by_cases e:i=j+1
  . subst e;exact Nat.le_refl _
  . exact Nat.le_trans (ih (by omega) (by omega)) (h.2.1 j (by omega))
theorem Za1.below {c:Nat->Nat} (h:Za1 wr B Xl k c) (hb:Below wr.heap.size wr w1):Za1 w1 B Xl k c:=by
 obtain⟨g1,g2,g3,f,hr,hall⟩:=h;refine⟨g1,g2,Nat.le_trans g3 hb.size,f,hr.of_block (hb.block B hr.lt),fun i hi hik=>?_⟩;obtain⟨hz,vv0,q0,h0,h1,h2,h3,h4,h5,h6,l0⟩:=hall i hi hik;exact⟨hz,vv0,q0,h0,h1,h2,h3,h4,h5,h6,l0.below hb⟩
theorem Za1.free {c:Nat->Nat} (h:Za1 wr B Xl k c) (i:Nat):wr.frozen? ⟨B,i,none⟩=false:=by
 obtain⟨_,_,_,f,hr,_⟩:=h;exact hr.frozen i
theorem Za1.there {c:Nat->Nat} (h:Za1 wr B Xl k c) (i:Nat) (hi:i < Xl.length*7):∃ v,wr.cell? ⟨B,i,none⟩=some v:=by
 obtain⟨_,_,_,f,hr,_⟩:=h;exact⟨_,hr.cell hi⟩
theorem Za1.step {c:Nat->Nat}{vv0:Value} (h:Za1 w1 B Xl k c) (hk:k < Xl.length) (hz:ZdS Xl[k]) (d:Nat) (hd0:c k<=d) (hd:d<=w1.heap.size) (r0:(c k)<=d) (e0:Zaw (c k) d w1 vv0 Xl[k].vb) :
 Za1 (((((((w1.setCell ⟨B,k*7,none⟩ (.int .i64 Xl[k].nu)).setCell ⟨B,k*7+1,none⟩ (.string Xl[k].tw)).setCell ⟨B,k*7+2,none⟩ (.string Xl[k].gb)).setCell ⟨B,k*7+3,none⟩ (vv0)).setCell ⟨B,k*7+4,none⟩ (.string Xl[k].kd)).setCell ⟨B,k*7+5,none⟩ (.string Xl[k].tm)).setCell ⟨B,k*7+6,none⟩ (.string Xl[k].pf)) B Xl (k+1) (fun j=>if j<=k then c j else d):=by
 have hle:=fun i (hi:i<=k)=>h.le (i:=0) (j:=i) Zz_ hi
 have hle2:=fun i (hi:i < k)=>h.le (i:=i+1) (j:=k) (by omega) Zl_
 obtain⟨g1,g2,g3,f,hr,hall⟩:=h;have hts:Zag B (B+1) w1 (((((((w1.setCell ⟨B,k*7,none⟩ (.int .i64 Xl[k].nu)).setCell ⟨B,k*7+1,none⟩ (.string Xl[k].tw)).setCell ⟨B,k*7+2,none⟩ (.string Xl[k].gb)).setCell ⟨B,k*7+3,none⟩ (vv0)).setCell ⟨B,k*7+4,none⟩ (.string Xl[k].kd)).setCell ⟨B,k*7+5,none⟩ (.string Xl[k].tm)).setCell ⟨B,k*7+6,none⟩ (.string Xl[k].pf)):=((((((Zag.setB B _ _ _).trans (Zag.setB B _ _ _)).trans (Zag.setB B _ _ _)).trans (Zag.setB B _ _ _)).trans (Zag.setB B _ _ _)).trans (Zag.setB B _ _ _)).trans (Zag.setB B _ _ _);refine⟨by simpa using g1,fun i hi=>?_,?_,_,(((((((hr.set _ _).set _ _).set _ _).set _ _).set _ _).set _ _).set _ _),fun i hi hik=>?_⟩
 . dsimp only
   by_cases e:i=k
   . subst e;rw [if_pos Zl_,if_neg (by omega)];exact hd0
   . rw [if_pos (by omega),if_pos (by omega)];exact g2 i (by omega)
 . dsimp only;rw [if_neg (by omega)];exact Nat.le_trans hd hts.size
 by_cases e:i=k
 . subst e
   dsimp only;rw [if_pos Zl_,if_neg (by omega)];have hb0:=hle i Zl_;exact⟨hz,vv0,r0,by simp,by simp,by simp,by simp,by simp,by simp,by simp,e0.touch hts (by omega)⟩
 . dsimp only
   rw [if_pos (by omega),if_pos (by omega)];have hb0:=hle i (by omega);obtain⟨hz,vv0,q0,h0,h1,h2,h3,h4,h5,h6,l0⟩:=hall i hi (by omega);refine⟨hz,vv0,q0,?_,?_,?_,?_,?_,?_,?_,l0.touch hts (by omega)⟩
   . rw [if_neg (by omega),if_neg (by omega),if_neg (by omega),if_neg (by omega),if_neg (by omega),if_neg (by omega),if_neg (by omega)];exact h0
   . rw [if_neg (by omega),if_neg (by omega),if_neg (by omega),if_neg (by omega),if_neg (by omega),if_neg (by omega),if_neg (by omega)];exact h1
   . rw [if_neg (by omega),if_neg (by omega),if_neg (by omega),if_neg (by omega),if_neg (by omega),if_neg (by omega),if_neg (by omega)];exact h2
   . rw [if_neg (by omega),if_neg (by omega),if_neg (by omega),if_neg (by omega),if_neg (by omega),if_neg (by omega),if_neg (by omega)];exact h3
   . rw [if_neg (by omega),if_neg (by omega),if_neg (by omega),if_neg (by omega),if_neg (by omega),if_neg (by omega),if_neg (by omega)];exact h4
   . rw [if_neg (by omega),if_neg (by omega),if_neg (by omega),if_neg (by omega),if_neg (by omega),if_neg (by omega),if_neg (by omega)];exact h5
   . rw [if_neg (by omega),if_neg (by omega),if_neg (by omega),if_neg (by omega),if_neg (by omega),if_neg (by omega),if_neg (by omega)];exact h6
theorem Za1.own {c:Nat->Nat} (h:Za1 wr B Xl k c) (hk:k=Xl.length) (hne:Xl≠[]) (hm:Xl.length<=maxLen):ZbU B wr.heap.size wr (.slice (some ⟨B,0,none⟩) Xl.length Xl.length) Xl:=by
 subst hk;have hle:=fun i (hi:i<=Xl.length)=>h.le (i:=0) (j:=i) Zz_ hi
 have hle2:=fun i (hi:i < Xl.length)=>h.le (i:=i+1) (j:=Xl.length) (by omega) Zl_
 have hle3:=fun i j (hi:i < j) (hj:j < Xl.length)=>h.le (i:=i+1) (j:=j) (by omega) (by omega)
 obtain⟨g1,g2,g3,f,hr,hall⟩:=h;have h0:0 < Xl.length:=List.length_pos_iff.2 hne
 refine Or.inr ⟨B,0,Xl.length,fun i=>(c i,c (i+1)),fun i=>if h:i < Xl.length then Xl[i] else Xl[0],rfl,hne,hm,Nat.le_refl _,fun i hi=>by simp [hi],hr.lt,Nat.le_refl _,hr.lt,fun i hi=>⟨by have:=hle i (by omega);simp only [];omega,by have:=hle2 i hi;simp only [];omega,Or.inl (by have:=hle i (by omega);simp only [];omega)⟩,hle3,fun i=>hr.frozen i,fun i hi=>?_⟩;obtain⟨hz,vv0,q0,h0,h1,h2,h3,h4,h5,h6,l0⟩:=hall i hi hi;simp only [hi,dif_pos];rw [Nat.zero_add];exact⟨hz,vv0,q0,⟨by rw [hr.cell (by omega),h0],by rw [hr.cell (by omega),h1],by rw [hr.cell (by omega),h2],by rw [hr.cell (by omega),h3],by rw [hr.cell (by omega),h4],by rw [hr.cell (by omega),h5],by rw [hr.cell (by omega),h6]⟩,l0⟩
theorem Za1.new (w:World) (Xl:List Gr) (z:Array Value):Za1 (w.alloc (.cells (madeCells z (Xl.length*7)) 140)) w.heap.size Xl 0 (fun _=>w.heap.size+1):=by
 refine⟨Nat.lt_succ_self _,fun i hi=>by omega,by simp,fun i=>(madeCells z (Xl.length*7)).getD i default,?_,fun i _ h=>by omega⟩;have:=World.rowIs_alloc w (madeCells z (Xl.length*7)) 140 (fun i=>(madeCells z (Xl.length*7)).getD i default) (fun i hi=>by simp [Array.getD,hi])
 rwa [size_madeCells] at this
theorem ZmL (lo:Nat) (v:Value) (Xl:List Gr) (w:World) (hv:ZbK lo w v Xl) (hn:Zei Xl) :
 Calls prog 40 #[v] w fun e w'=>∃ v',e=.returned v'/\Zw_ w w'/\ZbU w.heap.size w'.heap.size w' v' Xl:=by
 obtain⟨i0,hi,hz0,hz1,hz2⟩:=info_parts Tryz.info140;have HSM:=Zab hn.2;have hn1:=hn.1;clear hn
 by_cases hL:Xl=[]
 . subst hL
   obtain⟨a,cap,rfl⟩:=hv.form;clear hv
   have hmk:∀ u:World,(Instr.makeSlice 44 (.int .i64 0) (.int .i64 0)).run prog u=.ok (.slice (some ⟨u.heap.size,0,none⟩) 0 0) (u.alloc (.cells (madeCells (Value.cells (.agg #[.int .i64 0,.string ⟨#[]⟩,.string ⟨#[]⟩,.slice none 0 0,.string ⟨#[]⟩,.string ⟨#[]⟩,.string ⟨#[]⟩])) 0) 140)):=fun u=>by
    have h:=run_make (P:=prog) u 44 140 i0 _ underlying44 hi hz0 .i64 .i64 0 0 (by omega) (by omega) (by omega) (by omega)
    simpa [hz1] using h
   go_enter func40,ntmps40;go_wp2
   go_loop [4] (fun i=>i=.int .i64 0) (fun _=>0)
   case atStart=>rfl
   case round=>
    subst hrel;go_wp2;go_ret;exact⟨_,rfl,Zb_.alloc Zl_ _,Or.inl ⟨_,_,rfl,rfl⟩⟩
 . obtain⟨b,off,cap,rfl,hm,hbw,_,hc⟩:=hv.full hL
   clear hv;have HM:Hd (Xl.length<=maxLen):=hm;unfold maxLen at hm
   have hmk:∀ u:World,(Instr.makeSlice 44 (.int .i64 (Xl.length:Int)) (.int .i64 (Xl.length:Int))).run prog u=.ok (.slice (some ⟨u.heap.size,0,none⟩) Xl.length Xl.length) (u.alloc (.cells (madeCells (Value.cells (.agg #[.int .i64 0,.string ⟨#[]⟩,.string ⟨#[]⟩,.slice none 0 0,.string ⟨#[]⟩,.string ⟨#[]⟩,.string ⟨#[]⟩])) (Xl.length*7)) 140)):=fun u=>by
    have h:=run_make (P:=prog) u 44 140 i0 _ underlying44 hi hz0 .i64 .i64 Xl.length Xl.length (by omega) (by omega) (by rw [hz2];omega) (by omega);rw [hz1] at h
    simpa using h
   clear hi hz0 hz1 hz2;go_enter func40,ntmps40;go_wp2;clear hmk
   go_loopw [4] (fun i wr=>∃ (k:Nat) (c:Nat->Nat),i=.int .i64 k/\k<=Xl.length/\Zw_ w wr/\Za1 wr w.heap.size Xl k c) (fun i _=>Xl.length - (intOf i).toNat)
   case atStart=>exact⟨0,_,rfl,by omega,Zb_.alloc Zl_ _,Za1.new w Xl _⟩
   case round=>
    obtain⟨k,c,rfl,hk,hb,hf⟩:=hrel
    by_cases hlt:k < Xl.length
    . obtain⟨hs,vv0,hc,hv0⟩:=hc k hlt
      have HB:=Zab hb;have HF:=Zab hf;have HSZ:=Zab hs;obtain⟨x0,y0,rfl⟩:=hv0.form;obtain⟨c0,c1,c2,c3,c4,c5,c6⟩:=hc.below hb hbw;have HV0:=Zab (hv0.below hb);clear hv0;clear hc hb hf hs;go_wp2_with fail;refine (ZoG 0 Xl[k] _ _ (HV0.o.mono Zz_) (HSM.o k hlt)).mono ?_;rintro e w1 ⟨z0,rfl,hb1,hO0⟩;obtain⟨s0,t0,rfl⟩:=hO0.form;have hf1:=HF.o.below hb1;have hB:Hd (Zw_ w w1):=HB.o.trans (hb1.mono HB.o.size);have HST:=Zab (hf1.step hlt HSZ.o w1.heap.size (Nat.le_trans HF.o.2.2.1 hb1.size) Zl_ (Nat.le_trans HF.o.2.2.1 hb1.size) (hO0.wide HF.o.2.2.1 Zl_));have hfr:=hf1.free;obtain⟨o0,ho0⟩:=hf1.there (k*7) (by omega);obtain⟨o1,ho1⟩:=hf1.there (k*7+1) (by omega);obtain⟨o2,ho2⟩:=hf1.there (k*7+2) (by omega);obtain⟨o3,ho3⟩:=hf1.there (k*7+3) (by omega);obtain⟨o4,ho4⟩:=hf1.there (k*7+4) (by omega)
      obtain⟨o5,ho5⟩:=hf1.there (k*7+5) (by omega);obtain⟨o6,ho6⟩:=hf1.there (k*7+6) (by omega);clear hf1 hb1 HF HB c0 c1 c2 c3 c4 c5 c6;go_wp2;go_roundw
      . 
       exact⟨k+1,_,by go_num,by omega,(((((((hB.o.setCell Zl_ _).setCell Zl_ _).setCell Zl_ _).setCell Zl_ _).setCell Zl_ _).setCell Zl_ _).setCell Zl_ _),HST.o⟩
      . simp [intOf];omega
    . have e:k=Xl.length:=by omega
      go_wp2;go_ret;exact⟨_,rfl,hb,hf.own e hL HM.o⟩
end
section
open Go.RowKit Go.Deep
variable {base:Nat} {W:World} {v:Value}
theorem ZpT {e:TypeId}{sz n:Nat}{cs:List Value} (h:W.ownsRow base e sz v n cs) {g:Nat} (hg:v.ownBlock=some g):g < W.heap.size/\base<=g/\∀ i,W.frozen? ⟨g,i,none⟩=false:=by
 rcases h.2 with ⟨hv,_⟩ | ⟨g',cap,cur,hv,h1,h2,_⟩
 . rw [hv] at hg;cases hg
 . rw [hv] at hg
   have e:g'=g:=by simpa [Value.ownBlock] using hg
   subst e;refine⟨?_,h1,fun i=>by simp [World.frozen?,h2]⟩
   rcases Nat.lt_or_ge g' W.heap.size with h | h
   . exact h
   . rw [Array.getElem?_eq_none h] at h2;cases h2
def ivO (L:List Int):List Value:=L.map (Value.int .i64)
theorem Zer {L:List Int} (h:W.ownsRow base 3 1 v L.length (ivO L)):Zaw base W.heap.size W v L:=by
 by_cases hL:L=[]
 . subst hL
   rcases h.2 with ⟨hv,_⟩ | ⟨g,cap,cur,hv,_⟩
   . exact Or.inl ⟨_,_,hv,rfl⟩
   . exact Or.inl ⟨_,_,hv,rfl⟩
 . rcases h.2 with ⟨_,hn⟩ | ⟨g,cap,cur,hv,h1,h2,h3,h4,_⟩
   . exact absurd (List.length_eq_zero_iff.1 hn) hL
   . have hl:=ZpT h (g:=g) (by rw [hv];rfl)
     have ho:=h;subst hv;refine Or.inr ⟨g,0,cap,rfl,hL,Nat.le_trans h3 h4,hl.1,fun i hi=>?_,hl.2.1,hl.1,fun i=>hl.2.2 _⟩;rw [Nat.zero_add,ho.cellAt i (by omega)];unfold ivO;rw [List.getElem?_map,List.getElem?_eq_getElem hi]
     rfl
end
open Go.RowKit Go.Deep
theorem ZjI {Ss:List Sh}{Ts:List Tm}{B:Bk}{FF:Nat->List Zy_} (h:Zas Ss Ts B FF=true):ZiZ Ss B.os:=fun i hi=>by
 unfold Zas at h;simp only [Bool.and_eq_true] at h;have ha:=Zli (k:=i) hi h.2.2;rw [Ziz hi] at ha
 cases hs:Zca Ss B.os[i].kd with
 | none=>rw [ZfJ hs] at ha;cases ha
 | some y=>
  rw [ZfK hs] at ha;simp only [Bool.and_eq_true] at ha;have h0:=ha.1;unfold Zce at h0;simp only [Bool.and_eq_true,decide_eq_true_eq] at h0;exact⟨y,rfl,(Zel h0.1).symm⟩
end Go.Proofs.YtmappejlmapboaaGreat
