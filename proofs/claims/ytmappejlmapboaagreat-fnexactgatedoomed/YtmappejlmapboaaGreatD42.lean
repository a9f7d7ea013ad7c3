import Derived.Test.YtmappejlmapboaaGreatD39
import Derived.Test.YtmappejlmapboaaGreatD41
import Derived.RangeFuncMany
import Derived.RangeFuncGives
import Derived.Sort.MapsRangeIn
import Derived.Sort.KeysCollected
import Derived.Shelf.AbstractIn
import Derived.RegionIn
set_option maxHeartbeats 16000000
set_option maxRecDepth 100000
open Go.Proofs.Tryz
namespace Go.Proofs.YtmappejlmapboaaGreat
open Go.RowKit Go.Deep Go.Maps Go.Sort Go.Shelf
section
variable {Os:List Ob} {xs:List Int}
structure ZgS (Os:List Ob) (P:Nat->Bool) (xs:List Int):Prop where
 once:xs.Nodup
 mem:∀ x:Int,x ∈ xs↔∃ i,∃ _:i < Os.length,x=(i:Int)/\P i=true
structure Zd9 (Os:List Ob) (P:Nat->Bool) (left:Lit->Bool) (xs:List Int):Prop where
 once:xs.Nodup
 mem:∀ x:Int,x ∈ xs↔∃ i,∃ _:i < Os.length,x=(i:Int)/\P i=true/\left (ZbI Os[i].kd Os[i].nm)=false
def Zfz (Os:List Ob):Prop:=∀ i (h:i < Os.length),Os[i].kd.size<=maxLen/\Os[i].nm.size<=maxLen
theorem ZsX (ho:xs.Nodup) (h:∀ x ∈ xs,∃ i,∃ _:i < Os.length,x=(i:Int)):xs.length<=Os.length:=by
 have:=List.Nodup.length_le_of_subset (l₂:=(List.range Os.length).map fun i:Nat=>(i:Int)) ho fun x hx=>by
  obtain⟨i,hi,rfl⟩:=h x hx;exact List.mem_map.2 ⟨i,List.mem_range.2 hi,rfl⟩
 simpa using this
theorem Zd9.start {D:DataW Value}{P:Nat->Bool} (hD:ZfB Os D P) (hd:Zhl Os) (hk:Zfz Os):Zd9 Os P (has D) []:=
 ⟨List.nodup_nil,fun x=>⟨(fun h=>by cases h),fun ⟨i,hi,_,hp,hl⟩=>by
  have:has D (ZbI Os[i].kd Os[i].nm)=true:=has_true_of_atKey (y:=.held (.int .i64 (i:Int))) fun zd=>by
   rw [hD.at' _ _ (hk i hi).1 (hk i hi).2,Zfd hd hi hp]
  rw [this] at hl
  cases hl⟩⟩
theorem Zd9.next {D:DataW Value}{P:Nat->Bool}{left:Lit->Bool} (h:Zd9 Os P left xs) (hD:ZfB Os D P) (hd:Zhl Os) (hk:Zfz Os) {a b:Zy_} {c:Value}
 (sa:a.size<=maxLen) (sb:b.size<=maxLen) (hl:left (ZbI a b)=true) (hat:∀ zd,D.atKey (ZbI a b) zd=.held c) :
 ∃ i:Nat,c=.int .i64 (i:Int)/\xs.length < Os.length/\Zd9 Os P (fun z=>left z&&!z.sameKey (ZbI a b)) (xs ++ [(i:Int)]):=by
 have h1:=hat (.held (.bool true));have h2:=hat (.held (.bool false));rw [hD.at' a b sa sb] at h1 h2
 cases hs:ZeC Os P a b with
 | none=>
  rw [hs] at h1 h2;dsimp only at h1 h2;rw [<- h2] at h1;injection h1 with h1
  injection h1 with h1
  cases h1
 | some i=>
  rw [hs] at h1;dsimp only at h1;injection h1 with h1
  obtain⟨hp,hi,rfl,rfl⟩:=ZgK hs
  have hnew:(i:Int) ∉ xs:=fun hx=>by
   obtain⟨j,hj,e,-,hf⟩:=(h.mem _).1 hx;have:i=j:=by omega
   subst this;rw [hl] at hf
   cases hf
  have ho:(xs ++ [(i:Int)]).Nodup:=List.nodup_append.2 ⟨h.once,by simp,fun x hx y hy=>by
   simp at hy;subst hy;exact fun e=>hnew (e ▸ hx)⟩
  have hm:∀ x:Int,x ∈ xs ++ [(i:Int)]↔∃ j,∃ _:j < Os.length,x=(j:Int)/\P j=true/\(left (ZbI Os[j].kd Os[j].nm)&&!(ZbI Os[j].kd Os[j].nm).sameKey (ZbI Os[i].kd Os[i].nm))=false:=fun x=>by
   rw [List.mem_append,h.mem x]
   constructor
   . rintro (⟨j,hj,e,hpj,hf⟩ | hx)
     . exact⟨j,hj,e,hpj,by rw [hf];rfl⟩
     . refine⟨i,hi,by simpa using hx,hp,?_⟩
       rw [WideAt.sameKey_self (ZeW _ _)];simp
   . rintro⟨j,hj,e,hpj,hf⟩
     by_cases hlj:left (ZbI Os[j].kd Os[j].nm)=false
     . exact Or.inl ⟨j,hj,e,hpj,hlj⟩
     . right
       have hsk:(ZbI Os[j].kd Os[j].nm).sameKey (ZbI Os[i].kd Os[i].nm)=true:=by
        rw [show left (ZbI Os[j].kd Os[j].nm)=true by revert hlj;cases left (ZbI Os[j].kd Os[j].nm) <;> simp] at hf
        simpa using hf
       have hee:ZbI Os[j].kd Os[j].nm=ZbI Os[i].kd Os[i].nm:=by
        unfold ZbI at hsk |-
        simpa [Lit.sameKey] using hsk
       obtain⟨e1,e2⟩:=Zet.inj Zf0 (hk j hj).1 (hk j hj).2 (hk i hi).1 (hk i hi).2 hee;rw [e,hd j i hj hi e1 e2];exact List.mem_singleton_self _
  refine⟨i,h1.symm,?_,ho,hm⟩
  have:=ZsX (Os:=Os) ho fun x hx=>by
   obtain⟨j,hj,e,-⟩:=(hm x).1 hx;exact⟨j,hj,e⟩
  simp at this
  omega
theorem Zd9.all {P:Nat->Bool}{left:Lit->Bool} (h:Zd9 Os P left xs) (hl:∀ kl,left kl=false):ZgS Os P xs:=
 ⟨h.once,fun x=>by
  rw [h.mem x];exact⟨fun ⟨i,hi,e,hp,_⟩=>⟨i,hi,e,hp⟩,fun ⟨i,hi,e,hp⟩=>⟨i,hi,e,hp,hl _⟩⟩⟩
theorem Zpp (n:Nat) (hn:1<=n) (Os:List Ob) (Pm:Nat->Bool) (hd:Zhl Os) (hk:Zfz Os) (l Bm b nn:Nat) (D:DataW Value) (hD:ZfB Os D Pm) (J:List Int->World->Prop)
 (hY:∀ pre x W,J pre W->pre.length < Os.length->YieldAt Fence.wide (n - 1) prog l #[.int .i64 x] W fun e W'=>e=.returned (.bool true)/\J (pre ++ [x]) W'/\KeepsWalks W W')
 (W:World) (hJ:AbidesFrom W.heap.size J) (hm:W.cell? ⟨Bm,0,none⟩=some (.map (some b))) (hown:W.ownsMap prog 153 Zcu b nn D) (h0:J [] W) :
 CallsIn Fence.wide n prog 188 #[.func (.yield l) #[] #[],.pointer (some ⟨Bm,0,none⟩)] W fun e W'=>(∃ v,e=.returned v)/\∃ xs,ZgS Os Pm xs/\J xs W':=by
 have hfw:Fence.wide.fn 188:=trivial;refine callsIn_of_wp func188 rfl trivial ?_ rfl;simp only [ntmps188,List.size_toArray,List.length_cons,List.length_nil,Nat.reduceAdd,Nat.reduceSub,Array.replicate_succ,Array.replicate_zero,List.push_toArray,List.append_toArray,List.nil_append,List.cons_append]
 gi_wp2_with (first
  | (gi_at_range;refine wpListIn_range_own _ rfl _ 147 rfl 153 3 ZcJ underlying147 _ b nn _ rfl hown ?_;intro w0 hrg0 hg0 hs0)
  | gi_in)
 go_frame
 gi_loopw [4] (fun _ wr=>∃ (left:Lit->Bool) (cnt:Nat) (xs:List Int),wr.ranges prog 153 Zcu b W.heap.size nn D left cnt/\Zd9 Os Pm left xs/\J xs wr)
  (fun _ wr=>wr.rangeLeft b W.heap.size)
 case atStart=>
  exact⟨_,_,[],hrg0,Zd9.start hD hd hk,hJ [] W w0 none h0 hg0 (fun r e=>by cases e)⟩
 case round=>
  obtain⟨left,cnt,xs,hrg,hC,hJs⟩:=hrel
  gi_wp2_with (first
   | (gi_at_next;refine wpListIn_next_ranges _ rfl _ rfl 153 ZcJ Zcu (fun p:Zy_×Zy_=>.agg #[.string p.1,.string p.2]) (fun v:Value=>v) (fun key kl hk=>by obtain⟨a,b,rfl,-⟩:=Zc1.inv hk;exact⟨(a,b),rfl⟩) (fun v y hv=>⟨v,rfl⟩) b W.heap.size nn _ _ _ rfl hrg ?_ ?_)
   | gi_in)
  . intro hc0 hl0
    gi_wp2
    go_end0
    exact⟨⟨_,rfl⟩,xs,hC.all hl0,hJs⟩
  . intro x1 x2 c kl yd yp w2 cnt2 hkey hlk hv hat hrg2 hlt hg2 hs2 hen
    obtain⟨a',b',ek,rfl,sa,sb⟩:=Zc1.inv hkey
    have ey:yd=.held c:=by
     have:some (DataW.held c,([]:List MemPlace))=some (yd,yp):=hv;injection this with this
     injection this with this _
     exact this.symm
    subst ey;obtain⟨rfl,rfl⟩:x1=a'/\x2=b':=by simpa using ek
    obtain⟨i,rfl,hlen,hC2⟩:=hC.next hD hd hk sa sb hlk hat;have hJ2:J xs w2:=hJ _ wr w2 (some W.heap.size) hJs hg2 (fun r e=>by cases e;exact⟨Nat.le_refl _,hrg.iter_walk⟩);obtain⟨fn,tmps,assign,body,hy,hR⟩:=hY xs i w2 hJ2 hlen;clear hs2
    gi_wp2
    refine hR.mono ?_;rintro e W3 ⟨rfl,hJ3,hk3⟩
    gi_wp2
    have hrg3:=hrg2.of_walks hk3;go_roundw
    . exact⟨_,cnt2,xs ++ [(i:Int)],hrg3,hC2,hJ3⟩
    . rw [hrg3.left_eq,hrg.left_eq];exact hlt
end
variable {Os:List Ob} {xs:List Int}
def Zei (Os:List Ob) (P:Nat->Bool):List Int:=((List.range Os.length).filter P).map fun i:Nat=>(i:Int)
theorem ZgS.sorted {P:Nat->Bool} (h:ZgS Os P xs):xs.mergeSort (fun x y=>decide (x<=y))=Zei Os P:=by
 have hlt:(Zei Os P).Pairwise fun a b=>a < b:=by
  unfold Zei;rw [List.pairwise_map];exact ((List.pairwise_lt_range (n:=Os.length)).sublist List.filter_sublist).imp fun {a b} h=>by omega
 have hp:xs.Perm (Zei Os P):=by
  refine (List.perm_ext_iff_of_nodup h.once (hlt.imp fun {a b} h=>by omega)).2 fun x=>?_
  rw [h.mem x];unfold Zei;simp only [List.mem_map,List.mem_filter,List.mem_range];exact⟨fun ⟨i,hi,e,hp⟩=>⟨i,⟨hi,hp⟩,e.symm⟩,fun ⟨i,⟨hi,hp⟩,e⟩=>⟨i,hi,e.symm,hp⟩⟩
 refine List.Perm.eq_of_pairwise (le:=fun a b=>decide (a<=b)=true) (fun a b _ _ h1 h2=>?_) (List.pairwise_mergeSort (fun a b c h1 h2=>?_) (fun a b=>?_) xs) (hlt.imp fun {a b} h=>?_) ((List.mergeSort_perm xs _).trans hp)
 . simp at h1 h2;omega
 . simp at h1 h2 |-;omega
 . simp;omega
 . simp;omega
theorem ZgS.len {P:Nat->Bool} (h:ZgS Os P xs):xs.length=(Zei Os P).length:=by
 rw [<- h.sorted,List.length_mergeSort]
theorem Zkm (n:Nat) (hn:1<=n) (Os:List Ob) (Pm:Nat->Bool) (hd:Zhl Os) (hk:Zfz Os) (Bm b nn:Nat) (D:DataW Value) (hD:ZfB Os D Pm) (w:World) (hBm:Bm < w.heap.size)
 (hm:w.cell? ⟨Bm,0,none⟩=some (.map (some b))) (hown:w.ownsMap prog 153 Zcu b nn D) :
 SeqGives Fence.wide n prog 188 #[.pointer (some ⟨Bm,0,none⟩)] encZ (ZgS Os Pm) Os.length w:=fun l J W hW hJ hY h0=>by
 have hown':W.ownsMap prog 153 Zcu b nn D:=by
  have hbl:=hown.lt;obtain⟨es,clock,hb,Ft,hs,hD⟩:=hown;exact⟨es,clock,(hW.block b hbl).trans hb,Ft,hs,hD⟩
 exact Zpp n hn Os Pm hd hk l Bm b nn D hD J hY W hJ ((hW.cell (p:=⟨Bm,0,none⟩) hBm).trans hm) hown' h0
theorem Tryz.sortsA (m:Nat):AnyZI.SortsIn prog Tryz.sortedA_ren Fence.wide m:=
 ⟨fun blk off cap ss W hH hblk hsz=>callsIn_wide.2 (AnyM.slices_Sort_int Tryz.sortA blk off cap ss W hH hblk hsz),
  fun p cap W=>callsIn_wide.2 (AnyM.slices_Sort_int_none Tryz.sortA p cap W)⟩
theorem Zpo (n:Nat) (mb:Option Nat) (w:World) :
 CallsIn Fence.wide n prog 144 #[.map mb] w fun e w'=>e=.returned (.func (.func 188) #[] #[.pointer (some ⟨w.heap.size,0,none⟩)])/\w'=w.alloc (.cells #[.map mb] 147):=by
 refine callsIn_of_wp func144 rfl trivial ?_ rfl;simp only [ntmps144,List.size_toArray,List.length_cons,List.length_nil,Nat.reduceAdd,Nat.reduceSub,Array.replicate_succ,Array.replicate_zero,List.push_toArray,List.append_toArray,List.nil_append,List.cons_append]
 gi_wp2
 go_ret;exact⟨rfl,rfl⟩
theorem Zkf (Os:List Ob) (Pm:Nat->Bool) (hd:Zhl Os) (hk:Zfz Os) (hlen:Os.length<=1048576) (b nn:Nat) (D:DataW Value) (hD:ZfB Os D Pm) (w:World) (hown:w.ownsMap prog 153 Zcu b nn D) :
 Calls prog 94 #[.map (some b)] w fun e w'=>∃ v,e=.returned v/\Zw_ w w'/\Zav w.heap.size w'.heap.size w' v (Zei Os Pm):=by
 refine (callsIn_wide (n:=6)).1 ?_;have hbl:=hown.lt
 have hseq:SeqGives Fence.wide 2 prog 188 #[.pointer (some ⟨w.heap.size,0,none⟩)] encZ (ZgS Os Pm) Os.length (w.alloc (.cells #[.map (some b)] 147)):=
  Zkm 2 (by omega) Os Pm hd hk w.heap.size b nn D hD _ (by simp) (by simp) (by
   obtain⟨es,clock,hb,Ft,hs,hD⟩:=hown;exact⟨es,clock,(Below.heap_alloc _ _ b hbl).trans hb,Ft,hs,hD⟩)
 have cS:=AnyZI.sorted_in Tryz.sortedA Fence.wide 5 trivial trivial trivial trivial rfl (by omega) (Tryz.sortsA _) (enters_of func187 (by kernel_rfl) rfl) 188 #[.pointer (some ⟨w.heap.size,0,none⟩)] trivial (enters_of func188 (by kernel_rfl) rfl) _ _ (by unfold maxLen;omega) (by omega) _ hseq
 change CallsIn _ _ prog 143 _ _ _ at cS
 have hfK:Fence.wide.fn 144:=trivial;have hfS:Fence.wide.fn 143:=trivial;refine callsIn_of_wp func94 rfl trivial ?_ rfl;simp only [ntmps94,List.size_toArray,List.length_cons,List.length_nil,Nat.reduceAdd,Nat.reduceSub,Array.replicate_succ,Array.replicate_zero,List.push_toArray,List.append_toArray,List.nil_append,List.cons_append]
 gi_wp2_with (first
  | (gi_at_call 144;refine (Zpo _ _ _).mono ?_;rintro e w' ⟨rfl,rfl⟩)
  | (gi_at_call 143;refine cS.mono ?_;rintro e w' ⟨v,ss,rfl,hS,hrow,hnil,hb⟩))
 go_ret;rw [hS.len,hS.sorted] at hrow;exact⟨v,rfl,((Below.refl _ w).alloc Zl_ _).trans (hb.mono (by simp)),Zd0 (ownsRow_base_a hrow (by simp))⟩
end Go.Proofs.YtmappejlmapboaaGreat
