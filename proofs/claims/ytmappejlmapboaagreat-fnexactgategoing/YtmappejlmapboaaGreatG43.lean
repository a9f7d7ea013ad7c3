import Derived.Test.YtmappejlmapboaaGreatG40
import Derived.RangeFuncMany
import Derived.RangeFuncGives
import Derived.Sort.MapsRangeIn
import Derived.Sort.KeysCollected
import Derived.Shelf.AbstractIn
import Derived.RegionIn
import Derived.Shelf.SlIterI.Nil
import Derived.Shelf.SortM.Plain
import Derived.Shelf.SortM.SortNone
set_option maxHeartbeats 16000000
set_option maxRecDepth 100000
open Go.Proofs.Tryz
namespace Go.Proofs.YtmappejlmapboaaGreat
section
open Go.RowKit Go.Deep Go.Maps Go.Sort Go.Shelf
variable {Os:List Ob} {xs:List Int}
structure Zgr (Os:List Ob) (P:Nat->Bool) (xs:List Int):Prop where
 once:xs.Nodup
 mem:∀ x:Int,x ∈ xs↔∃ i,∃ _:i < Os.length,x=(i:Int)/\P i=true
structure ZdX (Os:List Ob) (P:Nat->Bool) (left:Lit->Bool) (xs:List Int):Prop where
 once:xs.Nodup
 mem:∀ x:Int,x ∈ xs↔∃ i,∃ _:i < Os.length,x=(i:Int)/\P i=true/\left (ZbG Os[i].kd Os[i].nm)=false
def Zf3 (Os:List Ob):Prop:=∀ i (h:i < Os.length),Os[i].kd.size<=maxLen/\Os[i].nm.size<=maxLen
theorem Zsb (ho:xs.Nodup) (h:∀ x ∈ xs,∃ i,∃ _:i < Os.length,x=(i:Int)):xs.length<=Os.length:=by
 have:=List.Nodup.length_le_of_subset (l₂:=(List.range Os.length).map fun i:Nat=>(i:Int)) ho fun x hx=>by
  obtain⟨i,hi,rfl⟩:=h x hx;exact List.mem_map.2 ⟨i,List.mem_range.2 hi,rfl⟩
 simpa using this
theorem ZdX.start {D:DataW Value}{P:Nat->Bool} (hD:Zfv Os D P) (hd:Zg4 Os) (hk:Zf3 Os):ZdX Os P (has D) []:=
 ⟨List.nodup_nil,fun x=>⟨(fun h=>by cases h),fun ⟨i,hi,_,hp,hl⟩=>by
  have:has D (ZbG Os[i].kd Os[i].nm)=true:=has_true_of_atKey (y:=.held (.int .i64 (i:Int))) fun zd=>by
   rw [hD.at' _ _ (hk i hi).1 (hk i hi).2,ZeY hd hi hp]
  rw [this] at hl
  cases hl⟩⟩
theorem ZdX.next {D:DataW Value}{P:Nat->Bool}{left:Lit->Bool} (h:ZdX Os P left xs) (hD:Zfv Os D P) (hd:Zg4 Os) (hk:Zf3 Os) {a b:Zy_} {c:Value}
 (sa:a.size<=maxLen) (sb:b.size<=maxLen) (hl:left (ZbG a b)=true) (hat:∀ zd,D.atKey (ZbG a b) zd=.held c) :
 ∃ i:Nat,c=.int .i64 (i:Int)/\xs.length < Os.length/\ZdX Os P (fun z=>left z&&!z.sameKey (ZbG a b)) (xs ++ [(i:Int)]):=by
 have h1:=hat (.held (.bool true));have h2:=hat (.held (.bool false));rw [hD.at' a b sa sb] at h1 h2
 cases hs:Zek Os P a b with
 | none=>
  rw [hs] at h1 h2;dsimp only at h1 h2;rw [<- h2] at h1;injection h1 with h1
  injection h1 with h1
  cases h1
 | some i=>
  rw [hs] at h1;dsimp only at h1;injection h1 with h1
  obtain⟨hp,hi,rfl,rfl⟩:=Zgm hs
  have hnew:(i:Int) ∉ xs:=fun hx=>by
   obtain⟨j,hj,e,-,hf⟩:=(h.mem _).1 hx;have:i=j:=by omega
   subst this;rw [hl] at hf
   cases hf
  have ho:(xs ++ [(i:Int)]).Nodup:=List.nodup_append.2 ⟨h.once,by simp,fun x hx y hy=>by
   simp at hy;subst hy;exact fun e=>hnew (e ▸ hx)⟩
  have hm:∀ x:Int,x ∈ xs ++ [(i:Int)]↔∃ j,∃ _:j < Os.length,x=(j:Int)/\P j=true/\(left (ZbG Os[j].kd Os[j].nm)&&!(ZbG Os[j].kd Os[j].nm).sameKey (ZbG Os[i].kd Os[i].nm))=false:=fun x=>by
   rw [List.mem_append,h.mem x]
   constructor
   . rintro (⟨j,hj,e,hpj,hf⟩ | hx)
     . exact⟨j,hj,e,hpj,by rw [hf];rfl⟩
     . refine⟨i,hi,by simpa using hx,hp,?_⟩
       rw [WideAt.sameKey_self (ZeG _ _)];simp
   . rintro⟨j,hj,e,hpj,hf⟩
     by_cases hlj:left (ZbG Os[j].kd Os[j].nm)=false
     . exact Or.inl ⟨j,hj,e,hpj,hlj⟩
     . right
       have hsk:(ZbG Os[j].kd Os[j].nm).sameKey (ZbG Os[i].kd Os[i].nm)=true:=by
        rw [show left (ZbG Os[j].kd Os[j].nm)=true by revert hlj;cases left (ZbG Os[j].kd Os[j].nm) <;> simp] at hf
        simpa using hf
       have hee:ZbG Os[j].kd Os[j].nm=ZbG Os[i].kd Os[i].nm:=by
        unfold ZbG at hsk |-
        simpa [Lit.sameKey] using hsk
       obtain⟨e1,e2⟩:=Zeu.inj Zgt (hk j hj).1 (hk j hj).2 (hk i hi).1 (hk i hi).2 hee;rw [e,hd j i hj hi e1 e2];exact List.mem_singleton_self _
  refine⟨i,h1.symm,?_,ho,hm⟩
  have:=Zsb (Os:=Os) ho fun x hx=>by
   obtain⟨j,hj,e,-⟩:=(hm x).1 hx;exact⟨j,hj,e⟩
  simp at this
  omega
theorem ZdX.all {P:Nat->Bool}{left:Lit->Bool} (h:ZdX Os P left xs) (hl:∀ kl,left kl=false):Zgr Os P xs:=
 ⟨h.once,fun x=>by
  rw [h.mem x];exact⟨fun ⟨i,hi,e,hp,_⟩=>⟨i,hi,e,hp⟩,fun ⟨i,hi,e,hp⟩=>⟨i,hi,e,hp,hl _⟩⟩⟩
theorem Zol (n:Nat) (hn:1<=n) (Os:List Ob) (Pm:Nat->Bool) (hd:Zg4 Os) (hk:Zf3 Os) (l Bm b nn:Nat) (D:DataW Value) (hD:Zfv Os D Pm) (J:List Int->World->Prop)
 (hY:∀ pre x W,J pre W->pre.length < Os.length->YieldAt Fence.wide (n - 1) prog l #[.int .i64 x] W fun e W'=>e=.returned (.bool true)/\J (pre ++ [x]) W'/\KeepsWalks W W')
 (W:World) (hJ:AbidesFrom W.heap.size J) (hm:W.cell? ⟨Bm,0,none⟩=some (.map (some b))) (hown:W.ownsMap prog 153 ZcK b nn D) (h0:J [] W) :
 CallsIn Fence.wide n prog 188 #[.func (.yield l) #[] #[],.pointer (some ⟨Bm,0,none⟩)] W fun e W'=>(∃ v,e=.returned v)/\∃ xs,Zgr Os Pm xs/\J xs W':=by
 have hfw:Fence.wide.fn 188:=trivial;refine callsIn_of_wp func188 rfl trivial ?_ rfl;simp only [ntmps188,List.size_toArray,List.length_cons,List.length_nil,Nat.reduceAdd,Nat.reduceSub,Array.replicate_succ,Array.replicate_zero,List.push_toArray,List.append_toArray,List.nil_append,List.cons_append]
 gi_wp2_with (first
  | (gi_at_range;refine wpListIn_range_own _ rfl _ 147 rfl 153 3 ZcB underlying147 _ b nn _ rfl hown ?_;intro w0 hrg0 hg0 hs0)
  | gi_in)
 go_frame
 gi_loopw [4] (fun _ wr=>∃ (left:Lit->Bool) (cnt:Nat) (xs:List Int),wr.ranges prog 153 ZcK b W.heap.size nn D left cnt/\ZdX Os Pm left xs/\J xs wr)
  (fun _ wr=>wr.rangeLeft b W.heap.size)
 case atStart=>
  exact⟨_,_,[],hrg0,ZdX.start hD hd hk,hJ [] W w0 none h0 hg0 (fun r e=>by cases e)⟩
 case round=>
  obtain⟨left,cnt,xs,hrg,hC,hJs⟩:=hrel
  gi_wp2_with (first
   | (gi_at_next;refine wpListIn_next_ranges _ rfl _ rfl 153 ZcB ZcK (fun p:Zy_×Zy_=>.agg #[.string p.1,.string p.2]) (fun v:Value=>v) (fun key kl hk=>by obtain⟨a,b,rfl,-⟩:=Zdb.inv hk;exact⟨(a,b),rfl⟩) (fun v y hv=>⟨v,rfl⟩) b W.heap.size nn _ _ _ rfl hrg ?_ ?_)
   | gi_in)
  . intro hc0 hl0
    gi_wp2
    go_end0
    exact⟨⟨_,rfl⟩,xs,hC.all hl0,hJs⟩
  . intro x1 x2 c kl yd yp w2 cnt2 hkey hlk hv hat hrg2 hlt hg2 hs2 hen
    obtain⟨a',b',ek,rfl,sa,sb⟩:=Zdb.inv hkey
    have ey:yd=.held c:=by
     have:some (DataW.held c,([]:List MemPlace))=some (yd,yp):=hv;injection this with this
     injection this with this _
     exact this.symm
    subst ey;obtain⟨rfl,rfl⟩:x1=a'/\x2=b':=by simpa using ek
    obtain⟨i,rfl,hlen,hC2⟩:=hC.next hD hd hk sa sb hlk hat;have hJ2:J xs w2:=hJ _ wr w2 (some W.heap.size) hJs hg2 (fun r e=>by cases e;exact⟨Nat.le_refl _,hrg.iter_walk⟩);obtain⟨fn,tmps,assign,body,hy,hR⟩:=hY xs i w2 hJ2 hlen;clear hs2
    gi_wp2
    refine hR.mono ?_;rintro e W3 ⟨rfl,hJ3,hk3⟩
    gi_wp2
    have hrg3:=hrg2.of_walks hk3;go_roundw
    . exact⟨_,cnt2,xs ++ [(i:Int)],hrg3,hC2,hJ3⟩
    . rw [hrg3.left_eq,hrg.left_eq];exact hlt
end
section
open Go.RowKit Go.Shelf
def Tryz.sortedA_ren:Go.Shelf.Ren:=⟨fun | 6=>143 | 8=>186 | 9=>187 | 11=>224 | 13=>226 | 12=>225 | 23=>256 | 24=>257 | 14=>247 | 15=>248 | 16=>249 | 17=>250 | 18=>251 | 19=>252 | 20=>253 | 21=>254 | 22=>255 | 25=>275 | 26=>276 | 27=>277 | 28=>278 | 29=>279 | 30=>274 | 31=>293 | n=>n,fun | 26=>3 | 28=>200 | 24=>35 | 0=>0 | 3=>3 | 37=>273 | 48=>303 | 50=>305 | 4=>4 | 40=>296 | 39=>295 | 45=>224 | 5=>5 | 9=>9 | 51=>320 | 55=>324 | 57=>341 | 58=>184 | 33=>240 | n=>n,fun | n=>n⟩
theorem Tryz.sortedA:Go.Proofs.SlLaysZI.n6 prog Tryz.sortedA_ren:={
 mixed:=by kernel_rfl
 f6:=⟨f143.name,by decide,func143.trans (congrArg some (by kernel_rfl))⟩
 f8:=⟨f186.name,by decide,func186.trans (congrArg some (by kernel_rfl))⟩
 f11:=⟨f224.name,by decide,func224.trans (congrArg some (by kernel_rfl))⟩
 t0:=underlying0
 a0:=Tryz.isAgg0
 z0:=Tryz.sizeOf0
 v0:=Tryz.zeroValue0
 t24:=underlying35
 a24:=Tryz.isAgg35
 z24:=Tryz.sizeOf35
 v24:=Tryz.zeroValue35
 t26:=underlying3
 a26:=Tryz.isAgg3
 z26:=Tryz.sizeOf3
 v26:=Tryz.zeroValue3
 t28:=underlying200
 a28:=Tryz.isAgg200
 z28:=Tryz.sizeOf200
 v28:=Tryz.zeroValue200
 i26:=by kernel_rfl }
def Tryz.sortA_ren:Go.Shelf.Ren:=⟨fun | 5=>187 | 8=>226 | 7=>225 | 19=>256 | 20=>257 | 10=>247 | 11=>248 | 12=>249 | 13=>250 | 14=>251 | 15=>252 | 16=>253 | 17=>254 | 18=>255 | 30=>275 | 31=>276 | 32=>277 | 33=>278 | 34=>279 | 35=>274 | 40=>293 | n=>n,fun | 23=>35 | 25=>3 | 3=>3 | 32=>273 | 22=>35 | 0=>0 | 44=>303 | 46=>305 | 4=>4 | 36=>296 | 35=>295 | 41=>224 | 5=>5 | 9=>9 | 53=>320 | 57=>324 | 63=>341 | 64=>184 | n=>n,fun | n=>n⟩
theorem Tryz.sortA:Go.Proofs.SlLaysM.n5 prog Tryz.sortA_ren:={
 mixed:=by kernel_rfl
 f5:=⟨f187.name,by decide,func187.trans (congrArg some (by kernel_rfl))⟩
 f7:=⟨f225.name,by decide,func225.trans (congrArg some (by kernel_rfl))⟩
 f8:=func226.trans (congrArg some (by kernel_rfl))
 f10:=⟨f247.name,by decide,func247.trans (congrArg some (by kernel_rfl))⟩
 f11:=⟨f248.name,by decide,func248.trans (congrArg some (by kernel_rfl))⟩
 f12:=⟨f249.name,by decide,func249.trans (congrArg some (by kernel_rfl))⟩
 f13:=⟨f250.name,by decide,func250.trans (congrArg some (by kernel_rfl))⟩
 f14:=⟨f251.name,by decide,func251.trans (congrArg some (by kernel_rfl))⟩
 f15:=⟨f252.name,by decide,func252.trans (congrArg some (by kernel_rfl))⟩
 f16:=⟨f253.name,by decide,func253.trans (congrArg some (by kernel_rfl))⟩
 f17:=⟨f254.name,by decide,func254.trans (congrArg some (by kernel_rfl))⟩
 f18:=⟨f255.name,by decide,func255.trans (congrArg some (by kernel_rfl))⟩
 f19:=func256.trans (congrArg some (by kernel_rfl))
 f20:=func257.trans (congrArg some (by kernel_rfl))
 f30:=⟨f275.name,by decide,func275.trans (congrArg some (by kernel_rfl))⟩
 f31:=func276.trans (congrArg some (by kernel_rfl))
 f32:=func277.trans (congrArg some (by kernel_rfl))
 f33:=⟨f278.name,by decide,func278.trans (congrArg some (by kernel_rfl))⟩
 f34:=⟨f279.name,by decide,func279.trans (congrArg some (by kernel_rfl))⟩
 f35:=⟨f274.name,by decide,func274.trans (congrArg some (by kernel_rfl))⟩
 f40:=⟨f293.name,by decide,func293.trans (congrArg some (by kernel_rfl))⟩
 t0:=underlying0
 a0:=Tryz.isAgg0
 z0:=Tryz.sizeOf0
 v0:=Tryz.zeroValue0
 t3:=underlying3
 a3:=Tryz.isAgg3
 z3:=Tryz.sizeOf3
 v3:=Tryz.zeroValue3
 t4:=underlying4
 a4:=Tryz.isAgg4
 z4:=Tryz.sizeOf4
 v4:=Tryz.zeroValue4
 t5:=underlying5
 a5:=Tryz.isAgg5
 z5:=Tryz.sizeOf5
 v5:=Tryz.zeroValue5
 t9:=underlying9
 a9:=Tryz.isAgg9
 z9:=Tryz.sizeOf9
 v9:=Tryz.zeroValue9
 t22:=underlying35
 a22:=Tryz.isAgg35
 z22:=Tryz.sizeOf35
 v22:=Tryz.zeroValue35
 t23:=underlying35
 a23:=Tryz.isAgg35
 z23:=Tryz.sizeOf35
 v23:=Tryz.zeroValue35
 t25:=underlying3
 a25:=Tryz.isAgg3
 z25:=Tryz.sizeOf3
 v25:=Tryz.zeroValue3
 t32:=underlying273
 a32:=Tryz.isAgg273
 z32:=Tryz.sizeOf273
 v32:=Tryz.zeroValue273
 t35:=underlying295
 a35:=Tryz.isAgg295
 z35:=Tryz.sizeOf295
 v35:=Tryz.zeroValue295
 t36:=underlying296
 a36:=Tryz.isAgg296
 z36:=Tryz.sizeOf296
 v36:=Tryz.zeroValue296
 t41:=underlying224
 a41:=Tryz.isAgg224
 z41:=Tryz.sizeOf224
 v41:=Tryz.zeroValue224
 t44:=underlying303
 a44:=Tryz.isAgg303
 z44:=Tryz.sizeOf303
 v44:=Tryz.zeroValue303
 t46:=underlying305
 a46:=Tryz.isAgg305
 z46:=Tryz.sizeOf305
 v46:=Tryz.zeroValue305
 t53:=underlying320
 a53:=Tryz.isAgg320
 z53:=Tryz.sizeOf320
 v53:=Tryz.zeroValue320
 t57:=underlying324
 a57:=Tryz.isAgg324
 z57:=Tryz.sizeOf324
 v57:=Tryz.zeroValue324
 t63:=underlying341
 a63:=Tryz.isAgg341
 z63:=Tryz.sizeOf341
 v63:=Tryz.zeroValue341
 t64:=underlying184
 a64:=Tryz.isAgg184
 z64:=Tryz.sizeOf184
 v64:=Tryz.zeroValue184 }
end
open Go.RowKit Go.Deep Go.Maps Go.Sort Go.Shelf
variable {Os:List Ob} {xs:List Int}
def Zd5 (Os:List Ob) (P:Nat->Bool):List Int:=((List.range Os.length).filter P).map fun i:Nat=>(i:Int)
theorem Zgr.sorted {P:Nat->Bool} (h:Zgr Os P xs):xs.mergeSort (fun x y=>decide (x<=y))=Zd5 Os P:=by
 have hlt:(Zd5 Os P).Pairwise fun a b=>a < b:=by
  unfold Zd5;rw [List.pairwise_map];exact ((List.pairwise_lt_range (n:=Os.length)).sublist List.filter_sublist).imp fun {a b} h=>by omega
 have hp:xs.Perm (Zd5 Os P):=by
  refine (List.perm_ext_iff_of_nodup h.once (hlt.imp fun {a b} h=>by omega)).2 fun x=>?_
  rw [h.mem x];unfold Zd5;simp only [List.mem_map,List.mem_filter,List.mem_range];exact⟨fun ⟨i,hi,e,hp⟩=>⟨i,⟨hi,hp⟩,e.symm⟩,fun ⟨i,⟨hi,hp⟩,e⟩=>⟨i,hi,e.symm,hp⟩⟩
 refine List.Perm.eq_of_pairwise (le:=fun a b=>decide (a<=b)=true) (fun a b _ _ h1 h2=>?_) (List.pairwise_mergeSort (fun a b c h1 h2=>?_) (fun a b=>?_) xs) (hlt.imp fun {a b} h=>?_) ((List.mergeSort_perm xs _).trans hp)
 . simp at h1 h2;omega
 . simp at h1 h2 |-;omega
 . simp;omega
 . simp;omega
theorem Zgr.len {P:Nat->Bool} (h:Zgr Os P xs):xs.length=(Zd5 Os P).length:=by
 rw [<- h.sorted,List.length_mergeSort]
theorem ZjL (n:Nat) (hn:1<=n) (Os:List Ob) (Pm:Nat->Bool) (hd:Zg4 Os) (hk:Zf3 Os) (Bm b nn:Nat) (D:DataW Value) (hD:Zfv Os D Pm) (w:World) (hBm:Bm < w.heap.size)
 (hm:w.cell? ⟨Bm,0,none⟩=some (.map (some b))) (hown:w.ownsMap prog 153 ZcK b nn D) :
 SeqGives Fence.wide n prog 188 #[.pointer (some ⟨Bm,0,none⟩)] encZ (Zgr Os Pm) Os.length w:=fun l J W hW hJ hY h0=>by
 have hown':W.ownsMap prog 153 ZcK b nn D:=by
  have hbl:=hown.lt;obtain⟨es,clock,hb,Ft,hs,hD⟩:=hown;exact⟨es,clock,(hW.block b hbl).trans hb,Ft,hs,hD⟩
 exact Zol n hn Os Pm hd hk l Bm b nn D hD J hY W hJ ((hW.cell (p:=⟨Bm,0,none⟩) hBm).trans hm) hown' h0
theorem Tryz.sortsA (m:Nat):AnyZI.SortsIn prog Tryz.sortedA_ren Fence.wide m:=
 ⟨fun blk off cap ss W hH hblk hsz=>callsIn_wide.2 (AnyM.slices_Sort_int Tryz.sortA blk off cap ss W hH hblk hsz),
  fun p cap W=>callsIn_wide.2 (AnyM.slices_Sort_int_none Tryz.sortA p cap W)⟩
theorem Zok (n:Nat) (mb:Option Nat) (w:World) :
 CallsIn Fence.wide n prog 144 #[.map mb] w fun e w'=>e=.returned (.func (.func 188) #[] #[.pointer (some ⟨w.heap.size,0,none⟩)])/\w'=w.alloc (.cells #[.map mb] 147):=by
 refine callsIn_of_wp func144 rfl trivial ?_ rfl;simp only [ntmps144,List.size_toArray,List.length_cons,List.length_nil,Nat.reduceAdd,Nat.reduceSub,Array.replicate_succ,Array.replicate_zero,List.push_toArray,List.append_toArray,List.nil_append,List.cons_append]
 gi_wp2
 go_ret;exact⟨rfl,rfl⟩
theorem ZjB (Os:List Ob) (Pm:Nat->Bool) (hd:Zg4 Os) (hk:Zf3 Os) (hlen:Os.length<=1048576) (b nn:Nat) (D:DataW Value) (hD:Zfv Os D Pm) (w:World) (hown:w.ownsMap prog 153 ZcK b nn D) :
 Calls prog 94 #[.map (some b)] w fun e w'=>∃ v,e=.returned v/\Zw_ w w'/\Zav w.heap.size w'.heap.size w' v (Zd5 Os Pm):=by
 refine (callsIn_wide (n:=6)).1 ?_;have hbl:=hown.lt
 have hseq:SeqGives Fence.wide 2 prog 188 #[.pointer (some ⟨w.heap.size,0,none⟩)] encZ (Zgr Os Pm) Os.length (w.alloc (.cells #[.map (some b)] 147)):=
  ZjL 2 (by omega) Os Pm hd hk w.heap.size b nn D hD _ (by simp) (by simp) (by
   obtain⟨es,clock,hb,Ft,hs,hD⟩:=hown;exact⟨es,clock,(Below.heap_alloc _ _ b hbl).trans hb,Ft,hs,hD⟩)
 have cS:=AnyZI.sorted_in Tryz.sortedA Fence.wide 5 trivial trivial trivial trivial rfl (by omega) (Tryz.sortsA _) (enters_of func187 (by kernel_rfl) rfl) 188 #[.pointer (some ⟨w.heap.size,0,none⟩)] trivial (enters_of func188 (by kernel_rfl) rfl) _ _ (by unfold maxLen;omega) (by omega) _ hseq
 change CallsIn _ _ prog 143 _ _ _ at cS
 have hfK:Fence.wide.fn 144:=trivial;have hfS:Fence.wide.fn 143:=trivial;refine callsIn_of_wp func94 rfl trivial ?_ rfl;simp only [ntmps94,List.size_toArray,List.length_cons,List.length_nil,Nat.reduceAdd,Nat.reduceSub,Array.replicate_succ,Array.replicate_zero,List.push_toArray,List.append_toArray,List.nil_append,List.cons_append]
 gi_wp2_with (first
  | (gi_at_call 144;refine (Zok _ _ _).mono ?_;rintro e w' ⟨rfl,rfl⟩)
  | (gi_at_call 143;refine cS.mono ?_;rintro e w' ⟨v,ss,rfl,hS,hrow,hnil,hb⟩))
 go_ret;rw [hS.len,hS.sorted] at hrow;exact⟨v,rfl,((Below.refl _ w).alloc Zl_ _).trans (hb.mono (by simp)),ZdO (ownsRow_base_a hrow (by simp))⟩
end Go.Proofs.YtmappejlmapboaaGreat
