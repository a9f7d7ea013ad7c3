import Derived.Test.YtmappejlmapboaaGreatV43
import Derived.Test.YtmappejlmapboaaGreatV55
set_option maxHeartbeats 16000000
set_option maxRecDepth 100000
open Go.Proofs.Tryz
namespace Go.Proofs.YtmappejlmapboaaGreat
open Go.RowKit Go.Deep Go.Maps Go.Sort Go.Shelf
variable {Os:List Ob} {xs:List Int}
def ZeS (Os:List Ob) (P:Nat->Bool):List Int:=((List.range Os.length).filter P).map fun i:Nat=>(i:Int)
theorem ZfS.sorted {P:Nat->Bool} (h:ZfS Os P xs):xs.mergeSort (fun x y=>decide (x<=y))=ZeS Os P:=by
 have hlt:(ZeS Os P).Pairwise fun a b=>a < b:=by
  unfold ZeS;rw [List.pairwise_map];exact ((List.pairwise_lt_range (n:=Os.length)).sublist List.filter_sublist).imp fun {a b} h=>by omega
 have hp:xs.Perm (ZeS Os P):=by
  refine (List.perm_ext_iff_of_nodup h.once (hlt.imp fun {a b} h=>by omega)).2 fun x=>?_
  rw [h.mem x];unfold ZeS;simp only [List.mem_map,List.mem_filter,List.mem_range];exact⟨fun ⟨i,hi,e,hp⟩=>⟨i,⟨hi,hp⟩,e.symm⟩,fun ⟨i,⟨hi,hp⟩,e⟩=>⟨i,hi,e.symm,hp⟩⟩
 refine List.Perm.eq_of_pairwise (le:=fun a b=>decide (a<=b)=true) (fun a b _ _ h1 h2=>?_) (List.pairwise_mergeSort (fun a b c h1 h2=>?_) (fun a b=>?_) xs) (hlt.imp fun {a b} h=>?_) ((List.mergeSort_perm xs _).trans hp)
 . simp at h1 h2;omega
 . simp at h1 h2 |-;omega
 . simp;omega
 . simp;omega
theorem ZfS.len {P:Nat->Bool} (h:ZfS Os P xs):xs.length=(ZeS Os P).length:=by
 rw [<- h.sorted,List.length_mergeSort]
theorem ZiS (n:Nat) (hn:1<=n) (Os:List Ob) (Pm:Nat->Bool) (hd:ZoT Os) (hk:Zfx Os) (Bm b nn:Nat) (D:DataW Value) (hD:ZiY Os D Pm) (w:World) (hBm:Bm < w.heap.size)
 (hm:w.cell? ⟨Bm,0,none⟩=some (.map (some b))) (hown:w.ownsMap prog 153 Zg8 b nn D) :
 SeqGives Fence.wide n prog 188 #[.pointer (some ⟨Bm,0,none⟩)] encZ (ZfS Os Pm) Os.length w:=fun l J W hW hJ hY h0=>by
 have hown':W.ownsMap prog 153 Zg8 b nn D:=by
  have hbl:=hown.lt;obtain⟨es,clock,hb,Ft,hs,hD⟩:=hown;exact⟨es,clock,(hW.block b hbl).trans hb,Ft,hs,hD⟩
 exact Zm2 n hn Os Pm hd hk l Bm b nn D hD J hY W hJ ((hW.cell (p:=⟨Bm,0,none⟩) hBm).trans hm) hown' h0
theorem Tryz.sortsA (m:Nat):AnyZI.SortsIn prog Tryz.sortedA_ren Fence.wide m:=
 ⟨fun blk off cap ss W hH hblk hsz=>callsIn_wide.2 (AnyM.slices_Sort_int Tryz.sortA blk off cap ss W hH hblk hsz),
  fun p cap W=>callsIn_wide.2 (AnyM.slices_Sort_int_none Tryz.sortA p cap W)⟩
theorem Zm1 (n:Nat) (mb:Option Nat) (w:World) :
 CallsIn Fence.wide n prog 144 #[.map mb] w fun e w'=>e=.returned (.func (.func 188) #[] #[.pointer (some ⟨w.heap.size,0,none⟩)])/\w'=w.alloc (.cells #[.map mb] 147):=by
 refine callsIn_of_wp func144 rfl trivial ?_ rfl;simp only [ntmps144,List.size_toArray,List.length_cons,List.length_nil,Nat.reduceAdd,Nat.reduceSub,Array.replicate_succ,Array.replicate_zero,List.push_toArray,List.append_toArray,List.nil_append,List.cons_append]
 gi_wp2
 go_ret;exact⟨rfl,rfl⟩
theorem ZiJ (Os:List Ob) (Pm:Nat->Bool) (hd:ZoT Os) (hk:Zfx Os) (hlen:Os.length<=1048576) (b nn:Nat) (D:DataW Value) (hD:ZiY Os D Pm) (w:World) (hown:w.ownsMap prog 153 Zg8 b nn D) :
 Calls prog 94 #[.map (some b)] w fun e w'=>∃ v,e=.returned v/\Zw_ w w'/\Zaw w.heap.size w'.heap.size w' v (ZeS Os Pm):=by
 refine (callsIn_wide (n:=6)).1 ?_;have hbl:=hown.lt
 have hseq:SeqGives Fence.wide 2 prog 188 #[.pointer (some ⟨w.heap.size,0,none⟩)] encZ (ZfS Os Pm) Os.length (w.alloc (.cells #[.map (some b)] 147)):=
  ZiS 2 (by omega) Os Pm hd hk w.heap.size b nn D hD _ (by simp) (by simp) (by
   obtain⟨es,clock,hb,Ft,hs,hD⟩:=hown;exact⟨es,clock,(Below.heap_alloc _ _ b hbl).trans hb,Ft,hs,hD⟩)
 have cS:=AnyZI.sorted_in Tryz.sortedA Fence.wide 5 trivial trivial trivial trivial rfl (by omega) (Tryz.sortsA _) (enters_of func187 (by kernel_rfl) rfl) 188 #[.pointer (some ⟨w.heap.size,0,none⟩)] trivial (enters_of func188 (by kernel_rfl) rfl) _ _ (by unfold maxLen;omega) (by omega) _ hseq
 change CallsIn _ _ prog 143 _ _ _ at cS
 have hfK:Fence.wide.fn 144:=trivial;have hfS:Fence.wide.fn 143:=trivial;refine callsIn_of_wp func94 rfl trivial ?_ rfl;simp only [ntmps94,List.size_toArray,List.length_cons,List.length_nil,Nat.reduceAdd,Nat.reduceSub,Array.replicate_succ,Array.replicate_zero,List.push_toArray,List.append_toArray,List.nil_append,List.cons_append]
 gi_wp2_with (first
  | (gi_at_call 144;refine (Zm1 _ _ _).mono ?_;rintro e w' ⟨rfl,rfl⟩)
  | (gi_at_call 143;refine cS.mono ?_;rintro e w' ⟨v,ss,rfl,hS,hrow,hnil,hb⟩))
 go_ret;rw [hS.len,hS.sorted] at hrow;exact⟨v,rfl,((Below.refl _ w).alloc Zl_ _).trans (hb.mono (by simp)),Zer (ownsRow_base_a hrow (by simp))⟩
end Go.Proofs.YtmappejlmapboaaGreat
