import Derived.Test.YtmappejlmapboaaGreatV49
import Derived.Test.YtmappejlmapboaaGreatV52
import Derived.Test.YtmappejlmapboaaGreatV43
import Derived.Shelf.SlIterI.Nil
import Derived.Shelf.SortM.Plain
import Derived.Shelf.SortM.SortNone
set_option maxHeartbeats 16000000
set_option maxRecDepth 100000
open Go.Proofs.Tryz
namespace Go.Proofs.YtmappejlmapboaaGreat
section
open Go.RowKit Go.Shelf
def Tryz.sortedA_ren:Go.Shelf.Ren:=⟨fun | 6=>143 | 8=>186 | 9=>187 | 11=>224 | 13=>226 | 12=>225 | 23=>256 | 24=>257 | 14=>247 | 15=>248 | 16=>249 | 17=>250 | 18=>251 | 19=>252 | 20=>253 | 21=>254 | 22=>255 | 25=>275 | 26=>276 | 27=>277 | 28=>278 | 29=>279 | 30=>274 | 31=>293 | n=>n,fun | 26=>3 | 28=>200 | 24=>35 | 0=>0 | 3=>3 | 37=>273 | 48=>303 | 50=>305 | 4=>4 | 40=>296 | 39=>295 | 45=>224 | 5=>5 | 9=>9 | 51=>320 | 55=>324 | 57=>341 | 58=>184 | 33=>240 | n=>n,fun | n=>n⟩
theorem Tryz.sortedA:Go.Proofs.SlLaysZI.n6 prog Tryz.sortedA_ren:={
 mixed:=by kernel_rfl
 f6:=⟨f143.name,by decide,func143.trans (congrArg some (by kernel_rfl))⟩
 f8:=⟨f186.name,by decide,func186.trans (congrArg some (by kernel_rfl))⟩
 f11:=⟨f224.name,by decide,func224.trans (congrArg some (by kernel_rfl))⟩
 t0:=underlying0
 a0:=Tryz.isAgg0
 z0:=Tryz.sizeOf0
 v0:=Tryz.zeroValue0
 t24:=underlying35
 a24:=Tryz.isAgg35
 z24:=Tryz.sizeOf35
 v24:=Tryz.zeroValue35
 t26:=underlying3
 a26:=Tryz.isAgg3
 z26:=Tryz.sizeOf3
 v26:=Tryz.zeroValue3
 t28:=underlying200
 a28:=Tryz.isAgg200
 z28:=Tryz.sizeOf200
 v28:=Tryz.zeroValue200
 i26:=by kernel_rfl }
def Tryz.sortA_ren:Go.Shelf.Ren:=⟨fun | 5=>187 | 8=>226 | 7=>225 | 19=>256 | 20=>257 | 10=>247 | 11=>248 | 12=>249 | 13=>250 | 14=>251 | 15=>252 | 16=>253 | 17=>254 | 18=>255 | 30=>275 | 31=>276 | 32=>277 | 33=>278 | 34=>279 | 35=>274 | 40=>293 | n=>n,fun | 23=>35 | 25=>3 | 3=>3 | 32=>273 | 22=>35 | 0=>0 | 44=>303 | 46=>305 | 4=>4 | 36=>296 | 35=>295 | 41=>224 | 5=>5 | 9=>9 | 53=>320 | 57=>324 | 63=>341 | 64=>184 | n=>n,fun | n=>n⟩
theorem Tryz.sortA:Go.Proofs.SlLaysM.n5 prog Tryz.sortA_ren:={
 mixed:=by kernel_rfl
 f5:=⟨f187.name,by decide,func187.trans (congrArg some (by kernel_rfl))⟩
 f7:=⟨f225.name,by decide,func225.trans (congrArg some (by kernel_rfl))⟩
 f8:=func226.trans (congrArg some (by kernel_rfl))
 f10:=⟨f247.name,by decide,func247.trans (congrArg some (by kernel_rfl))⟩
 f11:=⟨f248.name,by decide,func248.trans (congrArg some (by kernel_rfl))⟩
 f12:=⟨f249.name,by decide,func249.trans (congrArg some (by kernel_rfl))⟩
 f13:=⟨f250.name,by decide,func250.trans (congrArg some (by kernel_rfl))⟩
 f14:=⟨f251.name,by decide,func251.trans (congrArg some (by kernel_rfl))⟩
 f15:=⟨f252.name,by decide,func252.trans (congrArg some (by kernel_rfl))⟩
 f16:=⟨f253.name,by decide,func253.trans (congrArg some (by kernel_rfl))⟩
 f17:=⟨f254.name,by decide,func254.trans (congrArg some (by kernel_rfl))⟩
 f18:=⟨f255.name,by decide,func255.trans (congrArg some (by kernel_rfl))⟩
 f19:=func256.trans (congrArg some (by kernel_rfl))
 f20:=func257.trans (congrArg some (by kernel_rfl))
 f30:=⟨f275.name,by decide,func275.trans (congrArg some (by kernel_rfl))⟩
 f31:=func276.trans (congrArg some (by kernel_rfl))
 f32:=func277.trans (congrArg some (by kernel_rfl))
 f33:=⟨f278.name,by decide,func278.trans (congrArg some (by kernel_rfl))⟩
 f34:=⟨f279.name,by decide,func279.trans (congrArg some (by kernel_rfl))⟩
 f35:=⟨f274.name,by decide,func274.trans (congrArg some (by kernel_rfl))⟩
 f40:=⟨f293.name,by decide,func293.trans (congrArg some (by kernel_rfl))⟩
 t0:=underlying0
 a0:=Tryz.isAgg0
 z0:=Tryz.sizeOf0
 v0:=Tryz.zeroValue0
 t3:=underlying3
 a3:=Tryz.isAgg3
 z3:=Tryz.sizeOf3
 v3:=Tryz.zeroValue3
 t4:=underlying4
 a4:=Tryz.isAgg4
 z4:=Tryz.sizeOf4
 v4:=Tryz.zeroValue4
 t5:=underlying5
 a5:=Tryz.isAgg5
 z5:=Tryz.sizeOf5
 v5:=Tryz.zeroValue5
 t9:=underlying9
 a9:=Tryz.isAgg9
 z9:=Tryz.sizeOf9
 v9:=Tryz.zeroValue9
 t22:=underlying35
 a22:=Tryz.isAgg35
 z22:=Tryz.sizeOf35
 v22:=Tryz.zeroValue35
 t23:=underlying35
 a23:=Tryz.isAgg35
 z23:=Tryz.sizeOf35
 v23:=Tryz.zeroValue35
 t25:=underlying3
 a25:=Tryz.isAgg3
 z25:=Tryz.sizeOf3
 v25:=Tryz.zeroValue3
 t32:=underlying273
 a32:=Tryz.isAgg273
 z32:=Tryz.sizeOf273
 v32:=Tryz.zeroValue273
 t35:=underlying295
 a35:=Tryz.isAgg295
 z35:=Tryz.sizeOf295
 v35:=Tryz.zeroValue295
 t36:=underlying296
 a36:=Tryz.isAgg296
 z36:=Tryz.sizeOf296
 v36:=Tryz.zeroValue296
 t41:=underlying224
 a41:=Tryz.isAgg224
 z41:=Tryz.sizeOf224
 v41:=Tryz.zeroValue224
 t44:=underlying303
 a44:=Tryz.isAgg303
 z44:=Tryz.sizeOf303
 v44:=Tryz.zeroValue303
 t46:=underlying305
 a46:=Tryz.isAgg305
 z46:=Tryz.sizeOf305
 v46:=Tryz.zeroValue305
 t53:=underlying320
 a53:=Tryz.isAgg320
 z53:=Tryz.sizeOf320
 v53:=Tryz.zeroValue320
 t57:=underlying324
 a57:=Tryz.isAgg324
 z57:=Tryz.sizeOf324
 v57:=Tryz.zeroValue324
 t63:=underlying341
 a63:=Tryz.isAgg341
 z63:=Tryz.sizeOf341
 v63:=Tryz.zeroValue341
 t64:=underlying184
 a64:=Tryz.isAgg184
 z64:=Tryz.sizeOf184
 v64:=Tryz.zeroValue184 }
end
section
open Go.RowKit Go.Deep Go.Maps Go.Sort Go.Shelf
variable {Os:List Ob} {xs:List Int}
def ZeS (Os:List Ob) (P:Nat->Bool):List Int:=((List.range Os.length).filter P).map fun i:Nat=>(i:Int)
theorem ZfS.sorted {P:Nat->Bool} (h:ZfS Os P xs):xs.mergeSort (fun x y=>decide (x<=y))=ZeS Os P:=by
 have hlt:(ZeS Os P).Pairwise fun a b=>a < b:=by
  unfold ZeS;rw [List.pairwise_map];exact ((List.pairwise_lt_range (n:=Os.length)).sublist List.filter_sublist).imp fun {a b} h=>by omega
 have hp:xs.Perm (ZeS Os P):=by
  refine (List.perm_ext_iff_of_nodup h.once (hlt.imp fun {a b} h=>by omega)).2 fun x=>?_
  rw [h.mem x];unfold ZeS;simp only [List.mem_map,List.mem_filter,List.mem_range];exact⟨fun ⟨i,hi,e,hp⟩=>⟨i,⟨hi,hp⟩,e.symm⟩,fun ⟨i,⟨hi,hp⟩,e⟩=>⟨i,hi,e.symm,hp⟩⟩
 refine List.Perm.eq_of_pairwise (le:=fun a b=>decide (a<=b)=true) (fun a b _ _ h1 h2=>?_) (List.pairwise_mergeSort (fun a b c h1 h2=>?_) (fun a b=>?_) xs) (hlt.imp fun {a b} h=>?_) ((List.mergeSort_perm xs _).trans hp)
 . simp at h1 h2;omega
 . simp at h1 h2 |-;omega
 . simp;omega
 . simp;omega
theorem ZfS.len {P:Nat->Bool} (h:ZfS Os P xs):xs.length=(ZeS Os P).length:=by
 rw [<- h.sorted,List.length_mergeSort]
theorem ZiS (n:Nat) (hn:1<=n) (Os:List Ob) (Pm:Nat->Bool) (hd:ZoT Os) (hk:Zfx Os) (Bm b nn:Nat) (D:DataW Value) (hD:ZiY Os D Pm) (w:World) (hBm:Bm < w.heap.size)
 (hm:w.cell? ⟨Bm,0,none⟩=some (.map (some b))) (hown:w.ownsMap prog 153 Zg8 b nn D) :
 SeqGives Fence.wide n prog 188 #[.pointer (some ⟨Bm,0,none⟩)] encZ (ZfS Os Pm) Os.length w:=fun l J W hW hJ hY h0=>by
 have hown':W.ownsMap prog 153 Zg8 b nn D:=by
  have hbl:=hown.lt;obtain⟨es,clock,hb,Ft,hs,hD⟩:=hown;exact⟨es,clock,(hW.block b hbl).trans hb,Ft,hs,hD⟩
 exact Zm2 n hn Os Pm hd hk l Bm b nn D hD J hY W hJ ((hW.cell (p:=⟨Bm,0,none⟩) hBm).trans hm) hown' h0
theorem Tryz.sortsA (m:Nat):AnyZI.SortsIn prog Tryz.sortedA_ren Fence.wide m:=
 ⟨fun blk off cap ss W hH hblk hsz=>callsIn_wide.2 (AnyM.slices_Sort_int Tryz.sortA blk off cap ss W hH hblk hsz),
  fun p cap W=>callsIn_wide.2 (AnyM.slices_Sort_int_none Tryz.sortA p cap W)⟩
theorem Zm1 (n:Nat) (mb:Option Nat) (w:World) :
 CallsIn Fence.wide n prog 144 #[.map mb] w fun e w'=>e=.returned (.func (.func 188) #[] #[.pointer (some ⟨w.heap.size,0,none⟩)])/\w'=w.alloc (.cells #[.map mb] 147):=by
 refine callsIn_of_wp func144 rfl trivial ?_ rfl;simp only [ntmps144,List.size_toArray,List.length_cons,List.length_nil,Nat.reduceAdd,Nat.reduceSub,Array.replicate_succ,Array.replicate_zero,List.push_toArray,List.append_toArray,List.nil_append,List.cons_append]
 gi_wp2
 go_ret;exact⟨rfl,rfl⟩
theorem ZiJ (Os:List Ob) (Pm:Nat->Bool) (hd:ZoT Os) (hk:Zfx Os) (hlen:Os.length<=1048576) (b nn:Nat) (D:DataW Value) (hD:ZiY Os D Pm) (w:World) (hown:w.ownsMap prog 153 Zg8 b nn D) :
 Calls prog 94 #[.map (some b)] w fun e w'=>∃ v,e=.returned v/\Zw_ w w'/\Zaw w.heap.size w'.heap.size w' v (ZeS Os Pm):=by
 refine (callsIn_wide (n:=6)).1 ?_;have hbl:=hown.lt
 have hseq:SeqGives Fence.wide 2 prog 188 #[.pointer (some ⟨w.heap.size,0,none⟩)] encZ (ZfS Os Pm) Os.length (w.alloc (.cells #[.map (some b)] 147)):=
  ZiS 2 (by omega) Os Pm hd hk w.heap.size b nn D hD _ (by simp) (by simp) (by
   obtain⟨es,clock,hb,Ft,hs,hD⟩:=hown;exact⟨es,clock,(Below.heap_alloc _ _ b hbl).trans hb,Ft,hs,hD⟩)
 have cS:=AnyZI.sorted_in Tryz.sortedA Fence.wide 5 trivial trivial trivial trivial rfl (by omega) (Tryz.sortsA _) (enters_of func187 (by kernel_rfl) rfl) 188 #[.pointer (some ⟨w.heap.size,0,none⟩)] trivial (enters_of func188 (by kernel_rfl) rfl) _ _ (by unfold maxLen;omega) (by omega) _ hseq
 change CallsIn _ _ prog 143 _ _ _ at cS
 have hfK:Fence.wide.fn 144:=trivial;have hfS:Fence.wide.fn 143:=trivial;refine callsIn_of_wp func94 rfl trivial ?_ rfl;simp only [ntmps94,List.size_toArray,List.length_cons,List.length_nil,Nat.reduceAdd,Nat.reduceSub,Array.replicate_succ,Array.replicate_zero,List.push_toArray,List.append_toArray,List.nil_append,List.cons_append]
 gi_wp2_with (first
  | (gi_at_call 144;refine (Zm1 _ _ _).mono ?_;rintro e w' ⟨rfl,rfl⟩)
  | (gi_at_call 143;refine cS.mono ?_;rintro e w' ⟨v,ss,rfl,hS,hrow,hnil,hb⟩))
 go_ret;rw [hS.len,hS.sorted] at hrow;exact⟨v,rfl,((Below.refl _ w).alloc Zl_ _).trans (hb.mono (by simp)),Zer (ownsRow_base_a hrow (by simp))⟩
end
open Go.RowKit Go.Deep
section
variable {Os:List Ob} {L:List Int}
theorem ZqN (h:Zdf ZfD Os=true):ZoT Os:=fun i j hi hj e1 e2=>by
 have no:∀ a b (ha:a < Os.length) (hb:b < Os.length),a < b->Os[a].kd=Os[b].kd->Os[a].nm=Os[b].nm->False:=fun a b ha hb hab e1 e2=>by
  have:=ZiG (c:=ZfD) (fun x y z h h'=>ZhA h h') h ha hb hab;have h0:ZfD Os[a] Os[b]=0:=ZgD.2 ⟨e1,e2⟩
  omega
 rcases Nat.lt_trichotomy i j with h1 | h1 | h1
 . exact (no i j hi hj h1 e1 e2).elim
 . exact h1
 . exact (no j i hj hi h1 e1.symm e2.symm).elim
theorem ZnN {Ss:List Sh}{Ts:List Tm}{B:Bk}{FF:Nat->List Zy_} (h:Zas Ss Ts B FF=true):ZoT B.os:=by
 unfold Zas at h;simp only [Bool.and_eq_true] at h;exact ZqN h.2.1
theorem Zf8 {Ss:List Sh}{Ms:List Md}{Ts:List Tm}{B:Bk}{FF:Nat->List Zy_} (h:Zdg Ss Ms Ts B FF=true):Zas Ss Ts B FF=true:=by
 unfold Zdg ZdO at h;simp only [Bool.and_eq_true] at h;exact h.2.2.1
theorem Zl2 {lo:Nat}{w:World}{v:Value} (h:Zbg lo w v Os):Zfx Os:=fun i hi=>by
 obtain⟨a,cap,rfl⟩:=h.form;obtain⟨b,off,-,-,-,hc⟩:=h.full' (by omega);exact⟨(hc i hi).1.s0,(hc i hi).1.s1⟩
def ZoW (Ss:List Sh) (Ms:List Md) (Ts:List Tm) (B:Bk) (FF:Nat->List Zy_) (L:List Int):List Int:=if Zdg Ss Ms Ts B FF then L else []
theorem Zp5 {Ss:List Sh}{Ms:List Md}{Ts:List Tm}{B:Bk}{FF:Nat->List Zy_}{n:Nat} (h:L.length<=n):(ZoW Ss Ms Ts B FF L).length<=n:=by
 unfold ZoW
 split
 . exact h
 . simp
theorem ZkU {Ss:List Sh}{Ms:List Md}{Ts:List Tm}{B:Bk}{FF:Nat->List Zy_} (h:Zdg Ss Ms Ts B FF=false):ZoW Ss Ms Ts B FF L=[]:=by unfold ZoW;rw [h];rfl
theorem Zlq {Ss:List Sh}{Ms:List Md}{Ts:List Tm}{B:Bk}{FF:Nat->List Zy_} (h:Zdg Ss Ms Ts B FF=true):ZoW Ss Ms Ts B FF L=L:=by unfold ZoW;rw [h];rfl
section
variable (lo:Nat) (sv mv tv ov gv lv pv:Value) (Ss:List Sh) (Ms:List Md) (Ts:List Tm) (B:Bk) (FF:Nat->List Zy_) (w:World)
theorem ZjR (hl:Zbw lo w sv mv tv Ss Ms Ts) (h:ZaX lo w ov gv lv pv B) (hn:Zbj B) (hsh:Zcd Ss Ms B.os FF) :
 Calls prog 43 #[.agg #[sv,mv,tv],.agg #[.int .i64 B.now,.int .i64 B.tick,.int .i64 B.given,ov,gv,lv,pv],.func (.func 44) #[] #[]] w
  fun e w'=>∃ v,e=.returned v/\Zw_ w w'/\Zaw w.heap.size w'.heap.size w' v (ZoW Ss Ms Ts B FF (Zc1 Ss B.os B.os.length)):=by
 have HL:=Zab hl;have HK:=Zab h;have HN:=Zab hn;have HSH:=Zab hsh;obtain⟨sa,sc,rfl⟩:=hl.shs.form;obtain⟨ma,mc,rfl⟩:=hl.mds.form;obtain⟨ta,tc,rfl⟩:=hl.tms.form;obtain⟨a0,k0,rfl⟩:=h.obs.form;obtain⟨a1,k1,rfl⟩:=h.grs.form;obtain⟨a2,k2,rfl⟩:=h.les.form;obtain⟨a3,k3,rfl⟩:=h.pus.form;clear hl h hn hsh;go_enter func43,ntmps43;go_wp2_with fail;generalize hWa:(World.alloc (w.alloc _) _)=w0;have HB0:Hd (Zw_ w w0):=by rw [<- hWa];exact (Zac w _).alloc (by simp) _
 have HX0:Hd (Box w0 w.heap.size #[.slice sa Ss.length sc,.slice ma Ms.length mc,.slice ta Ts.length tc]):=by rw [<- hWa];exact (Box.new _ _ _ _ rfl).on (Zac _ _)
 have HY0:Hd (Box w0 (w.heap.size+1) #[.int .i64 B.now,.int .i64 B.tick,.int .i64 B.given,.slice a0 B.os.length k0,.slice a1 B.gs.length k1,.slice a2 B.ls.length k2,.slice a3 B.ps.length k3]):=by rw [<- hWa];exact Box.new _ _ _ _ (by simp)
 clear hWa;refine (Zjh lo _ _ _ _ _ _ _ Ss Ms Ts B FF _ (HL.o.below HB0.o) (HK.o.below HB0.o) HN.o HSH.o).mono ?_;rintro e w1 ⟨rfl,hb⟩;have HB1:Hd (Zw_ w w1):=HB0.o.trans (hb.mono HB0.o.size);have HX1:=Zab (HX0.o.on hb);have HY1:=Zab (HY0.o.on hb);clear hb HB0 HX0 HY0;have c0:=HX1.o.cell 0;have b3:=HY1.o.cell 3;simp at c0 b3
 cases h0:Zdg Ss Ms Ts B FF with
 | false=>
  go_wp2;go_ret;exact⟨_,rfl,HB1.o,by rw [ZkU h0];exact Or.inl ⟨_,_,rfl,rfl⟩⟩
 | true=>
  have hob:=Zf8 h0;have HSP:=Zab (ZjI hob);have HLO:=Zab (ZnN hob);have HT:=Zab h0;have hz1:=HB1.o.size;clear hob;go_wp2_with fail;refine (Zmc lo _ _ Ss B.os w1 (HL.o.below HB1.o).shs (HK.o.below HB1.o).obs HN.o.1 HSP.o HLO.o).mono ?_;rintro e w2 ⟨mb,Nn,D,rfl,hb2,hmb,hown,hD⟩;have HB2:Hd (Zw_ w w2):=bt HB1.o hb2;have HOw:=Zab hown;have HDD:=Zab hD;have hz2:=hb2.size;clear hown hD hb2 c0 b3;go_wp2_with fail;refine (ZiJ B.os (Zee Ss B.os) HLO.o (Zl2 HK.o.obs) HN.o.1.1 mb Nn D HDD.o w2 HOw.o).mono ?_;rintro e w3 ⟨v,rfl,hb3,hi⟩;have HI:=Zab hi;have HB3:Hd (Zw_ w w3):=bt HB2.o hb3;clear hi hb3;go_wp2;go_ret;exact⟨v,rfl,HB3.o,by rw [Zlq HT.o];exact HI.o.wide (by omega) Zl_⟩
theorem Zf1 (hl:Zbw lo w sv mv tv Ss Ms Ts) (h:ZaX lo w ov gv lv pv B) (hn:Zbj B) (hsh:Zcd Ss Ms B.os FF) :
 Calls prog 12 #[.agg #[sv,mv,tv],.agg #[.int .i64 B.now,.int .i64 B.tick,.int .i64 B.given,ov,gv,lv,pv]] w
  fun e w'=>∃ v,e=.returned v/\Zw_ w w'/\Zaw w.heap.size w'.heap.size w' v (ZoW Ss Ms Ts B FF (Zc1 Ss B.os B.os.length)):=by
 have HL:=Zab hl;have HK:=Zab h;have HN:=Zab hn;have HSH:=Zab hsh;obtain⟨sa,sc,rfl⟩:=hl.shs.form;obtain⟨ma,mc,rfl⟩:=hl.mds.form;obtain⟨ta,tc,rfl⟩:=hl.tms.form;obtain⟨a0,k0,rfl⟩:=h.obs.form;obtain⟨a1,k1,rfl⟩:=h.grs.form;obtain⟨a2,k2,rfl⟩:=h.les.form;obtain⟨a3,k3,rfl⟩:=h.pus.form;clear hl h hn hsh;go_enter func12,ntmps12;go_wp2_with fail;generalize hWa:(World.alloc (w.alloc _) _)=w0;have HB0:Hd (Zw_ w w0):=by rw [<- hWa];exact (Zac w _).alloc (by simp) _
 clear hWa;refine (ZjR lo _ _ _ _ _ _ _ Ss Ms Ts B FF _ (HL.o.below HB0.o) (HK.o.below HB0.o) HN.o HSH.o).mono ?_;rintro e w1 ⟨v,rfl,hb,hi⟩;have HI:=Zab hi;have HB:=Zab (bt HB0.o hb);have hz0:=HB0.o.size;clear hi hb;go_wp2;go_ret;exact⟨v,rfl,HB.o,HI.o.wide (by omega) Zl_⟩
theorem ZjK (hl:Zbw lo w sv mv tv Ss Ms Ts) (h:ZaX lo w ov gv lv pv B) (hn:Zbj B) (hsh:Zcd Ss Ms B.os FF) :
 Calls prog 9 #[.agg #[sv,mv,tv],.agg #[.int .i64 B.now,.int .i64 B.tick,.int .i64 B.given,ov,gv,lv,pv]] w
  fun e w'=>∃ v,e=.returned v/\Zw_ w w'/\Zaw w.heap.size w'.heap.size w' v (ZoW Ss Ms Ts B FF (Zc1 Ss B.os B.os.length)):=by
 obtain⟨i0,hi,hz0,hz1,hz2⟩:=info_parts Tryz.info3;have HI3:=Zab (And.intro hi (And.intro hz0 (And.intro hz1 hz2)));clear hi hz0 hz1 hz2;have HL:=Zab hl;have HK:=Zab h;have HN:=Zab hn;have HSH:=Zab hsh;obtain⟨sa,sc,rfl⟩:=hl.shs.form;obtain⟨ma,mc,rfl⟩:=hl.mds.form;obtain⟨ta,tc,rfl⟩:=hl.tms.form;obtain⟨a0,k0,rfl⟩:=h.obs.form;obtain⟨a1,k1,rfl⟩:=h.grs.form;obtain⟨a2,k2,rfl⟩:=h.les.form;obtain⟨a3,k3,rfl⟩:=h.pus.form;clear hl h hn hsh;go_enter func9,ntmps9;go_wp2_with fail;generalize hWa:(World.alloc (w.alloc _) _)=w0;have HB0:Hd (Zw_ w w0):=by rw [<- hWa];exact (Zac w _).alloc (by simp) _
 have HX0:Hd (Box w0 w.heap.size #[.slice sa Ss.length sc,.slice ma Ms.length mc,.slice ta Ts.length tc]):=by rw [<- hWa];exact (Box.new _ _ _ _ rfl).on (Zac _ _)
 have HY0:Hd (Box w0 (w.heap.size+1) #[.int .i64 B.now,.int .i64 B.tick,.int .i64 B.given,.slice a0 B.os.length k0,.slice a1 B.gs.length k1,.slice a2 B.ls.length k2,.slice a3 B.ps.length k3]):=by rw [<- hWa];exact Box.new _ _ _ _ (by simp)
 clear hWa;refine (ZjJ lo _ _ _ _ _ _ _ Ss Ms Ts B FF _ (HL.o.below HB0.o) (HK.o.below HB0.o) HN.o HSH.o).mono ?_;rintro e w1 ⟨rfl,hb⟩;have HB1:Hd (Zw_ w w1):=bt HB0.o hb;have HX1:=Zab (HX0.o.on hb);have HY1:=Zab (HY0.o.on hb);clear hb HB0 HX0 HY0;have c0:=HX1.o.cell;have b0:=HY1.o.cell
 cases h0:Zdg Ss Ms Ts B FF with
 | false=>
  obtain⟨hi,hz0,hz1,hz2⟩:=HI3.o;go_wp2;go_ret
  first
   | exact⟨_,rfl,HB1.o,by rw [ZkU h0];exact Or.inl ⟨_,_,rfl,rfl⟩⟩
   | exact⟨_,rfl,HB1.o.alloc HB1.o.size _,by rw [ZkU h0];exact Or.inl ⟨_,_,rfl,rfl⟩⟩
 | true=>
  have HSP:=Zab (ZjI (Zf8 h0));have HT:=Zab h0;have hz1:=HB1.o.size;go_wp2_with fail;refine (Zl4 lo _ _ _ _ _ _ _ Ss Ms Ts B w1 (HL.o.below HB1.o) (HK.o.below HB1.o) HSP.o HN.o.1.1).mono ?_;rintro e w2 ⟨v,rfl,hb2,hi⟩;have HI:=Zab hi;have HB2:Hd (Zw_ w w2):=bt HB1.o hb2;clear hi hb2;go_wp2;go_ret;exact⟨v,rfl,HB2.o,by rw [Zlq HT.o];exact HI.o.wide (by omega) Zl_⟩
end
end
theorem Zpd (sv mv tv ov gv lv pv:Value) (Ss:List Sh) (Ms:List Md) (Ts:List Tm) (B:Bk) (w:World)
 (hL:Zbw 0 w sv mv tv Ss Ms Ts) (hB:ZaX 0 w ov gv lv pv B) :
 Calls prog 3 #[.agg #[sv,mv,tv],.agg #[.int .i64 B.now,.int .i64 B.tick,.int .i64 B.given,ov,gv,lv,pv]] w fun e w'=>e=.returned (.bool true)/\Zw_ w w':=by
 obtain⟨FF,hFF⟩:=Zcd.exists Ss Ms B.os;have HSH:=Zab hFF;clear hFF;have HL:=Zab hL;have HK:=Zab hB;obtain⟨a,cap,rfl⟩:=hL.shs.form;obtain⟨a1,cap1,rfl⟩:=hL.mds.form;obtain⟨a2,cap2,rfl⟩:=hL.tms.form;obtain⟨oa0,oc0,rfl⟩:=hB.obs.form;obtain⟨oa1,oc1,rfl⟩:=hB.grs.form;obtain⟨oa2,oc2,rfl⟩:=hB.les.form;obtain⟨oa3,oc3,rfl⟩:=hB.pus.form;clear hL hB;go_enter func3,ntmps3;go_wp2_with fail;generalize hWa:(World.alloc (w.alloc _) _)=Wa;have HBa:Hd (Zw_ w Wa):=by rw [<- hWa];exact (Zac w _).alloc (by simp) _
 have FA:Hd (Box Wa w.heap.size (#[Value.slice a Ss.length cap,.slice a1 Ms.length cap1,.slice a2 Ts.length cap2])):=by rw [<- hWa];exact (Box.new _ _ _ _ rfl).on (Zac _ _)
 have FB:Hd (Box Wa (w.heap.size+1) (#[Value.int .i64 B.now,.int .i64 B.tick,.int .i64 B.given,.slice oa0 B.os.length oc0,.slice oa1 B.gs.length oc1,.slice oa2 B.ls.length oc2,.slice oa3 B.ps.length oc3])):=by rw [<- hWa];exact Box.new _ _ _ _ (by simp)
 clear hWa;refine (Zos 0 _ _ _ Ss Ms Ts _ _ (by omega) (by omega) (HL.o.below HBa.o)).mono ?_;rintro e w1 ⟨q,rfl,hb1,hr0,hr1,hr2⟩;have HB1:Hd (Zw_ w w1):=bt HBa.o hb1;replace FA:=Zab (FA.o.on hb1);replace FB:=Zab (FB.o.on hb1);have HQ:=Zab hr2;clear hb1 hr2 HBa
 by_cases hneg:q < 0
 . go_wp2
   go_ret;exact⟨rfl,HB1.o⟩
 have hLm:Hd (Ze3 Ss Ms Ts):=HQ.o (by omega);clear HQ hr0;have g1:=FB.o.cell;have gm:=FB.o.lt;go_wp2_with fail;clear g1 gm;refine (ZmE 0 _ _ _ _ B _ _ (by omega) (by omega) (HK.o.below HB1.o)).mono ?_;rintro e w2 ⟨q2,rfl,hb2,hr0,hr2,hr3⟩;have HB:Hd (Zw_ w w2):=bt HB1.o hb2;replace FA:=Zab (FA.o.on hb2);replace FB:=Zab (FB.o.on hb2);have HQ:=Zab hr3;clear hb2 hr3 HB1
 by_cases hneg2:q2 < 0
 . go_wp2
   go_ret;exact⟨rfl,HB.o⟩
 have hBm:Hd (Zbj B):=HQ.o (by omega);clear HQ hr0 hr1 hr2 hneg;obtain⟨Lq,hAN,hSM⟩:∃ Lq:List Int,ZoW Ss Ms Ts B FF (Zc1 Ss B.os B.os.length)=Lq/\Lq.length<=1048576:=⟨_,rfl,Zp5 (Nat.le_trans (Zjt Ss B.os _) hBm.o.1.1)⟩
 have HAN:=Zab hAN;clear hAN;go_wp2;clear hneg2;have HLr:=Zab (HL.o.below HB.o);have HKr:=Zab (HK.o.below HB.o)
 go_region_held3 (Zbp w2 w.heap.size (#[Value.slice a Ss.length cap,.slice a1 Ms.length cap1,.slice a2 Ts.length cap2]) (w.heap.size+1) (#[Value.int .i64 B.now,.int .i64 B.tick,.int .i64 B.given,.slice oa0 B.os.length oc0,.slice oa1 B.gs.length oc1,.slice oa2 B.ls.length oc2,.slice oa3 B.ps.length oc3]))
  (first
    | (with_reducible exact Zbp.drew FA.o FB.o)
    | (with_reducible exact Zbp.on (by assumption) (by assumption)))
  (first
    | (go_at_call 10
       refine (Zg6 0 _ _ _ Ss Ms Ts _ (HLr.o.below (Zb_.drew)) hLm.o).mono ?_;rintro e w3 ⟨x0,y0,x1,y1,x2,y2,rfl,hb3,hs3⟩;have HD3:Hd (Below w2.heap.size w2 w3):=bt (Zb_.drew) hb3;have HS3:=Zab (hs3.mono Zz_);clear hs3)
    | (go_at_call 11
       refine (ZfP 0 _ _ _ _ B _ (HKr.o.below HD3.o) hBm.o).mono ?_;rintro e w4 ⟨z0,t0,z1,t1,z2,t2,z3,t3,rfl,hb4,hs4⟩;have HD4:Hd (Below w2.heap.size w2 w4):=bt HD3.o hb4;have HS4:Hd (Zbw 0 w4 _ _ _ Ss Ms Ts):=HS3.o.below hb4;have HK4:=Zab (hs4.mono Zz_);clear hs4 HS3)
    | (go_at_call 9
       refine (ZjK 0 _ _ _ _ _ _ _ Ss Ms Ts B FF _ HS4.o HK4.o hBm.o HSH.o).mono ?_;rintro e w5 ⟨v,rfl,hb5,hi5⟩;rw [HAN.o] at hi5;have HD5:Hd (Below w2.heap.size w2 w5):=bt HD4.o hb5;have HI5:Hd (Zat 0 w5 v Lq):=hi5.in'.mono Zz_;clear hi5))
 have hzw:w.heap.size+1 < w2.heap.size:=FB.o.lt
 have hzc:=HD5.o.size;replace FA:=Zab (FA.o.on HD5.o);replace FB:=Zab (FB.o.on HD5.o);replace HB:=Zab (bt HB.o HD5.o);have HW0:=Zab HI5.o;have FO:=Zab HI5.o;have FC:Hd (Below w5.heap.size w5 w5):=Below.refl _ _;clear HLr HKr HD3 HD4 HS4 HK4 HD5 HI5 hb3 hb4 hb5;have g1:=FA.o.cell;have g2:=FA.o.lt;go_wp2_with fail;clear g1 g2;refine (ZmN 0 _ _ _ Ss Ms Ts _ (HL.o.below HB.o) hLm.o).mono ?_;rintro e w6 ⟨c0,d0,c1,d1,c2,d2,rfl,hb6,ho6⟩;have hz6:=hb6.size;replace FC:=Zab (FC.o.trans (hb6.mono FC.o.size));replace FA:=Zab (FA.o.on hb6);replace FB:=Zab (FB.o.on hb6);replace HB:=Zab (HB.o.trans (hb6.mono HB.o.size));replace FO:=Zab (FO.o.below hb6);have OX:=Zab ho6;clear hb6 ho6;have g0:=FB.o.cell;have gl:=FB.o.lt;have g1:∀ o i,(w6.alloc o).cell? ⟨w.heap.size+1,i,none⟩=_:=fun o i=>(Zaj _ _ _ _ gl).trans (g0 i)
 go_wp2_with fail;clear g0 gl g1;generalize hWn:w6.alloc _=W6;have hbn:Below w6.heap.size w6 W6:=by rw [<- hWn];exact Zac _ _
 have FX:Hd (Box W6 w6.heap.size (#[Value.slice c0 Ss.length d0,.slice c1 Ms.length d1,.slice c2 Ts.length d2])):=by rw [<- hWn];exact Box.new _ _ _ _ rfl
 have hzW6:W6.heap.size=w6.heap.size+1:=by rw [<- hWn];simp
 replace FC:=Zab (FC.o.trans (hbn.mono FC.o.size));replace FA:=Zab (FA.o.on hbn);replace FB:=Zab (FB.o.on hbn);replace HB:=Zab (HB.o.trans (hbn.mono HB.o.size));replace FO:=Zab (FO.o.below hbn);replace OX:=Zab (OX.o.below hbn);clear hbn hWn;refine (ZkP 0 _ _ _ _ B _ (HK.o.below HB.o) hBm.o).mono ?_;rintro e w7 ⟨x0,y0,x1,y1,x2,y2,x3,y3,rfl,hb7,ho7⟩;have hz7:=hb7.size;replace FC:=Zab (FC.o.trans (hb7.mono FC.o.size));replace FA:=Zab (FA.o.on hb7);replace FB:=Zab (FB.o.on hb7);replace HB:=Zab (HB.o.trans (hb7.mono HB.o.size));replace FO:=Zab (FO.o.below hb7);replace OX:=Zab (OX.o.below hb7);replace FX:=Zab (FX.o.on hb7);have OY:=Zab ho7;clear hb7 ho7;have g0:=FX.o.cell;have gl:=FX.o.lt;have g1:∀ o i,(w7.alloc o).cell? ⟨w6.heap.size,i,none⟩=_:=fun o i=>(Zaj _ _ _ _ gl).trans (g0 i)
 go_wp2_with fail;clear g0 gl g1;generalize hWn:w7.alloc _=W7;have hbn:Below w7.heap.size w7 W7:=by rw [<- hWn];exact Zac _ _
 have FY:Hd (Box W7 w7.heap.size (#[Value.int .i64 B.now,.int .i64 B.tick,.int .i64 B.given,.slice x0 B.os.length y0,.slice x1 B.gs.length y1,.slice x2 B.ls.length y2,.slice x3 B.ps.length y3])):=by rw [<- hWn];exact Box.new _ _ _ _ rfl
 have hzW7:W7.heap.size=w7.heap.size+1:=by rw [<- hWn];simp
 replace FC:=Zab (FC.o.trans (hbn.mono FC.o.size));replace FA:=Zab (FA.o.on hbn);replace FB:=Zab (FB.o.on hbn);replace HB:=Zab (HB.o.trans (hbn.mono HB.o.size));replace FO:=Zab (FO.o.below hbn);replace OX:=Zab (OX.o.below hbn);replace FX:=Zab (FX.o.on hbn);replace OY:=Zab (OY.o.below hbn);clear hbn hWn;refine (Zf1 0 _ _ _ _ _ _ _ Ss Ms Ts B FF _ (OX.o.at.mono Zz_) (OY.o.at.mono Zz_) hBm.o HSH.o).mono ?_;rintro e w8 ⟨v2,rfl,hb8,ho8⟩;rw [HAN.o] at ho8;have hz8:=hb8.size;replace FC:=Zab (FC.o.trans (hb8.mono FC.o.size));replace FA:=Zab (FA.o.on hb8);replace FB:=Zab (FB.o.on hb8);replace HB:=Zab (HB.o.trans (hb8.mono HB.o.size));replace FO:=Zab (FO.o.below hb8);replace OX:=Zab (OX.o.below hb8);replace FX:=Zab (FX.o.on hb8);replace OY:=Zab (OY.o.below hb8);replace FY:=Zab (FY.o.on hb8)
 have OG:=Zab ho8;clear hb8 ho8;go_wp2_with fail;refine (ZdB _ _ _ _ Lq _ (OG.o.in') FO.o).mono ?_;rintro e w9 ⟨rfl,hbe⟩;have hzw9:=hbe.size;replace FC:=Zab (FC.o.trans (hbe.mono FC.o.size));replace FA:=Zab (FA.o.on hbe);replace FB:=Zab (FB.o.on hbe);replace HB:=Zab (HB.o.trans (hbe.mono HB.o.size));replace FO:=Zab (FO.o.below hbe);replace OX:=Zab (OX.o.below hbe);replace FX:=Zab (FX.o.on hbe);replace OY:=Zab (OY.o.below hbe);replace FY:=Zab (FY.o.on hbe);replace OG:=Zab (OG.o.below hbe);clear hbe;have g1:=FX.o.cell;have g2:=FA.o.cell;have g3:=FX.o.lt;have g4:=FA.o.lt;go_wp2_with fail;clear g1 g2 g3 g4;have HLb:=Zab (HL.o.below HB.o)
 go_region_held3 (Zbp w9 w6.heap.size (#[Value.slice c0 Ss.length d0,.slice c1 Ms.length d1,.slice c2 Ts.length d2]) w.heap.size (#[Value.slice a Ss.length cap,.slice a1 Ms.length cap1,.slice a2 Ts.length cap2]))
  (first
    | (with_reducible exact Zbp.drew FX.o FA.o)
    | (with_reducible exact Zbp.on (by assumption) (by assumption)))
  (first
    | (go_at_call 10
       refine (Zg6 0 _ _ _ Ss Ms Ts _ (HLb.o.below (Zb_.drew)) hLm.o).mono ?_;rintro e we ⟨f0,j0,f1,j1,f2,j2,rfl,hbe,hse⟩;have HC8:Hd (Below w9.heap.size w9 we):=bt (Zb_.drew) hbe;have HSe:=Zab hse;clear hse)
    | (go_at_call 14
       refine (ZlH _ _ _ _ Ss Ms Ts _ _ _ _ _ (OX.o.below HC8.o).at HSe.o).mono ?_;rintro e w10 ⟨rfl,hbf⟩;have HC9:Hd (Below w9.heap.size w9 w10):=bt HC8.o hbf))
 have hb10:=HC9.o;have hz10:=hb10.size;replace FC:=Zab (FC.o.trans (hb10.mono FC.o.size));replace FA:=Zab (FA.o.on hb10);replace FB:=Zab (FB.o.on hb10);replace HB:=Zab (HB.o.trans (hb10.mono HB.o.size));replace FO:=Zab (FO.o.below hb10);replace OX:=Zab (OX.o.below hb10);replace FX:=Zab (FX.o.on hb10);replace OY:=Zab (OY.o.below hb10);replace FY:=Zab (FY.o.on hb10);replace OG:=Zab (OG.o.below hb10);clear hb10 HC9 HC8 HSe HLb hbe hbf;go_wp2_with fail;have HKb:=Zab (HK.o.below HB.o)
 go_region_held3 (Zbp w10 w7.heap.size (#[Value.int .i64 B.now,.int .i64 B.tick,.int .i64 B.given,.slice x0 B.os.length y0,.slice x1 B.gs.length y1,.slice x2 B.ls.length y2,.slice x3 B.ps.length y3]) (w.heap.size+1) (#[Value.int .i64 B.now,.int .i64 B.tick,.int .i64 B.given,.slice oa0 B.os.length oc0,.slice oa1 B.gs.length oc1,.slice oa2 B.ls.length oc2,.slice oa3 B.ps.length oc3]))
  (first
    | (with_reducible exact Zbp.drew FY.o FB.o)
    | (with_reducible exact Zbp.on (by assumption) (by assumption)))
  (first
    | (go_at_call 11
       refine (ZfP 0 _ _ _ _ B _ (HKb.o.below (Zb_.drew)) hBm.o).mono ?_;rintro e we ⟨f0,j0,f1,j1,f2,j2,f3,j3,rfl,hbe,hse⟩;have HC8:Hd (Below w10.heap.size w10 we):=bt (Zb_.drew) hbe;have HSe:=Zab hse;clear hse)
    | (go_at_call 15
       refine (Zj5 _ _ _ _ _ B _ _ _ _ _ _ (OY.o.below HC8.o).at HSe.o).mono ?_;rintro e w11 ⟨rfl,hbf⟩;have HC9:Hd (Below w10.heap.size w10 w11):=bt HC8.o hbf))
 have hb11:=HC9.o;have hz11:=hb11.size;replace FC:=Zab (FC.o.trans (hb11.mono FC.o.size));replace FA:=Zab (FA.o.on hb11);replace FB:=Zab (FB.o.on hb11);replace HB:=Zab (HB.o.trans (hb11.mono HB.o.size));replace FO:=Zab (FO.o.below hb11);replace OX:=Zab (OX.o.below hb11);replace FX:=Zab (FX.o.on hb11);replace OY:=Zab (OY.o.below hb11);replace FY:=Zab (FY.o.on hb11);replace OG:=Zab (OG.o.below hb11);clear hb11 HC9 HC8 HSe HKb hbe hbf;have g1:=FX.o.cell;go_wp2_with fail;clear g1;refine (Zkp _ _ _ _ _ Ss Ms Ts _ OX.o hLm.o (by omega)).mono ?_;rintro e w12 ⟨k1,rfl,hk1,hk2,ht12⟩;have hz12:=ht12.size;replace FC:=Zab (FC.o.trans ((ht12.under (by omega)).mono (by omega)));replace FA:=Zab (FA.o.touch ht12 (by omega));replace FB:=Zab (FB.o.touch ht12 (by omega));replace HB:=Zab (HB.o.trans ((ht12.under (by omega)).mono (by omega)))
 replace FO:=Zab (HW0.o.below FC.o);replace FX:=Zab (FX.o.touch ht12 (by omega));replace OY:=Zab (OY.o.touch ht12 (by omega));replace FY:=Zab (FY.o.touch ht12 (by omega));replace OG:=Zab (OG.o.touch ht12 (by omega));clear OX FX ht12;have g1:=FY.o.cell;go_wp2_with fail;clear g1;refine (Zjs _ _ _ _ _ _ B _ k1 OY.o hBm.o (by omega) (by omega) (by omega)).mono ?_;rintro e w13 ⟨rfl,ht13,hm13⟩;have hz13:=ht13.size;replace FC:=Zab (FC.o.trans ((ht13.under (by omega)).mono (by omega)));replace FA:=Zab (FA.o.touch ht13 (by omega));replace FB:=Zab (FB.o.touch ht13 (by omega));replace HB:=Zab (HB.o.trans ((ht13.under (by omega)).mono (by omega)));replace FO:=Zab (HW0.o.below FC.o);replace FY:=Zab (FY.o.touch ht13 (by omega));replace OG:=Zab (OG.o.touch ht13 (by omega));clear OY FY ht13 hm13;have hke:¬ (Zo7 k1 B < 0):=by unfold Zo7;omega
 generalize Zo7 k1 B=K1 at hke |-;go_wp2_with fail;refine (ZdB _ _ _ _ Lq _ (OG.o.in') FO.o).mono ?_;rintro e w14 ⟨rfl,hbe⟩;have hzw14:=hbe.size;replace FC:=Zab (FC.o.trans (hbe.mono FC.o.size));replace FA:=Zab (FA.o.on hbe);replace FB:=Zab (FB.o.on hbe);replace HB:=Zab (HB.o.trans (hbe.mono HB.o.size));replace FO:=Zab (FO.o.below hbe);replace OG:=Zab (OG.o.below hbe);clear hbe;go_wp2_with fail;clear hke;refine (Zf5 _ _ _ Lq 1 _ OG.o (by omega) (by omega)).mono ?_;rintro e w15 ⟨rfl,ht15,hm15⟩;have hz15:=ht15.size;replace FC:=Zab (FC.o.trans ((ht15.under (by omega)).mono (by omega)));replace FA:=Zab (FA.o.touch ht15 (by omega));replace FB:=Zab (FB.o.touch ht15 (by omega));replace HB:=Zab (HB.o.trans ((ht15.under (by omega)).mono (by omega)));replace FO:=Zab (HW0.o.below FC.o);have OM:=Zab hm15;clear OG ht15 hm15
 go_wp2_with fail;refine (ZfZ _ _ Lq.length 1 _ OM.o.in' (by omega) (by omega)).mono ?_;rintro e w16 ⟨rfl,hb16⟩;have hz16:=hb16.size;replace FC:=Zab (FC.o.trans (hb16.mono FC.o.size));replace FA:=Zab (FA.o.on hb16);replace FB:=Zab (FB.o.on hb16);replace HB:=Zab (HB.o.trans (hb16.mono HB.o.size));replace FO:=Zab (FO.o.below hb16);replace OM:=Zab (OM.o.below hb16);clear hb16;have hke:¬ ((1:Int)+Lq.length < 0):=by omega
 generalize hK2:(1:Int)+(Lq.length:Int)=K2 at hke |-;have HK2:=Zab hK2;clear hK2;go_wp2_with fail;have HLr:=Zab (HL.o.below HB.o);have HKr:=Zab (HK.o.below HB.o)
 go_region_held3 (Zbp w16 w.heap.size (#[Value.slice a Ss.length cap,.slice a1 Ms.length cap1,.slice a2 Ts.length cap2]) (w.heap.size+1) (#[Value.int .i64 B.now,.int .i64 B.tick,.int .i64 B.given,.slice oa0 B.os.length oc0,.slice oa1 B.gs.length oc1,.slice oa2 B.ls.length oc2,.slice oa3 B.ps.length oc3]))
  (first
    | (with_reducible exact Zbp.drew FA.o FB.o)
    | (with_reducible exact Zbp.on (by assumption) (by assumption)))
  (first
    | (go_at_call 10
       refine (Zg6 0 _ _ _ Ss Ms Ts _ (HLr.o.below (Zb_.drew)) hLm.o).mono ?_;rintro e w3 ⟨x0,y0,x1,y1,x2,y2,rfl,hb3,hs3⟩;have HD3:Hd (Below w16.heap.size w16 w3):=bt (Zb_.drew) hb3;have HS3:=Zab (hs3.mono Zz_);clear hs3)
    | (go_at_call 11
       refine (ZfP 0 _ _ _ _ B _ (HKr.o.below HD3.o) hBm.o).mono ?_;rintro e w4 ⟨z0,t0,z1,t1,z2,t2,z3,t3,rfl,hb4,hs4⟩;have HD4:Hd (Below w16.heap.size w16 w4):=bt HD3.o hb4;have HS4:Hd (Zbw 0 w4 _ _ _ Ss Ms Ts):=HS3.o.below hb4;have HK4:=Zab (hs4.mono Zz_);clear hs4 HS3)
    | (go_at_call 12
       refine (Zf1 0 _ _ _ _ _ _ _ Ss Ms Ts B FF _ HS4.o HK4.o hBm.o HSH.o).mono ?_;rintro e w17 ⟨v3,rfl,hb5,hi5⟩;rw [HAN.o] at hi5;have HD5:Hd (Below w16.heap.size w16 w17):=bt HD4.o hb5;have HI5:Hd (Zat 0 w17 v3 Lq):=hi5.in'.mono Zz_;clear hi5))
 have hz17:=HD5.o.size;replace FC:=Zab (FC.o.trans (HD5.o.mono FC.o.size));replace FA:=Zab (FA.o.on HD5.o);replace FB:=Zab (FB.o.on HD5.o);replace HB:=Zab (HB.o.trans (HD5.o.mono HB.o.size));replace FO:=Zab (FO.o.below HD5.o);replace OM:=Zab (OM.o.below HD5.o);have HH:=Zab HI5.o;clear HLr HKr HD3 HD4 HS4 HK4 HD5 HI5 hb3 hb4 hb5;go_wp2_with fail;refine (ZdB _ _ _ _ Lq _ (HH.o) FO.o).mono ?_;rintro e w18 ⟨rfl,hbe⟩;have hzw18:=hbe.size;replace FC:=Zab (FC.o.trans (hbe.mono FC.o.size));replace FA:=Zab (FA.o.on hbe);replace FB:=Zab (FB.o.on hbe);replace HB:=Zab (HB.o.trans (hbe.mono HB.o.size));replace FO:=Zab (FO.o.below hbe);replace OM:=Zab (OM.o.below hbe);clear hbe;go_wp2_with fail;refine (ZfZ _ _ Lq.length 1 _ OM.o.in' (by omega) (by omega)).mono ?_;rintro e w19 ⟨rfl,hb19⟩
 replace FC:=Zab (FC.o.trans (hb19.mono FC.o.size));replace FA:=Zab (FA.o.on hb19);replace FB:=Zab (FB.o.on hb19);replace HB:=Zab (HB.o.trans (hb19.mono HB.o.size));replace FO:=Zab (FO.o.below hb19);replace OM:=Zab (OM.o.below hb19);clear hb19;rw [HK2.o];go_wp2;go_ret;exact⟨rfl,HB.o⟩
end Go.Proofs.YtmappejlmapboaaGreat
