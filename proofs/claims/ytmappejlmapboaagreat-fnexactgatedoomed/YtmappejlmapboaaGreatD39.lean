import Derived.Test.YtmappejlmapboaaGreatD34
import Derived.Test.YtmappejlmapboaaGreatD36
import Derived.Test.YtmappejlmapboaaGreatD38
import Derived.Maps.AppendAt
import Derived.Laws.OwnMore
set_option maxHeartbeats 16000000
set_option maxRecDepth 100000
open Go.Proofs.Tryz
namespace Go.Proofs.YtmappejlmapboaaGreat
section
open Go.RowKit Go.Deep Go.Maps
variable {Os:List Ob} {i:Nat} {x:Int}
def ZfP (Os:List Ob) (a b:Zy_) (i:Nat):Bool:=match Os[i]? with
 | some o=>(o.kd.toList == a.toList)&&(o.nm.toList == b.toList)
 | none=>false
theorem Zed {a b:Zy_} (h:i < Os.length):ZfP Os a b i=true↔Os[i].kd=a/\Os[i].nm=b:=by
 unfold ZfP;rw [List.getElem?_eq_getElem h];dsimp only;rw [Bool.and_eq_true,Zaz,Zaz]
def Zhl (Os:List Ob):Prop:=∀ i j (hi:i < Os.length) (hj:j < Os.length),Os[i].kd=Os[j].kd->Os[i].nm=Os[j].nm->i=j
def ZeC (Os:List Ob) (P:Nat->Bool) (a b:Zy_):Option Nat:=(List.range Os.length).find? fun i=>P i&&ZfP Os a b i
structure ZfB (Os:List Ob) (D:DataW Value) (P:Nat->Bool):Prop where
 isMap:IsMap D
 at':∀ a b:Zy_,a.size<=maxLen->b.size<=maxLen->∀ z,D.atKey (ZbI a b) z=match ZeC Os P a b with
  | some i=>.held (.int .i64 (i:Int))
  | none=>z
theorem ZgK {P:Nat->Bool}{a b:Zy_} (h:ZeC Os P a b=some i):P i=true/\∃ hi:i < Os.length,Os[i].kd=a/\Os[i].nm=b:=by
 unfold ZeC at h;have h1:=List.find?_some (p:=fun i=>P i&&ZfP Os a b i) h;have h2:=List.mem_of_find?_eq_some h;rw [Bool.and_eq_true] at h1;exact⟨h1.1,List.mem_range.1 h2,(Zed (List.mem_range.1 h2)).1 h1.2⟩
theorem Zfd {P:Nat->Bool} (hd:Zhl Os) {i:Nat} (hi:i < Os.length) (hp:P i=true):ZeC Os P Os[i].kd Os[i].nm=some i:=by
 cases h:ZeC Os P Os[i].kd Os[i].nm with
 | none=>
  unfold ZeC at h;rw [List.find?_eq_none] at h;exact absurd (by rw [hp,(Zed hi).2 ⟨rfl,rfl⟩];rfl) (h i (List.mem_range.2 hi))
 | some j=>
  obtain⟨-,hj,h1,h2⟩:=ZgK h;rw [hd j i hj hi h1 h2]
theorem ZgJ {P:Nat->Bool}{a b:Zy_} (h:∀ i (hi:i < Os.length),P i=true->¬ (Os[i].kd=a/\Os[i].nm=b)):ZeC Os P a b=none:=by
 unfold ZeC;rw [List.find?_eq_none];intro i hi hc;rw [Bool.and_eq_true] at hc;exact h i (List.mem_range.1 hi) hc.1 ((Zed (List.mem_range.1 hi)).1 hc.2)
theorem ZmA {P P':Nat->Bool} (h:∀ i,i < Os.length->P i=P' i) (a b:Zy_):ZeC Os P a b=ZeC Os P' a b:=by
 unfold ZeC
 have:∀ L:List Nat,(∀ i ∈ L,i < Os.length)->L.find? (fun i=>P i&&ZfP Os a b i)=L.find? (fun i=>P' i&&ZfP Os a b i):=by
  intro L
  induction L with
  | nil=>intro _;rfl
  | cons x L ih=>
   intro hL;rw [List.find?_cons,List.find?_cons,h x (hL x (List.mem_cons_self ..)),ih fun i hi=>hL i (List.mem_cons_of_mem _ hi)]
 exact this _ fun i hi=>List.mem_range.1 hi
theorem ZfB.start (Os:List Ob):ZfB Os (.map []) (fun _=>false):=
 ⟨⟨[],rfl⟩,fun a b _ _ z=>by rw [ZgJ (fun i hi h=>by cases h)];rfl⟩
theorem ZfB.congr {D:DataW Value}{P P':Nat->Bool} (h:ZfB Os D P) (e:∀ i,i < Os.length->P i=P' i):ZfB Os D P':=
 ⟨h.isMap,fun a b ha hb z=>by rw [h.at' a b ha hb,ZmA e]⟩
theorem ZfB.step {D:DataW Value}{P:Nat->Bool} (h:ZfB Os D P) (hd:Zhl Os) {i:Nat} (hi:i < Os.length) (s0:Os[i].kd.size<=maxLen) (s1:Os[i].nm.size<=maxLen) :
 ZfB Os (D.put (ZbI Os[i].kd Os[i].nm) (.held (.int .i64 (i:Int)))) (fun q=>P q || q == i):=by
 refine⟨h.isMap.put _ _,fun a b ha hb z=>?_⟩
 by_cases e:a=Os[i].kd/\b=Os[i].nm
 . obtain⟨rfl,rfl⟩:=e
   rw [atKey_put_same h.isMap (ZeW _ _),Zfd hd hi (by simp)]
 . rw [atKey_put_other (fun e'=>e (Zet.inj Zf0 ha hb s0 s1 e')),h.at' a b ha hb]
   have:ZeC Os P a b=ZeC Os (fun q=>P q || q == i) a b:=by
    cases h1:ZeC Os P a b with
    | some j=>
     obtain⟨hp,hj,rfl,rfl⟩:=ZgK h1;rw [Zfd hd hj (by simp [hp])]
    | none=>
     symm
     refine ZgJ fun j hj hp hk=>?_
     rw [Bool.or_eq_true] at hp
     rcases hp with hp | hp
     . obtain⟨rfl,rfl⟩:=hk
       rw [Zfd hd hj hp] at h1
       cases h1
     . have:j=i:=by simpa using hp
       subst this;exact e ⟨hk.1.symm,hk.2.symm⟩
   rw [this]
theorem Zdc (Ss:List Sh) (o:Ob) (ro:Int) (kd nm:Zy_):Zcz Ss o ro kd nm=(ZcC Ss o).any (ZgN ro kd nm):=by
 unfold Zcz ZcC ZdZ
 cases Zcn Ss o.kd <;> rfl
theorem Zk7 {T:List Tie}{a b:Zy_}:x ∈ ZeA T i a b↔x=(i:Int)/\T.any (ZgN 3 a b)=true:=by
 unfold ZeA;rw [List.mem_map,List.any_eq_true];exact⟨fun ⟨t,ht,e⟩=>⟨e.symm,t,(List.mem_filter.1 ht).1,(List.mem_filter.1 ht).2⟩,fun ⟨e,t,h1,h2⟩=>⟨t,List.mem_filter.2 ⟨h1,h2⟩,e.symm⟩⟩
theorem Zj1 {Ss:List Sh}{a b:Zy_}:x ∈ Zh6 Ss Os Os.length a b↔∃ i,∃ h:i < Os.length,x=(i:Int)/\Zcz Ss Os[i] 3 a b=true:=by
 unfold Zh6;rw [List.mem_flatMap]
 constructor
 . rintro⟨i,hi,hx⟩
   have hi:=List.mem_range.1 hi;rw [List.getElem?_eq_getElem hi] at hx;obtain⟨h1,h2⟩:=Zk7.1 hx;exact⟨i,hi,h1,by rw [Zdc];exact h2⟩
 . rintro⟨i,hi,rfl,h⟩
   refine⟨i,List.mem_range.2 hi,?_⟩;rw [List.getElem?_eq_getElem hi];exact Zk7.2 ⟨rfl,by rw [<- Zdc];exact h⟩
end
section
open Go.RowKit Go.Deep
variable {base:Nat} {W:World} {v:Value}
theorem Zsc {e:TypeId}{sz n:Nat}{cs:List Value} (h:W.ownsRow base e sz v n cs) {g:Nat} (hg:v.ownBlock=some g):g < W.heap.size/\base<=g/\∀ i,W.frozen? ⟨g,i,none⟩=false:=by
 rcases h.2 with ⟨hv,_⟩ | ⟨g',cap,cur,hv,h1,h2,_⟩
 . rw [hv] at hg;cases hg
 . rw [hv] at hg
   have e:g'=g:=by simpa [Value.ownBlock] using hg
   subst e;refine⟨?_,h1,fun i=>by simp [World.frozen?,h2]⟩
   rcases Nat.lt_or_ge g' W.heap.size with h | h
   . exact h
   . rw [Array.getElem?_eq_none h] at h2;cases h2
def ivO (L:List Int):List Value:=L.map (Value.int .i64)
theorem Zd0 {L:List Int} (h:W.ownsRow base 3 1 v L.length (ivO L)):Zav base W.heap.size W v L:=by
 by_cases hL:L=[]
 . subst hL
   rcases h.2 with ⟨hv,_⟩ | ⟨g,cap,cur,hv,_⟩
   . exact Or.inl ⟨_,_,hv,rfl⟩
   . exact Or.inl ⟨_,_,hv,rfl⟩
 . rcases h.2 with ⟨_,hn⟩ | ⟨g,cap,cur,hv,h1,h2,h3,h4,_⟩
   . exact absurd (List.length_eq_zero_iff.1 hn) hL
   . have hl:=Zsc h (g:=g) (by rw [hv];rfl)
     have ho:=h;subst hv;refine Or.inr ⟨g,0,cap,rfl,hL,Nat.le_trans h3 h4,hl.1,fun i hi=>?_,hl.2.1,hl.1,fun i=>hl.2.2 _⟩;rw [Nat.zero_add,ho.cellAt i (by omega)];unfold ivO;rw [List.getElem?_map,List.getElem?_eq_getElem hi]
     rfl
end
section
open Go.RowKit Go.Deep
theorem Box.row {w w':World}{β:Nat}{cs:Array Value} (h:Box w β cs) {row:Option Nat} (hg:w.grownBy w' row) (hr:row≠some β):Box w' β cs:=by
 have e:=hg.block β h.lt (fun e=>hr e.symm);exact⟨Zk_ h.lt hg.size,fun i=>(World.cell?_of_block (a:=⟨β,i,none⟩) e).trans (h.cell i),fun i=>(World.frozen?_of_block (a:=⟨β,i,none⟩) e).trans (h.free i)⟩
theorem Zmy (W:World) (o:Obj) (b:Nat) (h:b=W.heap.size):(W.alloc o).heap[b]?=some o:=by rw [h];exact heap_alloc_new W o
theorem ZoM {P:Program}{S:TypeId} (hS:P.underlying S=some (.slice 3)) (i0:TypeInfo) (hi:P.info? 3=some i0) (hz0:i0.zero=some (.int .i64 0)) (hz1:i0.size=1) (hz2:i0.bytes=8) {W:World} {base:Nat} {v:Value} {L:List Int} (h:W.ownsRow base 3 1 v L.length (L.map (Value.int .i64))) (hb:base<=W.heap.size) (hl:L.length<=1099511627776) (i:Int) :
 ∃ v' W',(Builtin.append_ #[S,S] S #[v,.slice (some ⟨W.heap.size,0,none⟩) 1 1]).run P (W.alloc (.cells #[.int .i64 i] 3))=.ok v' W'/\W'.ownsRow base 3 1 v' (L ++ [i]).length ((L ++ [i]).map (Value.int .i64))/\W.grownBy W' v.ownBlock/\(∀ g,v.ownBlock=some g->base<=g):=by
 have hlow:∀ g,v.ownBlock=some g->base<=g/\g < W.heap.size:=fun g e=>by
  rcases h.2 with ⟨rfl,-⟩ | ⟨g',_,_,rfl,h3,h4,_⟩
  . cases e
  . injection e with e
    have e:g'=g:=e;subst e;exact⟨h3,(Array.getElem?_eq_some_iff.1 h4).1⟩
 have h1:(W.alloc (.cells #[.int .i64 i] 3)).ownsRow base 3 1 v L.length (L.map (Value.int .i64)):=by
  obtain⟨h1,h2⟩:=h;refine⟨h1,?_⟩
  rcases h2 with h2 | ⟨g,cap,cur,rfl,h3,h4,h5⟩
  . exact Or.inl h2
  . exact Or.inr ⟨g,cap,cur,rfl,h3,(Below.heap_alloc W _ g (Array.getElem?_eq_some_iff.1 h4).1).trans h4,h5⟩
 obtain⟨v',W',hrun,hrow,hg,-,-⟩:=run_append_own_at (P:=P) (w:=W.alloc (.cells #[.int .i64 i] 3)) base S S 3 i0 (.int .i64 0) 1 8 hS hi hz0 hz1 hz2 rfl (by decide) v L.length (L.map (Value.int .i64)) h1 ⟨W.heap.size,0,none⟩ 1 1 [.int .i64 i] rfl
  (fun j u hu=>by
    have hj:j=0:=by
     cases j with
     | zero=>rfl
     | succ j=>simp at hu
    subst hj;have:=ZaJ W #[.int .i64 i] 3 W.heap.size 0 rfl;simp at hu;rw [<- hu];exact this) (fun u hu=>by simp at hu;subst hu;rfl) (by unfold maxLen;omega) (by omega) (by simp;omega)
 refine⟨v',W',hrun,by simpa using hrow,((World.grownBy_alloc W _ none).but _).trans hg,fun g e=>(hlow g e).1⟩
end
section
open Go.RowKit Go.Deep
variable {w:World} {base n:Nat} {v:Value} {xs:List Value}
theorem Tryz.info4:(prog.info? 4).map (fun i=>(i.zero,i.size,i.bytes))=some (some (.bool false),1,1):=by kernel_rfl
theorem Zmx {P:Program}{S:TypeId} (hS:P.underlying S=some (.slice 4)) (i0:TypeInfo) (hi:P.info? 4=some i0) (hz0:i0.zero=some (.bool false)) (hz1:i0.size=1) (hz2:i0.bytes=1) {W:World} {base:Nat} {v:Value} {L:List Bool} (h:W.ownsRow base 4 1 v L.length (L.map (Value.bool))) (hb:base<=W.heap.size) (hl:L.length<=1099511627776) (i:Bool) :
 ∃ v' W',(Builtin.append_ #[S,S] S #[v,.slice (some ⟨W.heap.size,0,none⟩) 1 1]).run P (W.alloc (.cells #[.bool i] 4))=.ok v' W'/\W'.ownsRow base 4 1 v' (L ++ [i]).length ((L ++ [i]).map (Value.bool))/\W.grownBy W' v.ownBlock/\(∀ g,v.ownBlock=some g->base<=g):=by
 have hlow:∀ g,v.ownBlock=some g->base<=g/\g < W.heap.size:=fun g e=>by
  rcases h.2 with ⟨rfl,-⟩ | ⟨g',_,_,rfl,h3,h4,_⟩
  . cases e
  . injection e with e
    have e:g'=g:=e;subst e;exact⟨h3,(Array.getElem?_eq_some_iff.1 h4).1⟩
 have h1:(W.alloc (.cells #[.bool i] 4)).ownsRow base 4 1 v L.length (L.map (Value.bool)):=by
  obtain⟨h1,h2⟩:=h;refine⟨h1,?_⟩
  rcases h2 with h2 | ⟨g,cap,cur,rfl,h3,h4,h5⟩
  . exact Or.inl h2
  . exact Or.inr ⟨g,cap,cur,rfl,h3,(Below.heap_alloc W _ g (Array.getElem?_eq_some_iff.1 h4).1).trans h4,h5⟩
 obtain⟨v',W',hrun,hrow,hg,-,-⟩:=run_append_own_at (P:=P) (w:=W.alloc (.cells #[.bool i] 4)) base S S 4 i0 (.bool false) 1 1 hS hi hz0 hz1 hz2 rfl (by decide) v L.length (L.map (Value.bool)) h1 ⟨W.heap.size,0,none⟩ 1 1 [.bool i] rfl
  (fun j u hu=>by
    have hj:j=0:=by
     cases j with
     | zero=>rfl
     | succ j=>simp at hu
    subst hj;have:=ZaJ W #[.bool i] 4 W.heap.size 0 rfl;simp at hu;rw [<- hu];exact this) (fun u hu=>by simp at hu;subst hu;rfl) (by unfold maxLen;omega) (by omega) (by simp;omega)
 refine⟨v',W',hrun,by simpa using hrow,((World.grownBy_alloc W _ none).but _).trans hg,fun g e=>(hlow g e).1⟩
def ZfE (Os:List Ob):List Bool:=Os.map fun o=>o.en
theorem Zp5 {Os:List Ob}{m:Nat} (h:m < Os.length):ZfE (Os.take (m+1))=ZfE (Os.take m) ++ [Os[m].en]:=by
 unfold ZfE;rw [List.take_succ_eq_append_getElem h,List.map_append]
 rfl
theorem Zlm {base':Nat} (h:w.ownsRow base 4 1 v n xs) (hb:base'<=base):w.ownsRow base' 4 1 v n xs:=
 ⟨h.1,h.2.imp id fun ⟨g,cap,cur,h0,h3,h4⟩=>⟨g,cap,cur,h0,by omega,h4⟩⟩
theorem Zdd {w':World} (h:w.ownsRow base 4 1 v n xs) (hb:Zw_ w w'):w'.ownsRow base 4 1 v n xs:=
 ⟨h.1,h.2.imp id fun ⟨g,cap,cur,h0,h3,h4,h5⟩=>⟨g,cap,cur,h0,h3,(hb.block g (Array.getElem?_eq_some_iff.1 h4).1).trans h4,h5⟩⟩
theorem Zk1 (lo:Nat) (ov gv lv pv:Value) (B:Bk) (w:World) (h:ZaU lo w ov gv lv pv B) (hn:B.os.length<=1048576) :
 Calls prog 61 #[.agg #[.int .i64 B.now,.int .i64 B.tick,.int .i64 B.given,ov,gv,lv,pv]] w fun e w'=>∃ v,e=.returned v/\v≠.slice none 0 0/\Zw_ w w'/\w'.ownsRow w.heap.size 4 1 v (ZfE B.os).length ((ZfE B.os).map Value.bool):=by
 obtain⟨i0,hi,hz0,hz1,hz2⟩:=info_parts Tryz.info4;have HI4:=Zab (And.intro hi (And.intro hz0 (And.intro hz1 hz2)));clear hi hz0 hz1 hz2;have HK:=Zab h;obtain⟨a0,k0,rfl⟩:=h.obs.form;obtain⟨a1,k1,rfl⟩:=h.grs.form;obtain⟨a2,k2,rfl⟩:=h.les.form;obtain⟨a3,k3,rfl⟩:=h.pus.form;clear h;go_enter func61,ntmps61;go_wp2_with fail;generalize hWa:World.alloc (World.alloc w _) _=Wa;have HB:Hd (Zw_ w Wa):=by unfold Hd;rw [<- hWa];exact (Zac w _).alloc (by simp) _
 have FB:Hd (Box Wa w.heap.size #[.int .i64 B.now,.int .i64 B.tick,.int .i64 B.given,.slice a0 B.os.length k0,.slice a1 B.gs.length k1,.slice a2 B.ls.length k2,.slice a3 B.ps.length k3]):=by unfold Hd;rw [<- hWa];exact (Box.new _ _ _ _ rfl).on (Zac _ _)
 have FR:Hd (Wa.ownsRow (w.heap.size+1) 4 1 (.slice (some ⟨w.heap.size+1,0,none⟩) 0 0) (ZfE (B.os.take 0)).length ((ZfE (B.os.take 0)).map Value.bool)):=by
  unfold Hd;rw [<- hWa];exact⟨rfl,Or.inr ⟨_,0,#[],rfl,by omega,Zmy _ _ _ (by simp),Nat.le_refl _,by unfold maxLen;omega,rfl,rfl⟩⟩
 clear hWa
 go_loopw [4,3] (fun q v wr=>∃ m:Nat,q=.int .i64 m/\m<=B.os.length/\v≠.slice none 0 0/\Zw_ w wr/\Box wr w.heap.size #[.int .i64 B.now,.int .i64 B.tick,.int .i64 B.given,.slice a0 B.os.length k0,.slice a1 B.gs.length k1,.slice a2 B.ls.length k2,.slice a3 B.ps.length k3]/\wr.ownsRow (w.heap.size+1) 4 1 v (ZfE (B.os.take m)).length ((ZfE (B.os.take m)).map Value.bool)) (fun q _ _=>B.os.length - (intOf q).toNat)
 case atStart=>exact⟨0,rfl,Nat.zero_le _,(by intro e;cases e),HB.o,FB.o,FR.o⟩
 case round=>
  obtain⟨m,rfl,hm,hnn,hb,hy,hr⟩:=hrel;have HBr:=Zab hb;have HYr:=Zab hy;have HR:=Zab hr;clear hb hy hr HB FB FR;have y:=HYr.o.cell
  by_cases hlt:m < B.os.length
  . obtain⟨b,off,rfl,hbw,-,hc⟩:=HK.o.obs.full' (by omega)
    obtain⟨_,jv0,jv1,hcell,_,_⟩:=hc m hlt;obtain⟨c0,c1,c2,c3,c4,c5,c6⟩:=hcell.below HBr.o hbw;have hll:(ZfE (B.os.take m)).length<=1048576:=by unfold ZfE;simp;omega
    obtain⟨v2,W2,hrun,hrow,hg,hlow⟩:=Zmx (P:=prog) (S:=91) underlying91 i0 HI4.o.1 HI4.o.2.1 HI4.o.2.2.1 HI4.o.2.2.2 HR.o (by have:=HYr.o.lt;omega) (by omega) B.os[m].en
    have HN2:Hd (v2≠.slice none 0 0):=fun e=>by
     subst e
     rcases hrow.2 with ⟨_,h0⟩ | ⟨_,_,_,h0,_⟩
     . simp at h0
     . cases h0
    have HW2:=Zab hrow;have HY2:=Zab (HYr.o.row hg (fun e=>by have:=hlow _ e;omega));have HB2:Hd (Zw_ w W2):=HBr.o.trans ⟨hg.os,hg.tape,hg.output,hg.size,fun k hk=>hg.block k (by have:=HBr.o.size;omega) (fun e=>by have:=hlow _ e.symm;omega)⟩;have HE:=Zab (Zp5 hlt);have hi0:(0:Int)<=(m:Int):=by omega
    have hi1:(m:Int) < (B.os.length:Int):=by omega
    clear hc hcell hrow hg hlow HR hll c0 c1 c2 c3 c5 c6;go_wp2_with (at_builtin;refine Zbt rfl (.tmp 13) (.tmp 20) 91 rfl rfl rfl hrun ?_);go_roundw
    case measure=>simp [intOf];omega
    case rel=>exact⟨m+1,by go_num,by omega,HN2.o,HB2.o,HY2.o,by rw [HE.o];exact HW2.o⟩
  . have hme:m=B.os.length:=by omega
    rw [hme,List.take_length] at HR;go_wp2;go_ret;exact⟨_,rfl,hnn,HBr.o,Zlm HR.o (by omega)⟩
end
section
open Go.RowKit Go.Deep
variable {w:World} {v:Value} {L:List Bool}
def Zch (w:World) (v:Value) (L:List Bool):Prop:=
 (v=.slice none 0 0/\L=[])\/∃ g cap,v=.slice (some ⟨g,0,none⟩) L.length cap/\g < w.heap.size/\L.length<=maxLen/\∀ i (h:i < L.length),w.cell? ⟨g,i,none⟩=some (.bool L[i])
theorem Zch.form (h:Zch w v L):∃ a cap,v=.slice a L.length cap:=by
 rcases h with ⟨h1,h2⟩ | ⟨g,cap,h1,_⟩
 . subst h2;exact⟨_,_,h1⟩
 . exact⟨_,_,h1⟩
theorem Zch.full {a:Option Addr}{n cap:Nat} (h:Zch w (.slice a n cap) L) (hL:0 < L.length):∃ g,a=some ⟨g,0,none⟩/\g < w.heap.size/\L.length<=maxLen/\∀ i (h:i < L.length),w.cell? ⟨g,i,none⟩=some (.bool L[i]):=by
 rcases h with ⟨h1,h2⟩ | ⟨g,cap',h1,h2,h3,h4⟩
 . subst h2;simp at hL
 . injection h1 with e1
   exact⟨g,e1,h2,h3,h4⟩
theorem Zch.of_row {base:Nat} (h:w.ownsRow base 4 1 v L.length (L.map Value.bool)):Zch w v L:=by
 rcases h.2 with ⟨h1,h2⟩ | ⟨g,cap,cur,h1,h2,h3,h4,h5,h6,h7⟩
 . exact Or.inl ⟨h1,List.length_eq_zero_iff.1 h2⟩
 . refine Or.inr ⟨g,cap,h1,(Array.getElem?_eq_some_iff.1 h3).1,by omega,fun i hi=>?_⟩
   have hc:cur[i]?=some (.bool L[i]):=by
    have h8:(cur.toList.take (L.length*1))[i]?=(L.map Value.bool)[i]?:=by rw [h7]
    rw [List.getElem?_take,if_pos (by omega),List.getElem?_map,List.getElem?_eq_getElem hi,Array.getElem?_toList] at h8;exact h8
   unfold World.cell?;rw [h3]
   simpa using hc
def Zb5 (L:List Bool) (n:Nat):List Int:=((List.range n).filter fun i=>L[i]?.getD false).map fun i:Nat=>(i:Int)
theorem Zli (L:List Bool) (n:Nat):Zb5 L (n+1)=Zb5 L n ++ (if L[n]?.getD false then [(n:Int)] else []):=by
 unfold Zb5;rw [List.range_succ,List.filter_append,List.map_append]
 congr 1
 cases h:L[n]?.getD false <;> simp [h]
theorem Zh9 (L:List Bool) (n:Nat):(Zb5 L n).length<=n:=by
 unfold Zb5;rw [List.length_map];exact Nat.le_trans (List.length_filter_le _ _) (by simp)
theorem Zk2 (v:Value) (L:List Bool) (w:World) (h:Zch w v L) (hn:L.length<=1048576) :
 Calls prog 59 #[v] w fun e w'=>∃ v,e=.returned v/\Zw_ w w'/\Zav w.heap.size w'.heap.size w' v (Zb5 L L.length):=by
 obtain⟨i0,hi,hz0,hz1,hz2⟩:=info_parts Tryz.info3;have HI3:=Zab (And.intro hi (And.intro hz0 (And.intro hz1 hz2)));clear hi hz0 hz1 hz2;have HK:=Zab h;obtain⟨a0,k0,rfl⟩:=h.form;clear h;go_enter func59,ntmps59;go_wp2_with fail;generalize hWa:World.alloc w _=Wa;have HB:Hd (Zw_ w Wa):=by unfold Hd;rw [<- hWa];exact Zac w _
 have HS:Wa.heap.size=w.heap.size+1:=by rw [<- hWa];simp
 have FR:Hd (Wa.ownsRow w.heap.size 3 1 (.slice (some ⟨w.heap.size,0,none⟩) 0 0) (Zb5 L 0).length ((Zb5 L 0).map (Value.int .i64))):=by
  unfold Hd;rw [<- hWa];exact⟨rfl,Or.inr ⟨_,0,#[],rfl,by omega,Zmy _ _ _ rfl,Nat.le_refl _,by unfold maxLen;omega,rfl,rfl⟩⟩
 clear hWa
 go_loopw [4,3] (fun q v wr=>∃ m:Nat,q=.int .i64 m/\m<=L.length/\Zw_ w wr/\wr.ownsRow w.heap.size 3 1 v (Zb5 L m).length ((Zb5 L m).map (Value.int .i64))) (fun q _ _=>L.length - (intOf q).toNat)
 case atStart=>exact⟨0,rfl,Nat.zero_le _,HB.o,FR.o⟩
 case round=>
  obtain⟨m,rfl,hm,hb,hr⟩:=hrel;have HBr:=Zab hb;have HR:=Zab hr;clear hb hr HB FR
  by_cases hlt:m < L.length
  . obtain⟨b,rfl,hbw,-,hc⟩:=HK.o.full (by omega)
    have hcm:wr.cell? ⟨b,m,none⟩=some (.bool L[m]):=(HBr.o.cell (p:=⟨b,m,none⟩) hbw).trans (hc m hlt);have hll:=Zh9 L m;have HE:=Zab (Zli L m);have hge:L[m]?.getD false=L[m]:=by rw [List.getElem?_eq_getElem hlt];rfl
    have hi0:(0:Int)<=(m:Int):=by omega
    have hi1:(m:Int) < (L.length:Int):=by omega
    cases hq:L[m] with
    | false=>
     rw [hq] at hcm;have HE2:Hd (Zb5 L (m+1)=Zb5 L m):=by unfold Hd;rw [HE.o,hge,hq];simp
     clear hc;go_wp2;go_roundw
     case measure=>simp [intOf];omega
     case rel=>exact⟨m+1,by go_num,by omega,HBr.o,by rw [HE2.o];exact HR.o⟩
    | true=>
     rw [hq] at hcm;have HE2:Hd (Zb5 L (m+1)=Zb5 L m ++ [(m:Int)]):=by unfold Hd;rw [HE.o,hge,hq];simp
     obtain⟨v2,W2,hrun,hrow,hg,hlow⟩:=ZoM (P:=prog) (S:=35) underlying35 i0 HI3.o.1 HI3.o.2.1 HI3.o.2.2.1 HI3.o.2.2.2 HR.o (by have:=HBr.o.size;omega) (by omega) (m:Int);have HW2:=Zab hrow;have HB2:Hd (Zw_ w W2):=HBr.o.trans ⟨hg.os,hg.tape,hg.output,hg.size,fun k hk=>hg.block k (by have:=HBr.o.size;omega) (fun e=>by have:=hlow _ e.symm;omega)⟩;clear hc hrow hg hlow HR;go_wp2_with (at_builtin;refine Zbt rfl (.tmp 16) (.tmp 18) 35 rfl rfl rfl hrun ?_);go_roundw
     case measure=>simp [intOf];omega
     case rel=>exact⟨m+1,by go_num,by omega,HB2.o,by rw [HE2.o];exact HW2.o⟩
  . have hme:m=L.length:=by omega
    have HI:=Zab (Zd0 HR.o);rw [hme] at HI;go_wp2;go_ret;exact⟨_,rfl,HBr.o,HI.o⟩
end
section
open Go.RowKit Go.Deep
variable {Ss:List Sh} {Os:List Ob} {i m:Nat} {L:List Bool}
def ZbN (Ss:List Sh) (Os:List Ob) (k i:Nat):Bool:=match Os[k]?,Os[i]? with
 | some a,some b=>Zcz Ss a 1 b.kd b.nm || Zcz Ss a 3 b.kd b.nm
 | _,_=>false
theorem ZjX {k:Nat} (hk:k < Os.length) (hi:i < Os.length):ZbN Ss Os k i=(Zcz Ss Os[k] 1 Os[i].kd Os[i].nm || Zcz Ss Os[k] 3 Os[i].kd Os[i].nm):=by
 unfold ZbN;rw [List.getElem?_eq_getElem hk,List.getElem?_eq_getElem hi]
def Zew (Ss:List Sh) (Os:List Ob) (L:List Bool) (i m:Nat):Bool:=Zfu m (ZbN Ss Os) L i
theorem Zl3:Zew Ss Os L i (m+1)=(Zew Ss Os L i m || (!(L[m]?.getD false)&&ZbN Ss Os m i)):=by
 unfold Zew Zfu;rw [List.range_succ,List.any_append];simp
theorem Zos {n:Nat} (h:m < n) (h1:(!(L[m]?.getD false)&&ZbN Ss Os m i)=true):Zew Ss Os L i n=true:=by
 unfold Zew Zfu;exact List.any_eq_true.2 ⟨m,List.mem_range.2 h,h1⟩
theorem Zl7 (lo:Nat) (sv mv tv ov gv lv pv v:Value) (Ss:List Sh) (Ms:List Md) (Ts:List Tm) (B:Bk) (L:List Bool) (i:Nat) (w:World) (hl:ZbH lo w sv mv tv Ss Ms Ts) (h:ZaU lo w ov gv lv pv B) (hs:ZfX Ss B.os) (hv:Zch w v L) (hL:L.length=B.os.length) (hi:i < B.os.length) (hn:B.os.length<=1048576) :
 Calls prog 107 #[.agg #[sv,mv,tv],.agg #[.int .i64 B.now,.int .i64 B.tick,.int .i64 B.given,ov,gv,lv,pv],v,.int .i64 i] w fun e w'=>e=.returned (.bool (Zew Ss B.os L i B.os.length))/\Zw_ w w':=by
 have HL:=Zab hl;have HK:=Zab h;have HS:=Zab hs;have HV:=Zab hv;obtain⟨sa,sc,rfl⟩:=hl.shs.form;obtain⟨ma,mc,rfl⟩:=hl.mds.form;obtain⟨ta,tc,rfl⟩:=hl.tms.form;obtain⟨a0,k0,rfl⟩:=h.obs.form;obtain⟨a1,k1,rfl⟩:=h.grs.form;obtain⟨a2,k2,rfl⟩:=h.les.form;obtain⟨a3,k3,rfl⟩:=h.pus.form;obtain⟨va,vc,rfl⟩:=hv.form;clear hl h hs hv;rw [hL] at HV |-;have HLn:=Zab hL;clear hL;go_enter func107,ntmps107;go_wp2_with fail;generalize hWa:World.alloc (World.alloc w _) _=Wa;have HB:Hd (Zw_ w Wa):=by unfold Hd;rw [<- hWa];exact (Zac w _).alloc (by simp) _
 have FL:Hd (Box Wa w.heap.size #[.slice sa Ss.length sc,.slice ma Ms.length mc,.slice ta Ts.length tc]):=by unfold Hd;rw [<- hWa];exact (Box.new _ _ _ _ rfl).on (Zac _ _)
 have FB:Hd (Box Wa (w.heap.size+1) #[.int .i64 B.now,.int .i64 B.tick,.int .i64 B.given,.slice a0 B.os.length k0,.slice a1 B.gs.length k1,.slice a2 B.ls.length k2,.slice a3 B.ps.length k3]):=by unfold Hd;rw [<- hWa];exact Box.new _ _ _ _ (by simp)
 clear hWa
 go_loopw [9] (fun q wr=>∃ m:Nat,q=.int .i64 m/\m<=B.os.length/\Zew Ss B.os L i m=false/\Zw_ w wr/\Box wr w.heap.size #[.slice sa Ss.length sc,.slice ma Ms.length mc,.slice ta Ts.length tc]/\Box wr (w.heap.size+1) #[.int .i64 B.now,.int .i64 B.tick,.int .i64 B.given,.slice a0 B.os.length k0,.slice a1 B.gs.length k1,.slice a2 B.ls.length k2,.slice a3 B.ps.length k3]) (fun q _=>B.os.length - (intOf q).toNat)
 case atStart=>exact⟨0,rfl,Nat.zero_le _,rfl,HB.o,FL.o,FB.o⟩
 case round=>
  obtain⟨m,rfl,hm,hno,hb,hx,hy⟩:=hrel;have HNO:=Zab hno;have HBr:=Zab hb;have HXr:=Zab hx;have HYr:=Zab hy;clear hb hx hy HB FL FB hno;have x:=HXr.o.cell;have y:=HYr.o.cell
  by_cases hlt:m < B.os.length
  . have hml:m < L.length:=by rw [HLn.o];exact hlt
    obtain⟨b,rfl,hbw,-,hc⟩:=HV.o.full (by omega);have hcm:wr.cell? ⟨b,m,none⟩=some (.bool L[m]):=(HBr.o.cell (p:=⟨b,m,none⟩) hbw).trans (hc m hml);have hge:L[m]?.getD false=L[m]:=by rw [List.getElem?_eq_getElem hml];rfl
    have hi0:(0:Int)<=(m:Int):=by omega
    have hi1:(m:Int) < (B.os.length:Int):=by omega
    have HSC:=Zab (Zl3 (Ss:=Ss) (Os:=B.os) (L:=L) (i:=i) (m:=m));have HKE:=Zab (ZjX (Ss:=Ss) (Os:=B.os) hlt hi);have HN:Hd (∀ (ro:Int) (W:World),Zw_ w W->Calls prog 72 #[.agg #[.slice sa Ss.length sc,.slice ma Ms.length mc,.slice ta Ts.length tc],.agg #[.int .i64 B.now,.int .i64 B.tick,.int .i64 B.given,.slice a0 B.os.length k0,.slice a1 B.gs.length k1,.slice a2 B.ls.length k2,.slice a3 B.ps.length k3],.int .i64 m,.int .i64 i,.int .i64 ro] W fun e w'=>e=.returned (.bool (Zcz Ss B.os[m] ro B.os[i].kd B.os[i].nm))/\Below W.heap.size W w'):=fun ro W hW=>ZhZ lo _ _ _ _ _ _ _ Ss Ms Ts B m i ro W (HL.o.below hW) (HK.o.below hW) HS.o hlt hi
    have HY':=Zab (fun h=>Zos (Ss:=Ss) (Os:=B.os) (L:=L) (i:=i) hlt h);clear hc
    cases hq:L[m] with
    | true=>
     rw [hq] at hcm;have HE:Hd (Zew Ss B.os L i (m+1)=false):=by unfold Hd;rw [HSC.o,HNO.o,hge,hq];rfl
     go_wp2;go_roundw
     case measure=>simp [intOf];omega
     case rel=>exact⟨m+1,by go_num,by omega,HE.o,HBr.o,HXr.o,HYr.o⟩
    | false=>
     rw [hq] at hcm
     cases h1:Zcz Ss B.os[m] 1 B.os[i].kd B.os[i].nm with
     | true=>
      have HE:Hd (Zew Ss B.os L i B.os.length=true):=by unfold Hd;exact HY'.o (by rw [hge,hq,HKE.o,h1];rfl)
      go_wp2_with (first|(go_at_call 72;refine (HN.o _ _ HBr.o).mono ?_;rintro e w2 ⟨rfl,hb2⟩;rw [h1];have HX2:=Zab (HXr.o.on hb2);have HY2:=Zab (HYr.o.on hb2);have x2:=HX2.o.cell;have y2:=HY2.o.cell));go_ret;exact⟨Zaa HE.o.symm,bt HBr.o hb2⟩
     | false=>
      cases h3:Zcz Ss B.os[m] 3 B.os[i].kd B.os[i].nm with
      | true=>
       have HE:Hd (Zew Ss B.os L i B.os.length=true):=by unfold Hd;exact HY'.o (by rw [hge,hq,HKE.o,h1,h3];rfl)
       go_wp2_with (go_at_call 72;refine (HN.o _ _ (by first | exact HB2.o | exact HBr.o)).mono ?_;first|(rintro e w2 ⟨rfl,hb2⟩;rw [h1];have HX2:=Zab (HXr.o.on hb2);have HY2:=Zab (HYr.o.on hb2);have HB2:=Zab (bt HBr.o hb2);have x2:=HX2.o.cell;have y2:=HY2.o.cell)|(rintro e w3 ⟨rfl,hb3⟩;rw [h3]));go_ret;exact⟨Zaa HE.o.symm,bt HB2.o hb3⟩
      | false=>
       have HE:Hd (Zew Ss B.os L i (m+1)=false):=by unfold Hd;rw [HSC.o,HNO.o,HKE.o,h1,h3];simp
       go_wp2_with (go_at_call 72;refine (HN.o _ _ (by first | exact HB2.o | exact HBr.o)).mono ?_;first|(rintro e w2 ⟨rfl,hb2⟩;rw [h1];have HX2:=Zab (HXr.o.on hb2);have HY2:=Zab (HYr.o.on hb2);have HB2:=Zab (bt HBr.o hb2);have x2:=HX2.o.cell;have y2:=HY2.o.cell)|(rintro e w3 ⟨rfl,hb3⟩;rw [h3];have HX3:=Zab (HX2.o.on hb3);have HY3:=Zab (HY2.o.on hb3);have HB3:=Zab (bt HB2.o hb3)));go_roundw
       case measure=>simp [intOf];omega
       case rel=>exact⟨m+1,by go_num,by omega,HE.o,HB3.o,HX3.o,HY3.o⟩
  . have hme:m=B.os.length:=by omega
    rw [hme] at HNO;go_wp2;go_ret;exact⟨Zaa HNO.o.symm,HBr.o⟩
end
open Go.RowKit Go.Deep
theorem Zlo {Ss:List Sh}{Ts:List Tm}{B:Bk}{FF:Nat->List Zy_} (h:Zas Ss Ts B FF=true):ZfX Ss B.os:=fun i hi=>by
 unfold Zas at h;simp only [Bool.and_eq_true] at h;have ha:=Zhr (k:=i) hi h.2.2;rw [Zh4 hi] at ha
 cases hs:Zcn Ss B.os[i].kd with
 | none=>rw [ZgE hs] at ha;cases ha
 | some y=>
  rw [Zfb hs] at ha;simp only [Bool.and_eq_true] at ha;have h0:=ha.1;unfold Zcx at h0;simp only [Bool.and_eq_true,decide_eq_true_eq] at h0;exact⟨y,rfl,(Ze6 h0.1).symm⟩
end Go.Proofs.YtmappejlmapboaaGreat
