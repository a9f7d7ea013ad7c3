import Derived.Test.YtmappejlmapboaaGreatG32
import Derived.Test.YtmappejlmapboaaGreatG36
import Derived.Test.YtmappejlmapboaaGreatG39
import Derived.Maps.AppendAt
import Derived.Laws.OwnMore
set_option maxHeartbeats 16000000
set_option maxRecDepth 100000
open Go.Proofs.Tryz
namespace Go.Proofs.YtmappejlmapboaaGreat
open Go.RowKit Go.Deep
section
variable {base:Nat} {W:World} {v:Value}
theorem Zrp {e:TypeId}{sz n:Nat}{cs:List Value} (h:W.ownsRow base e sz v n cs) {g:Nat} (hg:v.ownBlock=some g):g < W.heap.size/\base<=g/\∀ i,W.frozen? ⟨g,i,none⟩=false:=by
 rcases h.2 with ⟨hv,_⟩ | ⟨g',cap,cur,hv,h1,h2,_⟩
 . rw [hv] at hg;cases hg
 . rw [hv] at hg
   have e:g'=g:=by simpa [Value.ownBlock] using hg
   subst e;refine⟨?_,h1,fun i=>by simp [World.frozen?,h2]⟩
   rcases Nat.lt_or_ge g' W.heap.size with h | h
   . exact h
   . rw [Array.getElem?_eq_none h] at h2;cases h2
def ivO (L:List Int):List Value:=L.map (Value.int .i64)
theorem ZdO {L:List Int} (h:W.ownsRow base 3 1 v L.length (ivO L)):Zav base W.heap.size W v L:=by
 by_cases hL:L=[]
 . subst hL
   rcases h.2 with ⟨hv,_⟩ | ⟨g,cap,cur,hv,_⟩
   . exact Or.inl ⟨_,_,hv,rfl⟩
   . exact Or.inl ⟨_,_,hv,rfl⟩
 . rcases h.2 with ⟨_,hn⟩ | ⟨g,cap,cur,hv,h1,h2,h3,h4,_⟩
   . exact absurd (List.length_eq_zero_iff.1 hn) hL
   . have hl:=Zrp h (g:=g) (by rw [hv];rfl)
     have ho:=h;subst hv;refine Or.inr ⟨g,0,cap,rfl,hL,Nat.le_trans h3 h4,hl.1,fun i hi=>?_,hl.2.1,hl.1,fun i=>hl.2.2 _⟩;rw [Nat.zero_add,ho.cellAt i (by omega)];unfold ivO;rw [List.getElem?_map,List.getElem?_eq_getElem hi]
     rfl
end
theorem Box.row {w w':World}{β:Nat}{cs:Array Value} (h:Box w β cs) {row:Option Nat} (hg:w.grownBy w' row) (hr:row≠some β):Box w' β cs:=by
 have e:=hg.block β h.lt (fun e=>hr e.symm);exact⟨Zk_ h.lt hg.size,fun i=>(World.cell?_of_block (a:=⟨β,i,none⟩) e).trans (h.cell i),fun i=>(World.frozen?_of_block (a:=⟨β,i,none⟩) e).trans (h.free i)⟩
theorem ZlS (W:World) (o:Obj) (b:Nat) (h:b=W.heap.size):(W.alloc o).heap[b]?=some o:=by rw [h];exact heap_alloc_new W o
theorem ZnG {P:Program}{S:TypeId} (hS:P.underlying S=some (.slice 3)) (i0:TypeInfo) (hi:P.info? 3=some i0) (hz0:i0.zero=some (.int .i64 0)) (hz1:i0.size=1) (hz2:i0.bytes=8) {W:World} {base:Nat} {v:Value} {L:List Int} (h:W.ownsRow base 3 1 v L.length (L.map (Value.int .i64))) (hb:base<=W.heap.size) (hl:L.length<=1099511627776) (i:Int) :
 ∃ v' W',(Builtin.append_ #[S,S] S #[v,.slice (some ⟨W.heap.size,0,none⟩) 1 1]).run P (W.alloc (.cells #[.int .i64 i] 3))=.ok v' W'/\W'.ownsRow base 3 1 v' (L ++ [i]).length ((L ++ [i]).map (Value.int .i64))/\W.grownBy W' v.ownBlock/\(∀ g,v.ownBlock=some g->base<=g):=by
 have hlow:∀ g,v.ownBlock=some g->base<=g/\g < W.heap.size:=fun g e=>by
  rcases h.2 with ⟨rfl,-⟩ | ⟨g',_,_,rfl,h3,h4,_⟩
  . cases e
  . injection e with e
    have e:g'=g:=e;subst e;exact⟨h3,(Array.getElem?_eq_some_iff.1 h4).1⟩
 have h1:(W.alloc (.cells #[.int .i64 i] 3)).ownsRow base 3 1 v L.length (L.map (Value.int .i64)):=by
  obtain⟨h1,h2⟩:=h;refine⟨h1,?_⟩
  rcases h2 with h2 | ⟨g,cap,cur,rfl,h3,h4,h5⟩
  . exact Or.inl h2
  . exact Or.inr ⟨g,cap,cur,rfl,h3,(Below.heap_alloc W _ g (Array.getElem?_eq_some_iff.1 h4).1).trans h4,h5⟩
 obtain⟨v',W',hrun,hrow,hg,-,-⟩:=run_append_own_at (P:=P) (w:=W.alloc (.cells #[.int .i64 i] 3)) base S S 3 i0 (.int .i64 0) 1 8 hS hi hz0 hz1 hz2 rfl (by decide) v L.length (L.map (Value.int .i64)) h1 ⟨W.heap.size,0,none⟩ 1 1 [.int .i64 i] rfl
  (fun j u hu=>by
    have hj:j=0:=by
     cases j with
     | zero=>rfl
     | succ j=>simp at hu
    subst hj;have:=ZaR W #[.int .i64 i] 3 W.heap.size 0 rfl;simp at hu;rw [<- hu];exact this) (fun u hu=>by simp at hu;subst hu;rfl) (by unfold maxLen;omega) (by omega) (by simp;omega)
 refine⟨v',W',hrun,by simpa using hrow,((World.grownBy_alloc W _ none).but _).trans hg,fun g e=>(hlow g e).1⟩
section
variable {w:World} {base n:Nat} {v:Value} {xs:List Value}
theorem Tryz.info4:(prog.info? 4).map (fun i=>(i.zero,i.size,i.bytes))=some (some (.bool false),1,1):=by kernel_rfl
theorem ZlR {P:Program}{S:TypeId} (hS:P.underlying S=some (.slice 4)) (i0:TypeInfo) (hi:P.info? 4=some i0) (hz0:i0.zero=some (.bool false)) (hz1:i0.size=1) (hz2:i0.bytes=1) {W:World} {base:Nat} {v:Value} {L:List Bool} (h:W.ownsRow base 4 1 v L.length (L.map (Value.bool))) (hb:base<=W.heap.size) (hl:L.length<=1099511627776) (i:Bool) :
 ∃ v' W',(Builtin.append_ #[S,S] S #[v,.slice (some ⟨W.heap.size,0,none⟩) 1 1]).run P (W.alloc (.cells #[.bool i] 4))=.ok v' W'/\W'.ownsRow base 4 1 v' (L ++ [i]).length ((L ++ [i]).map (Value.bool))/\W.grownBy W' v.ownBlock/\(∀ g,v.ownBlock=some g->base<=g):=by
 have hlow:∀ g,v.ownBlock=some g->base<=g/\g < W.heap.size:=fun g e=>by
  rcases h.2 with ⟨rfl,-⟩ | ⟨g',_,_,rfl,h3,h4,_⟩
  . cases e
  . injection e with e
    have e:g'=g:=e;subst e;exact⟨h3,(Array.getElem?_eq_some_iff.1 h4).1⟩
 have h1:(W.alloc (.cells #[.bool i] 4)).ownsRow base 4 1 v L.length (L.map (Value.bool)):=by
  obtain⟨h1,h2⟩:=h;refine⟨h1,?_⟩
  rcases h2 with h2 | ⟨g,cap,cur,rfl,h3,h4,h5⟩
  . exact Or.inl h2
  . exact Or.inr ⟨g,cap,cur,rfl,h3,(Below.heap_alloc W _ g (Array.getElem?_eq_some_iff.1 h4).1).trans h4,h5⟩
 obtain⟨v',W',hrun,hrow,hg,-,-⟩:=run_append_own_at (P:=P) (w:=W.alloc (.cells #[.bool i] 4)) base S S 4 i0 (.bool false) 1 1 hS hi hz0 hz1 hz2 rfl (by decide) v L.length (L.map (Value.bool)) h1 ⟨W.heap.size,0,none⟩ 1 1 [.bool i] rfl
  (fun j u hu=>by
    have hj:j=0:=by
     cases j with
     | zero=>rfl
     | succ j=>simp at hu
    subst hj;have:=ZaR W #[.bool i] 4 W.heap.size 0 rfl;simp at hu;rw [<- hu];exact this) (fun u hu=>by simp at hu;subst hu;rfl) (by unfold maxLen;omega) (by omega) (by simp;omega)
 refine⟨v',W',hrun,by simpa using hrow,((World.grownBy_alloc W _ none).but _).trans hg,fun g e=>(hlow g e).1⟩
def Zim (Os:List Ob):List Bool:=Os.map fun o=>o.en
theorem ZoR {Os:List Ob}{m:Nat} (h:m < Os.length):Zim (Os.take (m+1))=Zim (Os.take m) ++ [Os[m].en]:=by
 unfold Zim;rw [List.take_succ_eq_append_getElem h,List.map_append]
 rfl
theorem ZkM {base':Nat} (h:w.ownsRow base 4 1 v n xs) (hb:base'<=base):w.ownsRow base' 4 1 v n xs:=
 ⟨h.1,h.2.imp id fun ⟨g,cap,cur,h0,h3,h4⟩=>⟨g,cap,cur,h0,by omega,h4⟩⟩
theorem Zgk {w':World} (h:w.ownsRow base 4 1 v n xs) (hb:Zw_ w w'):w'.ownsRow base 4 1 v n xs:=
 ⟨h.1,h.2.imp id fun ⟨g,cap,cur,h0,h3,h4,h5⟩=>⟨g,cap,cur,h0,h3,(hb.block g (Array.getElem?_eq_some_iff.1 h4).1).trans h4,h5⟩⟩
theorem Zkt (lo:Nat) (ov gv lv pv:Value) (B:Bk) (w:World) (h:ZaU lo w ov gv lv pv B) (hn:B.os.length<=1048576) :
 Calls prog 61 #[.agg #[.int .i64 B.now,.int .i64 B.tick,.int .i64 B.given,ov,gv,lv,pv]] w fun e w'=>∃ v,e=.returned v/\v≠.slice none 0 0/\Zw_ w w'/\w'.ownsRow w.heap.size 4 1 v (Zim B.os).length ((Zim B.os).map Value.bool):=by
 obtain⟨i0,hi,hz0,hz1,hz2⟩:=info_parts Tryz.info4;have HI4:=Zab (And.intro hi (And.intro hz0 (And.intro hz1 hz2)));clear hi hz0 hz1 hz2;have HK:=Zab h;obtain⟨a0,k0,rfl⟩:=h.obs.form;obtain⟨a1,k1,rfl⟩:=h.grs.form;obtain⟨a2,k2,rfl⟩:=h.les.form;obtain⟨a3,k3,rfl⟩:=h.pus.form;clear h;go_enter func61,ntmps61;go_wp2_with fail;generalize hWa:World.alloc (World.alloc w _) _=Wa;have HB:Hd (Zw_ w Wa):=by unfold Hd;rw [<- hWa];exact (Zac w _).alloc (by simp) _
 have FB:Hd (Box Wa w.heap.size #[.int .i64 B.now,.int .i64 B.tick,.int .i64 B.given,.slice a0 B.os.length k0,.slice a1 B.gs.length k1,.slice a2 B.ls.length k2,.slice a3 B.ps.length k3]):=by unfold Hd;rw [<- hWa];exact (Box.new _ _ _ _ rfl).on (Zac _ _)
 have FR:Hd (Wa.ownsRow (w.heap.size+1) 4 1 (.slice (some ⟨w.heap.size+1,0,none⟩) 0 0) (Zim (B.os.take 0)).length ((Zim (B.os.take 0)).map Value.bool)):=by
  unfold Hd;rw [<- hWa];exact⟨rfl,Or.inr ⟨_,0,#[],rfl,by omega,ZlS _ _ _ (by simp),Nat.le_refl _,by unfold maxLen;omega,rfl,rfl⟩⟩
 clear hWa
 go_loopw [4,3] (fun q v wr=>∃ m:Nat,q=.int .i64 m/\m<=B.os.length/\v≠.slice none 0 0/\Zw_ w wr/\Box wr w.heap.size #[.int .i64 B.now,.int .i64 B.tick,.int .i64 B.given,.slice a0 B.os.length k0,.slice a1 B.gs.length k1,.slice a2 B.ls.length k2,.slice a3 B.ps.length k3]/\wr.ownsRow (w.heap.size+1) 4 1 v (Zim (B.os.take m)).length ((Zim (B.os.take m)).map Value.bool)) (fun q _ _=>B.os.length - (intOf q).toNat)
 case atStart=>exact⟨0,rfl,Nat.zero_le _,(by intro e;cases e),HB.o,FB.o,FR.o⟩
 case round=>
  obtain⟨m,rfl,hm,hnn,hb,hy,hr⟩:=hrel;have HBr:=Zab hb;have HYr:=Zab hy;have HR:=Zab hr;clear hb hy hr HB FB FR;have y:=HYr.o.cell
  by_cases hlt:m < B.os.length
  . obtain⟨b,off,rfl,hbw,-,hc⟩:=HK.o.obs.full' (by omega)
    obtain⟨_,jv0,jv1,hcell,_,_⟩:=hc m hlt;obtain⟨c0,c1,c2,c3,c4,c5,c6⟩:=hcell.below HBr.o hbw;have hll:(Zim (B.os.take m)).length<=1048576:=by unfold Zim;simp;omega
    obtain⟨v2,W2,hrun,hrow,hg,hlow⟩:=ZlR (P:=prog) (S:=91) underlying91 i0 HI4.o.1 HI4.o.2.1 HI4.o.2.2.1 HI4.o.2.2.2 HR.o (by have:=HYr.o.lt;omega) (by omega) B.os[m].en
    have HN2:Hd (v2≠.slice none 0 0):=fun e=>by
     subst e
     rcases hrow.2 with ⟨_,h0⟩ | ⟨_,_,_,h0,_⟩
     . simp at h0
     . cases h0
    have HW2:=Zab hrow;have HY2:=Zab (HYr.o.row hg (fun e=>by have:=hlow _ e;omega));have HB2:Hd (Zw_ w W2):=HBr.o.trans ⟨hg.os,hg.tape,hg.output,hg.size,fun k hk=>hg.block k (by have:=HBr.o.size;omega) (fun e=>by have:=hlow _ e.symm;omega)⟩;have HE:=Zab (ZoR hlt);have hi0:(0:Int)<=(m:Int):=by omega
    have hi1:(m:Int) < (B.os.length:Int):=by omega
    clear hc hcell hrow hg hlow HR hll c0 c1 c2 c3 c5 c6;go_wp2_with (at_builtin;refine Zbs rfl (.tmp 13) (.tmp 20) 91 rfl rfl rfl hrun ?_);go_roundw
    case measure=>simp [intOf];omega
    case rel=>exact⟨m+1,by go_num,by omega,HN2.o,HB2.o,HY2.o,by rw [HE.o];exact HW2.o⟩
  . have hme:m=B.os.length:=by omega
    rw [hme,List.take_length] at HR;go_wp2;go_ret;exact⟨_,rfl,hnn,HBr.o,ZkM HR.o (by omega)⟩
end
theorem ZkO {Ss:List Sh}{Ts:List Tm}{B:Bk}{FF:Nat->List Zy_} (h:Zas Ss Ts B FF=true):Zgs Ss B.os:=fun i hi=>by
 unfold Zas at h;simp only [Bool.and_eq_true] at h;have ha:=ZgZ (k:=i) hi h.2.2;rw [ZhA hi] at ha
 cases hs:Zcj Ss B.os[i].kd with
 | none=>rw [Zgg hs] at ha;cases ha
 | some y=>
  rw [ZeW hs] at ha;simp only [Bool.and_eq_true] at ha;have h0:=ha.1;unfold Zcs at h0;simp only [Bool.and_eq_true,decide_eq_true_eq] at h0;exact⟨y,rfl,(ZeQ h0.1).symm⟩
end Go.Proofs.YtmappejlmapboaaGreat
