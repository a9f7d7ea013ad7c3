import Derived.Test.YtfohnageehneoaaGreatDOE
set_option maxHeartbeats 16000000
set_option maxRecDepth 100000
open Go.Proofs.Tryz
namespace Go.Proofs.YtfohnageehneoaaGreat
open Go.RowKit Go.Deep
variable {w' W W' W1 X wr:World} {g base sz n hi c0 c1 cap k s:Nat} {e:TypeId} {v:Value} {cs:List Value} {P:Program} {cb cx:Array Value}
theorem Zad.grown {w:World} (h:w.grownBy w' (some g)):Zad g (g+1) w w':=⟨h.os,h.tape,h.output,h.size,fun k hk ho=>h.block k hk fun e=>by have:=Option.some.inj e;omega⟩
theorem Below.grown {w:World} (h:w.grownBy w' none):Zw_ w w':=⟨h.os,h.tape,h.output,h.size,fun k hk=>h.block k hk fun e=>by cases e⟩
theorem Below.ownsB (h:W.ownsRow base e sz v n cs) (hb:Below W.heap.size W W'):W'.ownsRow base e sz v n cs:=by
 refine⟨h.1,?_⟩;have hlt:=fun g hg=>Zcv h (g:=g) hg
 rcases h.2 with hv | ⟨g,cap,cur,hv,h1,h2,h3⟩
 . exact Or.inl hv
 . have hg:=hlt g (by rw [hv];rfl)
   exact Or.inr ⟨g,cap,cur,hv,h1,by rw [hb.block g hg.1];exact h2,h3⟩
theorem Zad.ownsB {lo:Nat} (h:W.ownsRow base e sz v n cs) (ht:Zad lo hi W W') (hh:hi<=base):W'.ownsRow base e sz v n cs:=by
 refine⟨h.1,?_⟩;have hlt:=fun g hg=>Zcv h (g:=g) hg
 rcases h.2 with hv | ⟨g,cap,cur,hv,h1,h2,h3⟩
 . exact Or.inl hv
 . have hg:=hlt g (by rw [hv];rfl)
   exact Or.inr ⟨g,cap,cur,hv,h1,by rw [ht.block g hg.1 (by omega)];exact h2,h3⟩
theorem ZeL (h:W.ownsRow base e sz v n cs):∃ a cap,v=.slice a n cap:=by
 rcases h.2 with ⟨hv,hn⟩ | ⟨g,cap,cur,hv,_⟩
 . rw [hn];exact⟨_,_,hv⟩
 . exact⟨_,_,hv⟩
theorem ZdO (W:World) (e:TypeId) (sz:Nat):W.ownsRow base e sz (.slice none 0 0) 0 []:=⟨by simp,Or.inl ⟨rfl,rfl⟩⟩
def ZsK (x:Ob×Value×Value):List Value:=[.string x.1.kd,.string x.1.nm,.string x.1.tm,x.2.1,.bool x.1.en,x.2.2,.int .i64 x.1.ver]
def ZgP:List (Ob×Value×Value)->List Value
 | []=>[]
 | x :: L=>ZsK x ++ ZgP L
theorem Zms:∀ (A B:List (Ob×Value×Value)),ZgP (A ++ B)=ZgP A ++ ZgP B
 | [],B=>rfl
 | x :: A,B=>by simp only [List.cons_append,ZgP,Zms A B,List.append_assoc]
theorem ZpW:∀ (L:List (Ob×Value×Value)) (i:Nat) (h:i < L.length),(ZgP L)[i*7]?=some (.string L[i].1.kd)/\(ZgP L)[i*7+1]?=some (.string L[i].1.nm)/\(ZgP L)[i*7+2]?=some (.string L[i].1.tm)/\(ZgP L)[i*7+3]?=some (L[i].2.1)/\(ZgP L)[i*7+4]?=some (.bool L[i].1.en)/\(ZgP L)[i*7+5]?=some (L[i].2.2)/\(ZgP L)[i*7+6]?=some (.int .i64 L[i].1.ver)
 | [],i,h=>by simp at h
 | x :: L,0,_=>⟨rfl,rfl,rfl,rfl,rfl,rfl,rfl⟩
 | x :: L,i+1,h=>by
  have:=ZpW L i (by simpa using h)
  have e:∀ j,(ZgP (x :: L))[(i+1)*7+j]?=(ZgP L)[i*7+j]?:=fun j=>by
   rw [show (i+1)*7+j=(i*7+j)+1+1+1+1+1+1+1 by omega]
   rfl
  have e0:(ZgP (x :: L))[(i+1)*7]?=(ZgP L)[i*7]?:=e 0;simp only [List.getElem_cons_succ];exact⟨e0.trans this.1,(e 1).trans this.2.1,(e 2).trans this.2.2.1,(e 3).trans this.2.2.2.1,(e 4).trans this.2.2.2.2.1,(e 5).trans this.2.2.2.2.2.1,(e 6).trans this.2.2.2.2.2.2⟩
structure ZdK (base:Nat) (W:World) (v:Value) (L:List (Ob×Value×Value)) (c:Nat->Nat×Nat):Prop where
 own:W.ownsRow base 155 7 v L.length (ZgP L)
 sz:∀ i (h:i < L.length),ZcR L[i].1
 inn:∀ i (h:i < L.length),∃ m1:Nat,(c i).1<=m1/\m1<=(c i).2/\Zae (c i).1 m1 W L[i].2.1 L[i].1.vs/\Zae m1 (c i).2 W L[i].2.2 L[i].1.hs
 seg:∀ i,i < L.length->base<=(c i).1/\(c i).2<=W.heap.size/\∀ g,v.ownBlock=some g->g < (c i).1\/(c i).2<=g
 mono:∀ i j,i < j->j < L.length->(c i).2<=(c j).1
theorem ZdK.start (base:Nat) (W:World):ZdK base W (.slice none 0 0) [] (fun _=>(0,0)):=
 ⟨ZdO _ _ _,fun i h=>by simp at h,fun i h=>by simp at h,fun i h=>by simp at h,fun i j _ h=>by simp at h⟩
theorem ZdK.touch {lo:Nat}{L:List (Ob×Value×Value)}{c:Nat->Nat×Nat} (h:ZdK base W v L c) (ht:Zad lo hi W W') (hh:hi<=base):ZdK base W' v L c:=
 ⟨Zad.ownsB h.own ht hh,h.sz,fun i hi=>by have hsg:=h.seg i hi;obtain⟨m1,q0,q1,l0,l1⟩:=h.inn i hi;exact⟨m1,q0,q1,l0.touch ht (by omega),l1.touch ht (by omega)⟩,fun i hi=>⟨(h.seg i hi).1,Nat.le_trans (h.seg i hi).2.1 ht.size,(h.seg i hi).2.2⟩,h.mono⟩
theorem ZdK.snoc {m1:Nat}{L:List (Ob×Value×Value)}{c:Nat->Nat×Nat} (h:ZdK base W v L c) (hb1:Below W.heap.size W W1) (x:Ob×Value×Value) (hz:ZcR x.1) (hc0:W.heap.size<=c0) (hc1:c1<=W1.heap.size) (hbase:base<=W.heap.size) (q0:c0<=m1) (q1:m1<=c1) (e0:Zae c0 m1 W1 x.2.1 x.1.vs) (e1:Zae m1 c1 W1 x.2.2 x.1.hs)
 (hown:W'.ownsRow base 155 7 (.slice (some ⟨g,0,none⟩) (L.length+1) cap) (L.length+1) (ZgP L ++ ZsK x)) (hgrow:W1.grownBy W' v.ownBlock) (hat:v.ownBlock=some g\/g=W1.heap.size) :
 ZdK base W' (.slice (some ⟨g,0,none⟩) (L.length+1) cap) (L ++ [x]) (fun i=>if i < L.length then c i else (c0,c1)):=by
 have hsz:=hgrow.size;have hs1:=hb1.size;have hlen:(L ++ [x]).length=L.length+1:=by simp
 have hgx:ZgP (L ++ [x])=ZgP L ++ ZsK x:=by rw [Zms];simp [ZgP]
 have hnew:∀ lo hi,(∀ g',v.ownBlock=some g'->g' < lo\/hi<=g')->hi<=W1.heap.size->(Zad hi hi W1 W'\/∃ g',Zad g' (g'+1) W1 W'/\(g' < lo\/hi<=g')):=fun lo hi hv hhi=>by
  cases hvo:v.ownBlock with
  | none=>rw [hvo] at hgrow;exact Or.inl (Zad.below (Below.grown hgrow))
  | some g'=>rw [hvo] at hgrow;exact Or.inr ⟨g',Zad.grown hgrow,hv g' hvo⟩
 have hlt:=fun g' hg'=>(Zcv h.own (g:=g') hg').1
 have hvb:∀ g',v.ownBlock=some g'->g' < c0\/c1<=g':=fun g' hg'=>Or.inl (by have:=hlt g' hg';omega)
 refine⟨by rw [hlen,hgx];exact hown,fun i hi=>?_,fun i hi=>?_,fun i hi=>?_,fun i j hij hj=>?_⟩
 . by_cases e:i < L.length
   . rw [List.getElem_append_left e];exact h.sz i e
   . have e':i=L.length:=by omega
     subst e';simp only [List.getElem_append_right Zl_,Nat.sub_self,List.getElem_cons_zero];exact hz
 . by_cases e:i < L.length
   . rw [List.getElem_append_left e,if_pos e]
     have hsg:=h.seg i e;obtain⟨m1,q0,q1,l0,l1⟩:=h.inn i e
     rcases hnew (c i).1 (c i).2 hsg.2.2 (by omega) with ht | ⟨g',ht,hg'⟩
     . exact⟨m1,q0,q1,(l0.below hb1).touch ht (by omega),(l1.below hb1).touch ht (by omega)⟩
     . exact⟨m1,q0,q1,(l0.below hb1).touch ht (by omega),(l1.below hb1).touch ht (by omega)⟩
   . have e':i=L.length:=by omega
     subst e';rw [if_neg e];simp only [List.getElem_append_right Zl_,Nat.sub_self,List.getElem_cons_zero]
     rcases hnew c0 c1 hvb hc1 with ht | ⟨g',ht,hg'⟩
     . exact⟨m1,q0,q1,e0.touch ht (by omega),e1.touch ht (by omega)⟩
     . exact⟨m1,q0,q1,e0.touch ht (by omega),e1.touch ht (by omega)⟩
 . have hgg:∀ g',(Value.slice (some ⟨g,0,none⟩) (L.length+1) cap).ownBlock=some g'->g'=g:=fun g' hg'=>(Option.some.inj hg').symm
   by_cases e:i < L.length
   . rw [if_pos e]
     have hsg:=h.seg i e;refine⟨hsg.1,by omega,fun g' hg'=>?_⟩;rw [hgg g' hg']
     rcases hat with hat | hat
     . exact hsg.2.2 g hat
     . exact Or.inr (by omega)
   . rw [if_neg e]
     refine⟨by dsimp;omega,by dsimp;omega,fun g' hg'=>?_⟩;rw [hgg g' hg']
     rcases hat with hat | hat
     . exact hvb g hat
     . exact Or.inr (by dsimp;omega)
 . rw [hlen] at hj
   by_cases e:j < L.length
   . rw [if_pos e,if_pos (by omega)];exact h.mono i j hij e
   . rw [if_neg e,if_pos (by omega)]
     have:=(h.seg i (by omega)).2.1;simp only []
     omega
theorem ZdK.owns {L:List (Ob×Value×Value)}{c:Nat->Nat×Nat} (h:ZdK base W v L c) {Xl:List Ob} (hX:L.map Prod.fst=Xl):Za8 base W.heap.size W v Xl:=by
 subst hX
 by_cases hL:L=[]
 . subst hL
   obtain⟨a,cap,rfl⟩:=ZeL h.own;exact Or.inl ⟨_,_,rfl,rfl⟩
 . rcases h.own.2 with ⟨_,hn⟩ | ⟨g,cap,cur,hv,h1,h2,h3,h4,_⟩
   . exact absurd (List.length_eq_zero_iff.1 hn) hL
   . have hl:=Zcv h.own (g:=g) (by rw [hv];rfl)
     have ho:=h.own;have hp:0 < L.length:=List.length_pos_iff.2 hL
     have hsg:=h.seg;subst hv;refine Or.inr ⟨g,0,cap,c,fun i=>if h:i < L.length then L[i].1 else L[0].1,by rw [List.length_map],by simpa using hL,by rw [List.length_map];exact Nat.le_trans h3 h4,by rw [List.length_map];exact h3,fun i hi=>?_,hl.1,hl.2.1,hl.1,fun i hi=>?_,fun i j hij hj=>?_,fun i=>hl.2.2 i,fun i hi=>?_⟩
     . have hi':i < L.length:=by simpa using hi
       simp [hi']
     . have hi':i < L.length:=by simpa using hi
       exact⟨(hsg i hi').1,(hsg i hi').2.1,(hsg i hi').2.2 g rfl⟩
     . exact h.mono i j hij (by simpa using hj)
     . have hi':i < L.length:=by simpa using hi
       obtain⟨d0,d1,d2,d3,d4,d5,d6⟩:=ZpW L i hi';obtain⟨m1,q0,q1,l0,l1⟩:=h.inn i hi';have ce:∀ j,j < 7->W.cell? ⟨g,0+i*7+j,none⟩=(ZgP L)[i*7+j]?:=fun j hj=>by rw [Nat.zero_add];exact ho.cellAt _ (by omega)
       simp only [hi',dif_pos];exact⟨h.sz i hi',_,_,m1,q0,q1,⟨(ce 0 (by omega)).trans d0,(ce 1 (by omega)).trans d1,(ce 2 (by omega)).trans d2,(ce 3 (by omega)).trans d3,(ce 4 (by omega)).trans d4,(ce 5 (by omega)).trans d5,(ce 6 (by omega)).trans d6⟩,l0,l1⟩
def ZsI (x:Gr×Value):List Value:=[.int .i64 x.1.nu,.string x.1.tw,.string x.1.gb,x.2,.string x.1.kd,.string x.1.tm,.string x.1.pf]
def Zhz:List (Gr×Value)->List Value
 | []=>[]
 | x :: L=>ZsI x ++ Zhz L
theorem Zmj:∀ (A B:List (Gr×Value)),Zhz (A ++ B)=Zhz A ++ Zhz B
 | [],B=>rfl
 | x :: A,B=>by simp only [List.cons_append,Zhz,Zmj A B,List.append_assoc]
theorem ZoK:∀ (L:List (Gr×Value)) (i:Nat) (h:i < L.length),(Zhz L)[i*7]?=some (.int .i64 L[i].1.nu)/\(Zhz L)[i*7+1]?=some (.string L[i].1.tw)/\(Zhz L)[i*7+2]?=some (.string L[i].1.gb)/\(Zhz L)[i*7+3]?=some (L[i].2)/\(Zhz L)[i*7+4]?=some (.string L[i].1.kd)/\(Zhz L)[i*7+5]?=some (.string L[i].1.tm)/\(Zhz L)[i*7+6]?=some (.string L[i].1.pf)
 | [],i,h=>by simp at h
 | x :: L,0,_=>⟨rfl,rfl,rfl,rfl,rfl,rfl,rfl⟩
 | x :: L,i+1,h=>by
  have:=ZoK L i (by simpa using h)
  have e:∀ j,(Zhz (x :: L))[(i+1)*7+j]?=(Zhz L)[i*7+j]?:=fun j=>by
   rw [show (i+1)*7+j=(i*7+j)+1+1+1+1+1+1+1 by omega]
   rfl
  have e0:(Zhz (x :: L))[(i+1)*7]?=(Zhz L)[i*7]?:=e 0;simp only [List.getElem_cons_succ];exact⟨e0.trans this.1,(e 1).trans this.2.1,(e 2).trans this.2.2.1,(e 3).trans this.2.2.2.1,(e 4).trans this.2.2.2.2.1,(e 5).trans this.2.2.2.2.2.1,(e 6).trans this.2.2.2.2.2.2⟩
structure ZdU (base:Nat) (W:World) (v:Value) (L:List (Gr×Value)) (c:Nat->Nat×Nat):Prop where
 own:W.ownsRow base 158 7 v L.length (Zhz L)
 sz:∀ i (h:i < L.length),ZdL L[i].1
 inn:∀ i (h:i < L.length),(c i).1<=(c i).2/\Zat (c i).1 (c i).2 W L[i].2 L[i].1.vb
 seg:∀ i,i < L.length->base<=(c i).1/\(c i).2<=W.heap.size/\∀ g,v.ownBlock=some g->g < (c i).1\/(c i).2<=g
 mono:∀ i j,i < j->j < L.length->(c i).2<=(c j).1
theorem ZdU.start (base:Nat) (W:World):ZdU base W (.slice none 0 0) [] (fun _=>(0,0)):=
 ⟨ZdO _ _ _,fun i h=>by simp at h,fun i h=>by simp at h,fun i h=>by simp at h,fun i j _ h=>by simp at h⟩
theorem ZdU.touch {lo:Nat}{L:List (Gr×Value)}{c:Nat->Nat×Nat} (h:ZdU base W v L c) (ht:Zad lo hi W W') (hh:hi<=base):ZdU base W' v L c:=
 ⟨Zad.ownsB h.own ht hh,h.sz,fun i hi=>by have hsg:=h.seg i hi;obtain⟨q0,l0⟩:=h.inn i hi;exact⟨q0,l0.touch ht (by omega)⟩,fun i hi=>⟨(h.seg i hi).1,Nat.le_trans (h.seg i hi).2.1 ht.size,(h.seg i hi).2.2⟩,h.mono⟩
theorem ZdU.snoc {L:List (Gr×Value)}{c:Nat->Nat×Nat} (h:ZdU base W v L c) (hb1:Below W.heap.size W W1) (x:Gr×Value) (hz:ZdL x.1) (hc0:W.heap.size<=c0) (hc1:c1<=W1.heap.size) (hbase:base<=W.heap.size) (q0:c0<=c1) (e0:Zat c0 c1 W1 x.2 x.1.vb)
 (hown:W'.ownsRow base 158 7 (.slice (some ⟨g,0,none⟩) (L.length+1) cap) (L.length+1) (Zhz L ++ ZsI x)) (hgrow:W1.grownBy W' v.ownBlock) (hat:v.ownBlock=some g\/g=W1.heap.size) :
 ZdU base W' (.slice (some ⟨g,0,none⟩) (L.length+1) cap) (L ++ [x]) (fun i=>if i < L.length then c i else (c0,c1)):=by
 have hsz:=hgrow.size;have hs1:=hb1.size;have hlen:(L ++ [x]).length=L.length+1:=by simp
 have hgx:Zhz (L ++ [x])=Zhz L ++ ZsI x:=by rw [Zmj];simp [Zhz]
 have hnew:∀ lo hi,(∀ g',v.ownBlock=some g'->g' < lo\/hi<=g')->hi<=W1.heap.size->(Zad hi hi W1 W'\/∃ g',Zad g' (g'+1) W1 W'/\(g' < lo\/hi<=g')):=fun lo hi hv hhi=>by
  cases hvo:v.ownBlock with
  | none=>rw [hvo] at hgrow;exact Or.inl (Zad.below (Below.grown hgrow))
  | some g'=>rw [hvo] at hgrow;exact Or.inr ⟨g',Zad.grown hgrow,hv g' hvo⟩
 have hlt:=fun g' hg'=>(Zcv h.own (g:=g') hg').1
 have hvb:∀ g',v.ownBlock=some g'->g' < c0\/c1<=g':=fun g' hg'=>Or.inl (by have:=hlt g' hg';omega)
 refine⟨by rw [hlen,hgx];exact hown,fun i hi=>?_,fun i hi=>?_,fun i hi=>?_,fun i j hij hj=>?_⟩
 . by_cases e:i < L.length
   . rw [List.getElem_append_left e];exact h.sz i e
   . have e':i=L.length:=by omega
     subst e';simp only [List.getElem_append_right Zl_,Nat.sub_self,List.getElem_cons_zero];exact hz
 . by_cases e:i < L.length
   . rw [List.getElem_append_left e,if_pos e]
     have hsg:=h.seg i e;obtain⟨q0,l0⟩:=h.inn i e
     rcases hnew (c i).1 (c i).2 hsg.2.2 (by omega) with ht | ⟨g',ht,hg'⟩
     . exact⟨q0,(l0.below hb1).touch ht (by omega)⟩
     . exact⟨q0,(l0.below hb1).touch ht (by omega)⟩
   . have e':i=L.length:=by omega
     subst e';rw [if_neg e];simp only [List.getElem_append_right Zl_,Nat.sub_self,List.getElem_cons_zero]
     rcases hnew c0 c1 hvb hc1 with ht | ⟨g',ht,hg'⟩
     . exact⟨q0,e0.touch ht (by omega)⟩
     . exact⟨q0,e0.touch ht (by omega)⟩
 . have hgg:∀ g',(Value.slice (some ⟨g,0,none⟩) (L.length+1) cap).ownBlock=some g'->g'=g:=fun g' hg'=>(Option.some.inj hg').symm
   by_cases e:i < L.length
   . rw [if_pos e]
     have hsg:=h.seg i e;refine⟨hsg.1,by omega,fun g' hg'=>?_⟩;rw [hgg g' hg']
     rcases hat with hat | hat
     . exact hsg.2.2 g hat
     . exact Or.inr (by omega)
   . rw [if_neg e]
     refine⟨by dsimp;omega,by dsimp;omega,fun g' hg'=>?_⟩;rw [hgg g' hg']
     rcases hat with hat | hat
     . exact hvb g hat
     . exact Or.inr (by dsimp;omega)
 . rw [hlen] at hj
   by_cases e:j < L.length
   . rw [if_pos e,if_pos (by omega)];exact h.mono i j hij e
   . rw [if_neg e,if_pos (by omega)]
     have:=(h.seg i (by omega)).2.1;simp only []
     omega
theorem ZdU.owns {L:List (Gr×Value)}{c:Nat->Nat×Nat} (h:ZdU base W v L c) {Xl:List Gr} (hX:L.map Prod.fst=Xl):Zbk base W.heap.size W v Xl:=by
 subst hX
 by_cases hL:L=[]
 . subst hL
   obtain⟨a,cap,rfl⟩:=ZeL h.own;exact Or.inl ⟨_,_,rfl,rfl⟩
 . rcases h.own.2 with ⟨_,hn⟩ | ⟨g,cap,cur,hv,h1,h2,h3,h4,_⟩
   . exact absurd (List.length_eq_zero_iff.1 hn) hL
   . have hl:=Zcv h.own (g:=g) (by rw [hv];rfl)
     have ho:=h.own;have hp:0 < L.length:=List.length_pos_iff.2 hL
     have hsg:=h.seg;subst hv;refine Or.inr ⟨g,0,cap,c,fun i=>if h:i < L.length then L[i].1 else L[0].1,by rw [List.length_map],by simpa using hL,by rw [List.length_map];exact Nat.le_trans h3 h4,by rw [List.length_map];exact h3,fun i hi=>?_,hl.1,hl.2.1,hl.1,fun i hi=>?_,fun i j hij hj=>?_,fun i=>hl.2.2 i,fun i hi=>?_⟩
     . have hi':i < L.length:=by simpa using hi
       simp [hi']
     . have hi':i < L.length:=by simpa using hi
       exact⟨(hsg i hi').1,(hsg i hi').2.1,(hsg i hi').2.2 g rfl⟩
     . exact h.mono i j hij (by simpa using hj)
     . have hi':i < L.length:=by simpa using hi
       obtain⟨d0,d1,d2,d3,d4,d5,d6⟩:=ZoK L i hi';obtain⟨q0,l0⟩:=h.inn i hi';have ce:∀ j,j < 7->W.cell? ⟨g,0+i*7+j,none⟩=(Zhz L)[i*7+j]?:=fun j hj=>by rw [Nat.zero_add];exact ho.cellAt _ (by omega)
       simp only [hi',dif_pos];exact⟨h.sz i hi',_,q0,⟨(ce 0 (by omega)).trans d0,(ce 1 (by omega)).trans d1,(ce 2 (by omega)).trans d2,(ce 3 (by omega)).trans d3,(ce 4 (by omega)).trans d4,(ce 5 (by omega)).trans d5,(ce 6 (by omega)).trans d6⟩,l0⟩
theorem ZkC (X:World) (g:Nat) (L:List Value) (t:TypeId) (hg:X.heap.size=g):∀ j x,L[j]?=some x->(X.alloc (.cells L.toArray t)).cell? ((⟨g,0,none⟩:Addr).add j)=some x:=by
 intro j x hx;subst hg;rw [Go.WideShapes.add_plain,Nat.zero_add,ZbI _ _ _ _ _ rfl]
 simpa using hx
theorem Zfq {X Y:Type}{L:List (X×Y)}{l:List X} (h:L.map Prod.fst=l.take k) (hk:k < l.length) {x:X×Y} (hx:x.1=l[k]):(L ++ [x]).map Prod.fst=l.take (k+1):=by
 rw [List.map_append,h,List.take_succ_eq_append_getElem hk,List.map_cons,List.map_nil,hx]
theorem Zgr {X Y:Type}{L:List (X×Y)}{l:List X} (h:L.map Prod.fst=l.take k) (hk:k<=l.length):L.length=k:=by
 have:=congrArg List.length h;rw [List.length_map,List.length_take] at this
 omega
theorem ZgW (w:World) (t ty e:TypeId) (i:TypeInfo) (ht:P.underlying t=some (.slice e)) (hi:P.info? e=some i) (c:Nat):(Builtin.append_ #[t,t] ty #[.slice none 0 0,.slice none 0 c]).run P w=.ok (.slice none 0 0) w:=by
 simp [Builtin.append_,run_underlying ht,sizeOf,typeInfo,hi,Builtin.lenOf,run_firstCells_none]
theorem ZdV {w:World}{ops:Array Oper}{rest:List Oper}{o:Oper}{a:Act}{Q:Exit->Act->World->Prop} (hgd:o.guard=none) (s x:Operand) (t:TypeId)
 (ho:o.op=.call { callee:=.builtin .append,args:=#[s,x],argTypes:=#[t,t] })
 (e:TypeId) (i:TypeInfo) (z:Value) (size bytes:Nat) (ht:P.underlying t=some (.slice e)) (hi:P.info? e=some i) (hz:i.zero=some z)
 (hsize:i.size=size) (hby:i.bytes=bytes) (hzs:z.cells.size=size) (hsz:0 < size)
 (hs:a.eval s=.slice none 0 0)
 (ao:Option Addr) (m c:Nat) (news:List Value) (hx:a.eval x=.slice ao m c) (hl:news.length=m*size) (hm:ao=none->m=0) (hnews:∀ ad,ao=some ad->∀ j u,news[j]?=some u->w.cell? (ad.add j)=some u) (h1:∀ u ∈ news,u.oneCell'=true)
 (h63:m<=maxLen) (hbytes:m*bytes<=140737488355328)
 (h:∀ v' w',w'.ownsRow w.heap.size e size v' m news->Zw_ w w'->wpList P ops Q rest (a.put o.dst v') w') :
 wpList P ops Q (o :: rest) a w:=by
 cases ao with
 | none=>
  have hm0:=hm rfl;subst hm0;have hn:news=[]:=List.length_eq_zero_iff.1 (by rw [hl,Nat.zero_mul]);subst hn;refine wpList_plain hgd fun K hK=>?_
  have hr:=ZgW (P:=P) w t o.type e i ht hi c;unfold Oper.wp execOp;simp only [ho,resolve,invoke,builtin,Sem.run_bind,Sem.run_pure,Result.andThen_ok,List.map_toArray,List.map_cons,List.map_nil,hs,hx,hr];exact hK _ _ (h _ _ (ZdO _ _ _) Zb_)
 | some ad=>
  refine wpList_append_own_at w hgd s x t ho w.heap.size e i z size bytes ht hi hz hsize hby hzs hsz _ 0 [] hs (ZdO _ _ _) ad m c news hx hl (hnews ad rfl) h1 (by omega) (by rw [Nat.zero_add];exact hbytes) Zl_ ?_;intro v' w' hown hgrow _ _;rw [Nat.zero_add,List.nil_append] at hown;exact h v' w' hown (Below.grown hgrow)
theorem Zqw {lo:Nat}{w:World}{z0 z1:Value}{V Ho:List Zy_} (h:Zeu lo w z0 z1 V Ho) (x:Ob):∀ u ∈ ZsK (x,z0,z1),u.oneCell'=true:=by
 obtain⟨_,_,_,h0,h1⟩:=h;obtain⟨_,_,rfl⟩:=h0.at.form';obtain⟨_,_,rfl⟩:=h1.at.form';intro u hu;simp only [ZsK,List.mem_cons,List.not_mem_nil,or_false] at hu
 rcases hu with rfl | rfl | rfl | rfl | rfl | rfl | rfl <;> rfl
theorem Zp1 (x:Gr) (a:Option Addr) (n c:Nat):∀ u ∈ ZsI (x,.slice a n c),u.oneCell'=true:=by
 intro u hu;simp only [ZsI,List.mem_cons,List.not_mem_nil,or_false] at hu
 rcases hu with rfl | rfl | rfl | rfl | rfl | rfl | rfl <;> rfl
theorem ZeK (h:Below wr.heap.size wr X) (a b c d:Value) (o:Obj) (i j k l:Nat):Below wr.heap.size wr (((((X.setCell ⟨wr.heap.size,i,none⟩ a).setCell ⟨wr.heap.size,j,none⟩ b).setCell ⟨wr.heap.size,k,none⟩ c).setCell ⟨wr.heap.size,l,none⟩ d).alloc o):=by
 refine Below.alloc ?_ (by simp only [World.setCell,Array.size_modify];exact h.size) _;exact (((h.setCell (p:=⟨wr.heap.size,i,none⟩) Zl_ a).setCell (p:=⟨wr.heap.size,j,none⟩) Zl_ b).setCell (p:=⟨wr.heap.size,k,none⟩) Zl_ c).setCell (p:=⟨wr.heap.size,l,none⟩) Zl_ d
theorem Zry (X:World) (g:Nat) (a b c d:Value) (i j k l:Nat):((((X.setCell ⟨g,i,none⟩ a).setCell ⟨g,j,none⟩ b).setCell ⟨g,k,none⟩ c).setCell ⟨g,l,none⟩ d).heap.size=X.heap.size:=by simp [World.setCell]
theorem Zqt (X:World) (g:Nat) (a b c d:Value) (o:Obj) (i j k l:Nat):X.heap.size<=(((((X.setCell ⟨g,i,none⟩ a).setCell ⟨g,j,none⟩ b).setCell ⟨g,k,none⟩ c).setCell ⟨g,l,none⟩ d).alloc o).heap.size:=by simp [World.setCell]
theorem Zr2 {lo:Nat}{L:List Int} (h:Zat lo hi X v L) (hg:g < lo) (a b c d:Value) (o:Obj) (i j k l:Nat):Zat lo hi (((((X.setCell ⟨g,i,none⟩ a).setCell ⟨g,j,none⟩ b).setCell ⟨g,k,none⟩ c).setCell ⟨g,l,none⟩ d).alloc o) v L:=
 ((((h.setLow hg _).setLow hg _).setLow hg _).setLow hg _).below (Zac _ _)
structure Zrq (s:Nat) (w wr:World) (cb cx:Array Value):Prop where
 bel:Below s w wr
 inn:Box wr s cb
 res:Box wr (s+1) #[.int .i64 0,.int .i64 0,.int .i64 0,.slice none 0 0,.slice none 0 0,.slice none 0 0,.slice none 0 0]
 o:Box wr (s+2) cx
theorem Zrq.on {w:World} (h:Zrq s w wr cb cx) (hb:Below (s+3) wr w'):Zrq s w w' cb cx:=
 ⟨h.bel.trans (hb.mono (by omega)),h.inn.below hb (by omega),h.res.below hb (by omega),h.o.below hb (by omega)⟩
theorem Zrq.set {w:World} (h:Zrq s w wr cb cx) (k:Nat) (u:Value) (hk:k < cx.size):Zrq s w (wr.setCell ⟨s+2,k,none⟩ u) cb (cx.set k u hk):=
 ⟨h.bel.setCell (by dsimp;omega) _,h.inn.setFar (by dsimp;omega) _,h.res.setFar (by dsimp;omega) _,h.o.set (k:=k) u hk⟩
section
variable (lo:Nat) (ov gv lv pv:Value) (B:Bk) (w:World)
theorem ZmQ (h:ZaY lo w ov gv lv pv B) (hn:ZaG B) :
 Calls prog 35 #[.agg #[.int .i64 B.now,.int .i64 B.tick,.int .i64 B.given,ov,gv,lv,pv]] w
  fun e w'=>∃ b0 m0 b1 m1 b2 m2 b3 m3,e=.returned (.agg #[.int .i64 B.now,.int .i64 B.tick,.int .i64 B.given,.slice b0 B.os.length m0,.slice b1 B.gs.length m1,.slice b2 B.ls.length m2,.slice b3 B.ps.length m3])/\Zw_ w w'/\
   Zaw w.heap.size w'.heap.size w' (.slice b0 B.os.length m0) (.slice b1 B.gs.length m1) (.slice b2 B.ls.length m2) (.slice b3 B.ps.length m3) B:=by
 have HL:=Zab h;obtain⟨a0,k0,rfl⟩:=h.obs.form;obtain⟨a1,k1,rfl⟩:=h.grs.form;obtain⟨a2,k2,rfl⟩:=h.les.form;obtain⟨a3,k3,rfl⟩:=h.pus.form;obtain⟨hn0,hn1,hn2,hn3⟩:=hn;have HN0:=Zab hn0;have HN1:=Zab hn1;have nO:=hn0.1;have nG:=hn1.1;have nL:=hn2.1;have nP:=hn3.1;clear hn0 hn1 hn2 hn3;have HLo:=Zab h.obs;have HLg:=Zab h.grs;clear h;obtain⟨io,hio,hzo,hzo1,hzo2⟩:=info_parts Tryz.info155;have HIO:=Zab (And.intro hio (And.intro hzo (And.intro hzo1 hzo2)));obtain⟨ig,hig,hzg,hzg1,hzg2⟩:=info_parts Tryz.info158;have HIG:=Zab (And.intro hig (And.intro hzg (And.intro hzg1 hzg2)));obtain⟨il,hil,hzl,hzl1,hzl2⟩:=info_parts Tryz.info92;have HIL:=Zab (And.intro hil (And.intro hzl (And.intro hzl1 hzl2)));obtain⟨ip,hip,hzp,hzp1,hzp2⟩:=info_parts Tryz.info94;have HIP:=Zab (And.intro hip (And.intro hzp (And.intro hzp1 hzp2)))
 have HNL:Hd ((a2=none->B.ls.length=0)/\∀ ad,a2=some ad->∀ W,Zw_ w W->∀ j u,(ZfL B.ls)[j]?=some u->W.cell? (ad.add j)=some u):=by
  refine⟨fun e=>?_,fun ad e W hb=>?_⟩
  . rcases HL.o.les with ⟨_,_,_,h⟩ | ⟨_,_,_,h,_⟩
    . rw [h];rfl
    . rw [e] at h;injection h with h;cases h
  . subst e;exact Zki HL.o.les hb
 have HNP:Hd ((a3=none->B.ps.length=0)/\∀ ad,a3=some ad->∀ W,Zw_ w W->∀ j u,(Zbs B.ps)[j]?=some u->W.cell? (ad.add j)=some u):=by
  refine⟨fun e=>?_,fun ad e W hb=>?_⟩
  . rcases HL.o.pus with ⟨_,_,_,h⟩ | ⟨_,_,_,h,_⟩
    . rw [h];rfl
    . rw [e] at h;injection h with h;cases h
  . subst e;exact Zhd HL.o.pus hb
 have HZL:Hd (∀ i (hi:i < B.ls.length),Zdx B.ls[i]):=fun i hi=>by
  obtain⟨_,_,_,_,_,_,_,hc⟩:=HL.o.les.full (fun e=>by rw [e] at hi;simp at hi);exact (hc i hi).1
 have HZP:Hd (∀ i (hi:i < B.ps.length),ZbB B.ps[i]):=fun i hi=>by
  obtain⟨_,_,_,_,_,_,_,hc⟩:=HL.o.pus.full (fun e=>by rw [e] at hi;simp at hi);exact (hc i hi).1
 clear hil hzl hzl1 hzl2 hip hzp hzp1 hzp2;clear hio hzo hzo1 hzo2 hig hzg hzg1 hzg2;go_enter func35,ntmps35;go_wp2
 go_loopw [4] (fun i wr=>∃ (k:Nat) (L:List (Ob×Value×Value)) (c:Nat->Nat×Nat) (v:Value),i=.int .i64 k/\k<=B.os.length/\Zrq w.heap.size w wr #[.int .i64 B.now,.int .i64 B.tick,.int .i64 B.given,.slice a0 B.os.length k0,.slice a1 B.gs.length k1,.slice a2 B.ls.length k2,.slice a3 B.ps.length k3] #[.int .i64 B.now,.int .i64 B.tick,.int .i64 B.given,v,.slice none 0 0,.slice none 0 0,.slice none 0 0]/\ZdK (w.heap.size+3) wr v L c/\L.map Prod.fst=B.os.take k/\w.heap.size+3<=wr.heap.size) (fun i _=>B.os.length - (intOf i).toNat)
 case atStart=>
  refine⟨0,[],_,.slice none 0 0,rfl,by omega,⟨?_,?_,?_,?_⟩,ZdK.start _ _,by simp,by simp⟩
  . exact ((Zac w _).alloc (by simp) _).alloc (by simp;omega) _
  . exact ((Box.new _ _ _ _ rfl).on (Zac _ _)).on (Zac _ _)
  . exact (Box.new _ _ _ _ (by simp)).on (Zac _ _)
  . exact Box.new _ _ _ _ (by simp)
 case round=>
  obtain⟨k,L,c,v,rfl,hk,hcp,hg,hX,hsz⟩:=hrel;have HCP:=Zab hcp;have HG:=Zab hg;have HX:=Zab hX;have hLk:=Zgr hX hk;subst hLk;have b3:=hcp.inn.cell 3;have x3:=hcp.o.cell 3;simp at b3 x3;clear hcp hg hX
  by_cases hlt:L.length < B.os.length
  . obtain⟨b,off,rfl,hbw,-,hc⟩:=HLo.o.full' (by omega)
    obtain⟨hs,vv0,vv1,hc,hv0,hv1⟩:=hc L.length hlt;obtain⟨p0,q0,rfl⟩:=hv0.at.form';obtain⟨p1,q1,rfl⟩:=hv1.at.form';obtain⟨c0,c1,c2,c3,c4,c5,c6⟩:=hc.below HCP.o.bel hbw;have HV0:=Zab (hv0.below HCP.o.bel);have HV1:=Zab (hv1.below HCP.o.bel);have HSZ:=Zab hs;clear hc hv0 hv1 hs;go_wp2;have hs1:=hsz
    go_region_law (first
     | (go_simp
        go_at_call 96
        refine (ZfR _ _ _ _ _ _ _ B.os[L.length].vs B.os[L.length].hs _ (HV0.o.below (Zb_.drew)).at (HV1.o.below (Zb_.drew)).at (HN0.o.2 L.length hlt).1 (HN0.o.2 L.length hlt).2).mono ?_;rintro e w1 ⟨z0,z1,rfl,hb1,hobj⟩;have HW1:Hd (Below wr.heap.size wr w1):=bt (Zb_.drew) hb1;have HOB:Hd (Zeu wr.heap.size w1 z0 z1 B.os[L.length].vs B.os[L.length].hs):=hobj;clear hobj hb1;have y3:w1.cell? ⟨w.heap.size+2,3,none⟩=some v:=(HW1.o.cell (p:=⟨w.heap.size+2,3,none⟩) (by dsimp;omega)).trans x3;have y4:∀ o,(w1.alloc o).cell? ⟨w.heap.size+2,3,none⟩=some v:=fun o=>((HW1.o.trans ((Zac w1 o).mono HW1.o.size)).cell (p:=⟨w.heap.size+2,3,none⟩) (by dsimp;omega)).trans x3
        dsimp only)
     | (refine step_append_lies _ (by rfl) (.tmp 22) (.tmp 29) 35 (by rfl) (w.heap.size+3) 155 io (.agg #[.string ⟨#[]⟩,.string ⟨#[]⟩,.string ⟨#[]⟩,.slice none 0 0,.bool false,.slice none 0 0,.int .i64 0]) 7 112 underlying35 HIO.o.1 HIO.o.2.1 HIO.o.2.2.1 HIO.o.2.2.2 (by rfl) (by decide) v L.length (ZgP L) (by rfl) (Below.ownsB HG.o.own (HW1.o.trans ((Zac w1 _).mono HW1.o.size))) ⟨w1.heap.size,0,none⟩ 1 1 (ZsK (B.os[L.length],z0,z1)) (by rfl) (by rfl) (ZkC _ _ _ _ rfl) (Zqw HOB.o _) (by decide) (by unfold maxLen;omega) (by omega) (by have:=HW1.o.size;simp;omega) _ rfl ?_
        intro g cap w3 hown3 hgrow3 hat3 hlt3;have HB3:Hd (Below (w.heap.size+3) wr w3):=((HW1.o.trans ((Zac w1 _).mono HW1.o.size)).mono (by omega)).trans (ZaP (Below.ownsB HG.o.own (HW1.o.trans ((Zac w1 _).mono HW1.o.size))) hgrow3 (by have:=HW1.o.size;simp;omega));have y5:w3.cell? ⟨w.heap.size+2,3,none⟩=some v:=(HB3.o.cell (p:=⟨w.heap.size+2,3,none⟩) (by dsimp;omega)).trans x3;have y6:w3.frozen? ⟨w.heap.size+2,3,none⟩=false:=(HCP.o.on HB3.o).o.free 3
        have HGN:Hd (ZdK (w.heap.size+3) w3 (.slice (some ⟨g,0,none⟩) (L.length+1) cap) (L ++ [(B.os[L.length],z0,z1)]) (fun i=>if i < L.length then c i else (wr.heap.size,w1.heap.size))):=by
         obtain⟨mid,hm0,hm1,hO0,hO1⟩:=HOB.o;exact HG.o.snoc (HW1.o.trans ((Zac w1 _).mono HW1.o.size)) (B.os[L.length],z0,z1) HSZ.o Zl_ (by simp) (by omega) hm0 hm1 (hO0.below (Zac _ _)) (hO1.below (Zac _ _)) hown3 hgrow3 hat3))
    all_goals (go_wp2)
    all_goals go_roundw
    all_goals first
     | (case rel=>exact⟨L.length+1,L ++ [(B.os[L.length],z0,z1)],_,_,by go_num,by omega,(HCP.o.on HB3.o).set 3 _ (by simp),HGN.o.touch (Zad.setB _ _ _ _) Zl_,Zfq HX.o hlt rfl,by have:=HB3.o.size;simp [World.setCell];omega⟩)
     | (case measure=>simp [intOf];omega)
  . have e:L.length=B.os.length:=by omega
    have HOB:Hd (Za8 (w.heap.size+3) wr.heap.size wr v B.os):=HG.o.owns (by rw [HX.o,e,List.take_length]);obtain⟨M,hM⟩:∃ M,M=wr.heap.size:=⟨_,rfl⟩
    rw [<- hM] at HOB;have hM3:w.heap.size+3<=M:=by omega
    have hMw:=hM;have HMw:=Zab hMw;clear HG HX e hM hMw;go_wp2;clear b3 x3
    go_loopw [5] (fun i wr=>∃ (k:Nat) (L:List (Gr×Value)) (c:Nat->Nat×Nat) (u:Value),i=.int .i64 k/\k<=B.gs.length/\Zrq w.heap.size w wr #[.int .i64 B.now,.int .i64 B.tick,.int .i64 B.given,.slice a0 B.os.length k0,.slice a1 B.gs.length k1,.slice a2 B.ls.length k2,.slice a3 B.ps.length k3] #[.int .i64 B.now,.int .i64 B.tick,.int .i64 B.given,v,u,.slice none 0 0,.slice none 0 0]/\Za8 (w.heap.size+3) M wr v B.os/\ZdU M wr u L c/\L.map Prod.fst=B.gs.take k/\M<=wr.heap.size) (fun i _=>B.gs.length - (intOf i).toNat)
    case atStart=>exact⟨0,[],_,.slice none 0 0,rfl,by omega,HCP.o,HOB.o,ZdU.start _ _,by simp,Nat.le_of_eq HMw.o⟩
    case round=>
     obtain⟨k',L,c,u,rfl,hk',hcp,hob,hg,hX,hsz'⟩:=hrel;have HCP2:=Zab hcp;have HOB2:=Zab hob;have HG:=Zab hg;have HX:=Zab hX;have hLk':=Zgr hX hk';subst hLk';have b4:=hcp.inn.cell 4;have x4:=hcp.o.cell 4;simp at b4 x4;clear hcp hg hX hob
     by_cases hlt:L.length < B.gs.length
     . obtain⟨b,off,rfl,hbw,-,hc⟩:=HLg.o.full' (by omega)
       obtain⟨hs,vv0,hc,hv0⟩:=hc L.length hlt;obtain⟨p0,q0,rfl⟩:=hv0.form;obtain⟨c0,c1,c2,c3,c4,c5,c6⟩:=hc.below HCP2.o.bel hbw;have HV0:=Zab (hv0.below HCP2.o.bel);have HSZ:=Zab hs;clear hc hv0 hs;go_wp2_with fail;clear c0 c1 c2 c3 c4 c5 c6;generalize hWx:wr.alloc _=Wx;have HWx:Hd (Below wr.heap.size wr Wx):=by rw [<- hWx];exact Zac _ _
       have hsx:Wx.heap.size=wr.heap.size+1:=by rw [<- hWx];simp
       have FG:Hd (Box Wx wr.heap.size #[.int .i64 B.gs[L.length].nu,.string B.gs[L.length].tw,.string B.gs[L.length].gb,.slice p0 B.gs[L.length].vb.length q0,.string B.gs[L.length].kd,.string B.gs[L.length].tm,.string B.gs[L.length].pf]):=by rw [<- hWx];exact Box.new _ _ _ _ rfl
       clear hWx;refine (ZkU lo B.gs[L.length].ru _ _ (HV0.o.below HWx.o) (HN1.o.2 L.length hlt)).mono ?_;rintro e w1 ⟨z0,rfl,hb1,hO0⟩;obtain⟨s0,t0,rfl⟩:=hO0.form;have hs1:=hb1.size;have HW1:Hd (Below wr.heap.size wr w1):=bt HWx.o hb1;have FG1:=Zab (FG.o.on hb1);have HI0:Hd (Zat Wx.heap.size w1.heap.size w1 (.slice s0 B.gs[L.length].vb.length t0) B.gs[L.length].vb):=hO0;have y4:w1.cell? ⟨w.heap.size+2,4,none⟩=some u:=(HW1.o.cell (p:=⟨w.heap.size+2,4,none⟩) (by dsimp;omega)).trans x4;clear hO0 hb1 HWx FG;have g0:=FG1.o.cell;have g1:=FG1.o.free;have hq0:wr.heap.size < Wx.heap.size:=by omega
       go_wp2_with (at_builtin
                    refine wpList_append_lies _ rfl (.tmp 49) (.tmp 51) 36 rfl M 158 ig (.agg #[.int .i64 0,.string ⟨#[]⟩,.string ⟨#[]⟩,.slice none 0 0,.string ⟨#[]⟩,.string ⟨#[]⟩,.string ⟨#[]⟩]) 7 112 underlying36 HIG.o.1 HIG.o.2.1 HIG.o.2.2.1 HIG.o.2.2.2 rfl (by decide) u L.length (Zhz L) rfl (Below.ownsB HG.o.own (ZeK HW1.o _ _ _ _ _ _ _ _ _)) ⟨w1.heap.size,0,none⟩ 1 1 (ZsI (B.gs[L.length],.slice s0 B.gs[L.length].vb.length t0)) rfl rfl (ZkC _ _ _ _ (Zry _ _ _ _ _ _ _ _ _ _)) (Zp1 _ _ _ _) (by decide) (by unfold maxLen;omega) (by omega) (Nat.le_trans hsz' (ZeK HW1.o _ _ _ _ _ _ _ _ _).size) _ rfl ?_;intro g cap w4 hown4 hgrow4 hat4 hlt4
                    have HBM:Hd (Below M wr w4):=((ZeK HW1.o _ _ _ _ _ _ _ _ _).mono hsz').trans (ZaP (Below.ownsB HG.o.own (ZeK HW1.o _ _ _ _ _ _ _ _ _)) hgrow4 (Nat.le_trans hsz' (ZeK HW1.o _ _ _ _ _ _ _ _ _).size));have HB4:Hd (Below (w.heap.size+3) wr w4):=HBM.o.mono hM3;have y5:w4.cell? ⟨w.heap.size+2,4,none⟩=some u:=(HB4.o.cell (p:=⟨w.heap.size+2,4,none⟩) (by dsimp;omega)).trans x4;have y6:w4.frozen? ⟨w.heap.size+2,4,none⟩=false:=(HCP2.o.on HB4.o).o.free 4
                    have HGN:Hd (ZdU M w4 (.slice (some ⟨g,0,none⟩) (L.length+1) cap) (L ++ [(B.gs[L.length],.slice s0 B.gs[L.length].vb.length t0)]) (fun i=>if i < L.length then c i else (Wx.heap.size,w1.heap.size))):=
                     HG.o.snoc (ZeK HW1.o _ _ _ _ _ _ _ _ _) (B.gs[L.length],.slice s0 B.gs[L.length].vb.length t0) HSZ.o (Nat.le_of_lt hq0) (Zqt _ _ _ _ _ _ _ _ _ _ _) hsz' hs1 (Zr2 HI0.o hq0 _ _ _ _ _ _ _ _ _) hown4 hgrow4 hat4
                    clear hown4 hgrow4 hat4)
       go_roundw
       . exact⟨L.length+1,L ++ [(B.gs[L.length],.slice s0 B.gs[L.length].vb.length t0)],_,_,by go_num,by omega,(HCP2.o.on HB4.o).set 4 _ (by simp),(HOB2.o.touch (Zad.ofBelow HBM.o) (Or.inl Zl_)).setLow (by dsimp;omega) _,HGN.o.touch (Zad.setB _ _ _ _) hM3,Zfq HX.o hlt rfl,by have:=HBM.o.size;simp [World.setCell];omega⟩
       . simp [intOf];omega
     . have HGB:Hd (Zbk M wr.heap.size wr u B.gs):=HG.o.owns (by rw [HX.o,show L.length=B.gs.length by omega,List.take_length])
       obtain⟨b0,m0,rfl⟩:=HOB2.o.form;obtain⟨b1,m1,rfl⟩:=HGB.o.form;have x5:=HCP2.o.o.cell 5;have x6:=HCP2.o.o.cell 6;have b5:=HCP2.o.inn.cell 5;have b6:=HCP2.o.inn.cell 6;simp at x5 x6 b5 b6;have hge:(B.gs.length:Int)<=(L.length:Int):=by omega
       clear HG HX
       go_wp2_with (at_builtin
                    first
                    | (refine ZdV rfl (.tmp 55) (.tmp 57) 37 rfl 92 il (.agg #[.string ⟨#[]⟩,.string ⟨#[]⟩,.int .i64 0,.int .i64 0]) 4 48 underlying37 HIL.o.1 HIL.o.2.1 HIL.o.2.2.1 HIL.o.2.2.2 rfl (by decide) rfl a2 B.ls.length k2 (ZfL B.ls) rfl (ZgH _) HNL.o.1 (fun ad e=>HNL.o.2 ad e _ HCP2.o.bel) (Zjg _) (by unfold maxLen;omega) (by omega) ?_
                       intro v2 w4 hown4 hb4;have HO2:Hd (ZaW wr.heap.size w4.heap.size w4 v2 B.ls):=Zmh hown4 HZL.o;obtain⟨b2,m2,rfl⟩:=HO2.o.form;have HB4:=Zab hb4;have HC4:=Zab (HCP2.o.on (hb4.mono (Nat.le_trans hM3 hsz')));have y5:w4.cell? ⟨w.heap.size+2,5,none⟩=some (.slice none 0 0):=HC4.o.o.cell 5;have y6:w4.cell? ⟨w.heap.size+2,6,none⟩=some (.slice none 0 0):=HC4.o.o.cell 6;have z5:w4.frozen? ⟨w.heap.size+2,5,none⟩=false:=HC4.o.o.free 5;have b66:w4.cell? ⟨w.heap.size,6,none⟩=some (.slice a3 B.ps.length k3):=HC4.o.inn.cell 6;clear hown4 hb4 x5 x6 b5 b6)
                    | (refine ZdV rfl (.tmp 61) (.tmp 63) 38 rfl 94 ip (.agg #[.string ⟨#[]⟩,.string ⟨#[]⟩,.string ⟨#[]⟩,.int .i64 0,.int .i64 0]) 5 64 underlying38 HIP.o.1 HIP.o.2.1 HIP.o.2.2.1 HIP.o.2.2.2 rfl (by decide) rfl a3 B.ps.length k3 (Zbs B.ps) rfl (Zdv _) HNP.o.1 (fun ad e=>HNP.o.2 ad e _ (HC4.o.bel.setCell (by dsimp;omega) _)) (ZeE _) (by unfold maxLen;omega) (by omega) ?_
                       intro v3 w6 hown6 hb6;have HO3:=Zab (Zdw hown6 HZP.o);obtain⟨b3,m3,rfl⟩:=HO3.o.form;have hs5:(w4.setCell ⟨w.heap.size+1+1,5,none⟩ (.slice b2 B.ls.length m2)).heap.size=w4.heap.size:=by simp [World.setCell]
                       have hs6:=hb6.size;have HB6:=Zab hb6;have HC6:=Zab ((HC4.o.set 5 (.slice b2 B.ls.length m2) (by simp)).on (hb6.mono (by have:=HB4.o.size;rw [hs5];omega)));have o0:=HC6.o.o.cell;have f0:=HC6.o.o.free;have r0:=HC6.o.res.cell;have g0:=HC6.o.res.free;clear hown6 hb6 y5 y6 z5 b66))
       refine bodyPost_ret (v:=.agg #[.int .i64 B.now,.int .i64 B.tick,.int .i64 B.given,.slice b0 B.os.length m0,.slice b1 B.gs.length m1,.slice b2 B.ls.length m2,.slice b3 B.ps.length m3]) (by simp [results,results35,go_sem,r0]) rfl ⟨_,_,_,_,_,_,_,_,rfl,?_,?_⟩
       . repeat (refine Below.setCell ?_ (by dsimp;omega) _)
         exact HC6.o.bel
       . refine Zaw.wide (lo:=w.heap.size+3) (hi:=w6.heap.size) ?_ (by omega) (by simp [World.setCell])
         iterate 8 (refine Zaw.setLow ?_ (by dsimp;omega) _)
         rw [hs5] at hs6 HO3;have hs4:=HB4.o.size;exact⟨w.heap.size+3,M,M,wr.heap.size,wr.heap.size,w4.heap.size,w4.heap.size,w6.heap.size,⟨by omega,by omega,by omega,by omega,by omega,by omega,by omega,by omega,by omega,by omega⟩,((HOB2.o.below HB4.o).setLow (by dsimp;omega) _).below HB6.o,((HGB.o.below HB4.o).setLow (by dsimp;omega) _).below HB6.o,(HO2.o.setLow (by dsimp;omega) _).below HB6.o,HO3.o⟩
end
def Zd4 (w:World) (e:Ending) (w':World) (B:Bk) (c:Int):Prop:=
 ∃ b0 m0 b1 m1 b2 m2 b3 m3,e=.returned (.tuple #[.agg #[.int .i64 B.now,.int .i64 B.tick,.int .i64 B.given,.slice b0 B.os.length m0,.slice b1 B.gs.length m1,.slice b2 B.ls.length m2,.slice b3 B.ps.length m3],.int .i64 c])/\Zw_ w w'/\
  Zaw w.heap.size w'.heap.size w' (.slice b0 B.os.length m0) (.slice b1 B.gs.length m1) (.slice b2 B.ls.length m2) (.slice b3 B.ps.length m3) B
def Zfo:Bk:=⟨0,0,0,[],[],[],[]⟩
theorem ZoB (lo hi:Nat) (hh:lo<=hi) (w:World):Zaw lo hi w (.slice none 0 0) (.slice none 0 0) (.slice none 0 0) (.slice none 0 0) Zfo:=
 ⟨lo,lo,lo,lo,lo,lo,lo,lo,⟨by omega,by omega,by omega,by omega,by omega,by omega,by omega,by omega,by omega,by omega⟩,Or.inl ⟨_,_,rfl,rfl⟩,Or.inl ⟨_,_,rfl,rfl⟩,Or.inl ⟨_,_,rfl,rfl⟩,Or.inl ⟨_,_,rfl,rfl⟩⟩
theorem Zld:ZaG Zfo:=⟨⟨by simp [Zfo],fun i h=>by simp [Zfo] at h⟩,⟨by simp [Zfo],fun i h=>by simp [Zfo] at h⟩,⟨by simp [Zfo],fun i h=>by simp [Zfo] at h⟩,⟨by simp [Zfo],fun i h=>by simp [Zfo] at h⟩⟩
theorem Zd4.no {w:World}{e:Ending} (h:e=.returned (.tuple #[.agg #[.int .i64 0,.int .i64 0,.int .i64 0,.slice none 0 0,.slice none 0 0,.slice none 0 0,.slice none 0 0],.int .i64 1])/\Zw_ w w'):Zd4 w e w' Zfo 1:=
 ⟨none,0,none,0,none,0,none,0,h.1,h.2,ZoB _ _ h.2.size _⟩
section
variable (sv mv tv ov gv lv pv:Value) (Ss:List Sh) (Ms:List Md) (Ts:List Tm) (B:Bk) (FF:Nat->List Zy_) (w:World)
theorem ZhV (hl:ZbL 0 w sv mv tv Ss Ms Ts) (h:ZaY 0 w ov gv lv pv B) (hn:ZaG B) (hsh:Zb3 Ss Ms B.os FF) (hbk:ZcE Ss Ms Ts B FF=true) (u0:Value) (u1:Value) (u2:Value) (u3:Value) (C:Bk) (c:Int)
 (hg:∀ (Wx:World) (lo β:Nat) (b0 b1 b2 b3:Option Addr) (m0 m1 m2 m3:Nat),Zw_ w Wx->w.heap.size<=lo->lo<=β->Wx.heap.size=β+1->Box Wx β #[.int .i64 B.now,.int .i64 B.tick,.int .i64 B.given,.slice b0 B.os.length m0,.slice b1 B.gs.length m1,.slice b2 B.ls.length m2,.slice b3 B.ps.length m3]->Zaw lo β Wx (.slice b0 B.os.length m0) (.slice b1 B.gs.length m1) (.slice b2 B.ls.length m2) (.slice b3 B.ps.length m3) B->
   Calls prog 49 #[.pointer (some ⟨β,0,none⟩),u0,u1,u2,u3] Wx fun e w'=>e=.returned (.int .i64 c)/\Zad lo (β+1) Wx w'/\∃ x0 y0 x1 y1 x2 y2 x3 y3,Box w' β #[.int .i64 C.now,.int .i64 C.tick,.int .i64 C.given,.slice x0 C.os.length y0,.slice x1 C.gs.length y1,.slice x2 C.ls.length y2,.slice x3 C.ps.length y3]/\Zaw lo w'.heap.size w' (.slice x0 C.os.length y0) (.slice x1 C.gs.length y1) (.slice x2 C.ls.length y2) (.slice x3 C.ps.length y3) C) :
 Calls prog 48 #[.agg #[sv,mv,tv],.agg #[.int .i64 B.now,.int .i64 B.tick,.int .i64 B.given,ov,gv,lv,pv],.func (.func 49) #[] #[u0,u1,u2,u3]] w fun e w'=>Zd4 w e w' C c:=by
 have HG:=Zab hg;clear hg;have HL:=Zab hl;have HK:=Zab h;have HN:=Zab hn;have HSH:=Zab hsh;have HQ:=Zab hbk;obtain⟨sa,sc,rfl⟩:=hl.shs.form;obtain⟨ma,mc,rfl⟩:=hl.mds.form;obtain⟨ta,tc,rfl⟩:=hl.tms.form;obtain⟨a0,k0,rfl⟩:=h.obs.form;obtain⟨a1,k1,rfl⟩:=h.grs.form;obtain⟨a2,k2,rfl⟩:=h.les.form;obtain⟨a3,k3,rfl⟩:=h.pus.form;clear hl h hn hsh hbk;go_enter func48,ntmps48;go_wp2_with fail;generalize hWa:World.alloc (World.alloc (w.alloc _) _) _=Wa;have HBa:Hd (Zw_ w Wa):=by rw [<- hWa];exact ((Zac w _).alloc (by simp) _).alloc (by simp;omega) _
 have FB:Hd (Box Wa (w.heap.size+1) #[.int .i64 B.now,.int .i64 B.tick,.int .i64 B.given,.slice a0 B.os.length k0,.slice a1 B.gs.length k1,.slice a2 B.ls.length k2,.slice a3 B.ps.length k3]):=by rw [<- hWa];exact (Box.new _ _ _ _ (by simp)).on (Zac _ _)
 have FC:Hd (Box Wa (w.heap.size+2) #[.int .i64 0,.int .i64 0,.int .i64 0,.slice none 0 0,.slice none 0 0,.slice none 0 0,.slice none 0 0]):=by rw [<- hWa];exact Box.new _ _ _ _ (by simp)
 clear hWa;refine (Zgh 0 _ _ _ _ _ _ _ Ss Ms Ts B FF _ (HL.o.below HBa.o) (HK.o.below HBa.o) HN.o HSH.o).mono ?_;rintro e w1 ⟨rfl,hb1⟩;rw [HQ.o];have HB1:Hd (Zw_ w w1):=bt HBa.o hb1;replace FB:=Zab (FB.o.on hb1);replace FC:=Zab (FC.o.on hb1);clear hb1 HBa;have g1:=FB.o.cell;go_wp2_with fail;clear g1;refine (Zjz 0 _ _ _ _ B _ (HK.o.below HB1.o) HN.o).mono ?_;rintro e w2 ⟨b0,m0,b1,m1,b2,m2,b3,m3,rfl,hb2,ho2⟩;have HB2:Hd (Zw_ w w2):=bt HB1.o hb2;have hz1:=FC.o.lt;replace FC:=Zab (FC.o.on hb2);have hz2:=FC.o.lt;have hs12:=hb2.size;have hs01:=HB1.o.size;have HO2:=Zab ho2;clear hb2 ho2 HB1 FB;go_wp2_with fail;generalize hWx:w2.alloc _=Wx;have hx:Below w2.heap.size w2 Wx:=by rw [<- hWx];exact Zac _ _
 have FX:Hd (Box Wx w2.heap.size #[.int .i64 B.now,.int .i64 B.tick,.int .i64 B.given,.slice b0 B.os.length m0,.slice b1 B.gs.length m1,.slice b2 B.ls.length m2,.slice b3 B.ps.length m3]):=by rw [<- hWx];exact Box.new _ _ _ _ rfl
 have hxs:Wx.heap.size=w2.heap.size+1:=by rw [<- hWx];simp
 clear hWx;have HBx:Hd (Zw_ w Wx):=bt HB2.o hx;have HOx:=Zab (HO2.o.below hx);replace FC:=Zab (FC.o.on hx);clear hx HB2 HO2;refine (HG.o Wx w1.heap.size w2.heap.size _ _ _ _ _ _ _ _ HBx.o (by omega) (by omega) hxs FX.o (HOx.o.wide (by omega) Zl_)).mono ?_;rintro e w5 ⟨rfl,ht5,x0,y0,x1,y1,x2,y2,x3,y3,hbx,ho5⟩;have s5:=ht5.size;have FX5:=Zab hbx;have HO5:=Zab ho5;have FC5:=Zab (FC.o.touch ht5 (by omega));have HB5:Hd (Zw_ w w5):=HBx.o.trans ((ht5.under (by omega)).mono (by omega));clear ht5 hbx ho5 FX FC HBx HG HOx;have o0:=FX5.o.cell;have r0:=FC5.o.cell;have g0:=FC5.o.free;go_wp2;clear o0 g0
 refine bodyPost_ret (v:=.tuple #[.agg #[.int .i64 C.now,.int .i64 C.tick,.int .i64 C.given,.slice x0 C.os.length y0,.slice x1 C.gs.length y1,.slice x2 C.ls.length y2,.slice x3 C.ps.length y3],.int .i64 c]) (by simp [results,results48,go_sem,r0]) rfl ⟨_,_,_,_,_,_,_,_,rfl,?_,?_⟩
 . repeat (refine Below.setCell ?_ (by dsimp;omega) _)
   exact HB5.o
 . refine Zaw.wide (lo:=w1.heap.size) (hi:=w5.heap.size) ?_ (by omega) (by simp [World.setCell])
   iterate 7 (refine Zaw.setLow ?_ (by dsimp;omega) _)
   exact HO5.o
end
def due (T:Int) (p:Pu):Bool:=decide (p.un < T)
def fz (T:Int) (K:Pu->Nat) (L:List Le) (p:Pu):List Le:=if due T p=true then ZeP L (K p) p.am else L
theorem ZjI {Ss:List Sh}{Ms:List Md}{Ts:List Tm}{B:Bk}{FF:Nat->List Zy_} (h:ZcE Ss Ms Ts B FF=true):0<=B.tick/\B.tick<=1000000:=by
 unfold ZcE ZdA Zdz at h;simp only [Bool.and_eq_true,ZdM,decide_eq_true_eq] at h
 omega
theorem Zad.onB {lo:Nat}{w Y:World} (h:Zad lo hi w X) (hb:Below w.heap.size X Y):Zad lo hi w Y:=
 ⟨hb.os.trans h.os,hb.tape.trans h.tape,hb.output.trans h.output,Nat.le_trans h.size hb.size,fun k hk ho=>(hb.block k hk).trans (h.block k hk ho)⟩
theorem ZdJ (X:World) (g:Nat) (a b c d e:Value) (t:TypeId) (hg:X.heap.size=g):∀ j x,[a,b,c,d,e][j]?=some x->(X.alloc (.cells #[a,b,c,d,e] t)).cell? ((⟨g,0,none⟩:Addr).add j)=some x:=by
 intro j x hx;subst hg;rw [Go.WideShapes.add_plain,Nat.zero_add,ZbI _ _ _ _ _ rfl]
 simpa using hx
theorem Zf0 (p:Pu):∀ u ∈ [Value.string p.dr,.string p.tm,.string p.re,.int .i64 p.am,.int .i64 p.un],u.oneCell'=true:=by
 intro u hu;simp only [List.mem_cons,List.not_mem_nil,or_false] at hu
 rcases hu with rfl | rfl | rfl | rfl | rfl <;> rfl
end Go.Proofs.YtfohnageehneoaaGreat
