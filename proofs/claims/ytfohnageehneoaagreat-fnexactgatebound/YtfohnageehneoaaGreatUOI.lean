import Derived.Test.YtfohnageehneoaaGreatUOE
set_option maxHeartbeats 16000000
set_option maxRecDepth 100000
open Go.Proofs.Tryz
namespace Go.Proofs.YtfohnageehneoaaGreat
open Go.RowKit Go.Deep
variable {w' W W' W1 wr:World} {g base sz n hi c0 c1 cap k s:Nat} {e:TypeId} {v:Value} {cs:List Value} {P:Program} {cb cx:Array Value}
theorem Zad.grown {w:World} (h:w.grownBy w' (some g)):Zad g (g+1) w w':=⟨h.os,h.tape,h.output,h.size,fun k hk ho=>h.block k hk fun e=>by have:=Option.some.inj e;omega⟩
theorem Below.grown {w:World} (h:w.grownBy w' none):Zw_ w w':=⟨h.os,h.tape,h.output,h.size,fun k hk=>h.block k hk fun e=>by cases e⟩
theorem Below.ownsB (h:W.ownsRow base e sz v n cs) (hb:Below W.heap.size W W'):W'.ownsRow base e sz v n cs:=by
 refine⟨h.1,?_⟩;have hlt:=fun g hg=>Zbj h (g:=g) hg
 rcases h.2 with hv | ⟨g,cap,cur,hv,h1,h2,h3⟩
 . exact Or.inl hv
 . have hg:=hlt g (by rw [hv];rfl)
   exact Or.inr ⟨g,cap,cur,hv,h1,by rw [hb.block g hg.1];exact h2,h3⟩
theorem Zad.ownsB {lo:Nat} (h:W.ownsRow base e sz v n cs) (ht:Zad lo hi W W') (hh:hi<=base):W'.ownsRow base e sz v n cs:=by
 refine⟨h.1,?_⟩;have hlt:=fun g hg=>Zbj h (g:=g) hg
 rcases h.2 with hv | ⟨g,cap,cur,hv,h1,h2,h3⟩
 . exact Or.inl hv
 . have hg:=hlt g (by rw [hv];rfl)
   exact Or.inr ⟨g,cap,cur,hv,h1,by rw [ht.block g hg.1 (by omega)];exact h2,h3⟩
theorem ZdI (h:W.ownsRow base e sz v n cs):∃ a cap,v=.slice a n cap:=by
 rcases h.2 with ⟨hv,hn⟩ | ⟨g,cap,cur,hv,_⟩
 . rw [hn];exact⟨_,_,hv⟩
 . exact⟨_,_,hv⟩
theorem ZdL (W:World) (e:TypeId) (sz:Nat):W.ownsRow base e sz (.slice none 0 0) 0 []:=⟨by simp,Or.inl ⟨rfl,rfl⟩⟩
def Zsl (x:Ob×Value×Value):List Value:=[.string x.1.kd,.string x.1.nm,.string x.1.tm,x.2.1,.bool x.1.en,x.2.2,.int .i64 x.1.ver]
def ZgM:List (Ob×Value×Value)->List Value
 | []=>[]
 | x :: L=>Zsl x ++ ZgM L
theorem Zmf:∀ (A B:List (Ob×Value×Value)),ZgM (A ++ B)=ZgM A ++ ZgM B
 | [],B=>rfl
 | x :: A,B=>by simp only [List.cons_append,ZgM,Zmf A B,List.append_assoc]
theorem ZpH:∀ (L:List (Ob×Value×Value)) (i:Nat) (h:i < L.length),(ZgM L)[i*7]?=some (.string L[i].1.kd)/\(ZgM L)[i*7+1]?=some (.string L[i].1.nm)/\(ZgM L)[i*7+2]?=some (.string L[i].1.tm)/\(ZgM L)[i*7+3]?=some (L[i].2.1)/\(ZgM L)[i*7+4]?=some (.bool L[i].1.en)/\(ZgM L)[i*7+5]?=some (L[i].2.2)/\(ZgM L)[i*7+6]?=some (.int .i64 L[i].1.ver)
 | [],i,h=>by simp at h
 | x :: L,0,_=>⟨rfl,rfl,rfl,rfl,rfl,rfl,rfl⟩
 | x :: L,i+1,h=>by
  have:=ZpH L i (by simpa using h)
  have e:∀ j,(ZgM (x :: L))[(i+1)*7+j]?=(ZgM L)[i*7+j]?:=fun j=>by
   rw [show (i+1)*7+j=(i*7+j)+1+1+1+1+1+1+1 by omega]
   rfl
  have e0:(ZgM (x :: L))[(i+1)*7]?=(ZgM L)[i*7]?:=e 0;simp only [List.getElem_cons_succ];exact⟨e0.trans this.1,(e 1).trans this.2.1,(e 2).trans this.2.2.1,(e 3).trans this.2.2.2.1,(e 4).trans this.2.2.2.2.1,(e 5).trans this.2.2.2.2.2.1,(e 6).trans this.2.2.2.2.2.2⟩
structure ZdR (base:Nat) (W:World) (v:Value) (L:List (Ob×Value×Value)) (c:Nat->Nat×Nat):Prop where
 own:W.ownsRow base 155 7 v L.length (ZgM L)
 sz:∀ i (h:i < L.length),ZcN L[i].1
 inn:∀ i (h:i < L.length),∃ m1:Nat,(c i).1<=m1/\m1<=(c i).2/\Zae (c i).1 m1 W L[i].2.1 L[i].1.vs/\Zae m1 (c i).2 W L[i].2.2 L[i].1.hs
 seg:∀ i,i < L.length->base<=(c i).1/\(c i).2<=W.heap.size/\∀ g,v.ownBlock=some g->g < (c i).1\/(c i).2<=g
 mono:∀ i j,i < j->j < L.length->(c i).2<=(c j).1
theorem ZdR.start (base:Nat) (W:World):ZdR base W (.slice none 0 0) [] (fun _=>(0,0)):=
 ⟨ZdL _ _ _,fun i h=>by simp at h,fun i h=>by simp at h,fun i h=>by simp at h,fun i j _ h=>by simp at h⟩
theorem ZdR.touch {lo:Nat}{L:List (Ob×Value×Value)}{c:Nat->Nat×Nat} (h:ZdR base W v L c) (ht:Zad lo hi W W') (hh:hi<=base):ZdR base W' v L c:=
 ⟨Zad.ownsB h.own ht hh,h.sz,fun i hi=>by have hsg:=h.seg i hi;obtain⟨m1,q0,q1,l0,l1⟩:=h.inn i hi;exact⟨m1,q0,q1,l0.touch ht (by omega),l1.touch ht (by omega)⟩,fun i hi=>⟨(h.seg i hi).1,Nat.le_trans (h.seg i hi).2.1 ht.size,(h.seg i hi).2.2⟩,h.mono⟩
theorem ZdR.snoc {m1:Nat}{L:List (Ob×Value×Value)}{c:Nat->Nat×Nat} (h:ZdR base W v L c) (hb1:Below W.heap.size W W1) (x:Ob×Value×Value) (hz:ZcN x.1) (hc0:W.heap.size<=c0) (hc1:c1<=W1.heap.size) (hbase:base<=W.heap.size) (q0:c0<=m1) (q1:m1<=c1) (e0:Zae c0 m1 W1 x.2.1 x.1.vs) (e1:Zae m1 c1 W1 x.2.2 x.1.hs)
 (hown:W'.ownsRow base 155 7 (.slice (some ⟨g,0,none⟩) (L.length+1) cap) (L.length+1) (ZgM L ++ Zsl x)) (hgrow:W1.grownBy W' v.ownBlock) (hat:v.ownBlock=some g\/g=W1.heap.size) :
 ZdR base W' (.slice (some ⟨g,0,none⟩) (L.length+1) cap) (L ++ [x]) (fun i=>if i < L.length then c i else (c0,c1)):=by
 have hsz:=hgrow.size;have hs1:=hb1.size;have hlen:(L ++ [x]).length=L.length+1:=by simp
 have hgx:ZgM (L ++ [x])=ZgM L ++ Zsl x:=by rw [Zmf];simp [ZgM]
 have hnew:∀ lo hi,(∀ g',v.ownBlock=some g'->g' < lo\/hi<=g')->hi<=W1.heap.size->(Zad hi hi W1 W'\/∃ g',Zad g' (g'+1) W1 W'/\(g' < lo\/hi<=g')):=fun lo hi hv hhi=>by
  cases hvo:v.ownBlock with
  | none=>rw [hvo] at hgrow;exact Or.inl (Zad.below (Below.grown hgrow))
  | some g'=>rw [hvo] at hgrow;exact Or.inr ⟨g',Zad.grown hgrow,hv g' hvo⟩
 have hlt:=fun g' hg'=>(Zbj h.own (g:=g') hg').1
 have hvb:∀ g',v.ownBlock=some g'->g' < c0\/c1<=g':=fun g' hg'=>Or.inl (by have:=hlt g' hg';omega)
 refine⟨by rw [hlen,hgx];exact hown,fun i hi=>?_,fun i hi=>?_,fun i hi=>?_,fun i j hij hj=>?_⟩
 . by_cases e:i < L.length
   . rw [List.getElem_append_left e];exact h.sz i e
   . have e':i=L.length:=by omega
     subst e';simp only [List.getElem_append_right Zl_,Nat.sub_self,List.getElem_cons_zero];exact hz
 . by_cases e:i < L.length
   . rw [List.getElem_append_left e,if_pos e]
     have hsg:=h.seg i e;obtain⟨m1,q0,q1,l0,l1⟩:=h.inn i e
     rcases hnew (c i).1 (c i).2 hsg.2.2 (by omega) with ht | ⟨g',ht,hg'⟩
     . exact⟨m1,q0,q1,(l0.below hb1).touch ht (by omega),(l1.below hb1).touch ht (by omega)⟩
     . exact⟨m1,q0,q1,(l0.below hb1).touch ht (by omega),(l1.below hb1).touch ht (by omega)⟩
   . have e':i=L.length:=by omega
     subst e';rw [if_neg e];simp only [List.getElem_append_right Zl_,Nat.sub_self,List.getElem_cons_zero]
     rcases hnew c0 c1 hvb hc1 with ht | ⟨g',ht,hg'⟩
     . exact⟨m1,q0,q1,e0.touch ht (by omega),e1.touch ht (by omega)⟩
     . exact⟨m1,q0,q1,e0.touch ht (by omega),e1.touch ht (by omega)⟩
 . have hgg:∀ g',(Value.slice (some ⟨g,0,none⟩) (L.length+1) cap).ownBlock=some g'->g'=g:=fun g' hg'=>(Option.some.inj hg').symm
   by_cases e:i < L.length
   . rw [if_pos e]
     have hsg:=h.seg i e;refine⟨hsg.1,by omega,fun g' hg'=>?_⟩;rw [hgg g' hg']
     rcases hat with hat | hat
     . exact hsg.2.2 g hat
     . exact Or.inr (by omega)
   . rw [if_neg e]
     refine⟨by dsimp;omega,by dsimp;omega,fun g' hg'=>?_⟩;rw [hgg g' hg']
     rcases hat with hat | hat
     . exact hvb g hat
     . exact Or.inr (by dsimp;omega)
 . rw [hlen] at hj
   by_cases e:j < L.length
   . rw [if_pos e,if_pos (by omega)];exact h.mono i j hij e
   . rw [if_neg e,if_pos (by omega)]
     have:=(h.seg i (by omega)).2.1;simp only []
     omega
theorem ZdR.owns {L:List (Ob×Value×Value)}{c:Nat->Nat×Nat} (h:ZdR base W v L c) {Xl:List Ob} (hX:L.map Prod.fst=Xl):Za6 base W.heap.size W v Xl:=by
 subst hX
 by_cases hL:L=[]
 . subst hL
   obtain⟨a,cap,rfl⟩:=ZdI h.own;exact Or.inl ⟨_,_,rfl,rfl⟩
 . rcases h.own.2 with ⟨_,hn⟩ | ⟨g,cap,cur,hv,h1,h2,h3,h4,_⟩
   . exact absurd (List.length_eq_zero_iff.1 hn) hL
   . have hl:=Zbj h.own (g:=g) (by rw [hv];rfl)
     have ho:=h.own;have hp:0 < L.length:=List.length_pos_iff.2 hL
     have hsg:=h.seg;subst hv;refine Or.inr ⟨g,0,cap,c,fun i=>if h:i < L.length then L[i].1 else L[0].1,by rw [List.length_map],by simpa using hL,by rw [List.length_map];exact Nat.le_trans h3 h4,by rw [List.length_map];exact h3,fun i hi=>?_,hl.1,hl.2.1,hl.1,fun i hi=>?_,fun i j hij hj=>?_,fun i=>hl.2.2 i,fun i hi=>?_⟩
     . have hi':i < L.length:=by simpa using hi
       simp [hi']
     . have hi':i < L.length:=by simpa using hi
       exact⟨(hsg i hi').1,(hsg i hi').2.1,(hsg i hi').2.2 g rfl⟩
     . exact h.mono i j hij (by simpa using hj)
     . have hi':i < L.length:=by simpa using hi
       obtain⟨d0,d1,d2,d3,d4,d5,d6⟩:=ZpH L i hi';obtain⟨m1,q0,q1,l0,l1⟩:=h.inn i hi';have ce:∀ j,j < 7->W.cell? ⟨g,0+i*7+j,none⟩=(ZgM L)[i*7+j]?:=fun j hj=>by rw [Nat.zero_add];exact ho.cellAt _ (by omega)
       simp only [hi',dif_pos];exact⟨h.sz i hi',_,_,m1,q0,q1,⟨(ce 0 (by omega)).trans d0,(ce 1 (by omega)).trans d1,(ce 2 (by omega)).trans d2,(ce 3 (by omega)).trans d3,(ce 4 (by omega)).trans d4,(ce 5 (by omega)).trans d5,(ce 6 (by omega)).trans d6⟩,l0,l1⟩
def Zsh (x:Gr×Value):List Value:=[.int .i64 x.1.nu,.string x.1.tw,.string x.1.gb,x.2,.string x.1.kd,.string x.1.tm,.string x.1.pf]
def Zha:List (Gr×Value)->List Value
 | []=>[]
 | x :: L=>Zsh x ++ Zha L
theorem Zma:∀ (A B:List (Gr×Value)),Zha (A ++ B)=Zha A ++ Zha B
 | [],B=>rfl
 | x :: A,B=>by simp only [List.cons_append,Zha,Zma A B,List.append_assoc]
theorem Zo3:∀ (L:List (Gr×Value)) (i:Nat) (h:i < L.length),(Zha L)[i*7]?=some (.int .i64 L[i].1.nu)/\(Zha L)[i*7+1]?=some (.string L[i].1.tw)/\(Zha L)[i*7+2]?=some (.string L[i].1.gb)/\(Zha L)[i*7+3]?=some (L[i].2)/\(Zha L)[i*7+4]?=some (.string L[i].1.kd)/\(Zha L)[i*7+5]?=some (.string L[i].1.tm)/\(Zha L)[i*7+6]?=some (.string L[i].1.pf)
 | [],i,h=>by simp at h
 | x :: L,0,_=>⟨rfl,rfl,rfl,rfl,rfl,rfl,rfl⟩
 | x :: L,i+1,h=>by
  have:=Zo3 L i (by simpa using h)
  have e:∀ j,(Zha (x :: L))[(i+1)*7+j]?=(Zha L)[i*7+j]?:=fun j=>by
   rw [show (i+1)*7+j=(i*7+j)+1+1+1+1+1+1+1 by omega]
   rfl
  have e0:(Zha (x :: L))[(i+1)*7]?=(Zha L)[i*7]?:=e 0;simp only [List.getElem_cons_succ];exact⟨e0.trans this.1,(e 1).trans this.2.1,(e 2).trans this.2.2.1,(e 3).trans this.2.2.2.1,(e 4).trans this.2.2.2.2.1,(e 5).trans this.2.2.2.2.2.1,(e 6).trans this.2.2.2.2.2.2⟩
structure ZdT (base:Nat) (W:World) (v:Value) (L:List (Gr×Value)) (c:Nat->Nat×Nat):Prop where
 own:W.ownsRow base 158 7 v L.length (Zha L)
 sz:∀ i (h:i < L.length),ZdD L[i].1
 inn:∀ i (h:i < L.length),(c i).1<=(c i).2/\Zat (c i).1 (c i).2 W L[i].2 L[i].1.vb
 seg:∀ i,i < L.length->base<=(c i).1/\(c i).2<=W.heap.size/\∀ g,v.ownBlock=some g->g < (c i).1\/(c i).2<=g
 mono:∀ i j,i < j->j < L.length->(c i).2<=(c j).1
theorem ZdT.start (base:Nat) (W:World):ZdT base W (.slice none 0 0) [] (fun _=>(0,0)):=
 ⟨ZdL _ _ _,fun i h=>by simp at h,fun i h=>by simp at h,fun i h=>by simp at h,fun i j _ h=>by simp at h⟩
theorem ZdT.touch {lo:Nat}{L:List (Gr×Value)}{c:Nat->Nat×Nat} (h:ZdT base W v L c) (ht:Zad lo hi W W') (hh:hi<=base):ZdT base W' v L c:=
 ⟨Zad.ownsB h.own ht hh,h.sz,fun i hi=>by have hsg:=h.seg i hi;obtain⟨q0,l0⟩:=h.inn i hi;exact⟨q0,l0.touch ht (by omega)⟩,fun i hi=>⟨(h.seg i hi).1,Nat.le_trans (h.seg i hi).2.1 ht.size,(h.seg i hi).2.2⟩,h.mono⟩
theorem ZdT.snoc {L:List (Gr×Value)}{c:Nat->Nat×Nat} (h:ZdT base W v L c) (hb1:Below W.heap.size W W1) (x:Gr×Value) (hz:ZdD x.1) (hc0:W.heap.size<=c0) (hc1:c1<=W1.heap.size) (hbase:base<=W.heap.size) (q0:c0<=c1) (e0:Zat c0 c1 W1 x.2 x.1.vb)
 (hown:W'.ownsRow base 158 7 (.slice (some ⟨g,0,none⟩) (L.length+1) cap) (L.length+1) (Zha L ++ Zsh x)) (hgrow:W1.grownBy W' v.ownBlock) (hat:v.ownBlock=some g\/g=W1.heap.size) :
 ZdT base W' (.slice (some ⟨g,0,none⟩) (L.length+1) cap) (L ++ [x]) (fun i=>if i < L.length then c i else (c0,c1)):=by
 have hsz:=hgrow.size;have hs1:=hb1.size;have hlen:(L ++ [x]).length=L.length+1:=by simp
 have hgx:Zha (L ++ [x])=Zha L ++ Zsh x:=by rw [Zma];simp [Zha]
 have hnew:∀ lo hi,(∀ g',v.ownBlock=some g'->g' < lo\/hi<=g')->hi<=W1.heap.size->(Zad hi hi W1 W'\/∃ g',Zad g' (g'+1) W1 W'/\(g' < lo\/hi<=g')):=fun lo hi hv hhi=>by
  cases hvo:v.ownBlock with
  | none=>rw [hvo] at hgrow;exact Or.inl (Zad.below (Below.grown hgrow))
  | some g'=>rw [hvo] at hgrow;exact Or.inr ⟨g',Zad.grown hgrow,hv g' hvo⟩
 have hlt:=fun g' hg'=>(Zbj h.own (g:=g') hg').1
 have hvb:∀ g',v.ownBlock=some g'->g' < c0\/c1<=g':=fun g' hg'=>Or.inl (by have:=hlt g' hg';omega)
 refine⟨by rw [hlen,hgx];exact hown,fun i hi=>?_,fun i hi=>?_,fun i hi=>?_,fun i j hij hj=>?_⟩
 . by_cases e:i < L.length
   . rw [List.getElem_append_left e];exact h.sz i e
   . have e':i=L.length:=by omega
     subst e';simp only [List.getElem_append_right Zl_,Nat.sub_self,List.getElem_cons_zero];exact hz
 . by_cases e:i < L.length
   . rw [List.getElem_append_left e,if_pos e]
     have hsg:=h.seg i e;obtain⟨q0,l0⟩:=h.inn i e
     rcases hnew (c i).1 (c i).2 hsg.2.2 (by omega) with ht | ⟨g',ht,hg'⟩
     . exact⟨q0,(l0.below hb1).touch ht (by omega)⟩
     . exact⟨q0,(l0.below hb1).touch ht (by omega)⟩
   . have e':i=L.length:=by omega
     subst e';rw [if_neg e];simp only [List.getElem_append_right Zl_,Nat.sub_self,List.getElem_cons_zero]
     rcases hnew c0 c1 hvb hc1 with ht | ⟨g',ht,hg'⟩
     . exact⟨q0,e0.touch ht (by omega)⟩
     . exact⟨q0,e0.touch ht (by omega)⟩
 . have hgg:∀ g',(Value.slice (some ⟨g,0,none⟩) (L.length+1) cap).ownBlock=some g'->g'=g:=fun g' hg'=>(Option.some.inj hg').symm
   by_cases e:i < L.length
   . rw [if_pos e]
     have hsg:=h.seg i e;refine⟨hsg.1,by omega,fun g' hg'=>?_⟩;rw [hgg g' hg']
     rcases hat with hat | hat
     . exact hsg.2.2 g hat
     . exact Or.inr (by omega)
   . rw [if_neg e]
     refine⟨by dsimp;omega,by dsimp;omega,fun g' hg'=>?_⟩;rw [hgg g' hg']
     rcases hat with hat | hat
     . exact hvb g hat
     . exact Or.inr (by dsimp;omega)
 . rw [hlen] at hj
   by_cases e:j < L.length
   . rw [if_pos e,if_pos (by omega)];exact h.mono i j hij e
   . rw [if_neg e,if_pos (by omega)]
     have:=(h.seg i (by omega)).2.1;simp only []
     omega
theorem ZdT.owns {L:List (Gr×Value)}{c:Nat->Nat×Nat} (h:ZdT base W v L c) {Xl:List Gr} (hX:L.map Prod.fst=Xl):Zbe base W.heap.size W v Xl:=by
 subst hX
 by_cases hL:L=[]
 . subst hL
   obtain⟨a,cap,rfl⟩:=ZdI h.own;exact Or.inl ⟨_,_,rfl,rfl⟩
 . rcases h.own.2 with ⟨_,hn⟩ | ⟨g,cap,cur,hv,h1,h2,h3,h4,_⟩
   . exact absurd (List.length_eq_zero_iff.1 hn) hL
   . have hl:=Zbj h.own (g:=g) (by rw [hv];rfl)
     have ho:=h.own;have hp:0 < L.length:=List.length_pos_iff.2 hL
     have hsg:=h.seg;subst hv;refine Or.inr ⟨g,0,cap,c,fun i=>if h:i < L.length then L[i].1 else L[0].1,by rw [List.length_map],by simpa using hL,by rw [List.length_map];exact Nat.le_trans h3 h4,by rw [List.length_map];exact h3,fun i hi=>?_,hl.1,hl.2.1,hl.1,fun i hi=>?_,fun i j hij hj=>?_,fun i=>hl.2.2 i,fun i hi=>?_⟩
     . have hi':i < L.length:=by simpa using hi
       simp [hi']
     . have hi':i < L.length:=by simpa using hi
       exact⟨(hsg i hi').1,(hsg i hi').2.1,(hsg i hi').2.2 g rfl⟩
     . exact h.mono i j hij (by simpa using hj)
     . have hi':i < L.length:=by simpa using hi
       obtain⟨d0,d1,d2,d3,d4,d5,d6⟩:=Zo3 L i hi';obtain⟨q0,l0⟩:=h.inn i hi';have ce:∀ j,j < 7->W.cell? ⟨g,0+i*7+j,none⟩=(Zha L)[i*7+j]?:=fun j hj=>by rw [Nat.zero_add];exact ho.cellAt _ (by omega)
       simp only [hi',dif_pos];exact⟨h.sz i hi',_,q0,⟨(ce 0 (by omega)).trans d0,(ce 1 (by omega)).trans d1,(ce 2 (by omega)).trans d2,(ce 3 (by omega)).trans d3,(ce 4 (by omega)).trans d4,(ce 5 (by omega)).trans d5,(ce 6 (by omega)).trans d6⟩,l0⟩
theorem Zjt (X:World) (g:Nat) (L:List Value) (t:TypeId) (hg:X.heap.size=g):∀ j x,L[j]?=some x->(X.alloc (.cells L.toArray t)).cell? ((⟨g,0,none⟩:Addr).add j)=some x:=by
 intro j x hx;subst hg;rw [Go.WideShapes.add_plain,Nat.zero_add,ZbH _ _ _ _ _ rfl]
 simpa using hx
theorem ZfG {X Y:Type}{L:List (X×Y)}{l:List X} (h:L.map Prod.fst=l.take k) (hk:k < l.length) {x:X×Y} (hx:x.1=l[k]):(L ++ [x]).map Prod.fst=l.take (k+1):=by
 rw [List.map_append,h,List.take_succ_eq_append_getElem hk,List.map_cons,List.map_nil,hx]
theorem Zgh {X Y:Type}{L:List (X×Y)}{l:List X} (h:L.map Prod.fst=l.take k) (hk:k<=l.length):L.length=k:=by
 have:=congrArg List.length h;rw [List.length_map,List.length_take] at this
 omega
theorem Zg4 (w:World) (t ty e:TypeId) (i:TypeInfo) (ht:P.underlying t=some (.slice e)) (hi:P.info? e=some i) (c:Nat):(Builtin.append_ #[t,t] ty #[.slice none 0 0,.slice none 0 c]).run P w=.ok (.slice none 0 0) w:=by
 simp [Builtin.append_,run_underlying ht,sizeOf,typeInfo,hi,Builtin.lenOf,run_firstCells_none]
theorem ZdN {w:World}{ops:Array Oper}{rest:List Oper}{o:Oper}{a:Act}{Q:Exit->Act->World->Prop} (hgd:o.guard=none) (s x:Operand) (t:TypeId)
 (ho:o.op=.call { callee:=.builtin .append,args:=#[s,x],argTypes:=#[t,t] })
 (e:TypeId) (i:TypeInfo) (z:Value) (size bytes:Nat) (ht:P.underlying t=some (.slice e)) (hi:P.info? e=some i) (hz:i.zero=some z)
 (hsize:i.size=size) (hby:i.bytes=bytes) (hzs:z.cells.size=size) (hsz:0 < size)
 (hs:a.eval s=.slice none 0 0)
 (ao:Option Addr) (m c:Nat) (news:List Value) (hx:a.eval x=.slice ao m c) (hl:news.length=m*size) (hm:ao=none->m=0) (hnews:∀ ad,ao=some ad->∀ j u,news[j]?=some u->w.cell? (ad.add j)=some u) (h1:∀ u ∈ news,u.oneCell'=true)
 (h63:m<=maxLen) (hbytes:m*bytes<=140737488355328)
 (h:∀ v' w',w'.ownsRow w.heap.size e size v' m news->Zw_ w w'->wpList P ops Q rest (a.put o.dst v') w') :
 wpList P ops Q (o :: rest) a w:=by
 cases ao with
 | none=>
  have hm0:=hm rfl;subst hm0;have hn:news=[]:=List.length_eq_zero_iff.1 (by rw [hl,Nat.zero_mul]);subst hn;refine wpList_plain hgd fun K hK=>?_
  have hr:=Zg4 (P:=P) w t o.type e i ht hi c;unfold Oper.wp execOp;simp only [ho,resolve,invoke,builtin,Sem.run_bind,Sem.run_pure,Result.andThen_ok,List.map_toArray,List.map_cons,List.map_nil,hs,hx,hr];exact hK _ _ (h _ _ (ZdL _ _ _) Zb_)
 | some ad=>
  refine wpList_append_own_at w hgd s x t ho w.heap.size e i z size bytes ht hi hz hsize hby hzs hsz _ 0 [] hs (ZdL _ _ _) ad m c news hx hl (hnews ad rfl) h1 (by omega) (by rw [Nat.zero_add];exact hbytes) Zl_ ?_;intro v' w' hown hgrow _ _;rw [Nat.zero_add,List.nil_append] at hown;exact h v' w' hown (Below.grown hgrow)
theorem Zp7 {lo:Nat}{w:World}{z0 z1:Value}{V Ho:List Zy_} (h:Zep lo w z0 z1 V Ho) (x:Ob):∀ u ∈ Zsl (x,z0,z1),u.oneCell'=true:=by
 obtain⟨_,_,_,h0,h1⟩:=h;obtain⟨_,_,rfl⟩:=h0.at.form';obtain⟨_,_,rfl⟩:=h1.at.form';intro u hu;simp only [Zsl,List.mem_cons,List.not_mem_nil,or_false] at hu
 rcases hu with rfl | rfl | rfl | rfl | rfl | rfl | rfl <;> rfl
theorem Zp2 (x:Gr) (a:Option Addr) (n c:Nat):∀ u ∈ Zsh (x,.slice a n c),u.oneCell'=true:=by
 intro u hu;simp only [Zsh,List.mem_cons,List.not_mem_nil,or_false] at hu
 rcases hu with rfl | rfl | rfl | rfl | rfl | rfl | rfl <;> rfl
theorem ZeG {X:World} (h:Below wr.heap.size wr X) (a b c d:Value) (o:Obj) (i j k l:Nat):Below wr.heap.size wr (((((X.setCell ⟨wr.heap.size,i,none⟩ a).setCell ⟨wr.heap.size,j,none⟩ b).setCell ⟨wr.heap.size,k,none⟩ c).setCell ⟨wr.heap.size,l,none⟩ d).alloc o):=by
 refine Below.alloc ?_ (by simp only [World.setCell,Array.size_modify];exact h.size) _;exact (((h.setCell (p:=⟨wr.heap.size,i,none⟩) Zl_ a).setCell (p:=⟨wr.heap.size,j,none⟩) Zl_ b).setCell (p:=⟨wr.heap.size,k,none⟩) Zl_ c).setCell (p:=⟨wr.heap.size,l,none⟩) Zl_ d
theorem Zr8 (X:World) (g:Nat) (a b c d:Value) (i j k l:Nat):((((X.setCell ⟨g,i,none⟩ a).setCell ⟨g,j,none⟩ b).setCell ⟨g,k,none⟩ c).setCell ⟨g,l,none⟩ d).heap.size=X.heap.size:=by simp [World.setCell]
theorem Zp8 (X:World) (g:Nat) (a b c d:Value) (o:Obj) (i j k l:Nat):X.heap.size<=(((((X.setCell ⟨g,i,none⟩ a).setCell ⟨g,j,none⟩ b).setCell ⟨g,k,none⟩ c).setCell ⟨g,l,none⟩ d).alloc o).heap.size:=by simp [World.setCell]
theorem Zr0 {lo:Nat}{X:World}{L:List Int} (h:Zat lo hi X v L) (hg:g < lo) (a b c d:Value) (o:Obj) (i j k l:Nat):Zat lo hi (((((X.setCell ⟨g,i,none⟩ a).setCell ⟨g,j,none⟩ b).setCell ⟨g,k,none⟩ c).setCell ⟨g,l,none⟩ d).alloc o) v L:=
 ((((h.setLow hg _).setLow hg _).setLow hg _).setLow hg _).below (Zac _ _)
structure Zq4 (s:Nat) (w wr:World) (cb cx:Array Value):Prop where
 bel:Below s w wr
 inn:Box wr s cb
 res:Box wr (s+1) #[.int .i64 0,.int .i64 0,.int .i64 0,.slice none 0 0,.slice none 0 0,.slice none 0 0,.slice none 0 0]
 o:Box wr (s+2) cx
theorem Zq4.on {w:World} (h:Zq4 s w wr cb cx) (hb:Below (s+3) wr w'):Zq4 s w w' cb cx:=
 ⟨h.bel.trans (hb.mono (by omega)),h.inn.below hb (by omega),h.res.below hb (by omega),h.o.below hb (by omega)⟩
theorem Zq4.set {w:World} (h:Zq4 s w wr cb cx) (k:Nat) (u:Value) (hk:k < cx.size):Zq4 s w (wr.setCell ⟨s+2,k,none⟩ u) cb (cx.set k u hk):=
 ⟨h.bel.setCell (by dsimp;omega) _,h.inn.setFar (by dsimp;omega) _,h.res.setFar (by dsimp;omega) _,h.o.set (k:=k) u hk⟩
section
variable (lo:Nat) (ov gv lv pv:Value) (B:Bk) (w:World)
theorem Zmp (h:ZaY lo w ov gv lv pv B) (hn:ZaE B) :
 Calls prog 35 #[.agg #[.int .i64 B.now,.int .i64 B.tick,.int .i64 B.given,ov,gv,lv,pv]] w
  fun e w'=>∃ b0 m0 b1 m1 b2 m2 b3 m3,e=.returned (.agg #[.int .i64 B.now,.int .i64 B.tick,.int .i64 B.given,.slice b0 B.os.length m0,.slice b1 B.gs.length m1,.slice b2 B.ls.length m2,.slice b3 B.ps.length m3])/\Zw_ w w'/\
   Zax w.heap.size w'.heap.size w' (.slice b0 B.os.length m0) (.slice b1 B.gs.length m1) (.slice b2 B.ls.length m2) (.slice b3 B.ps.length m3) B:=by
 have HL:=Zab h;obtain⟨a0,k0,rfl⟩:=h.obs.form;obtain⟨a1,k1,rfl⟩:=h.grs.form;obtain⟨a2,k2,rfl⟩:=h.les.form;obtain⟨a3,k3,rfl⟩:=h.pus.form;obtain⟨hn0,hn1,hn2,hn3⟩:=hn;have HN0:=Zab hn0;have HN1:=Zab hn1;have nO:=hn0.1;have nG:=hn1.1;have nL:=hn2.1;have nP:=hn3.1;clear hn0 hn1 hn2 hn3;have HLo:=Zab h.obs;have HLg:=Zab h.grs;clear h;obtain⟨io,hio,hzo,hzo1,hzo2⟩:=info_parts Tryz.info155;have HIO:=Zab (And.intro hio (And.intro hzo (And.intro hzo1 hzo2)));obtain⟨ig,hig,hzg,hzg1,hzg2⟩:=info_parts Tryz.info158;have HIG:=Zab (And.intro hig (And.intro hzg (And.intro hzg1 hzg2)));obtain⟨il,hil,hzl,hzl1,hzl2⟩:=info_parts Tryz.info92;have HIL:=Zab (And.intro hil (And.intro hzl (And.intro hzl1 hzl2)));obtain⟨ip,hip,hzp,hzp1,hzp2⟩:=info_parts Tryz.info94;have HIP:=Zab (And.intro hip (And.intro hzp (And.intro hzp1 hzp2)))
 have HNL:Hd ((a2=none->B.ls.length=0)/\∀ ad,a2=some ad->∀ W,Zw_ w W->∀ j u,(Zbv B.ls)[j]?=some u->W.cell? (ad.add j)=some u):=by
  refine⟨fun e=>?_,fun ad e W hb=>?_⟩
  . rcases HL.o.les with ⟨_,_,_,h⟩ | ⟨_,_,_,h,_⟩
    . rw [h];rfl
    . rw [e] at h;injection h with h;cases h
  . subst e;exact ZjA HL.o.les hb
 have HNP:Hd ((a3=none->B.ps.length=0)/\∀ ad,a3=some ad->∀ W,Zw_ w W->∀ j u,(ZeV B.ps)[j]?=some u->W.cell? (ad.add j)=some u):=by
  refine⟨fun e=>?_,fun ad e W hb=>?_⟩
  . rcases HL.o.pus with ⟨_,_,_,h⟩ | ⟨_,_,_,h,_⟩
    . rw [h];rfl
    . rw [e] at h;injection h with h;cases h
  . subst e;exact Zj1 HL.o.pus hb
 have HZL:Hd (∀ i (hi:i < B.ls.length),Zco B.ls[i]):=fun i hi=>by
  obtain⟨_,_,_,_,_,_,_,hc⟩:=HL.o.les.full (fun e=>by rw [e] at hi;simp at hi);exact (hc i hi).1
 have HZP:Hd (∀ i (hi:i < B.ps.length),Zds B.ps[i]):=fun i hi=>by
  obtain⟨_,_,_,_,_,_,_,hc⟩:=HL.o.pus.full (fun e=>by rw [e] at hi;simp at hi);exact (hc i hi).1
 clear hil hzl hzl1 hzl2 hip hzp hzp1 hzp2;clear hio hzo hzo1 hzo2 hig hzg hzg1 hzg2;go_enter func35,ntmps35;go_wp2
 go_loopw [4] (fun i wr=>∃ (k:Nat) (L:List (Ob×Value×Value)) (c:Nat->Nat×Nat) (v:Value),i=.int .i64 k/\k<=B.os.length/\Zq4 w.heap.size w wr #[.int .i64 B.now,.int .i64 B.tick,.int .i64 B.given,.slice a0 B.os.length k0,.slice a1 B.gs.length k1,.slice a2 B.ls.length k2,.slice a3 B.ps.length k3] #[.int .i64 B.now,.int .i64 B.tick,.int .i64 B.given,v,.slice none 0 0,.slice none 0 0,.slice none 0 0]/\ZdR (w.heap.size+3) wr v L c/\L.map Prod.fst=B.os.take k/\w.heap.size+3<=wr.heap.size) (fun i _=>B.os.length - (intOf i).toNat)
 case atStart=>
  refine⟨0,[],_,.slice none 0 0,rfl,by omega,⟨?_,?_,?_,?_⟩,ZdR.start _ _,by simp,by simp⟩
  . exact ((Zac w _).alloc (by simp) _).alloc (by simp;omega) _
  . exact ((Box.new _ _ _ _ rfl).on (Zac _ _)).on (Zac _ _)
  . exact (Box.new _ _ _ _ (by simp)).on (Zac _ _)
  . exact Box.new _ _ _ _ (by simp)
 case round=>
  obtain⟨k,L,c,v,rfl,hk,hcp,hg,hX,hsz⟩:=hrel;have HCP:=Zab hcp;have HG:=Zab hg;have HX:=Zab hX;have hLk:=Zgh hX hk;subst hLk;have b3:=hcp.inn.cell 3;have x3:=hcp.o.cell 3;simp at b3 x3;clear hcp hg hX
  by_cases hlt:L.length < B.os.length
  . obtain⟨b,off,rfl,hbw,-,hc⟩:=HLo.o.full' (by omega)
    obtain⟨hs,vv0,vv1,hc,hv0,hv1⟩:=hc L.length hlt;obtain⟨p0,q0,rfl⟩:=hv0.at.form';obtain⟨p1,q1,rfl⟩:=hv1.at.form';obtain⟨c0,c1,c2,c3,c4,c5,c6⟩:=hc.below HCP.o.bel hbw;have HV0:=Zab (hv0.below HCP.o.bel);have HV1:=Zab (hv1.below HCP.o.bel);have HSZ:=Zab hs;clear hc hv0 hv1 hs;go_wp2;have hs1:=hsz
    go_region_law (first
     | (go_simp
        go_at_call 96
        refine (ZfZ _ _ _ _ _ _ _ B.os[L.length].vs B.os[L.length].hs _ (HV0.o.below (Zb_.drew)).at (HV1.o.below (Zb_.drew)).at (HN0.o.2 L.length hlt).1 (HN0.o.2 L.length hlt).2).mono ?_;rintro e w1 ⟨z0,z1,rfl,hb1,hobj⟩;have HW1:Hd (Below wr.heap.size wr w1):=bt (Zb_.drew) hb1;have HOB:Hd (Zep wr.heap.size w1 z0 z1 B.os[L.length].vs B.os[L.length].hs):=hobj;clear hobj hb1;have y3:w1.cell? ⟨w.heap.size+2,3,none⟩=some v:=(HW1.o.cell (p:=⟨w.heap.size+2,3,none⟩) (by dsimp;omega)).trans x3;have y4:∀ o,(w1.alloc o).cell? ⟨w.heap.size+2,3,none⟩=some v:=fun o=>((HW1.o.trans ((Zac w1 o).mono HW1.o.size)).cell (p:=⟨w.heap.size+2,3,none⟩) (by dsimp;omega)).trans x3
        dsimp only)
     | (refine step_append_lies _ (by rfl) (.tmp 22) (.tmp 29) 35 (by rfl) (w.heap.size+3) 155 io (.agg #[.string ⟨#[]⟩,.string ⟨#[]⟩,.string ⟨#[]⟩,.slice none 0 0,.bool false,.slice none 0 0,.int .i64 0]) 7 112 underlying35 HIO.o.1 HIO.o.2.1 HIO.o.2.2.1 HIO.o.2.2.2 (by rfl) (by decide) v L.length (ZgM L) (by rfl) (Below.ownsB HG.o.own (HW1.o.trans ((Zac w1 _).mono HW1.o.size))) ⟨w1.heap.size,0,none⟩ 1 1 (Zsl (B.os[L.length],z0,z1)) (by rfl) (by rfl) (Zjt _ _ _ _ rfl) (Zp7 HOB.o _) (by decide) (by unfold maxLen;omega) (by omega) (by have:=HW1.o.size;simp;omega) _ rfl ?_
        intro g cap w3 hown3 hgrow3 hat3 hlt3;have HB3:Hd (Below (w.heap.size+3) wr w3):=((HW1.o.trans ((Zac w1 _).mono HW1.o.size)).mono (by omega)).trans (ZaZ (Below.ownsB HG.o.own (HW1.o.trans ((Zac w1 _).mono HW1.o.size))) hgrow3 (by have:=HW1.o.size;simp;omega));have y5:w3.cell? ⟨w.heap.size+2,3,none⟩=some v:=(HB3.o.cell (p:=⟨w.heap.size+2,3,none⟩) (by dsimp;omega)).trans x3;have y6:w3.frozen? ⟨w.heap.size+2,3,none⟩=false:=(HCP.o.on HB3.o).o.free 3
        have HGN:Hd (ZdR (w.heap.size+3) w3 (.slice (some ⟨g,0,none⟩) (L.length+1) cap) (L ++ [(B.os[L.length],z0,z1)]) (fun i=>if i < L.length then c i else (wr.heap.size,w1.heap.size))):=by
         obtain⟨mid,hm0,hm1,hO0,hO1⟩:=HOB.o;exact HG.o.snoc (HW1.o.trans ((Zac w1 _).mono HW1.o.size)) (B.os[L.length],z0,z1) HSZ.o Zl_ (by simp) (by omega) hm0 hm1 (hO0.below (Zac _ _)) (hO1.below (Zac _ _)) hown3 hgrow3 hat3))
    all_goals (go_wp2)
    all_goals go_roundw
    all_goals first
     | (case rel=>exact⟨L.length+1,L ++ [(B.os[L.length],z0,z1)],_,_,by go_num,by omega,(HCP.o.on HB3.o).set 3 _ (by simp),HGN.o.touch (Zad.setB _ _ _ _) Zl_,ZfG HX.o hlt rfl,by have:=HB3.o.size;simp [World.setCell];omega⟩)
     | (case measure=>simp [intOf];omega)
  . have e:L.length=B.os.length:=by omega
    have HOB:Hd (Za6 (w.heap.size+3) wr.heap.size wr v B.os):=HG.o.owns (by rw [HX.o,e,List.take_length]);obtain⟨M,hM⟩:∃ M,M=wr.heap.size:=⟨_,rfl⟩
    rw [<- hM] at HOB;have hM3:w.heap.size+3<=M:=by omega
    have hMw:=hM;have HMw:=Zab hMw;clear HG HX e hM hMw;go_wp2;clear b3 x3
    go_loopw [5] (fun i wr=>∃ (k:Nat) (L:List (Gr×Value)) (c:Nat->Nat×Nat) (u:Value),i=.int .i64 k/\k<=B.gs.length/\Zq4 w.heap.size w wr #[.int .i64 B.now,.int .i64 B.tick,.int .i64 B.given,.slice a0 B.os.length k0,.slice a1 B.gs.length k1,.slice a2 B.ls.length k2,.slice a3 B.ps.length k3] #[.int .i64 B.now,.int .i64 B.tick,.int .i64 B.given,v,u,.slice none 0 0,.slice none 0 0]/\Za6 (w.heap.size+3) M wr v B.os/\ZdT M wr u L c/\L.map Prod.fst=B.gs.take k/\M<=wr.heap.size) (fun i _=>B.gs.length - (intOf i).toNat)
    case atStart=>exact⟨0,[],_,.slice none 0 0,rfl,by omega,HCP.o,HOB.o,ZdT.start _ _,by simp,Nat.le_of_eq HMw.o⟩
    case round=>
     obtain⟨k',L,c,u,rfl,hk',hcp,hob,hg,hX,hsz'⟩:=hrel;have HCP2:=Zab hcp;have HOB2:=Zab hob;have HG:=Zab hg;have HX:=Zab hX;have hLk':=Zgh hX hk';subst hLk';have b4:=hcp.inn.cell 4;have x4:=hcp.o.cell 4;simp at b4 x4;clear hcp hg hX hob
     by_cases hlt:L.length < B.gs.length
     . obtain⟨b,off,rfl,hbw,-,hc⟩:=HLg.o.full' (by omega)
       obtain⟨hs,vv0,hc,hv0⟩:=hc L.length hlt;obtain⟨p0,q0,rfl⟩:=hv0.form;obtain⟨c0,c1,c2,c3,c4,c5,c6⟩:=hc.below HCP2.o.bel hbw;have HV0:=Zab (hv0.below HCP2.o.bel);have HSZ:=Zab hs;clear hc hv0 hs;go_wp2_with fail;clear c0 c1 c2 c3 c4 c5 c6;generalize hWx:wr.alloc _=Wx;have HWx:Hd (Below wr.heap.size wr Wx):=by rw [<- hWx];exact Zac _ _
       have hsx:Wx.heap.size=wr.heap.size+1:=by rw [<- hWx];simp
       have FG:Hd (Box Wx wr.heap.size #[.int .i64 B.gs[L.length].nu,.string B.gs[L.length].tw,.string B.gs[L.length].gb,.slice p0 B.gs[L.length].vb.length q0,.string B.gs[L.length].kd,.string B.gs[L.length].tm,.string B.gs[L.length].pf]):=by rw [<- hWx];exact Box.new _ _ _ _ rfl
       clear hWx;refine (ZkZ lo B.gs[L.length].ru _ _ (HV0.o.below HWx.o) (HN1.o.2 L.length hlt)).mono ?_;rintro e w1 ⟨z0,rfl,hb1,hO0⟩;obtain⟨s0,t0,rfl⟩:=hO0.form;have hs1:=hb1.size;have HW1:Hd (Below wr.heap.size wr w1):=bt HWx.o hb1;have FG1:=Zab (FG.o.on hb1);have HI0:Hd (Zat Wx.heap.size w1.heap.size w1 (.slice s0 B.gs[L.length].vb.length t0) B.gs[L.length].vb):=hO0;have y4:w1.cell? ⟨w.heap.size+2,4,none⟩=some u:=(HW1.o.cell (p:=⟨w.heap.size+2,4,none⟩) (by dsimp;omega)).trans x4;clear hO0 hb1 HWx FG;have g0:=FG1.o.cell;have g1:=FG1.o.free;have hq0:wr.heap.size < Wx.heap.size:=by omega
       go_wp2_with (at_builtin
                    refine wpList_append_lies _ rfl (.tmp 49) (.tmp 51) 36 rfl M 158 ig (.agg #[.int .i64 0,.string ⟨#[]⟩,.string ⟨#[]⟩,.slice none 0 0,.string ⟨#[]⟩,.string ⟨#[]⟩,.string ⟨#[]⟩]) 7 112 underlying36 HIG.o.1 HIG.o.2.1 HIG.o.2.2.1 HIG.o.2.2.2 rfl (by decide) u L.length (Zha L) rfl (Below.ownsB HG.o.own (ZeG HW1.o _ _ _ _ _ _ _ _ _)) ⟨w1.heap.size,0,none⟩ 1 1 (Zsh (B.gs[L.length],.slice s0 B.gs[L.length].vb.length t0)) rfl rfl (Zjt _ _ _ _ (Zr8 _ _ _ _ _ _ _ _ _ _)) (Zp2 _ _ _ _) (by decide) (by unfold maxLen;omega) (by omega) (Nat.le_trans hsz' (ZeG HW1.o _ _ _ _ _ _ _ _ _).size) _ rfl ?_;intro g cap w4 hown4 hgrow4 hat4 hlt4
                    have HBM:Hd (Below M wr w4):=((ZeG HW1.o _ _ _ _ _ _ _ _ _).mono hsz').trans (ZaZ (Below.ownsB HG.o.own (ZeG HW1.o _ _ _ _ _ _ _ _ _)) hgrow4 (Nat.le_trans hsz' (ZeG HW1.o _ _ _ _ _ _ _ _ _).size));have HB4:Hd (Below (w.heap.size+3) wr w4):=HBM.o.mono hM3;have y5:w4.cell? ⟨w.heap.size+2,4,none⟩=some u:=(HB4.o.cell (p:=⟨w.heap.size+2,4,none⟩) (by dsimp;omega)).trans x4;have y6:w4.frozen? ⟨w.heap.size+2,4,none⟩=false:=(HCP2.o.on HB4.o).o.free 4
                    have HGN:Hd (ZdT M w4 (.slice (some ⟨g,0,none⟩) (L.length+1) cap) (L ++ [(B.gs[L.length],.slice s0 B.gs[L.length].vb.length t0)]) (fun i=>if i < L.length then c i else (Wx.heap.size,w1.heap.size))):=
                     HG.o.snoc (ZeG HW1.o _ _ _ _ _ _ _ _ _) (B.gs[L.length],.slice s0 B.gs[L.length].vb.length t0) HSZ.o (Nat.le_of_lt hq0) (Zp8 _ _ _ _ _ _ _ _ _ _ _) hsz' hs1 (Zr0 HI0.o hq0 _ _ _ _ _ _ _ _ _) hown4 hgrow4 hat4
                    clear hown4 hgrow4 hat4)
       go_roundw
       . exact⟨L.length+1,L ++ [(B.gs[L.length],.slice s0 B.gs[L.length].vb.length t0)],_,_,by go_num,by omega,(HCP2.o.on HB4.o).set 4 _ (by simp),(HOB2.o.touch (Zad.ofBelow HBM.o) (Or.inl Zl_)).setLow (by dsimp;omega) _,HGN.o.touch (Zad.setB _ _ _ _) hM3,ZfG HX.o hlt rfl,by have:=HBM.o.size;simp [World.setCell];omega⟩
       . simp [intOf];omega
     . have HGB:Hd (Zbe M wr.heap.size wr u B.gs):=HG.o.owns (by rw [HX.o,show L.length=B.gs.length by omega,List.take_length])
       obtain⟨b0,m0,rfl⟩:=HOB2.o.form;obtain⟨b1,m1,rfl⟩:=HGB.o.form;have x5:=HCP2.o.o.cell 5;have x6:=HCP2.o.o.cell 6;have b5:=HCP2.o.inn.cell 5;have b6:=HCP2.o.inn.cell 6;simp at x5 x6 b5 b6;have hge:(B.gs.length:Int)<=(L.length:Int):=by omega
       clear HG HX
       go_wp2_with (at_builtin
                    first
                    | (refine ZdN rfl (.tmp 55) (.tmp 57) 37 rfl 92 il (.agg #[.string ⟨#[]⟩,.string ⟨#[]⟩,.int .i64 0,.int .i64 0]) 4 48 underlying37 HIL.o.1 HIL.o.2.1 HIL.o.2.2.1 HIL.o.2.2.2 rfl (by decide) rfl a2 B.ls.length k2 (Zbv B.ls) rfl (ZdZ _) HNL.o.1 (fun ad e=>HNL.o.2 ad e _ HCP2.o.bel) (Zfw _) (by unfold maxLen;omega) (by omega) ?_
                       intro v2 w4 hown4 hb4;have HO2:Hd (ZaJ wr.heap.size w4.heap.size w4 v2 B.ls):=ZgC hown4 HZL.o;obtain⟨b2,m2,rfl⟩:=HO2.o.form;have HB4:=Zab hb4;have HC4:=Zab (HCP2.o.on (hb4.mono (Nat.le_trans hM3 hsz')));have y5:w4.cell? ⟨w.heap.size+2,5,none⟩=some (.slice none 0 0):=HC4.o.o.cell 5;have y6:w4.cell? ⟨w.heap.size+2,6,none⟩=some (.slice none 0 0):=HC4.o.o.cell 6;have z5:w4.frozen? ⟨w.heap.size+2,5,none⟩=false:=HC4.o.o.free 5;have b66:w4.cell? ⟨w.heap.size,6,none⟩=some (.slice a3 B.ps.length k3):=HC4.o.inn.cell 6;clear hown4 hb4 x5 x6 b5 b6)
                    | (refine ZdN rfl (.tmp 61) (.tmp 63) 38 rfl 94 ip (.agg #[.string ⟨#[]⟩,.string ⟨#[]⟩,.string ⟨#[]⟩,.int .i64 0,.int .i64 0]) 5 64 underlying38 HIP.o.1 HIP.o.2.1 HIP.o.2.2.1 HIP.o.2.2.2 rfl (by decide) rfl a3 B.ps.length k3 (ZeV B.ps) rfl (ZgB _) HNP.o.1 (fun ad e=>HNP.o.2 ad e _ (HC4.o.bel.setCell (by dsimp;omega) _)) (ZiC _) (by unfold maxLen;omega) (by omega) ?_
                       intro v3 w6 hown6 hb6;have HO3:=Zab (Zl0 hown6 HZP.o);obtain⟨b3,m3,rfl⟩:=HO3.o.form;have hs5:(w4.setCell ⟨w.heap.size+1+1,5,none⟩ (.slice b2 B.ls.length m2)).heap.size=w4.heap.size:=by simp [World.setCell]
                       have hs6:=hb6.size;have HB6:=Zab hb6;have HC6:=Zab ((HC4.o.set 5 (.slice b2 B.ls.length m2) (by simp)).on (hb6.mono (by have:=HB4.o.size;rw [hs5];omega)));have o0:=HC6.o.o.cell;have f0:=HC6.o.o.free;have r0:=HC6.o.res.cell;have g0:=HC6.o.res.free;clear hown6 hb6 y5 y6 z5 b66))
       refine bodyPost_ret (v:=.agg #[.int .i64 B.now,.int .i64 B.tick,.int .i64 B.given,.slice b0 B.os.length m0,.slice b1 B.gs.length m1,.slice b2 B.ls.length m2,.slice b3 B.ps.length m3]) (by simp [results,results35,go_sem,r0]) rfl ⟨_,_,_,_,_,_,_,_,rfl,?_,?_⟩
       . repeat (refine Below.setCell ?_ (by dsimp;omega) _)
         exact HC6.o.bel
       . refine Zax.wide (lo:=w.heap.size+3) (hi:=w6.heap.size) ?_ (by omega) (by simp [World.setCell])
         iterate 8 (refine Zax.setLow ?_ (by dsimp;omega) _)
         rw [hs5] at hs6 HO3;have hs4:=HB4.o.size;exact⟨w.heap.size+3,M,M,wr.heap.size,wr.heap.size,w4.heap.size,w4.heap.size,w6.heap.size,⟨by omega,by omega,by omega,by omega,by omega,by omega,by omega,by omega,by omega,by omega⟩,((HOB2.o.below HB4.o).setLow (by dsimp;omega) _).below HB6.o,((HGB.o.below HB4.o).setLow (by dsimp;omega) _).below HB6.o,(HO2.o.setLow (by dsimp;omega) _).below HB6.o,HO3.o⟩
end
def Zd2 (w:World) (e:Ending) (w':World) (B:Bk) (c:Int):Prop:=
 ∃ b0 m0 b1 m1 b2 m2 b3 m3,e=.returned (.tuple #[.agg #[.int .i64 B.now,.int .i64 B.tick,.int .i64 B.given,.slice b0 B.os.length m0,.slice b1 B.gs.length m1,.slice b2 B.ls.length m2,.slice b3 B.ps.length m3],.int .i64 c])/\Zw_ w w'/\
  Zax w.heap.size w'.heap.size w' (.slice b0 B.os.length m0) (.slice b1 B.gs.length m1) (.slice b2 B.ls.length m2) (.slice b3 B.ps.length m3) B
def Zfn:Bk:=⟨0,0,0,[],[],[],[]⟩
theorem ZnT (lo hi:Nat) (hh:lo<=hi) (w:World):Zax lo hi w (.slice none 0 0) (.slice none 0 0) (.slice none 0 0) (.slice none 0 0) Zfn:=
 ⟨lo,lo,lo,lo,lo,lo,lo,lo,⟨by omega,by omega,by omega,by omega,by omega,by omega,by omega,by omega,by omega,by omega⟩,Or.inl ⟨_,_,rfl,rfl⟩,Or.inl ⟨_,_,rfl,rfl⟩,Or.inl ⟨_,_,rfl,rfl⟩,Or.inl ⟨_,_,rfl,rfl⟩⟩
theorem ZkS:ZaE Zfn:=⟨⟨by simp [Zfn],fun i h=>by simp [Zfn] at h⟩,⟨by simp [Zfn],fun i h=>by simp [Zfn] at h⟩,⟨by simp [Zfn],fun i h=>by simp [Zfn] at h⟩,⟨by simp [Zfn],fun i h=>by simp [Zfn] at h⟩⟩
theorem Zd2.no {w:World}{e:Ending} (h:e=.returned (.tuple #[.agg #[.int .i64 0,.int .i64 0,.int .i64 0,.slice none 0 0,.slice none 0 0,.slice none 0 0,.slice none 0 0],.int .i64 1])/\Zw_ w w'):Zd2 w e w' Zfn 1:=
 ⟨none,0,none,0,none,0,none,0,h.1,h.2,ZnT _ _ h.2.size _⟩
def due (T:Int) (p:Pu):Bool:=decide (p.un < T)
def fz (T:Int) (K:Pu->Nat) (L:List Le) (p:Pu):List Le:=if due T p=true then Zs8 L (K p) p.am else L
end Go.Proofs.YtfohnageehneoaaGreat
