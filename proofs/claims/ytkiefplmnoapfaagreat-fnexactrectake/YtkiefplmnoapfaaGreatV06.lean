import Derived.Test.YtkiefplmnoapfaaGreatV03
import Derived.Test.YtkiefplmnoapfaaGreatV05
set_option maxHeartbeats 16000000
set_option maxRecDepth 100000
open Go.Proofs.Tryz
namespace Go.Proofs.YtkiefplmnoapfaaGreat
open Go.RowKit Go.Deep
section
variable {lo hi lo' hi':Nat} {w w':World} {v:Value} {L:List Int}
def ZaF (lo hi:Nat) (w:World) (v:Value) (L:List Int):Prop:=
 (∃ (a:Option Addr) (cap:Nat),v=.slice a 0 cap/\L=[])\/
 ∃ (b off cap:Nat),v=.slice (some ⟨b,off,none⟩) L.length cap/\L≠[]/\L.length<=maxLen/\L.length<=cap/\b < w.heap.size/\
  (∀ i (h:i < L.length),w.cell? ⟨b,off+i,none⟩=some (.int .i64 L[i]))/\lo<=b/\b < hi/\∀ i,w.frozen? ⟨b,off+i,none⟩=false
theorem ZaF.near {b o n:Nat} (h:ZaF lo hi w v L) (ht:Zcc b o n lo' hi' w w') (ho:hi<=lo'\/hi'<=lo) (hb:b < lo\/hi<=b):ZaF lo hi w' v L:=by
 rcases h with h | ⟨g,off,cap,h1,h2,h3,hcp,h4,h5,h7,h8,h9⟩
 . exact Or.inl h
 . exact Or.inr ⟨g,off,cap,h1,h2,h3,hcp,Zk_ h4 ht.size,fun i hi'=>((ht.o (p:=⟨g,off+i,none⟩) h4 (by simp only [ne_eq];omega) (by simp only [];omega)).1).trans (h5 i hi'),h7,h8,fun i=>((ht.o (p:=⟨g,off+i,none⟩) h4 (by simp only [ne_eq];omega) (by simp only [];omega)).2).trans (h9 i)⟩
theorem ZaF.below (h:ZaF lo hi w v L) (hb:Zw_ w w'):ZaF lo hi w' v L:=by
 rcases h with h | ⟨g,off,cap,h1,h2,h3,hcp,h4,h5,h7,h8,h9⟩
 . exact Or.inl h
 . exact Or.inr ⟨g,off,cap,h1,h2,h3,hcp,Zk_ h4 hb.size,fun i hi'=>(hb.cell (p:=⟨g,off+i,none⟩) h4).trans (h5 i hi'),h7,h8,fun i=>(hb.frozen (p:=⟨g,off+i,none⟩) h4).trans (h9 i)⟩
theorem ZaF.touch (h:ZaF lo hi w v L) (ht:Zad lo' hi' w w') (ho:hi<=lo'\/hi'<=lo):ZaF lo hi w' v L:=by
 rcases h with h | ⟨b,off,cap,h1,h2,h3,hcp,h4,h5,h7,h8,h9⟩
 . exact Or.inl h
 . exact Or.inr ⟨b,off,cap,h1,h2,h3,hcp,Zk_ h4 ht.size,fun i hi'=>(ht.cell (p:=⟨b,off+i,none⟩) h4 (by simp only [];omega)).trans (h5 i hi'),h7,h8,fun i=>(ht.frozen (p:=⟨b,off+i,none⟩) h4 (by simp only [];omega)).trans (h9 i)⟩
theorem ZaF.at (h:ZaF lo hi w v L):ZaJ lo w v L:=by
 rcases h with h | ⟨g,off,cap,h1,h2,h3,hcp,h4,h5,h7,h8,h9⟩
 . exact Or.inl h
 . exact Or.inr ⟨g,off,cap,h1,h2,h3,h4,h7,hcp,fun i hi=>⟨rfl,h5 i hi⟩⟩
theorem ZaF.wide (h:ZaF lo hi w v L) (h1:lo'<=lo) (h2:hi<=hi'):ZaF lo' hi' w v L:=by
 rcases h with h | ⟨g,off,cap,e1,e2,e3,hcp,e4,e5,e7,e8,e9⟩
 . exact Or.inl h
 . exact Or.inr ⟨g,off,cap,e1,e2,e3,hcp,e4,e5,by omega,by omega,e9⟩
theorem ZaF.form (h:ZaF lo hi w v L):∃ a cap,v=.slice a L.length cap:=by
 rcases h with ⟨a,cap,h,rfl⟩ | ⟨b,off,cap,h,_⟩
 . exact⟨a,cap,h⟩
 . exact⟨_,cap,h⟩
def Zcs (k:Int) (n:Nat):List Int:=(List.range n).map fun (i:Nat)=>k+(i:Int)
theorem Za0 (k:Int) (n:Nat):(Zcs k n).length=n:=by simp [Zcs]
theorem ZeG (k:Int) (n i:Nat) (h:i < (Zcs k n).length):(Zcs k n)[i]=k+i:=by simp [Zcs]
theorem ZcC (lo hi:Nat) (v:Value) (L:List Int) (k:Int) (w:World) (hv:ZaF lo hi w v L) (h0:0<=k) (hk:k+L.length<=4000000000000000000) :
 Calls prog 49 #[v,.int .i64 k] w fun e w'=>e=.returned (.int .i64 (k+L.length))/\Zad lo hi w w'/\ZaF lo hi w' v (Zcs k L.length):=by
 rcases hv with ⟨a,cap,rfl,rfl⟩ | ⟨b,off,cap,rfl,hne,hm,hcp,hbw,hc,hlo,hhi,hfr⟩
 . go_enter func49,ntmps49
   go_wp2
   go_loop [5,1] (fun i q=>i=.int .i64 0/\q=.int .i64 k) (fun _ _=>0)
   case atStart=>exact⟨rfl,rfl⟩
   case round=>
    obtain⟨rfl,rfl⟩:=hrel;go_wp2;go_ret;exact⟨by simp,Zad.refl _ _ _,Or.inl ⟨_,_,rfl,rfl⟩⟩
 . unfold maxLen at hm
   go_enter func49,ntmps49;go_wp2
   go_loopw [5,1] (fun i q wr=>∃ j:Nat,i=.int .i64 j/\q=.int .i64 (k+j)/\j<=L.length/\Zad lo hi w wr/\(∀ i,i < j->wr.cell? ⟨b,off+i,none⟩=some (.int .i64 (k+i)))/\(∀ i (h:i < L.length),j<=i->wr.cell? ⟨b,off+i,none⟩=some (.int .i64 L[i]))/\∀ i,wr.frozen? ⟨b,off+i,none⟩=false) (fun i _ _=>L.length - (intOf i).toNat)
   case atStart=>exact⟨0,rfl,by simp,by omega,Zad.refl _ _ _,fun i h=>by omega,fun i h _=>hc i h,hfr⟩
   case round=>
    obtain⟨j,rfl,rfl,hj,ht,hA,hB,hF⟩:=hrel;have HT:=Zaa ht;have HA:=Zaa hA;have HBB:=Zaa hB;have HF:=Zaa hF;clear ht hA hB hF
    by_cases hlt:j < L.length
    . have hcj:wr.cell? ⟨b,off+j,none⟩=some (.int .i64 L[j]):=HBB.o j hlt Zl_
      have hfj:wr.frozen? ⟨b,off+j,none⟩=false:=HF.o j;go_wp2;go_roundw
      . 
       refine⟨j+1,by go_num,by go_num,by omega,HT.o.trans (Zad.setCell _ _ _ _ _ ⟨hlo,hhi⟩),fun i hi'=>?_,fun i h hi'=>?_,fun i=>?_⟩
       . by_cases e:i=j
         . subst e;exact World.cell?_setCell_same' _ _ _ (by rw [hcj];rfl)
         . rw [show (wr.setCell ⟨b,off+j,none⟩ (.int .i64 (k+j))).cell? ⟨b,off+i,none⟩=wr.cell? ⟨b,off+i,none⟩ from by apply World.cell?_setCell_other;simp only [ne_eq,Addr.mk.injEq,not_and];omega]
           exact HA.o i (by omega)
       . rw [show (wr.setCell ⟨b,off+j,none⟩ (.int .i64 (k+j))).cell? ⟨b,off+i,none⟩=wr.cell? ⟨b,off+i,none⟩ from by apply World.cell?_setCell_other;simp only [ne_eq,Addr.mk.injEq,not_and];omega]
         exact HBB.o i h (by omega)
       . rw [World.frozen?_setCell]
         exact HF.o i
      . simp [intOf];omega
    . have e:j=L.length:=by omega
      subst e;go_wp2;go_ret;refine⟨rfl,HT.o,Or.inr ⟨b,off,cap,by rw [Za0],?_,by rw [Za0];unfold maxLen;omega,by rw [Za0];exact hcp,Zk_ hbw HT.o.size,fun i h=>?_,hlo,hhi,HF.o⟩⟩
      . intro e;have:=congrArg List.length e;rw [Za0] at this;simp at this;exact hne this
      . rw [ZeG];exact HA.o i (by rw [Za0] at h;exact h)
theorem Zeb (lo:Nat) (v:Value) (n:Nat) (k:Int) (w:World) (hv:ZaJ lo w v (Zcs k n)) (h0:0<=k) (hk:k+n<=4000000000000000000) :
 Calls prog 54 #[v,.int .i64 k] w fun e w'=>e=.returned (.int .i64 (k+n))/\Zw_ w w':=by
 have HV:=Zaa hv;obtain⟨a,cap,rfl⟩:=hv.form;clear hv;rw [Za0] at HV;rw [Za0];go_enter func54,ntmps54;go_wp2
 go_loop [5,1] (fun i q=>∃ j:Nat,i=.int .i64 j/\q=.int .i64 (k+j)/\j<=n) (fun i _=>n - (intOf i).toNat)
 case atStart=>exact⟨0,rfl,by simp,by omega⟩
 case round=>
  obtain⟨j,rfl,rfl,hj⟩:=hrel
  by_cases hlt:j < n
  . obtain⟨b,off,rfl,hbw,-,hc⟩:=HV.o.full' (by rw [Za0];omega)
    have hcj:w.cell? ⟨b,off+j,none⟩=some (.int .i64 (k+j)):=by rw [(hc j (by rw [Za0];omega)).2,ZeG]
    clear hc;go_wp2
    go_round
    . exact⟨j+1,by go_num,by go_num,by omega⟩
    . simp [intOf];omega
  . have e:j=n:=by omega
    subst e;go_wp2;go_ret;exact⟨rfl,Below.refl _ _⟩
end
section
variable {b o c0 c1 lo hi off n lo' hi':Nat} {w w' wr:World} {x y:Rs} {v:Value} {Xl:List Rs}
def ZdC (b o _c0 _c1:Nat) (w:World) (x:Rs):Prop:=ZaV x/\ZbX w b o x
theorem ZdC.near {o1 d0 d1:Nat} (h:ZdC b o c0 c1 w x) (hn:Zcc b o1 2 d0 d1 w w') (ho:o+2<=o1\/o1+2<=o) (hi:c1<=d0\/d1<=c0) (hb:b < c0\/c1<=b):ZdC b o c0 c1 w' x:=by
 obtain⟨hs,hc⟩:=h;obtain⟨h0,h1⟩:=hc;have e:∀ t,t < 2->w'.cell? ⟨b,o+t,none⟩=w.cell? ⟨b,o+t,none⟩:=fun t ht=>hn.cell _ (by omega)
 have e0:w'.cell? ⟨b,o,none⟩=w.cell? ⟨b,o,none⟩:=hn.cell _ (by omega);exact⟨hs,⟨e0.trans h0,(e 1 (by omega)).trans h1⟩⟩
theorem ZdC.touch (h:ZdC b o c0 c1 w x) (ht:Zad lo hi w w') (hlt:b < w.heap.size) (hb:b < lo\/hi<=b) (_hi:c1<=lo\/hi<=c0):ZdC b o c0 c1 w' x:=by
 obtain⟨hs,hc⟩:=h;obtain⟨h0,h1⟩:=hc;exact⟨hs,⟨(ht.cell (p:=⟨b,o,none⟩) hlt hb).trans h0,(ht.cell (p:=⟨b,o+1,none⟩) hlt hb).trans h1⟩⟩
theorem ZdC.below (h:ZdC b o c0 c1 w x) (ht:Zw_ w w') (hlt:b < w.heap.size):ZdC b o c0 c1 w' x:=by
 obtain⟨hs,hc⟩:=h;obtain⟨h0,h1⟩:=hc;exact⟨hs,⟨(ht.cell (p:=⟨b,o,none⟩) hlt).trans h0,(ht.cell (p:=⟨b,o+1,none⟩) hlt).trans h1⟩⟩
structure Zc7 (lo hi:Nat) (w:World) (b off n:Nat) (c:Nat->Nat) (X:Nat->Rs):Prop where
 lt:b < w.heap.size
 low:lo<=b
 bc:b < c 0
 bh:b < hi
 mono:∀ i,i < n->c i<=c (i+1)
 top:c n<=hi
 frz:∀ i,w.frozen? ⟨b,i,none⟩=false
 row:∀ i,i < n->ZdC b (off+i*2) (c i) (c (i+1)) w (X i)
theorem Zc7.le {c:Nat->Nat}{X:Nat->Rs} (h:Zc7 lo hi w b off n c X) {i:Nat}:∀ {j:Nat},i<=j->j<=n->c i<=c j:=by
 intro j
 induction j with
 | zero=>intro hij _;have:i=0:=by omega
         subst this;exact Nat.le_refl _
 | succ j ih=>
  intro hij hjn
  by_cases e:i=j+1
  . subst e;exact Nat.le_refl _
  . exact Nat.le_trans (ih (by omega) (by omega)) (h.mono j (by omega))
theorem Zc7.near {c:Nat->Nat}{X:Nat->Rs} (h:Zc7 lo hi w b off n c X) {j:Nat} (hj:j < n) (hn:Zcc b (off+j*2) 2 (c j) (c (j+1)) w w') {x:Rs} (hx:ZdC b (off+j*2) (c j) (c (j+1)) w' x):Zc7 lo hi w' b off n c (fun i=>if i=j then x else X i):=by
 refine⟨Zk_ h.lt hn.size,h.low,h.bc,h.bh,h.mono,h.top,fun i=>(hn.frz i).trans (h.frz i),fun i hi'=>?_⟩
 by_cases e:i=j
 . subst e;rw [if_pos rfl];exact hx
 . rw [if_neg e]
   have h0:=h.le (Nat.zero_le i) (by omega);have hbc:=h.bc;refine (h.row i hi').near hn (by omega) ?_ (by omega)
   rcases Nat.lt_or_ge i j with hij | hij
   . exact Or.inl (h.le (by omega) (by omega))
   . exact Or.inr (h.le (by omega) (by omega))
theorem Zc7.touch {c:Nat->Nat}{X:Nat->Rs} (h:Zc7 lo hi w b off n c X) (ht:Zad lo' hi' w w') (ho:hi<=lo'\/hi'<=lo):Zc7 lo hi w' b off n c X:=by
 have h1:=h.low;have h2:=h.bh;have h3:=h.top;have h4:=h.bc;refine⟨Zk_ h.lt ht.size,h.low,h.bc,h.bh,h.mono,h.top,fun i=>(ht.frozen (p:=⟨b,i,none⟩) h.lt (by simp only [];omega)).trans (h.frz i),fun i hi'=>?_⟩;have h5:=h.le (Nat.zero_le i) (by omega);have h6:=h.le (i:=i+1) (j:=n) (by omega) Zl_;exact (h.row i hi').touch ht h.lt (by omega) (by omega)
theorem Zc7.below {c:Nat->Nat}{X:Nat->Rs} (h:Zc7 lo hi w b off n c X) (ht:Zw_ w w'):Zc7 lo hi w' b off n c X:=
 ⟨Zk_ h.lt ht.size,h.low,h.bc,h.bh,h.mono,h.top,fun i=>(ht.frozen (p:=⟨b,i,none⟩) h.lt).trans (h.frz i),fun i hi'=>(h.row i hi').below ht h.lt⟩
theorem Zc7.to {c:Nat->Nat}{X Y:Nat->Rs} (h:Zc7 lo hi w b off n c X) (e:∀ i,i < n->X i=Y i):Zc7 lo hi w b off n c Y:=
 ⟨h.lt,h.low,h.bc,h.bh,h.mono,h.top,h.frz,fun i hi'=>e i hi' ▸ h.row i hi'⟩
def Zap (lo hi:Nat) (w:World) (v:Value) (Xl:List Rs):Prop:=
 (∃ (a:Option Addr) (cap:Nat),v=.slice a 0 cap/\Xl=[])\/
 ∃ (b off cap:Nat) (c:Nat->Nat) (X:Nat->Rs),v=.slice (some ⟨b,off,none⟩) Xl.length cap/\Xl≠[]/\Xl.length<=maxLen/\Xl.length<=cap/\(∀ i (h:i < Xl.length),X i=Xl[i])/\Zc7 lo hi w b off Xl.length c X
theorem Zap.touch (h:Zap lo hi w v Xl) (ht:Zad lo' hi' w w') (ho:hi<=lo'\/hi'<=lo):Zap lo hi w' v Xl:=by
 rcases h with h | ⟨b,off,cap,c,X,h1,h2,h3,h4,h5,h6⟩
 . exact Or.inl h
 . exact Or.inr ⟨b,off,cap,c,X,h1,h2,h3,h4,h5,h6.touch ht ho⟩
theorem Zap.below (h:Zap lo hi w v Xl) (ht:Zw_ w w'):Zap lo hi w' v Xl:=by
 rcases h with h | ⟨b,off,cap,c,X,h1,h2,h3,h4,h5,h6⟩
 . exact Or.inl h
 . exact Or.inr ⟨b,off,cap,c,X,h1,h2,h3,h4,h5,h6.below ht⟩
theorem Zap.form (h:Zap lo hi w v Xl):∃ a cap,v=.slice a Xl.length cap:=by
 rcases h with ⟨a,cap,h,rfl⟩ | ⟨b,off,cap,c,X,h1,_⟩
 . exact⟨a,cap,h⟩
 . exact⟨_,cap,h1⟩
theorem Zap.at (h:Zap lo hi w v Xl):Zaq lo w v Xl:=by
 rcases h with h | ⟨b,off,cap,c,X,h1,h2,h3,h4,h5,h6⟩
 . exact Or.inl h
 . refine Or.inr ⟨b,off,cap,h1,h2,h3,h6.lt,h6.low,h4,fun i hi'=>?_⟩
   have hr:=h6.row i hi';rw [h5 i hi'] at hr;obtain⟨hs,hc⟩:=hr;exact⟨hs,hc⟩
def Zkw (k:Int) (_x:Rs):Rs:=⟨k,mtB (k+1)⟩
def Zku (_x:Rs):Nat:=2
def Zbo (Xl:List Rs) (i:Nat):Nat:=((Xl.take i).map Zku).sum
def Zct (k:Int) (Xl:List Rs):List Rs:=Xl.mapIdx (fun i x=>Zkw (k+(Zbo Xl i:Int)) x)
theorem ZaL (k:Int) (Xl:List Rs):(Zct k Xl).length=Xl.length:=by unfold Zct;simp
theorem ZfH (k:Int) (Xl:List Rs) (i:Nat) (h:i < (Zct k Xl).length) (h':i < Xl.length):(Zct k Xl)[i]=Zkw (k+(Zbo Xl i:Int)) Xl[i]:=List.getElem_mapIdx (f:=fun i x=>Zkw (k+(Zbo Xl i:Int)) x) (h:=h)
theorem Zc1 {i:Nat} (h:i < Xl.length):Zbo Xl (i+1)=Zbo Xl i+Zku Xl[i]:=by
 unfold Zbo;rw [List.take_succ_eq_append_getElem h,List.map_append,List.sum_append];simp
theorem Zdu (_hn:Zbe Xl):∀ {i:Nat},i<=Xl.length->Zbo Xl i<=i*3000000:=by
 intro i
 induction i with
 | zero=>intro _;simp [Zbo]
 | succ i ih=>
  intro hi';have h1:=ih (by omega);rw [Zc1 (by omega)]
  have h2:Zku Xl[i]<=3000000:=by
   unfold Zku
   omega
  omega
structure ZhC (wr:World) (b o c0 c1:Nat) (v:World) (y:Rs):Prop where
 near:Zcc b o 2 c0 c1 wr v
 bc:b < c0
 cells:ZbX v b o y
 frz:∀ i,v.frozen? ⟨b,i,none⟩=false
 lt:b < v.heap.size
theorem ZhC.below {v v':World} (h:ZhC wr b o c0 c1 v y) (hb:Below v.heap.size v v'):ZhC wr b o c0 c1 v' y:=
 ⟨h.near.trans (Zcc.below hb h.lt),h.bc,h.cells.below hb h.lt,fun i=>(hb.frozen (p:=⟨b,i,none⟩) h.lt).trans (h.frz i),Zk_ h.lt hb.size⟩
theorem ZhC.s0 {v:World} (h:ZhC wr b o c0 c1 v y) (u:Int):ZhC wr b o c0 c1 (v.setCell ⟨b,o,none⟩ (.int .i64 u)) { y with ba:=u }:=by
 obtain⟨h0,h1⟩:=h.cells;have ht:Zad b (b+1) v (v.setCell ⟨b,o,none⟩ (.int .i64 u)):=Zad.setCell _ _ _ _ _ ⟨Nat.le_refl _,by simp only [];omega⟩;have hbc:=h.bc;exact⟨h.near.trans (Zcc.set _ _ _ _ _ _ _ _ (by omega) (by omega)),h.bc,⟨World.cell?_setCell_same' _ _ _ (by rw [h0];rfl),(cne (by omega)).trans h1⟩,fun i=>by rw [World.frozen?_setCell];exact h.frz i,by simpa [World.setCell] using h.lt⟩
theorem ZhC.s1 {v:World} (h:ZhC wr b o c0 c1 v y) (u:Zy_):ZhC wr b o c0 c1 (v.setCell ⟨b,o+1,none⟩ (.string u)) { y with tx:=u }:=by
 obtain⟨h0,h1⟩:=h.cells;have ht:Zad b (b+1) v (v.setCell ⟨b,o+1,none⟩ (.string u)):=Zad.setCell _ _ _ _ _ ⟨Nat.le_refl _,by simp only [];omega⟩;have hbc:=h.bc;exact⟨h.near.trans (Zcc.set _ _ _ _ _ _ _ _ (by omega) (by omega)),h.bc,⟨(cne (by omega)).trans h0,World.cell?_setCell_same' _ _ _ (by rw [h1];rfl)⟩,fun i=>by rw [World.frozen?_setCell];exact h.frz i,by simpa [World.setCell] using h.lt⟩
end
section
variable {w w' wr:World} {b o c0 c1 lo hi off n lo' hi':Nat} {x y:Ra} {vv0 v:Value} {Xl:List Ra}
def Zgt (x:Ra):Prop:=x=x
structure Zcw (w:World) (b o:Nat) (x:Ra) (vv0:Value):Prop where
 c0:w.cell? ⟨b,o,none⟩=some (.int .i64 x.ix)
 c1:w.cell? ⟨b,o+1,none⟩=some vv0
theorem Zcw.below (h:Zcw w b o x vv0) {m:Nat} (hb:Below m w w') (hlt:b < m):Zcw w' b o x vv0:=by
 have e:∀ o,w'.cell? ⟨b,o,none⟩=w.cell? ⟨b,o,none⟩:=fun o=>hb.cell (p:=⟨b,o,none⟩) hlt
 exact⟨by rw [e];exact h.c0,by rw [e];exact h.c1⟩
theorem Zcw.rng {a:Option Addr}{k:Nat} (h:Zcw w b o x (.slice a x.fr.length k)):w.rangeAt b o (raL x a k):=fun j v hv=>by
 match j,hv with
 | 0,hv=>cases hv;exact h.c0
 | 1,hv=>cases hv;exact h.c1
def ZcL (b o c0 c1:Nat) (w:World) (x:Ra):Prop:=Zgt x/\∃ (vv0:Value),c0<=c1/\Zcw w b o x vv0/\ZaF c0 c1 w vv0 x.fr
theorem ZcL.near {o1 d0 d1:Nat} (h:ZcL b o c0 c1 w x) (hn:Zcc b o1 2 d0 d1 w w') (ho:o+2<=o1\/o1+2<=o) (hi:c1<=d0\/d1<=c0) (hb:b < c0\/c1<=b):ZcL b o c0 c1 w' x:=by
 obtain⟨hs,vv0,q0,hc,l0⟩:=h;obtain⟨h0,h1⟩:=hc;have e:∀ t,t < 2->w'.cell? ⟨b,o+t,none⟩=w.cell? ⟨b,o+t,none⟩:=fun t ht=>hn.cell _ (by omega)
 have e0:w'.cell? ⟨b,o,none⟩=w.cell? ⟨b,o,none⟩:=hn.cell _ (by omega);exact⟨hs,vv0,q0,⟨e0.trans h0,(e 1 (by omega)).trans h1⟩,l0.near hn (by omega) (by omega)⟩
theorem ZcL.touch (h:ZcL b o c0 c1 w x) (ht:Zad lo hi w w') (hlt:b < w.heap.size) (hb:b < lo\/hi<=b) (hi':c1<=lo\/hi<=c0):ZcL b o c0 c1 w' x:=by
 obtain⟨hs,vv0,q0,hc,l0⟩:=h;obtain⟨h0,h1⟩:=hc;exact⟨hs,vv0,q0,⟨(ht.cell (p:=⟨b,o,none⟩) hlt hb).trans h0,(ht.cell (p:=⟨b,o+1,none⟩) hlt hb).trans h1⟩,l0.touch ht (by omega)⟩
theorem ZcL.below (h:ZcL b o c0 c1 w x) (ht:Zw_ w w') (hlt:b < w.heap.size):ZcL b o c0 c1 w' x:=by
 obtain⟨hs,vv0,q0,hc,l0⟩:=h;obtain⟨h0,h1⟩:=hc;exact⟨hs,vv0,q0,⟨(ht.cell (p:=⟨b,o,none⟩) hlt).trans h0,(ht.cell (p:=⟨b,o+1,none⟩) hlt).trans h1⟩,l0.below ht⟩
structure Zdk (lo hi:Nat) (w:World) (b off n:Nat) (c:Nat->Nat×Nat) (X:Nat->Ra):Prop where
 lt:b < w.heap.size
 low:lo<=b
 bh:b < hi
 seg:∀ i,i < n->lo<=(c i).1/\(c i).2<=hi/\(b < (c i).1\/(c i).2<=b)
 ap:∀ i j,i < n->j < n->i≠j->(c i).2<=(c j).1\/(c j).2<=(c i).1
 frz:∀ i,w.frozen? ⟨b,i,none⟩=false
 row:∀ i,i < n->ZcL b (off+i*2) (c i).1 (c i).2 w (X i)
theorem Zdk.near {c:Nat->Nat×Nat}{X:Nat->Ra} (h:Zdk lo hi w b off n c X) {j:Nat} (hj:j < n) (hn:Zcc b (off+j*2) 2 (c j).1 (c j).2 w w') {x:Ra} (hx:ZcL b (off+j*2) (c j).1 (c j).2 w' x):Zdk lo hi w' b off n c (fun i=>if i=j then x else X i):=by
 refine⟨Zk_ h.lt hn.size,h.low,h.bh,h.seg,h.ap,fun i=>(hn.frz i).trans (h.frz i),fun i hi'=>?_⟩
 by_cases e:i=j
 . subst e;rw [if_pos rfl];exact hx
 . rw [if_neg e]
   refine (h.row i hi').near hn (by omega) ?_ (h.seg i hi').2.2;exact h.ap i j hi' hj e
theorem Zdk.touch {c:Nat->Nat×Nat}{X:Nat->Ra} (h:Zdk lo hi w b off n c X) (ht:Zad lo' hi' w w') (ho:hi<=lo'\/hi'<=lo):Zdk lo hi w' b off n c X:=by
 have h1:=h.low;have h2:=h.bh;refine⟨Zk_ h.lt ht.size,h.low,h.bh,h.seg,h.ap,fun i=>(ht.frozen (p:=⟨b,i,none⟩) h.lt (by simp only [];omega)).trans (h.frz i),fun i hi'=>?_⟩;have h5:=h.seg i hi';exact (h.row i hi').touch ht h.lt (by omega) (by omega)
theorem Zdk.below {c:Nat->Nat×Nat}{X:Nat->Ra} (h:Zdk lo hi w b off n c X) (ht:Zw_ w w'):Zdk lo hi w' b off n c X:=
 ⟨Zk_ h.lt ht.size,h.low,h.bh,h.seg,h.ap,fun i=>(ht.frozen (p:=⟨b,i,none⟩) h.lt).trans (h.frz i),fun i hi'=>(h.row i hi').below ht h.lt⟩
theorem Zdk.to {c:Nat->Nat×Nat}{X Y:Nat->Ra} (h:Zdk lo hi w b off n c X) (e:∀ i,i < n->X i=Y i):Zdk lo hi w b off n c Y:=
 ⟨h.lt,h.low,h.bh,h.seg,h.ap,h.frz,fun i hi'=>e i hi' ▸ h.row i hi'⟩
def ZbJ (lo hi:Nat) (w:World) (v:Value) (Xl:List Ra):Prop:=
 (∃ (a:Option Addr) (cap:Nat),v=.slice a 0 cap/\Xl=[])\/
 ∃ (b off cap:Nat) (c:Nat->Nat×Nat) (X:Nat->Ra),v=.slice (some ⟨b,off,none⟩) Xl.length cap/\Xl≠[]/\Xl.length<=maxLen/\Xl.length<=cap/\(∀ i (h:i < Xl.length),X i=Xl[i])/\Zdk lo hi w b off Xl.length c X
theorem ZbJ.touch (h:ZbJ lo hi w v Xl) (ht:Zad lo' hi' w w') (ho:hi<=lo'\/hi'<=lo):ZbJ lo hi w' v Xl:=by
 rcases h with h | ⟨b,off,cap,c,X,h1,h2,h3,h4,h5,h6⟩
 . exact Or.inl h
 . exact Or.inr ⟨b,off,cap,c,X,h1,h2,h3,h4,h5,h6.touch ht ho⟩
theorem ZbJ.below (h:ZbJ lo hi w v Xl) (ht:Zw_ w w'):ZbJ lo hi w' v Xl:=by
 rcases h with h | ⟨b,off,cap,c,X,h1,h2,h3,h4,h5,h6⟩
 . exact Or.inl h
 . exact Or.inr ⟨b,off,cap,c,X,h1,h2,h3,h4,h5,h6.below ht⟩
theorem ZbJ.form (h:ZbJ lo hi w v Xl):∃ a cap,v=.slice a Xl.length cap:=by
 rcases h with ⟨a,cap,h,rfl⟩ | ⟨b,off,cap,c,X,h1,_⟩
 . exact⟨a,cap,h⟩
 . exact⟨_,cap,h1⟩
theorem ZbJ.at (h:ZbJ lo hi w v Xl):Zbm lo w v Xl:=by
 rcases h with h | ⟨b,off,cap,c,X,h1,h2,h3,h4,h5,h6⟩
 . exact Or.inl h
 . refine Or.inr ⟨b,off,cap,h1,h2,h3,h6.lt,h6.low,h4,fun i hi'=>?_⟩
   have hr:=h6.row i hi';have g0:=h6.seg i hi';rw [h5 i hi'] at hr;obtain⟨hs,vv0,q0,hc,l0⟩:=hr;obtain⟨a0,k0,rfl⟩:=l0.form;exact⟨_,hc.rng,a0,k0,rfl,⟨l0.at.mono (by omega)⟩⟩
def Zjs (k:Int) (x:Ra):Ra:=⟨k,Zcs (k+1) x.fr.length⟩
def Zks (x:Ra):Nat:=1+x.fr.length
def ZbB (Xl:List Ra) (i:Nat):Nat:=((Xl.take i).map Zks).sum
def Ze4 (k:Int) (Xl:List Ra):List Ra:=Xl.mapIdx (fun i x=>Zjs (k+(ZbB Xl i:Int)) x)
theorem ZaP (k:Int) (Xl:List Ra):(Ze4 k Xl).length=Xl.length:=by unfold Ze4;simp
theorem Zej (k:Int) (Xl:List Ra) (i:Nat) (h:i < (Ze4 k Xl).length) (h':i < Xl.length):(Ze4 k Xl)[i]=Zjs (k+(ZbB Xl i:Int)) Xl[i]:=List.getElem_mapIdx (f:=fun i x=>Zjs (k+(ZbB Xl i:Int)) x) (h:=h)
theorem ZcZ {i:Nat} (h:i < Xl.length):ZbB Xl (i+1)=ZbB Xl i+Zks Xl[i]:=by
 unfold ZbB;rw [List.take_succ_eq_append_getElem h,List.map_append,List.sum_append];simp
theorem ZdY (hn:Zb3 Xl):∀ {i:Nat},i<=Xl.length->ZbB Xl i<=i*3000000:=by
 intro i
 induction i with
 | zero=>intro _;simp [ZbB]
 | succ i ih=>
  intro hi';have h1:=ih (by omega);rw [ZcZ (by omega)]
  have h2:Zks Xl[i]<=3000000:=by
   have hsm:=hn.2 i (by omega);unfold Zci ZaN at hsm;unfold Zks
   omega
  omega
structure ZhB (wr:World) (b o c0 c1:Nat) (vv0:Value) (v:World) (y:Ra):Prop where
 near:Zcc b o 2 c0 c1 wr v
 bc:b < c0\/c1<=b
 q0:c0<=c1
 cells:Zcw v b o y vv0
 l0:ZaF c0 c1 v vv0 y.fr
 frz:∀ i,v.frozen? ⟨b,i,none⟩=false
 lt:b < v.heap.size
theorem ZhB.s0 {v:World} (h:ZhB wr b o c0 c1 vv0 v y) (u:Int):ZhB wr b o c0 c1 vv0 (v.setCell ⟨b,o,none⟩ (.int .i64 u)) { y with ix:=u }:=by
 obtain⟨h0,h1⟩:=h.cells;have ht:Zad b (b+1) v (v.setCell ⟨b,o,none⟩ (.int .i64 u)):=Zad.setCell _ _ _ _ _ ⟨Nat.le_refl _,by simp only [];omega⟩;have hbc:=h.bc;have hq0:=h.q0;exact⟨h.near.trans (Zcc.set _ _ _ _ _ _ _ _ (by omega) (by omega)),h.bc,h.q0,⟨World.cell?_setCell_same' _ _ _ (by rw [h0];rfl),(cne (by omega)).trans h1⟩,h.l0.touch ht (by omega),fun i=>by rw [World.frozen?_setCell];exact h.frz i,by simpa [World.setCell] using h.lt⟩
theorem ZhB.m0' {v v':World} (h:ZhB wr b o c0 c1 vv0 v y) (ht:Zad c0 c1 v v') {L:List Int} (hl:ZaF c0 c1 v' vv0 L):ZhB wr b o c0 c1 vv0 v' { y with fr:=L }:=by
 obtain⟨h0,h1⟩:=h.cells;have hbc:=h.bc;have hq0:=h.q0;have hlt:=h.lt;have e:∀ i,v'.cell? ⟨b,i,none⟩=v.cell? ⟨b,i,none⟩:=fun i=>ht.cell (p:=⟨b,i,none⟩) h.lt (by simp only [];omega)
 exact⟨h.near.trans (Zcc.touch ht h.lt (by omega) (by omega) (by omega)),h.bc,h.q0,⟨(e _).trans h0,(e _).trans h1⟩,hl,fun i=>(ht.frozen (p:=⟨b,i,none⟩) h.lt (by simp only [];omega)).trans (h.frz i),Zk_ h.lt ht.size⟩
end
section
variable {lo hi:Nat} {w w':World} {v:Value}
def Za5 (lo hi:Nat) (w:World) (v:Value) (L:List Zy_):Prop:=
 (∃ (a:Option Addr) (cap:Nat),v=.slice a 0 cap/\L=[])\/
 ∃ (b off cap:Nat),v=.slice (some ⟨b,off,none⟩) L.length cap/\L≠[]/\L.length<=maxLen/\L.length<=cap/\b < w.heap.size/\
  (∀ i (h:i < L.length),L[i].size<=maxLen/\w.cell? ⟨b,off+i,none⟩=some (.string L[i]))/\lo<=b/\b < hi/\∀ i,w.frozen? ⟨b,off+i,none⟩=false
theorem Za5.below {L:List Zy_} (h:Za5 lo hi w v L) (hb:Zw_ w w'):Za5 lo hi w' v L:=by
 rcases h with h | ⟨g,off,cap,h1,h2,h3,hcp,h4,h5,h7,h8,h9⟩
 . exact Or.inl h
 . exact Or.inr ⟨g,off,cap,h1,h2,h3,hcp,Zk_ h4 hb.size,fun i hi'=>⟨(h5 i hi').1,(hb.cell (p:=⟨g,off+i,none⟩) h4).trans (h5 i hi').2⟩,h7,h8,fun i=>(hb.frozen (p:=⟨g,off+i,none⟩) h4).trans (h9 i)⟩
theorem Za5.touch {lo' hi':Nat}{L:List Zy_} (h:Za5 lo hi w v L) (ht:Zad lo' hi' w w') (ho:hi<=lo'\/hi'<=lo):Za5 lo hi w' v L:=by
 rcases h with h | ⟨b,off,cap,h1,h2,h3,hcp,h4,h5,h7,h8,h9⟩
 . exact Or.inl h
 . exact Or.inr ⟨b,off,cap,h1,h2,h3,hcp,Zk_ h4 ht.size,fun i hi'=>⟨(h5 i hi').1,(ht.cell (p:=⟨b,off+i,none⟩) h4 (by simp only [];omega)).trans (h5 i hi').2⟩,h7,h8,fun i=>(ht.frozen (p:=⟨b,off+i,none⟩) h4 (by simp only [];omega)).trans (h9 i)⟩
theorem Za5.at {L:List Zy_} (h:Za5 lo hi w v L):Za2 lo w v L:=by
 rcases h with h | ⟨g,off,cap,h1,h2,h3,hcp,h4,h5,h7,h8,h9⟩
 . exact Or.inl h
 . exact Or.inr ⟨g,off,cap,h1,h2,h3,h4,h7,hcp,h5⟩
theorem Za5.form {L:List Zy_} (h:Za5 lo hi w v L):∃ a cap,v=.slice a L.length cap:=by
 rcases h with ⟨a,cap,h,rfl⟩ | ⟨b,off,cap,h,_⟩
 . exact⟨a,cap,h⟩
 . exact⟨_,cap,h⟩
def Zdy (k:Int) (n:Nat):List Zy_:=(List.range n).map fun (i:Nat)=>mtB (k+(i:Int))
theorem Za6 (k:Int) (n:Nat):(Zdy k n).length=n:=by simp [Zdy]
theorem ZeN (k:Int) (n i:Nat) (h:i < (Zdy k n).length):(Zdy k n)[i]=mtB (k+i):=by simp [Zdy]
theorem Zef (lo hi:Nat) (v:Value) (L:List Zy_) (k:Int) (w:World) (hv:Za5 lo hi w v L) (h0:0<=k) (hk:k+L.length<=4000000000000000000) :
 Calls prog 48 #[v,.int .i64 k] w fun e w'=>e=.returned (.int .i64 (k+L.length))/\Zad lo hi w w'/\Za5 lo hi w' v (Zdy k L.length):=by
 rcases hv with ⟨a,cap,rfl,rfl⟩ | ⟨b,off,cap,rfl,hne,hm,hcp,hbw,hc,hlo,hhi,hfr⟩
 . go_enter func48,ntmps48
   go_wp2
   go_loop [5,1] (fun i q=>i=.int .i64 0/\q=.int .i64 k) (fun _ _=>0)
   case atStart=>exact⟨rfl,rfl⟩
   case round=>
    obtain⟨rfl,rfl⟩:=hrel;go_wp2;go_ret;exact⟨by simp,Zad.refl _ _ _,Or.inl ⟨_,_,rfl,rfl⟩⟩
 . unfold maxLen at hm
   go_enter func48,ntmps48;go_wp2
   go_loopw [5,1] (fun i q wr=>∃ j:Nat,i=.int .i64 j/\q=.int .i64 (k+j)/\j<=L.length/\Zad lo hi w wr/\(∀ i,i < j->wr.cell? ⟨b,off+i,none⟩=some (.string (mtB (k+i))))/\(∀ i (h:i < L.length),j<=i->wr.cell? ⟨b,off+i,none⟩=some (.string L[i]))/\∀ i,wr.frozen? ⟨b,off+i,none⟩=false) (fun i _ _=>L.length - (intOf i).toNat)
   case atStart=>exact⟨0,rfl,by simp,by omega,Zad.refl _ _ _,fun i h=>by omega,fun i h _=>(hc i h).2,hfr⟩
   case round=>
    obtain⟨j,rfl,rfl,hj,ht,hA,hB,hF⟩:=hrel;have HT:=Zaa ht;have HA:=Zaa hA;have HBB:=Zaa hB;have HF:=Zaa hF;clear ht hA hB hF
    by_cases hlt:j < L.length
    . go_wp2_with fail
      refine (Zby _ _ (by omega)).mono ?_;rintro e w1 ⟨rfl,hb⟩;have hbl:b < wr.heap.size:=Zk_ hbw HT.o.size
      have HT1:Hd (Zad lo hi w w1):=HT.o.trans (Zad.below hb);have hcj:w1.cell? ⟨b,off+j,none⟩=some (.string L[j]):=(hb.cell (p:=⟨b,off+j,none⟩) hbl).trans (HBB.o j hlt Zl_);have hfj:w1.frozen? ⟨b,off+j,none⟩=false:=(hb.frozen (p:=⟨b,off+j,none⟩) hbl).trans (HF.o j);have HA1:Hd (∀ i,i < j->w1.cell? ⟨b,off+i,none⟩=some (.string (mtB (k+i)))):=fun i hi'=>(hb.cell (p:=⟨b,off+i,none⟩) hbl).trans (HA.o i hi')
      have HB1:Hd (∀ i (h:i < L.length),j<=i->w1.cell? ⟨b,off+i,none⟩=some (.string L[i])):=fun i h hi'=>(hb.cell (p:=⟨b,off+i,none⟩) hbl).trans (HBB.o i h hi')
      have HF1:Hd (∀ i,w1.frozen? ⟨b,off+i,none⟩=false):=fun i=>(hb.frozen (p:=⟨b,off+i,none⟩) hbl).trans (HF.o i)
      clear hb hbl;go_wp2;go_roundw
      . 
       refine⟨j+1,by go_num,by go_num,by omega,HT1.o.trans (Zad.setCell _ _ _ _ _ ⟨hlo,hhi⟩),fun i hi'=>?_,fun i h hi'=>?_,fun i=>?_⟩
       . by_cases e:i=j
         . subst e;exact World.cell?_setCell_same' _ _ _ (by rw [hcj];rfl)
         . rw [show (w1.setCell ⟨b,off+j,none⟩ (.string (mtB (k+j)))).cell? ⟨b,off+i,none⟩=w1.cell? ⟨b,off+i,none⟩ from by apply World.cell?_setCell_other;simp only [ne_eq,Addr.mk.injEq,not_and];omega]
           exact HA1.o i (by omega)
       . rw [show (w1.setCell ⟨b,off+j,none⟩ (.string (mtB (k+j)))).cell? ⟨b,off+i,none⟩=w1.cell? ⟨b,off+i,none⟩ from by apply World.cell?_setCell_other;simp only [ne_eq,Addr.mk.injEq,not_and];omega]
         exact HB1.o i h (by omega)
       . rw [World.frozen?_setCell]
         exact HF1.o i
      . simp [intOf];omega
    . have e:j=L.length:=by omega
      subst e;go_wp2;go_ret;refine⟨rfl,HT.o,Or.inr ⟨b,off,cap,by rw [Za6],?_,by rw [Za6];unfold maxLen;omega,by rw [Za6];exact hcp,Zk_ hbw HT.o.size,fun i h=>?_,hlo,hhi,HF.o⟩⟩
      . intro e;have:=congrArg List.length e;rw [Za6] at this;simp at this;exact hne this
      . rw [ZeN]
        rw [Za6] at h;exact⟨Ze6 _ (by omega),HA.o i h⟩
theorem Zf9 (lo:Nat) (v:Value) (n:Nat) (k:Int) (w:World) (hv:Za2 lo w v (Zdy k n)) (h0:0<=k) (hk:k+n<=4000000000000000000) :
 Calls prog 53 #[v,.int .i64 k] w fun e w'=>e=.returned (.int .i64 (k+n))/\Zw_ w w':=by
 have HV:=Zaa hv;obtain⟨a,cap,rfl⟩:=hv.form;clear hv;rw [Za6] at HV;rw [Za6];go_enter func53,ntmps53;go_wp2
 go_loopw [5,1] (fun i q wr=>∃ j:Nat,i=.int .i64 j/\q=.int .i64 (k+j)/\j<=n/\Zw_ w wr) (fun i _ _=>n - (intOf i).toNat)
 case atStart=>exact⟨0,rfl,by simp,by omega,Below.refl _ _⟩
 case round=>
  obtain⟨j,rfl,rfl,hj,hb⟩:=hrel;have HB0:=Zaa hb;clear hb
  by_cases hlt:j < n
  . obtain⟨b,off,rfl,hbw,-,hc⟩:=HV.o.full' (by rw [Za6];omega)
    have hcj:w.cell? ⟨b,off+j,none⟩=some (.string (mtB (k+j))):=by rw [(hc j (by rw [Za6];omega)).2,ZeN]
    have d1:wr.cell? ⟨b,off+j,none⟩=some (.string (mtB (k+j))):=(HB0.o.cell (p:=⟨b,off+j,none⟩) hbw).trans hcj;have x0:∀ X:In (Up wr),X.w.cell? ⟨b,off+j,none⟩=some (.string (mtB (k+j))):=fun X=>Up.cell X d1
    have xn:Nonempty (In (Up wr)):=⟨⟨wr,Below.refl _ _⟩⟩;have xs:=fun (X:In (Up wr))=>Zbn X
    have i0:(0:Int)<=(j:Int):=by omega
    have i1:(j:Int) < (n:Int):=by omega
    clear hc hcj;go_wp2;clear d1;refine Zaf (Up wr) (by kernel_rfl) (by kernel_rfl) (Zb_.drew) ?_
    repeat (go_big_quiet_step (first|(go_at_call 67;rename_i X;exact (Zby _ _ (by omega)).mono fun _ _ h=>⟨h.1,Up.next X h.2⟩)))
    refine wpQuiet_nil ?_;intro w1 hw;obtain⟨Y,hY⟩:=hw;have HB1:Hd (Zw_ w w1):=HB0.o.trans (Below.mono (show Below wr.heap.size wr w1 by rw [hY];exact Y.h) HB0.o.size);clear hY Y x0 xs xn HB0;go_wp2;go_roundw
    . exact⟨j+1,by go_num,by go_num,by omega,HB1.o⟩
    . simp [intOf];omega
  . have e:j=n:=by omega
    subst e;go_wp2;go_ret;exact⟨rfl,HB0.o⟩
end
variable {a b c w w':World} {lo hi n:Nat} {v:Value} {Xl:List Rs}
def upd {X:Type} (f:Nat->X) (i:Nat) (x:X):Nat->X:=fun k=>if k=i then x else f k
theorem ZaA {X:Type} (f:Nat->X) (i:Nat) (x:X):upd f i x i=x:=if_pos rfl
theorem Zbc {X:Type} (f:Nat->X) {i k:Nat} (x:X) (h:k≠i):upd f i x k=f k:=if_neg h
structure Zag (K:Nat->Prop) (w w':World):Prop where
 os:w'.os=w.os
 tape:w'.tape=w.tape
 output:w'.output=w.output
 size:w.heap.size<=w'.heap.size
 block:∀ k,K k->w'.heap[k]?=w.heap[k]?
theorem Zag.trans {K:Nat->Prop} (h:Zag K a b) (k:Zag K b c):Zag K a c:=
 ⟨k.os.trans h.os,k.tape.trans h.tape,k.output.trans h.output,Nat.le_trans h.size k.size,fun i hi=>(k.block i hi).trans (h.block i hi)⟩
theorem Zag.less {K K':Nat->Prop} (h:Zag K a b) (hk:∀ k,K' k->K k):Zag K' a b:=⟨h.os,h.tape,h.output,h.size,fun k hk'=>h.block k (hk k hk')⟩
theorem Zag.touch {K:Nat->Prop} (h:Zad lo hi w w') (hk:∀ k,K k->k < w.heap.size/\(k < lo\/hi<=k)):Zag K w w':=
 ⟨h.os,h.tape,h.output,h.size,fun k hk'=>h.block k (hk k hk').1 (hk k hk').2⟩
theorem Zag.below {K:Nat->Prop} (h:Below n w w') (hk:∀ k,K k->k < n):Zag K w w':=
 ⟨h.os,h.tape,h.output,h.size,fun k hk'=>h.block k (hk k hk')⟩
theorem Zag.under {K:Nat->Prop} (h:Zag K w w') (hk:∀ k,k < n->K k):Below n w w':=
 ⟨h.os,h.tape,h.output,h.size,fun k hk'=>h.block k (hk k hk')⟩
theorem Box.kept {K:Nat->Prop}{β:Nat}{cs:Array Value} (h:Box w β cs) (hk:Zag K w w') (hb:K β):Box w' β cs:=
 ⟨Zk_ h.lt hk.size,fun i=>(World.cell?_of_block (w:=w) (a:=⟨β,i,none⟩) (hk.block β hb)).trans (h.cell i),fun i=>(World.frozen?_of_block (w:=w) (a:=⟨β,i,none⟩) (hk.block β hb)).trans (h.free i)⟩
structure Zal (S:Nat->Prop) (w w':World):Prop where
 os:w'.os=w.os
 tape:w'.tape=w.tape
 output:w'.output=w.output
 size:w.heap.size<=w'.heap.size
 block:∀ k,k < w.heap.size->¬ S k->w'.heap[k]?=w.heap[k]?
theorem Zal.refl (S:Nat->Prop) (w:World):Zal S w w:=⟨rfl,rfl,rfl,Nat.le_refl _,fun _ _ _=>rfl⟩
theorem Zal.trans {S:Nat->Prop} (h:Zal S a b) (k:Zal S b c):Zal S a c:=
 ⟨k.os.trans h.os,k.tape.trans h.tape,k.output.trans h.output,Nat.le_trans h.size k.size,fun i hi hn=>(k.block i (Zk_ hi h.size) hn).trans (h.block i hi hn)⟩
theorem Zal.wide {S S':Nat->Prop} (h:Zal S a b) (hs:∀ k,S k->S' k):Zal S' a b:=⟨h.os,h.tape,h.output,h.size,fun k hk hn=>h.block k hk fun h'=>hn (hs k h')⟩
theorem Zad.toS {S:Nat->Prop} (h:Zad lo hi a b) (hs:∀ k,lo<=k->k < hi->S k):Zal S a b:=
 ⟨h.os,h.tape,h.output,h.size,fun k hk hn=>h.block k hk (by
  rcases Nat.lt_or_ge k lo with h1 | h1
  . exact Or.inl h1
  . rcases Nat.lt_or_ge k hi with h2 | h2
    . exact absurd (hs k h1 h2) hn
    . exact Or.inr h2)⟩
theorem Zal.below {S:Nat->Prop} (h:Below a.heap.size a b):Zal S a b:=⟨h.os,h.tape,h.output,h.size,fun k hk _=>h.block k hk⟩
theorem Zal.touch {S:Nat->Prop} (h:Zal S a b) (hs:∀ k,S k->lo<=k/\k < hi):Zad lo hi a b:=
 ⟨h.os,h.tape,h.output,h.size,fun k hk ho=>h.block k hk fun h'=>by have:=hs k h';omega⟩
theorem Zag.touchS {K S:Nat->Prop} (h:Zal S w w') (hk:∀ k,K k->k < w.heap.size/\¬ S k):Zag K w w':=
 ⟨h.os,h.tape,h.output,h.size,fun k hk'=>h.block k (hk k hk').1 (hk k hk').2⟩
theorem Zag.cell {K:Nat->Prop} (h:Zag K w w') {p:Addr} (hp:K p.block):w'.cell? p=w.cell? p:=World.cell?_of_block (w:=w) (h.block p.block hp)
theorem Zag.frozen {K:Nat->Prop} (h:Zag K w w') {p:Addr} (hp:K p.block):w'.frozen? p=w.frozen? p:=World.frozen?_of_block (w:=w) (h.block p.block hp)
theorem Zap.kept {K:Nat->Prop} (h:Zap lo hi w v Xl) (hk:Zag K w w') (ho:∀ k,lo<=k->k < hi->K k):Zap lo hi w' v Xl:=by
 rcases h with h | ⟨b,off,cap,c,X,h1,h2,h3,h4,h5,h6⟩
 . exact Or.inl h
 . have hb:K b:=ho b h6.low h6.bh
   refine Or.inr ⟨b,off,cap,c,X,h1,h2,h3,h4,h5,⟨Zk_ h6.lt hk.size,h6.low,h6.bc,h6.bh,h6.mono,h6.top,fun i=>(hk.frozen (p:=⟨b,i,none⟩) hb).trans (h6.frz i),fun i hi'=>?_⟩⟩;obtain⟨hs,hc⟩:=h6.row i hi';exact⟨hs,⟨(hk.cell (p:=⟨b,_,none⟩) hb).trans hc.c0,(hk.cell (p:=⟨b,_,none⟩) hb).trans hc.c1⟩⟩
theorem Za5.kept {K:Nat->Prop}{L:List Zy_} (h:Za5 lo hi w v L) (hk:Zag K w w') (ho:∀ k,lo<=k->k < hi->K k):Za5 lo hi w' v L:=by
 rcases h with h | ⟨b,off,cap,h1,h2,h3,hcp,h4,h5,h7,h8,h9⟩
 . exact Or.inl h
 . have hb:K b:=ho b h7 h8
   exact Or.inr ⟨b,off,cap,h1,h2,h3,hcp,Zk_ h4 hk.size,fun i hi'=>⟨(h5 i hi').1,(hk.cell (p:=⟨b,off+i,none⟩) hb).trans (h5 i hi').2⟩,h7,h8,fun i=>(hk.frozen (p:=⟨b,off+i,none⟩) hb).trans (h9 i)⟩
theorem ZaF.kept {K:Nat->Prop}{L:List Int} (h:ZaF lo hi w v L) (hk:Zag K w w') (ho:∀ k,lo<=k->k < hi->K k):ZaF lo hi w' v L:=by
 rcases h with h | ⟨b,off,cap,h1,h2,h3,hcp,h4,h5,h7,h8,h9⟩
 . exact Or.inl h
 . have hb:K b:=ho b h7 h8
   exact Or.inr ⟨b,off,cap,h1,h2,h3,hcp,Zk_ h4 hk.size,fun i hi'=>(hk.cell (p:=⟨b,off+i,none⟩) hb).trans (h5 i hi'),h7,h8,fun i=>(hk.frozen (p:=⟨b,off+i,none⟩) hb).trans (h9 i)⟩
theorem Zcc.toS {b o:Nat}{S:Nat->Prop} (h:Zcc b o n lo hi w w') (_hb:b < w.heap.size) (sb:S b) (hs:∀ k,lo<=k->k < hi->S k):Zal S w w':=
 ⟨h.os,h.tape,h.output,h.size,fun k hk hn=>h.block k hk (fun e=>hn (e ▸ sb)) (by
  rcases Nat.lt_or_ge k lo with h1 | h1
  . exact Or.inl h1
  . rcases Nat.lt_or_ge k hi with h2 | h2
    . exact absurd (hs k h1 h2) hn
    . exact Or.inr h2)⟩
theorem Zap.at_ge (h:Zap lo hi w v Xl) (hs:∀ k,lo<=k->k < hi->n<=k):Zaq n w v Xl:=by
 rcases h with h | ⟨b,off,cap,c,X,h1,h2,h3,h4,h5,h6⟩
 . exact Or.inl h
 . refine Or.inr ⟨b,off,cap,h1,h2,h3,h6.lt,hs b h6.low h6.bh,h4,fun i hi'=>?_⟩
   have hr:=h6.row i hi';rw [h5 i hi'] at hr;exact hr
theorem Za5.at_ge {L:List Zy_} (h:Za5 lo hi w v L) (hs:∀ k,lo<=k->k < hi->n<=k):Za2 n w v L:=by
 rcases h with h | ⟨g,off,cap,h1,h2,h3,hcp,h4,h5,h7,h8,h9⟩
 . exact Or.inl h
 . exact Or.inr ⟨g,off,cap,h1,h2,h3,h4,hs g h7 h8,hcp,h5⟩
theorem ZaF.at_ge {L:List Int} (h:ZaF lo hi w v L) (hs:∀ k,lo<=k->k < hi->n<=k):ZaJ n w v L:=by
 rcases h with h | ⟨g,off,cap,h1,h2,h3,hcp,h4,h5,h7,h8,h9⟩
 . exact Or.inl h
 . exact Or.inr ⟨g,off,cap,h1,h2,h3,h4,hs g h7 h8,hcp,fun i hi=>⟨rfl,h5 i hi⟩⟩
end Go.Proofs.YtkiefplmnoapfaaGreat
