import Derived.Test.YtdeammfdkaomlaaGreatM01
import Derived.Test.YtdeammfdkaomlaaGreatM02
import Derived.Test.YtdeammfdkaomlaaGreatM04
set_option maxHeartbeats 16000000
set_option maxRecDepth 100000
open Go.Proofs.Tryz
namespace Go.Proofs.YtdeammfdkaomlaaGreat
open Go.RowKit Go.Deep
section
variable {lo hi lo' hi':Nat} {w w':World} {v:Value} {L:List Int}
def ZaD (lo hi:Nat) (w:World) (v:Value) (L:List Int):Prop:=
 (∃ (a:Option Addr) (cap:Nat),v=.slice a 0 cap/\L=[])\/
 ∃ (b off cap:Nat),v=.slice (some ⟨b,off,none⟩) L.length cap/\L≠[]/\L.length<=maxLen/\L.length<=cap/\b < w.heap.size/\
  (∀ i (h:i < L.length),w.cell? ⟨b,off+i,none⟩=some (.int .i64 L[i]))/\lo<=b/\b < hi/\∀ i,w.frozen? ⟨b,off+i,none⟩=false
theorem ZaD.near {b o n:Nat} (h:ZaD lo hi w v L) (ht:Zb8 b o n lo' hi' w w') (ho:hi<=lo'\/hi'<=lo) (hb:b < lo\/hi<=b):ZaD lo hi w' v L:=by
 rcases h with h | ⟨g,off,cap,h1,h2,h3,hcp,h4,h5,h7,h8,h9⟩
 . exact Or.inl h
 . exact Or.inr ⟨g,off,cap,h1,h2,h3,hcp,Zk_ h4 ht.size,fun i hi'=>((ht.o (p:=⟨g,off+i,none⟩) h4 (by simp only [ne_eq];omega) (by simp only [];omega)).1).trans (h5 i hi'),h7,h8,fun i=>((ht.o (p:=⟨g,off+i,none⟩) h4 (by simp only [ne_eq];omega) (by simp only [];omega)).2).trans (h9 i)⟩
theorem ZaD.below (h:ZaD lo hi w v L) (hb:Zw_ w w'):ZaD lo hi w' v L:=by
 rcases h with h | ⟨g,off,cap,h1,h2,h3,hcp,h4,h5,h7,h8,h9⟩
 . exact Or.inl h
 . exact Or.inr ⟨g,off,cap,h1,h2,h3,hcp,Zk_ h4 hb.size,fun i hi'=>(hb.cell (p:=⟨g,off+i,none⟩) h4).trans (h5 i hi'),h7,h8,fun i=>(hb.frozen (p:=⟨g,off+i,none⟩) h4).trans (h9 i)⟩
theorem ZaD.touch (h:ZaD lo hi w v L) (ht:Zad lo' hi' w w') (ho:hi<=lo'\/hi'<=lo):ZaD lo hi w' v L:=by
 rcases h with h | ⟨b,off,cap,h1,h2,h3,hcp,h4,h5,h7,h8,h9⟩
 . exact Or.inl h
 . exact Or.inr ⟨b,off,cap,h1,h2,h3,hcp,Zk_ h4 ht.size,fun i hi'=>(ht.cell (p:=⟨b,off+i,none⟩) h4 (by simp only [];omega)).trans (h5 i hi'),h7,h8,fun i=>(ht.frozen (p:=⟨b,off+i,none⟩) h4 (by simp only [];omega)).trans (h9 i)⟩
theorem ZaD.at (h:ZaD lo hi w v L):ZaR lo w v L:=by
 rcases h with h | ⟨g,off,cap,h1,h2,h3,hcp,h4,h5,h7,h8,h9⟩
 . exact Or.inl h
 . exact Or.inr ⟨g,off,cap,h1,h2,h3,h4,h7,hcp,fun i hi=>⟨rfl,h5 i hi⟩⟩
theorem ZaD.wide (h:ZaD lo hi w v L) (h1:lo'<=lo) (h2:hi<=hi'):ZaD lo' hi' w v L:=by
 rcases h with h | ⟨g,off,cap,e1,e2,e3,hcp,e4,e5,e7,e8,e9⟩
 . exact Or.inl h
 . exact Or.inr ⟨g,off,cap,e1,e2,e3,hcp,e4,e5,by omega,by omega,e9⟩
theorem ZaD.form (h:ZaD lo hi w v L):∃ a cap,v=.slice a L.length cap:=by
 rcases h with ⟨a,cap,h,rfl⟩ | ⟨b,off,cap,h,_⟩
 . exact⟨a,cap,h⟩
 . exact⟨_,cap,h⟩
def Zct (k:Int) (n:Nat):List Int:=(List.range n).map fun (i:Nat)=>k+(i:Int)
theorem ZaZ (k:Int) (n:Nat):(Zct k n).length=n:=by simp [Zct]
theorem ZeD (k:Int) (n i:Nat) (h:i < (Zct k n).length):(Zct k n)[i]=k+i:=by simp [Zct]
theorem Zeh (lo hi:Nat) (v:Value) (L:List Int) (k:Int) (w:World) (hv:ZaD lo hi w v L) (h0:0<=k) (hk:k+L.length<=4000000000000000000) :
 Calls prog 81 #[v,.int .i64 k] w fun e w'=>e=.returned (.int .i64 (k+L.length))/\Zad lo hi w w'/\ZaD lo hi w' v (Zct k L.length):=by
 rcases hv with ⟨a,cap,rfl,rfl⟩ | ⟨b,off,cap,rfl,hne,hm,hcp,hbw,hc,hlo,hhi,hfr⟩
 . go_enter func81,ntmps81
   go_wp2
   go_loop [5,1] (fun i q=>i=.int .i64 0/\q=.int .i64 k) (fun _ _=>0)
   case atStart=>exact⟨rfl,rfl⟩
   case round=>
    obtain⟨rfl,rfl⟩:=hrel;go_wp2;go_ret;exact⟨by simp,Zad.refl _ _ _,Or.inl ⟨_,_,rfl,rfl⟩⟩
 . unfold maxLen at hm
   go_enter func81,ntmps81;go_wp2
   go_loopw [5,1] (fun i q wr=>∃ j:Nat,i=.int .i64 j/\q=.int .i64 (k+j)/\j<=L.length/\Zad lo hi w wr/\(∀ i,i < j->wr.cell? ⟨b,off+i,none⟩=some (.int .i64 (k+i)))/\(∀ i (h:i < L.length),j<=i->wr.cell? ⟨b,off+i,none⟩=some (.int .i64 L[i]))/\∀ i,wr.frozen? ⟨b,off+i,none⟩=false) (fun i _ _=>L.length - (intOf i).toNat)
   case atStart=>exact⟨0,rfl,by simp,by omega,Zad.refl _ _ _,fun i h=>by omega,fun i h _=>hc i h,hfr⟩
   case round=>
    obtain⟨j,rfl,rfl,hj,ht,hA,hB,hF⟩:=hrel;have HT:=Zaa ht;have HA:=Zaa hA;have HBB:=Zaa hB;have HF:=Zaa hF;clear ht hA hB hF
    by_cases hlt:j < L.length
    . have hcj:wr.cell? ⟨b,off+j,none⟩=some (.int .i64 L[j]):=HBB.o j hlt Zl_
      have hfj:wr.frozen? ⟨b,off+j,none⟩=false:=HF.o j;go_wp2;go_roundw
      . 
       refine⟨j+1,by go_num,by go_num,by omega,HT.o.trans (Zad.setCell _ _ _ _ _ ⟨hlo,hhi⟩),fun i hi'=>?_,fun i h hi'=>?_,fun i=>?_⟩
       . by_cases e:i=j
         . subst e;exact World.cell?_setCell_same' _ _ _ (by rw [hcj];rfl)
         . rw [show (wr.setCell ⟨b,off+j,none⟩ (.int .i64 (k+j))).cell? ⟨b,off+i,none⟩=wr.cell? ⟨b,off+i,none⟩ from by apply World.cell?_setCell_other;simp only [ne_eq,Addr.mk.injEq,not_and];omega]
           exact HA.o i (by omega)
       . rw [show (wr.setCell ⟨b,off+j,none⟩ (.int .i64 (k+j))).cell? ⟨b,off+i,none⟩=wr.cell? ⟨b,off+i,none⟩ from by apply World.cell?_setCell_other;simp only [ne_eq,Addr.mk.injEq,not_and];omega]
         exact HBB.o i h (by omega)
       . rw [World.frozen?_setCell]
         exact HF.o i
      . simp [intOf];omega
    . have e:j=L.length:=by omega
      subst e;go_wp2;go_ret;refine⟨rfl,HT.o,Or.inr ⟨b,off,cap,by rw [ZaZ],?_,by rw [ZaZ];unfold maxLen;omega,by rw [ZaZ];exact hcp,Zk_ hbw HT.o.size,fun i h=>?_,hlo,hhi,HF.o⟩⟩
      . intro e;have:=congrArg List.length e;rw [ZaZ] at this;simp at this;exact hne this
      . rw [ZeD];exact HA.o i (by rw [ZaZ] at h;exact h)
theorem Zea (lo:Nat) (v:Value) (n:Nat) (k:Int) (w:World) (hv:ZaR lo w v (Zct k n)) (h0:0<=k) (hk:k+n<=4000000000000000000) :
 Calls prog 87 #[v,.int .i64 k] w fun e w'=>e=.returned (.int .i64 (k+n))/\Zw_ w w':=by
 have HV:=Zaa hv;obtain⟨a,cap,rfl⟩:=hv.form;clear hv;rw [ZaZ] at HV;rw [ZaZ];go_enter func87,ntmps87;go_wp2
 go_loop [5,1] (fun i q=>∃ j:Nat,i=.int .i64 j/\q=.int .i64 (k+j)/\j<=n) (fun i _=>n - (intOf i).toNat)
 case atStart=>exact⟨0,rfl,by simp,by omega⟩
 case round=>
  obtain⟨j,rfl,rfl,hj⟩:=hrel
  by_cases hlt:j < n
  . obtain⟨b,off,rfl,hbw,-,hc⟩:=HV.o.full' (by rw [ZaZ];omega)
    have hcj:w.cell? ⟨b,off+j,none⟩=some (.int .i64 (k+j)):=by rw [(hc j (by rw [ZaZ];omega)).2,ZeD]
    clear hc;go_wp2
    go_round
    . exact⟨j+1,by go_num,by go_num,by omega⟩
    . simp [intOf];omega
  . have e:j=n:=by omega
    subst e;go_wp2;go_ret;exact⟨rfl,Below.refl _ _⟩
end
section
variable {w w' wr:World} {b o c0 c1 lo hi lo' hi':Nat} {x y:Ra} {vv0 v:Value} {Xl:List Ra}
def Zgn (x:Ra):Prop:=x=x
structure Zcm (w:World) (b o:Nat) (x:Ra) (vv0:Value):Prop where
 c0:w.cell? ⟨b,o,none⟩=some (.int .i64 x.ix)
 c1:w.cell? ⟨b,o+1,none⟩=some vv0
theorem Zcm.below (h:Zcm w b o x vv0) {m:Nat} (hb:Below m w w') (hlt:b < m):Zcm w' b o x vv0:=by
 have e:∀ o,w'.cell? ⟨b,o,none⟩=w.cell? ⟨b,o,none⟩:=fun o=>hb.cell (p:=⟨b,o,none⟩) hlt
 exact⟨by rw [e];exact h.c0,by rw [e];exact h.c1⟩
theorem Zcm.rng {a:Option Addr}{k:Nat} (h:Zcm w b o x (.slice a x.fr.length k)):w.rangeAt b o (raL x a k):=fun j v hv=>by
 match j,hv with
 | 0,hv=>cases hv;exact h.c0
 | 1,hv=>cases hv;exact h.c1
def ZdZ (b o c0 c1:Nat) (w:World) (x:Ra):Prop:=Zgn x/\∃ (vv0:Value),c0<=c1/\Zcm w b o x vv0/\ZaD c0 c1 w vv0 x.fr
theorem ZdZ.near {o1 d0 d1:Nat} (h:ZdZ b o c0 c1 w x) (hn:Zb8 b o1 2 d0 d1 w w') (ho:o+2<=o1\/o1+2<=o) (hi:c1<=d0\/d1<=c0) (hb:b < c0\/c1<=b):ZdZ b o c0 c1 w' x:=by
 obtain⟨hs,vv0,q0,hc,l0⟩:=h;obtain⟨h0,h1⟩:=hc;have e:∀ t,t < 2->w'.cell? ⟨b,o+t,none⟩=w.cell? ⟨b,o+t,none⟩:=fun t ht=>hn.cell _ (by omega)
 have e0:w'.cell? ⟨b,o,none⟩=w.cell? ⟨b,o,none⟩:=hn.cell _ (by omega);exact⟨hs,vv0,q0,⟨e0.trans h0,(e 1 (by omega)).trans h1⟩,l0.near hn (by omega) (by omega)⟩
theorem ZdZ.touch (h:ZdZ b o c0 c1 w x) (ht:Zad lo hi w w') (hlt:b < w.heap.size) (hb:b < lo\/hi<=b) (hi':c1<=lo\/hi<=c0):ZdZ b o c0 c1 w' x:=by
 obtain⟨hs,vv0,q0,hc,l0⟩:=h;obtain⟨h0,h1⟩:=hc;exact⟨hs,vv0,q0,⟨(ht.cell (p:=⟨b,o,none⟩) hlt hb).trans h0,(ht.cell (p:=⟨b,o+1,none⟩) hlt hb).trans h1⟩,l0.touch ht (by omega)⟩
structure Zi3 (lo hi:Nat) (w:World) (b off n:Nat) (c:Nat->Nat×Nat) (X:Nat->Ra):Prop where
 lt:b < w.heap.size
 low:lo<=b
 bh:b < hi
 seg:∀ i,i < n->lo<=(c i).1/\(c i).2<=hi/\(b < (c i).1\/(c i).2<=b)
 ap:∀ i j,i < n->j < n->i≠j->(c i).2<=(c j).1\/(c j).2<=(c i).1
 frz:∀ i,w.frozen? ⟨b,i,none⟩=false
 row:∀ i,i < n->ZdZ b (off+i*2) (c i).1 (c i).2 w (X i)
theorem Zi3.touch {off n:Nat}{c:Nat->Nat×Nat}{X:Nat->Ra} (h:Zi3 lo hi w b off n c X) (ht:Zad lo' hi' w w') (ho:hi<=lo'\/hi'<=lo):Zi3 lo hi w' b off n c X:=by
 have h1:=h.low;have h2:=h.bh;refine⟨Zk_ h.lt ht.size,h.low,h.bh,h.seg,h.ap,fun i=>(ht.frozen (p:=⟨b,i,none⟩) h.lt (by simp only [];omega)).trans (h.frz i),fun i hi'=>?_⟩;have h5:=h.seg i hi';exact (h.row i hi').touch ht h.lt (by omega) (by omega)
def ZbV (lo hi:Nat) (w:World) (v:Value) (Xl:List Ra):Prop:=
 (∃ (a:Option Addr) (cap:Nat),v=.slice a 0 cap/\Xl=[])\/
 ∃ (b off cap:Nat) (c:Nat->Nat×Nat) (X:Nat->Ra),v=.slice (some ⟨b,off,none⟩) Xl.length cap/\Xl≠[]/\Xl.length<=maxLen/\Xl.length<=cap/\(∀ i (h:i < Xl.length),X i=Xl[i])/\Zi3 lo hi w b off Xl.length c X
theorem ZbV.touch (h:ZbV lo hi w v Xl) (ht:Zad lo' hi' w w') (ho:hi<=lo'\/hi'<=lo):ZbV lo hi w' v Xl:=by
 rcases h with h | ⟨b,off,cap,c,X,h1,h2,h3,h4,h5,h6⟩
 . exact Or.inl h
 . exact Or.inr ⟨b,off,cap,c,X,h1,h2,h3,h4,h5,h6.touch ht ho⟩
theorem ZbV.form (h:ZbV lo hi w v Xl):∃ a cap,v=.slice a Xl.length cap:=by
 rcases h with ⟨a,cap,h,rfl⟩ | ⟨b,off,cap,c,X,h1,_⟩
 . exact⟨a,cap,h⟩
 . exact⟨_,cap,h1⟩
theorem ZbV.at (h:ZbV lo hi w v Xl):ZbA lo w v Xl:=by
 rcases h with h | ⟨b,off,cap,c,X,h1,h2,h3,h4,h5,h6⟩
 . exact Or.inl h
 . refine Or.inr ⟨b,off,cap,h1,h2,h3,h6.lt,h6.low,h4,fun i hi'=>?_⟩
   have hr:=h6.row i hi';have g0:=h6.seg i hi';rw [h5 i hi'] at hr;obtain⟨hs,vv0,q0,hc,l0⟩:=hr;obtain⟨a0,k0,rfl⟩:=l0.form;exact⟨_,hc.rng,a0,k0,rfl,⟨l0.at.mono (by omega)⟩⟩
def ZkA (k:Int) (x:Ra):Ra:=⟨k,Zct (k+1) x.fr.length⟩
def ZkF (x:Ra):Nat:=1+x.fr.length
def Zb0 (Xl:List Ra) (i:Nat):Nat:=((Xl.take i).map ZkF).sum
def Zfq (k:Int) (Xl:List Ra):List Ra:=Xl.mapIdx (fun i x=>ZkA (k+(Zb0 Xl i:Int)) x)
theorem Zbh (k:Int) (Xl:List Ra):(Zfq k Xl).length=Xl.length:=by unfold Zfq;simp
theorem Zfr (k:Int) (Xl:List Ra) (i:Nat) (h:i < (Zfq k Xl).length) (h':i < Xl.length):(Zfq k Xl)[i]=ZkA (k+(Zb0 Xl i:Int)) Xl[i]:=List.getElem_mapIdx (f:=fun i x=>ZkA (k+(Zb0 Xl i:Int)) x) (h:=h)
theorem Zdu {i:Nat} (h:i < Xl.length):Zb0 Xl (i+1)=Zb0 Xl i+ZkF Xl[i]:=by
 unfold Zb0;rw [List.take_succ_eq_append_getElem h,List.map_append,List.sum_append];simp
theorem Ze4 (hn:Zb9 Xl):∀ {i:Nat},i<=Xl.length->Zb0 Xl i<=i*3000000:=by
 intro i
 induction i with
 | zero=>intro _;simp [Zb0]
 | succ i ih=>
  intro hi';have h1:=ih (by omega);rw [Zdu (by omega)]
  have h2:ZkF Xl[i]<=3000000:=by
   have hsm:=hn.2 i (by omega);unfold Zcn ZaS at hsm;unfold ZkF
   omega
  omega
structure Zi4 (wr:World) (b o c0 c1:Nat) (vv0:Value) (v:World) (y:Ra):Prop where
 near:Zb8 b o 2 c0 c1 wr v
 bc:b < c0\/c1<=b
 q0:c0<=c1
 cells:Zcm v b o y vv0
 l0:ZaD c0 c1 v vv0 y.fr
 frz:∀ i,v.frozen? ⟨b,i,none⟩=false
 lt:b < v.heap.size
theorem Zi4.s0 {v:World} (h:Zi4 wr b o c0 c1 vv0 v y) (u:Int):Zi4 wr b o c0 c1 vv0 (v.setCell ⟨b,o,none⟩ (.int .i64 u)) { y with ix:=u }:=by
 obtain⟨h0,h1⟩:=h.cells;have ht:Zad b (b+1) v (v.setCell ⟨b,o,none⟩ (.int .i64 u)):=Zad.setCell _ _ _ _ _ ⟨Nat.le_refl _,by simp only [];omega⟩;have hbc:=h.bc;have hq0:=h.q0;exact⟨h.near.trans (Zb8.set _ _ _ _ _ _ _ _ (by omega) (by omega)),h.bc,h.q0,⟨World.cell?_setCell_same' _ _ _ (by rw [h0];rfl),(cne (by omega)).trans h1⟩,h.l0.touch ht (by omega),fun i=>by rw [World.frozen?_setCell];exact h.frz i,by simpa [World.setCell] using h.lt⟩
theorem Zi4.m0' {v v':World} (h:Zi4 wr b o c0 c1 vv0 v y) (ht:Zad c0 c1 v v') {L:List Int} (hl:ZaD c0 c1 v' vv0 L):Zi4 wr b o c0 c1 vv0 v' { y with fr:=L }:=by
 obtain⟨h0,h1⟩:=h.cells;have hbc:=h.bc;have hq0:=h.q0;have hlt:=h.lt;have e:∀ i,v'.cell? ⟨b,i,none⟩=v.cell? ⟨b,i,none⟩:=fun i=>ht.cell (p:=⟨b,i,none⟩) h.lt (by simp only [];omega)
 exact⟨h.near.trans (Zb8.touch ht h.lt (by omega) (by omega) (by omega)),h.bc,h.q0,⟨(e _).trans h0,(e _).trans h1⟩,hl,fun i=>(ht.frozen (p:=⟨b,i,none⟩) h.lt (by simp only [];omega)).trans (h.frz i),Zk_ h.lt ht.size⟩
end
variable {lo lo':Nat} {w w':World} {v0 v1 v2 v3 v4 v5 v6:Value} {cs:List Value}
structure Rr where
 nu:Int
 of:Int
 up:Bool
 sf:Rd
 dk:Rd
 he:List Rm
 wi:List Zy_
 ld:Bool
 ty:Bool
 ba:Int
 ye:List Int
 be:List Rs
 ac:List Ra
 hd:Int
variable {U:Rr}
def Zba (U:Rr):Prop:=Zcx U.sf/\Zcx U.dk/\ZbJ U.he/\Zbo U.wi/\ZaS U.ye/\Zbn U.be/\Zb9 U.ac
structure Zgr (lo:Nat) (w:World) (v0 v1 v2 v3 v4 v5 v6:Value) (U:Rr):Prop where
 l0:Zat lo w v0 U.sf.sl
 l1:Zat lo w v1 U.dk.sl
 l2:Zbd lo w v2 U.he
 l3:Zbf lo w v3 U.wi
 l4:ZaR lo w v4 U.ye
 l5:Zat lo w v5 U.be
 l6:ZbA lo w v6 U.ac
theorem Zgr.below (h:Zgr lo w v0 v1 v2 v3 v4 v5 v6 U) (hb:Zw_ w w'):Zgr lo w' v0 v1 v2 v3 v4 v5 v6 U:=⟨h.l0.below hb,h.l1.below hb,h.l2.below hb,h.l3.below hb,h.l4.below hb,h.l5.below hb,h.l6.below hb⟩
theorem Zgr.mono (h:Zgr lo w v0 v1 v2 v3 v4 v5 v6 U) (hl:lo'<=lo):Zgr lo' w v0 v1 v2 v3 v4 v5 v6 U:=⟨h.l0.mono hl,h.l1.mono hl,h.l2.mono hl,h.l3.mono hl,h.l4.mono hl,h.l5.mono hl,h.l6.mono hl⟩
def rrL (U:Rr) (a0:Option Addr) (k0:Nat) (a1:Option Addr) (k1:Nat) (a2:Option Addr) (k2:Nat) (a3:Option Addr) (k3:Nat) (a4:Option Addr) (k4:Nat) (a5:Option Addr) (k5:Nat) (a6:Option Addr) (k6:Nat):List Value:=[.int .i64 U.nu,.int .i64 U.of,.bool U.up,.int .i64 U.sf.pr,.int .i64 U.sf.kn,.slice a0 U.sf.sl.length k0,.int .i64 U.dk.pr,.int .i64 U.dk.kn,.slice a1 U.dk.sl.length k1,.slice a2 U.he.length k2,.slice a3 U.wi.length k3,.bool U.ld,.bool U.ty,.int .i64 U.ba,.slice a4 U.ye.length k4,.slice a5 U.be.length k5,.slice a6 U.ac.length k6,.int .i64 U.hd]
def RrC (lo:Nat) (w:World) (cs:List Value) (U:Rr):Prop:=∃ a0 k0 a1 k1 a2 k2 a3 k3 a4 k4 a5 k5 a6 k6,cs=rrL U a0 k0 a1 k1 a2 k2 a3 k3 a4 k4 a5 k5 a6 k6/\Zgr lo w (.slice a0 U.sf.sl.length k0) (.slice a1 U.dk.sl.length k1) (.slice a2 U.he.length k2) (.slice a3 U.wi.length k3) (.slice a4 U.ye.length k4) (.slice a5 U.be.length k5) (.slice a6 U.ac.length k6) U
theorem RrC.below (h:RrC lo w cs U) (hb:Zw_ w w'):RrC lo w' cs U:=by
 obtain⟨a0,k0,a1,k1,a2,k2,a3,k3,a4,k4,a5,k5,a6,k6,h1,h2⟩:=h;exact⟨a0,k0,a1,k1,a2,k2,a3,k3,a4,k4,a5,k5,a6,k6,h1,h2.below hb⟩
theorem RrC.mono (h:RrC lo w cs U) (hl:lo'<=lo):RrC lo' w cs U:=by
 obtain⟨a0,k0,a1,k1,a2,k2,a3,k3,a4,k4,a5,k5,a6,k6,h1,h2⟩:=h;exact⟨a0,k0,a1,k1,a2,k2,a3,k3,a4,k4,a5,k5,a6,k6,h1,h2.mono hl⟩
theorem RrC.len (h:RrC lo w cs U):cs.length=18:=by
 obtain⟨a0,k0,a1,k1,a2,k2,a3,k3,a4,k4,a5,k5,a6,k6,h1,h2⟩:=h;rw [h1];rfl
theorem RrC.one (h:RrC lo w cs U):Array.all cs.toArray (·.oneCell')=true:=by
 obtain⟨a0,k0,a1,k1,a2,k2,a3,k3,a4,k4,a5,k5,a6,k6,h1,h2⟩:=h;rw [h1];unfold rrL;simp [Value.oneCell']
theorem ZkS (lo:Nat) (cs:List Value) (U:Rr) (left:Int) (w:World) (h0:0<=left) (h1:left<=1048576) (h:RrC lo w cs U) :
 Calls prog 14 #[.agg cs.toArray,.int .i64 left] w
  fun e w'=>∃ r:Int,e=.returned (.int .i64 r)/\Zw_ w w'/\-1<=r/\r<=left/\(0<=r->Zba U):=by
 obtain⟨a0,k0,a1,k1,a2,k2,a3,k3,a4,k4,a5,k5,a6,k6,rfl,h⟩:=h
 show Calls prog 14 #[.agg #[.int .i64 U.nu,.int .i64 U.of,.bool U.up,.int .i64 U.sf.pr,.int .i64 U.sf.kn,.slice a0 U.sf.sl.length k0,.int .i64 U.dk.pr,.int .i64 U.dk.kn,.slice a1 U.dk.sl.length k1,.slice a2 U.he.length k2,.slice a3 U.wi.length k3,.bool U.ld,.bool U.ty,.int .i64 U.ba,.slice a4 U.ye.length k4,.slice a5 U.be.length k5,.slice a6 U.ac.length k6,.int .i64 U.hd],.int .i64 left] w _
 have HL:=Zaa h;clear h;go_enter func14,ntmps14;go_wp2_with fail;generalize hWa:w.alloc _=Wa;have HB:Hd (Zw_ w Wa):=by unfold Hd;rw [<- hWa];exact Zab _ _
 have FX:Hd (Box Wa w.heap.size #[.int .i64 U.nu,.int .i64 U.of,.bool U.up,.int .i64 U.sf.pr,.int .i64 U.sf.kn,.slice a0 U.sf.sl.length k0,.int .i64 U.dk.pr,.int .i64 U.dk.kn,.slice a1 U.dk.sl.length k1,.slice a2 U.he.length k2,.slice a3 U.wi.length k3,.bool U.ld,.bool U.ty,.int .i64 U.ba,.slice a4 U.ye.length k4,.slice a5 U.be.length k5,.slice a6 U.ac.length k6,.int .i64 U.hd]):=by unfold Hd;rw [<- hWa];exact Box.new _ _ _ _ rfl
 clear hWa;refine (Zj0 lo _ U.sf _ _ (by omega) (by omega) (⟨_,_,rfl,⟨(HL.o.below HB.o).l0⟩⟩)).mono ?_;rintro e w0 ⟨q0,rfl,hb,p0a,p0b,p0c⟩;have Q0:=Zaa p0c;replace HB:=Zaa (bt HB.o hb);replace FX:=Zaa (FX.o.on hb);clear hb p0c
 by_cases m0:q0 < 0
 . go_wp2
   go_ret;exact⟨-1,rfl,HB.o,by omega,by omega,fun h=>by omega⟩
 have g0:=FX.o.cell;go_wp2_with fail;clear g0;refine (Zj0 lo _ U.dk _ _ (by omega) (by omega) (⟨_,_,rfl,⟨(HL.o.below HB.o).l1⟩⟩)).mono ?_;rintro e w1 ⟨q1,rfl,hb,p1a,p1b,p1c⟩;have Q1:=Zaa p1c;replace HB:=Zaa (bt HB.o hb);replace FX:=Zaa (FX.o.on hb);clear hb p1c
 by_cases m1:q1 < 0
 . go_wp2
   go_ret;exact⟨-1,rfl,HB.o,by omega,by omega,fun h=>by omega⟩
 have g0:=FX.o.cell;go_wp2_with fail;clear g0;refine (ZiR lo _ U.he _ _ (by omega) (by omega) ((HL.o.below HB.o).l2)).mono ?_;rintro e w2 ⟨q2,rfl,hb,p2a,p2b,p2c⟩;have Q2:=Zaa p2c;replace HB:=Zaa (bt HB.o hb);replace FX:=Zaa (FX.o.on hb);clear hb p2c
 by_cases m2:q2 < 0
 . go_wp2
   go_ret;exact⟨-1,rfl,HB.o,by omega,by omega,fun h=>by omega⟩
 have g0:=FX.o.cell;go_wp2_with fail;clear g0;refine (ZiS lo _ U.wi _ _ (by omega) (by omega) ((HL.o.below HB.o).l3)).mono ?_;rintro e w3 ⟨q3,rfl,hb,p3a,p3b,p3c⟩;have Q3:=Zaa p3c;replace HB:=Zaa (bt HB.o hb);replace FX:=Zaa (FX.o.on hb);clear hb p3c
 by_cases m3:q3 < 0
 . go_wp2
   go_ret;exact⟨-1,rfl,HB.o,by omega,by omega,fun h=>by omega⟩
 have g0:=FX.o.cell;go_wp2_with fail;clear g0;refine (ZfE lo _ U.ye _ _ (by omega) (by omega) ((HL.o.below HB.o).l4)).mono ?_;rintro e w4 ⟨q4,rfl,hb,p4a,p4b,p4c⟩;have Q4:=Zaa p4c;replace HB:=Zaa (bt HB.o hb);replace FX:=Zaa (FX.o.on hb);clear hb p4c
 by_cases m4:q4 < 0
 . go_wp2
   go_ret;exact⟨-1,rfl,HB.o,by omega,by omega,fun h=>by omega⟩
 have g0:=FX.o.cell;go_wp2_with fail;clear g0;refine (Zep lo _ U.be _ _ (by omega) (by omega) ((HL.o.below HB.o).l5)).mono ?_;rintro e w5 ⟨q5,rfl,hb,p5a,p5b,p5c⟩;have Q5:=Zaa p5c;replace HB:=Zaa (bt HB.o hb);replace FX:=Zaa (FX.o.on hb);clear hb p5c
 by_cases m5:q5 < 0
 . go_wp2
   go_ret;exact⟨-1,rfl,HB.o,by omega,by omega,fun h=>by omega⟩
 have g0:=FX.o.cell;go_wp2_with fail;clear g0;refine (ZiQ lo _ U.ac _ _ (by omega) (by omega) ((HL.o.below HB.o).l6)).mono ?_;rintro e w6 ⟨q6,rfl,hb,p6a,p6b,p6c⟩;have Q6:=Zaa p6c;replace HB:=Zaa (bt HB.o hb);replace FX:=Zaa (FX.o.on hb);clear hb p6c
 by_cases m6:q6 < 0
 . go_wp2
   go_ret;exact⟨-1,rfl,HB.o,by omega,by omega,fun h=>by omega⟩
 go_wp2;go_ret;exact⟨_,rfl,HB.o,by omega,by omega,fun h=>⟨Q0.o (by omega),Q1.o (by omega),Q2.o (by omega),Q3.o (by omega),Q4.o (by omega),Q5.o (by omega),Q6.o (by omega)⟩⟩
theorem ZgA (lo lo':Nat) (cs cs':List Value) (U:Rr) (w:World) (h:RrC lo w cs U) (h':RrC lo' w cs' U) :
 Calls prog 18 #[.agg cs.toArray,.agg cs'.toArray] w fun e w'=>e=.returned (.bool true)/\Zw_ w w':=by
 obtain⟨a0,k0,a1,k1,a2,k2,a3,k3,a4,k4,a5,k5,a6,k6,rfl,h⟩:=h;obtain⟨d0,e0,d1,e1,d2,e2,d3,e3,d4,e4,d5,e5,d6,e6,rfl,h'⟩:=h'
 show Calls prog 18 #[.agg #[.int .i64 U.nu,.int .i64 U.of,.bool U.up,.int .i64 U.sf.pr,.int .i64 U.sf.kn,.slice a0 U.sf.sl.length k0,.int .i64 U.dk.pr,.int .i64 U.dk.kn,.slice a1 U.dk.sl.length k1,.slice a2 U.he.length k2,.slice a3 U.wi.length k3,.bool U.ld,.bool U.ty,.int .i64 U.ba,.slice a4 U.ye.length k4,.slice a5 U.be.length k5,.slice a6 U.ac.length k6,.int .i64 U.hd],.agg #[.int .i64 U.nu,.int .i64 U.of,.bool U.up,.int .i64 U.sf.pr,.int .i64 U.sf.kn,.slice d0 U.sf.sl.length e0,.int .i64 U.dk.pr,.int .i64 U.dk.kn,.slice d1 U.dk.sl.length e1,.slice d2 U.he.length e2,.slice d3 U.wi.length e3,.bool U.ld,.bool U.ty,.int .i64 U.ba,.slice d4 U.ye.length e4,.slice d5 U.be.length e5,.slice d6 U.ac.length e6,.int .i64 U.hd]] w _
 have HL:=Zaa h;have HR:=Zaa h';clear h h';go_enter func18,ntmps18;go_wp2_with fail;generalize hWa:(World.alloc (w.alloc _) _)=Wa;have HB:Hd (Zw_ w Wa):=by unfold Hd;rw [<- hWa];exact (Zab w _).alloc (by simp) _
 have FX:Hd (Box Wa w.heap.size #[.int .i64 U.nu,.int .i64 U.of,.bool U.up,.int .i64 U.sf.pr,.int .i64 U.sf.kn,.slice a0 U.sf.sl.length k0,.int .i64 U.dk.pr,.int .i64 U.dk.kn,.slice a1 U.dk.sl.length k1,.slice a2 U.he.length k2,.slice a3 U.wi.length k3,.bool U.ld,.bool U.ty,.int .i64 U.ba,.slice a4 U.ye.length k4,.slice a5 U.be.length k5,.slice a6 U.ac.length k6,.int .i64 U.hd]):=by unfold Hd;rw [<- hWa];exact (Box.new _ _ _ _ rfl).on (Zab _ _)
 have FY:Hd (Box Wa (w.heap.size+1) #[.int .i64 U.nu,.int .i64 U.of,.bool U.up,.int .i64 U.sf.pr,.int .i64 U.sf.kn,.slice d0 U.sf.sl.length e0,.int .i64 U.dk.pr,.int .i64 U.dk.kn,.slice d1 U.dk.sl.length e1,.slice d2 U.he.length e2,.slice d3 U.wi.length e3,.bool U.ld,.bool U.ty,.int .i64 U.ba,.slice d4 U.ye.length e4,.slice d5 U.be.length e5,.slice d6 U.ac.length e6,.int .i64 U.hd]):=by unfold Hd;rw [<- hWa];exact Box.new _ _ _ _ (by simp)
 clear hWa;refine (ZjV lo lo' _ _ U.sf _ (⟨_,_,rfl,⟨(HL.o.below HB.o).l0⟩⟩) (⟨_,_,rfl,⟨(HR.o.below HB.o).l0⟩⟩)).mono ?_;rintro e w0 ⟨rfl,hb⟩;replace HB:=Zaa (bt HB.o hb);replace FX:=Zaa (FX.o.on hb);replace FY:=Zaa (FY.o.on hb);clear hb;have g0:=FX.o.cell;have g1:=FY.o.cell;go_wp2_with fail;clear g0 g1;refine (ZjV lo lo' _ _ U.dk _ (⟨_,_,rfl,⟨(HL.o.below HB.o).l1⟩⟩) (⟨_,_,rfl,⟨(HR.o.below HB.o).l1⟩⟩)).mono ?_;rintro e w1 ⟨rfl,hb⟩;replace HB:=Zaa (bt HB.o hb);replace FX:=Zaa (FX.o.on hb);replace FY:=Zaa (FY.o.on hb);clear hb;have g0:=FX.o.cell;have g1:=FY.o.cell;go_wp2_with fail;clear g0 g1;refine (ZcK lo lo' _ _ U.he _ ((HL.o.below HB.o).l2) ((HR.o.below HB.o).l2)).mono ?_;rintro e w2 ⟨rfl,hb⟩;replace HB:=Zaa (bt HB.o hb);replace FX:=Zaa (FX.o.on hb);replace FY:=Zaa (FY.o.on hb);clear hb;have g0:=FX.o.cell
 have g1:=FY.o.cell;go_wp2_with fail;clear g0 g1;refine (Zg8 lo lo' _ _ U.wi _ ((HL.o.below HB.o).l3) ((HR.o.below HB.o).l3)).mono ?_;rintro e w3 ⟨rfl,hb⟩;replace HB:=Zaa (bt HB.o hb);replace FX:=Zaa (FX.o.on hb);replace FY:=Zaa (FY.o.on hb);clear hb;have g0:=FX.o.cell;have g1:=FY.o.cell;go_wp2_with fail;clear g0 g1;refine (ZeC lo lo' _ _ U.ye _ ((HL.o.below HB.o).l4) ((HR.o.below HB.o).l4)).mono ?_;rintro e w4 ⟨rfl,hb⟩;replace HB:=Zaa (bt HB.o hb);replace FX:=Zaa (FX.o.on hb);replace FY:=Zaa (FY.o.on hb);clear hb;have g0:=FX.o.cell;have g1:=FY.o.cell;go_wp2_with fail;clear g0 g1;refine (Zdp lo lo' _ _ U.be _ ((HL.o.below HB.o).l5) ((HR.o.below HB.o).l5)).mono ?_;rintro e w5 ⟨rfl,hb⟩;replace HB:=Zaa (bt HB.o hb);replace FX:=Zaa (FX.o.on hb);replace FY:=Zaa (FY.o.on hb);clear hb;have g0:=FX.o.cell
 have g1:=FY.o.cell;go_wp2_with fail;clear g0 g1;refine (Zg7 lo lo' _ _ U.ac _ ((HL.o.below HB.o).l6) ((HR.o.below HB.o).l6)).mono ?_;rintro e w6 ⟨rfl,hb⟩;replace HB:=Zaa (bt HB.o hb);replace FX:=Zaa (FX.o.on hb);replace FY:=Zaa (FY.o.on hb);clear hb;have g0:=FX.o.cell;have g1:=FY.o.cell;go_wp2;go_ret;exact⟨rfl,HB.o⟩
end Go.Proofs.YtdeammfdkaomlaaGreat
