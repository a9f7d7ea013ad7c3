import Derived.Test.YtdeammfdkaomlaaGreatM17
import Derived.Test.YtdeammfdkaomlaaGreatM21
open Go.Proofs.Tryz
namespace Go.Proofs.YtdeammfdkaomlaaGreat
open Go.RowKit Go.Deep
structure Cpn (w:World) (lo:Nat) (c:Nat->Nat×Nat) (v0 v1 v2 v3 v4 v5 v6:Value) (U:Rr):Prop where
 seg:∀ i,i < 7->lo<=(c i).1/\(c i).2<=w.heap.size
 ap:∀ i j,i < 7->j < 7->i≠j->(c i).2<=(c j).1\/(c j).2<=(c i).1
 o0:Zay rsL 2 w (c 0).1 (c 0).2 v0 U.sf.sl
 o1:Zay rsL 2 w (c 1).1 (c 1).2 v1 U.dk.sl
 o2:∃ L,ZbO PM mxL 8 w (c 2).1 (c 2).2 v2 L/\L.map (·.1)=U.he
 o3:Zay tyL 1 w (c 3).1 (c 3).2 v3 U.wi
 o4:Zay inL 1 w (c 4).1 (c 4).2 v4 U.ye
 o5:Zay rsL 2 w (c 5).1 (c 5).2 v5 U.be
 o6:∃ L,ZbO PA axL 2 w (c 6).1 (c 6).2 v6 L/\L.map (·.1)=U.ac
def rrF (U:Rr) (b:Nat->Option Addr) (m:Nat->Nat):List Value:=rrL U (b 0) (m 0) (b 1) (m 1) (b 2) (m 2) (b 3) (m 3) (b 4) (m 4) (b 5) (m 5) (b 6) (m 6)
variable {lo γ i m':Nat} {w w':World} {v0 v1 v2 v3 v4 v5 v6 v':Value} {U U':Rr} {L':List Rs} {a':Option Addr}
structure CpS (lo:Nat) (w:World) (S:Nat->Nat->Prop) (v0 v1 v2 v3 v4 v5 v6:Value) (U:Rr):Prop where
 seg:∀ i,i < 7->∀ k,S i k->lo<=k/\k < w.heap.size
 ap:∀ i j,i < 7->j < 7->i≠j->∀ k,S i k->¬ S j k
 o0:NRS rsL 2 w (S 0) v0 U.sf.sl
 o1:NRS rsL 2 w (S 1) v1 U.dk.sl
 o2:∃ L,NGS PM mxL 8 w (S 2) v2 L/\L.map (·.1)=U.he
 o3:NRS tyL 1 w (S 3) v3 U.wi
 o4:NRS inL 1 w (S 4) v4 U.ye
 o5:NRS rsL 2 w (S 5) v5 U.be
 o6:∃ L,NGS PA axL 2 w (S 6) v6 L/\L.map (·.1)=U.ac
theorem CpS.kept {K:Nat->Prop}{S:Nat->Nat->Prop} (h:CpS lo w S v0 v1 v2 v3 v4 v5 v6 U) (hk:Zag K w w') (ho:∀ i,i < 7->∀ k,S i k->K k):CpS lo w' S v0 v1 v2 v3 v4 v5 v6 U:=by
 obtain⟨L2,h2,e2⟩:=h.o2;obtain⟨L6,h6,e6⟩:=h.o6;exact⟨fun i hi k hS=>⟨(h.seg i hi k hS).1,Zk_ (h.seg i hi k hS).2 hk.size⟩,h.ap,h.o0.kept hk (ho 0 (by decide)),h.o1.kept hk (ho 1 (by decide)),⟨L2,h2.kept Zdn hk (ho 2 (by decide)),e2⟩,h.o3.kept hk (ho 3 (by decide)),h.o4.kept hk (ho 4 (by decide)),h.o5.kept hk (ho 5 (by decide)),⟨L6,h6.kept Zdm hk (ho 6 (by decide)),e6⟩⟩
theorem CpS.below {S:Nat->Nat->Prop} (h:CpS lo w S v0 v1 v2 v3 v4 v5 v6 U) (hb:Zw_ w w'):CpS lo w' S v0 v1 v2 v3 v4 v5 v6 U:=
 h.kept (Zag.below hb fun _ h=>h) fun i hi k hS=>(h.seg i hi k hS).2
theorem Cpn.sets {c:Nat->Nat×Nat} (h:Cpn w lo c v0 v1 v2 v3 v4 v5 v6 U):CpS lo w (fun i k=>(c i).1<=k/\k < (c i).2) v0 v1 v2 v3 v4 v5 v6 U:=by
 obtain⟨L2,h2,e2⟩:=h.o2;obtain⟨L6,h6,e6⟩:=h.o6;exact⟨fun i hi k hS=>by have:=h.seg i hi;omega,fun i j hi hj hne k h1 h2=>by have:=h.ap i j hi hj hne;omega,h.o0.set1 (fun k a b=>⟨a,b⟩),h.o1.set1 (fun k a b=>⟨a,b⟩),⟨L2,h2.set1 Zlc (fun k a b=>⟨a,b⟩),e2⟩,h.o3.set1 (fun k a b=>⟨a,b⟩),h.o4.set1 (fun k a b=>⟨a,b⟩),h.o5.set1 (fun k a b=>⟨a,b⟩),⟨L6,h6.set1 Zli (fun k a b=>⟨a,b⟩),e6⟩⟩
theorem CpS.own {S:Nat->Nat->Prop} (h:CpS lo w S v0 v1 v2 v3 v4 v5 v6 U) (hz:RrZ U):ZkY lo w.heap.size w S v0 v1 v2 v3 v4 v5 v6 U:=by
 obtain⟨L2,h2,e2⟩:=h.o2;obtain⟨L6,h6,e6⟩:=h.o6;exact⟨Nat.le_refl _,h.seg,h.ap,h.o0.rss hz.z0,h.o1.rss hz.z1,h2.rms e2 hz.z2,h.o3.rts hz.z3,h.o4.ris,h.o5.rss hz.z5,h6.ras e6⟩
abbrev CpG (lo:Nat) (w:World) (S:Nat->Nat->Prop) (b:Nat->Option Addr) (m:Nat->Nat) (U:Rr):Prop:=
 CpS lo w S (.slice (b 0) U.sf.sl.length (m 0)) (.slice (b 1) U.dk.sl.length (m 1)) (.slice (b 2) U.he.length (m 2)) (.slice (b 3) U.wi.length (m 3)) (.slice (b 4) U.ye.length (m 4)) (.slice (b 5) U.be.length (m 5)) (.slice (b 6) U.ac.length (m 6)) U
structure Rz (K:Nat->Prop) (lo:Nat) (w:World) (γ:Nat) (b:Nat->Option Addr) (m:Nat->Nat) (S:Nat->Nat->Prop) (U:Rr):Prop where
 box:Box w γ (rrF U b m).toArray
 cp:CpG lo w S b m U
 low:lo<=w.heap.size
 far:∀ i,i < 7->¬ S i γ
 prot:∀ k,K k->k < w.heap.size/\k≠γ/\∀ i,i < 7->¬ S i k
def Wz (K:Nat->Prop) (lo:Nat) (w:World) (γ:Nat) (U:Rr):Prop:=∃ b m S,Rz K lo w γ b m S U
structure Cz (K:Nat->Prop) (lo:Nat) (w:World) (b:Nat->Option Addr) (m:Nat->Nat) (S:Nat->Nat->Prop) (U:Rr):Prop where
 cp:CpG lo w S b m U
 low:lo<=w.heap.size
 prot:∀ k,K k->k < w.heap.size/\∀ i,i < 7->¬ S i k
theorem Rz.cz {K:Nat->Prop}{b:Nat->Option Addr}{m:Nat->Nat}{S:Nat->Nat->Prop} (h:Rz K lo w γ b m S U):Cz K lo w b m S U:=⟨h.cp,h.low,fun k hk=>⟨(h.prot k hk).1,(h.prot k hk).2.2⟩⟩
theorem Cz.less {K K':Nat->Prop}{b:Nat->Option Addr}{m:Nat->Nat}{S:Nat->Nat->Prop} (h:Cz K lo w b m S U) (hk:∀ k,K' k->K k):Cz K' lo w b m S U:=⟨h.cp,h.low,fun k h'=>h.prot k (hk k h')⟩
theorem Cz.rz {K K':Nat->Prop}{b:Nat->Option Addr}{m:Nat->Nat}{S:Nat->Nat->Prop} (h:Cz K lo w b m S U) (hb:Zw_ w w') (hx:Box w' γ (rrF U b m).toArray) (hγ:w.heap.size<=γ) (hk:∀ k,K' k->K k\/(w.heap.size<=k/\k < w'.heap.size/\k≠γ)):Rz K' lo w' γ b m S U:=by
 have hsz:=hb.size;refine⟨hx,h.cp.below hb,Nat.le_trans h.low hsz,fun i hi hS=>by have:=(h.cp.seg i hi γ hS).2;omega,fun k hk'=>?_⟩
 rcases hk k hk' with h1 | ⟨h1,h2,h3⟩
 . have:=h.prot k h1
   exact⟨by omega,by omega,this.2⟩
 . exact⟨h2,h3,fun i hi hS=>by have:=(h.cp.seg i hi k hS).2;omega⟩
theorem Rz.shield {K K':Nat->Prop}{b:Nat->Option Addr}{m:Nat->Nat}{S:Nat->Nat->Prop} (h:Rz K lo w γ b m S U) (hb:Zw_ w w') (hk:∀ k,K' k->K k\/(w.heap.size<=k/\k < w'.heap.size)):Rz K' lo w' γ b m S U:=by
 have hsz:=hb.size;refine⟨h.box.on hb,h.cp.below hb,Nat.le_trans h.low hsz,h.far,fun k hk'=>?_⟩
 rcases hk k hk' with h1 | ⟨h1,h2⟩
 . have:=h.prot k h1
   exact⟨by omega,this.2⟩
 . exact⟨h2,by have:=h.box.lt;omega,fun i hi hS=>by have:=(h.cp.seg i hi k hS).2;omega⟩
theorem Rz.on {K:Nat->Prop}{b:Nat->Option Addr}{m:Nat->Nat}{S:Nat->Nat->Prop} (h:Rz K lo w γ b m S U) (hb:Zw_ w w'):Rz K lo w' γ b m S U:=h.shield hb fun _ h=>Or.inl h
theorem Wz.shield {K K':Nat->Prop} (h:Wz K lo w γ U) (hb:Zw_ w w') (hk:∀ k,K' k->K k\/(w.heap.size<=k/\k < w'.heap.size)):Wz K' lo w' γ U:=by
 obtain⟨b,m,S,h⟩:=h;exact⟨b,m,S,h.shield hb hk⟩
theorem Wz.less {K K':Nat->Prop} (h:Wz K lo w γ U) (hk:∀ k,K' k->K k):Wz K' lo w γ U:=h.shield Zb_ fun k h=>Or.inl (hk k h)
theorem Rz.other {K:Nat->Prop}{b:Nat->Option Addr}{m:Nat->Nat}{S:Nat->Nat->Prop} (h:Rz K lo w γ b m S U) {β:Nat} (hβ:K β) (ht:Zad β (β+1) w w'):Rz K lo w' γ b m S U:=by
 have hp:=h.prot β hβ;have hsz:=ht.size;refine⟨h.box.tch2 ht (by have:=hp.2.1;omega),h.cp.kept (K:=fun k=>k < w.heap.size/\(k < β\/β+1<=k)) (Zag.touch ht fun _ h=>h) (fun i hi k hS=>⟨(h.cp.seg i hi k hS).2,?_⟩),Nat.le_trans h.low hsz,h.far,fun k hk=>by have:=h.prot k hk;exact⟨by omega,this.2⟩⟩
 by_cases e:k=β
 . subst e;exact absurd hS (hp.2.2 i hi)
 . omega
theorem Rz.scal {K:Nat->Prop}{b:Nat->Option Addr}{m:Nat->Nat}{S:Nat->Nat->Prop} (h:Rz K lo w γ b m S U) {j:Nat} {v:Value} (hj:j < (rrF U b m).toArray.size) (he:(rrF U b m).toArray.set j v hj=(rrF U' b m).toArray) (hc:∀ W,CpG lo W S b m U->CpG lo W S b m U') :
 Rz K lo (w.setCell ⟨γ,j,none⟩ v) γ b m S U'/\Zag K w (w.setCell ⟨γ,j,none⟩ v):=by
 have ht:Zad γ (γ+1) w (w.setCell ⟨γ,j,none⟩ v):=Zad.setCell _ _ _ _ _ ⟨Nat.le_refl _,Nat.lt_succ_self _⟩;refine⟨⟨by rw [<- he];exact h.box.set v hj,hc _ (h.cp.kept (K:=fun k=>k < w.heap.size/\(k < γ\/γ+1<=k)) (Zag.touch ht fun _ h=>h) (fun i hi k hS=>⟨(h.cp.seg i hi k hS).2,?_⟩)),Nat.le_trans h.low ht.size,h.far,fun k hk=>?_⟩,Zag.touch ht fun k hk=>?_⟩
 . by_cases e:k=γ
   . subst e;exact absurd hS (h.far i hi)
   . omega
 . have:=h.prot k hk
   exact⟨Zk_ this.1 ht.size,this.2⟩
 . have:=h.prot k hk
   omega
theorem Cz.at {K:Nat->Prop}{b:Nat->Option Addr}{m:Nat->Nat}{S:Nat->Nat->Prop} (h:Cz K lo w b m S U) (hz:RrZ U):RrC lo w (rrF U b m) U:=
 Zfb.at (hi:=w.heap.size) ⟨b 0,m 0,b 1,m 1,b 2,m 2,b 3,m 3,b 4,m 4,b 5,m 5,b 6,m 6,S,rfl,h.cp.own hz⟩
theorem Rz.absorb {K:Nat->Prop}{b:Nat->Option Addr}{m:Nat->Nat}{S:Nat->Nat->Prop} (h:Rz K lo w γ b m S U) (E:Nat->Prop) (hE:∀ k,E k->lo<=k/\k < w.heap.size/\k≠γ/\¬ K k/\∀ i,i < 7->¬ S i k):Rz K lo w γ b m (upd S 2 (fun k=>S 2 k\/E k)) U:=by
 obtain⟨L2,h2,e2⟩:=h.cp.o2;refine⟨h.box,⟨fun i hi k hS=>?_,fun i j hi hj hne k hS hS'=>?_,h.cp.o0,h.cp.o1,⟨L2,h2.wide fun k h=>Or.inl h,e2⟩,h.cp.o3,h.cp.o4,h.cp.o5,h.cp.o6⟩,h.low,fun i hi hS=>?_,fun k hk=>⟨(h.prot k hk).1,(h.prot k hk).2.1,fun i hi hS=>?_⟩⟩
 . by_cases e:i=2
   . subst e
     rw [Zam] at hS
     rcases hS with hS | hS
     . exact h.cp.seg 2 (by decide) k hS
     . exact⟨(hE k hS).1,(hE k hS).2.1⟩
   . rw [ZaG _ _ e] at hS
     exact h.cp.seg i hi k hS
 . by_cases e:i=2
   . subst e
     rw [Zam] at hS;rw [ZaG _ _ (Ne.symm hne)] at hS'
     rcases hS with hS | hS
     . exact h.cp.ap 2 j hi hj hne k hS hS'
     . exact (hE k hS).2.2.2.2 j hj hS'
   . rw [ZaG _ _ e] at hS
     by_cases e':j=2
     . subst e'
       rw [Zam] at hS'
       rcases hS' with hS' | hS'
       . exact h.cp.ap i 2 hi hj hne k hS hS'
       . exact (hE k hS').2.2.2.2 i hi hS
     . rw [ZaG _ _ e'] at hS'
       exact h.cp.ap i j hi hj hne k hS hS'
 . by_cases e:i=2
   . subst e
     rw [Zam] at hS
     rcases hS with hS | hS
     . exact h.far 2 (by decide) hS
     . exact (hE γ hS).2.2.1 rfl
   . rw [ZaG _ _ e] at hS
     exact h.far i hi hS
 . by_cases e:i=2
   . subst e
     rw [Zam] at hS
     rcases hS with hS | hS
     . exact (h.prot k hk).2.2 2 (by decide) hS
     . exact (hE k hS).2.2.2.1 hk
   . rw [ZaG _ _ e] at hS
     exact (h.prot k hk).2.2 i hi hS
theorem Zkt {S:Nat->Nat->Prop} (h:∀ j,j < 7->∀ k,S j k->lo<=k/\k < w.heap.size) (hs:w.heap.size<=w'.heap.size) (hl:lo<=w.heap.size):∀ j,j < 7->∀ k,upd S i (Gr (S i) w w') j k->lo<=k/\k < w'.heap.size:=fun j hj k hS=>by
 by_cases e:j=i
 . subst e
   rw [Zam] at hS
   rcases hS with hS | hS
   . have:=h _ hj k hS;omega
   . omega
 . rw [ZaG _ _ e] at hS
   have:=h j hj k hS
   omega
theorem Zlf {x:Nat}{S:Nat->Nat->Prop} (h:∀ j,j < 7->¬ S j x) (hx:x < w.heap.size):∀ j,j < 7->¬ upd S i (Gr (S i) w w') j x:=fun j hj hS=>by
 by_cases e:j=i
 . subst e
   rw [Zam] at hS
   rcases hS with hS | hS
   . exact h _ hj hS
   . omega
 . rw [ZaG _ _ e] at hS
   exact h j hj hS
theorem apG {S:Nat->Nat->Prop} (h:∀ j,j < 7->∀ k,S j k->lo<=k/\k < w.heap.size) (ha:∀ i j,i < 7->j < 7->i≠j->∀ k,S i k->¬ S j k):∀ j l,j < 7->l < 7->j≠l->∀ k,upd S i (Gr (S i) w w') j k->¬ upd S i (Gr (S i) w w') l k:=fun j l hj hl hne k hS hS'=>by
 by_cases e:j=i
 . subst e
   rw [Zam] at hS;rw [ZaG _ _ (Ne.symm hne)] at hS'
   rcases hS with hS | hS
   . exact ha _ l hj hl hne k hS hS'
   . have:=h l hl k hS';omega
 . rw [ZaG _ _ e] at hS
   by_cases e':l=i
   . subst e'
     rw [Zam] at hS'
     rcases hS' with hS' | hS'
     . exact ha j _ hj hl hne k hS hS'
     . have:=h j hj k hS;omega
   . rw [ZaG _ _ e'] at hS'
     exact ha j l hj hl hne k hS hS'
theorem Rz.partG {K:Nat->Prop}{c:Nat}{b b':Nat->Option Addr}{m m':Nat->Nat}{S:Nat->Nat->Prop}{v:Value} (h:Rz K lo w γ b m S U) (hi:i < 7) (ht:Zaj (S i) w w') (hcp:CpG lo w' (upd S i (Gr (S i) w w')) b' m' U') (hc:c < (rrF U b m).toArray.size) (he:(rrF U b m).toArray.set c v hc=(rrF U' b' m').toArray) :
 Rz K lo (w'.setCell ⟨γ,c,none⟩ v) γ b' m' (upd S i (Gr (S i) w w')) U'/\Zag K w (w'.setCell ⟨γ,c,none⟩ v):=by
 have hsz:=ht.size;have ht2:Zad γ (γ+1) w' (w'.setCell ⟨γ,c,none⟩ v):=Zad.setCell _ _ _ _ _ ⟨Nat.le_refl _,Nat.lt_succ_self _⟩;have hsz2:=ht2.size;have hγ:=h.box.lt;have hk:Zag (fun k=>k < w.heap.size/\¬ S i k) w w':=Zag.touchS ht fun _ h=>h
 have hfar:=Zlf (i:=i) (w':=w') h.far hγ;refine⟨⟨?_,hcp.kept (K:=fun k=>k < w'.heap.size/\(k < γ\/γ+1<=k)) (Zag.touch ht2 fun _ h=>h) (fun j hj k hS=>⟨(hcp.seg j hj k hS).2,?_⟩),by have:=h.low;omega,hfar,fun k hk=>?_⟩,?_⟩
 . rw [<- he];exact (h.box.kept hk ⟨hγ,h.far i hi⟩).set v hc
 . by_cases e:k=γ
   . subst e;exact absurd hS (hfar j hj)
   . omega
 . have:=h.prot k hk
   exact⟨by omega,this.2.1,Zlf this.2.2 this.1⟩
 . refine (Zag.touchS ht fun k hk=>?_).trans (Zag.touch ht2 fun k hk=>?_)
   . have:=h.prot k hk
     exact⟨this.1,this.2.2 i hi⟩
   . have:=h.prot k hk
     omega
theorem CpS.grow0 {S:Nat->Nat->Prop} (h:CpS lo w S v0 v1 v2 v3 v4 v5 v6 U) (ht:Zaj (S 0) w w') (hlo:lo<=w.heap.size) (hr:NRS rsL 2 w' (Gr (S 0) w w') v' L'):CpS lo w' (upd S 0 (Gr (S 0) w w')) v' v1 v2 v3 v4 v5 v6 { U with sf:={ U.sf with sl:=L' } }:=by
 have hk:Zag (fun k=>k < w.heap.size/\¬ S 0 k) w w':=Zag.touchS ht fun _ h=>h
 have q:∀ j,j < 7->j≠0->∀ x,S j x->x < w.heap.size/\¬ S 0 x:=fun j hj hn x hx=>⟨(h.seg j hj x hx).2,h.ap j 0 hj (by decide) hn x hx⟩
 exact⟨Zkt h.seg ht.size hlo,apG h.seg h.ap,hr,h.o1.kept hk (q 1 (by decide) (by decide)),(by obtain⟨L,h2,e⟩:=h.o2;exact⟨L,h2.kept Zdn hk (q 2 (by decide) (by decide)),e⟩),h.o3.kept hk (q 3 (by decide) (by decide)),h.o4.kept hk (q 4 (by decide) (by decide)),h.o5.kept hk (q 5 (by decide) (by decide)),(by obtain⟨L,h2,e⟩:=h.o6;exact⟨L,h2.kept Zdm hk (q 6 (by decide) (by decide)),e⟩)⟩
theorem Rz.part0 {K:Nat->Prop}{b:Nat->Option Addr}{m:Nat->Nat}{S:Nat->Nat->Prop} (h:Rz K lo w γ b m S U) (ht:Zaj (S 0) w w') (hr:NRS rsL 2 w' (Gr (S 0) w w') (.slice a' L'.length m') L') :
 Rz K lo (w'.setCell ⟨γ,5,none⟩ (.slice a' L'.length m')) γ (upd b 0 a') (upd m 0 m') (upd S 0 (Gr (S 0) w w')) { U with sf:={ U.sf with sl:=L' } }/\Zag K w (w'.setCell ⟨γ,5,none⟩ (.slice a' L'.length m')):=
 Rz.partG h (by decide) ht (CpS.grow0 (v':=.slice a' L'.length m') h.cp ht h.low hr) (by show 5 < 18;omega) rfl
theorem CpS.grow1 {S:Nat->Nat->Prop} (h:CpS lo w S v0 v1 v2 v3 v4 v5 v6 U) (ht:Zaj (S 1) w w') (hlo:lo<=w.heap.size) (hr:NRS rsL 2 w' (Gr (S 1) w w') v' L'):CpS lo w' (upd S 1 (Gr (S 1) w w')) v0 v' v2 v3 v4 v5 v6 { U with dk:={ U.dk with sl:=L' } }:=by
 have hk:Zag (fun k=>k < w.heap.size/\¬ S 1 k) w w':=Zag.touchS ht fun _ h=>h
 have q:∀ j,j < 7->j≠1->∀ x,S j x->x < w.heap.size/\¬ S 1 x:=fun j hj hn x hx=>⟨(h.seg j hj x hx).2,h.ap j 1 hj (by decide) hn x hx⟩
 exact⟨Zkt h.seg ht.size hlo,apG h.seg h.ap,h.o0.kept hk (q 0 (by decide) (by decide)),hr,(by obtain⟨L,h2,e⟩:=h.o2;exact⟨L,h2.kept Zdn hk (q 2 (by decide) (by decide)),e⟩),h.o3.kept hk (q 3 (by decide) (by decide)),h.o4.kept hk (q 4 (by decide) (by decide)),h.o5.kept hk (q 5 (by decide) (by decide)),(by obtain⟨L,h2,e⟩:=h.o6;exact⟨L,h2.kept Zdm hk (q 6 (by decide) (by decide)),e⟩)⟩
theorem Rz.part1 {K:Nat->Prop}{b:Nat->Option Addr}{m:Nat->Nat}{S:Nat->Nat->Prop} (h:Rz K lo w γ b m S U) (ht:Zaj (S 1) w w') (hr:NRS rsL 2 w' (Gr (S 1) w w') (.slice a' L'.length m') L') :
 Rz K lo (w'.setCell ⟨γ,8,none⟩ (.slice a' L'.length m')) γ (upd b 1 a') (upd m 1 m') (upd S 1 (Gr (S 1) w w')) { U with dk:={ U.dk with sl:=L' } }/\Zag K w (w'.setCell ⟨γ,8,none⟩ (.slice a' L'.length m')):=
 Rz.partG h (by decide) ht (CpS.grow1 (v':=.slice a' L'.length m') h.cp ht h.low hr) (by show 8 < 18;omega) rfl
theorem CpS.grow2 {S:Nat->Nat->Prop}{L':List Rm} (h:CpS lo w S v0 v1 v2 v3 v4 v5 v6 U) (ht:Zaj (S 2) w w') (hlo:lo<=w.heap.size) (hr:(∃ L,NGS PM mxL 8 w' (Gr (S 2) w w') v' L/\L.map (·.1)=L')):CpS lo w' (upd S 2 (Gr (S 2) w w')) v0 v1 v' v3 v4 v5 v6 { U with he:=L' }:=by
 have hk:Zag (fun k=>k < w.heap.size/\¬ S 2 k) w w':=Zag.touchS ht fun _ h=>h
 have q:∀ j,j < 7->j≠2->∀ x,S j x->x < w.heap.size/\¬ S 2 x:=fun j hj hn x hx=>⟨(h.seg j hj x hx).2,h.ap j 2 hj (by decide) hn x hx⟩
 exact⟨Zkt h.seg ht.size hlo,apG h.seg h.ap,h.o0.kept hk (q 0 (by decide) (by decide)),h.o1.kept hk (q 1 (by decide) (by decide)),hr,h.o3.kept hk (q 3 (by decide) (by decide)),h.o4.kept hk (q 4 (by decide) (by decide)),h.o5.kept hk (q 5 (by decide) (by decide)),(by obtain⟨L,h2,e⟩:=h.o6;exact⟨L,h2.kept Zdm hk (q 6 (by decide) (by decide)),e⟩)⟩
theorem Rz.part2 {K:Nat->Prop}{b:Nat->Option Addr}{m:Nat->Nat}{S:Nat->Nat->Prop}{L':List Rm} (h:Rz K lo w γ b m S U) (ht:Zaj (S 2) w w') (hr:(∃ L,NGS PM mxL 8 w' (Gr (S 2) w w') (.slice a' L'.length m') L/\L.map (·.1)=L')) :
 Rz K lo (w'.setCell ⟨γ,9,none⟩ (.slice a' L'.length m')) γ (upd b 2 a') (upd m 2 m') (upd S 2 (Gr (S 2) w w')) { U with he:=L' }/\Zag K w (w'.setCell ⟨γ,9,none⟩ (.slice a' L'.length m')):=
 Rz.partG h (by decide) ht (CpS.grow2 (v':=.slice a' L'.length m') h.cp ht h.low hr) (by show 9 < 18;omega) rfl
theorem CpS.grow3 {S:Nat->Nat->Prop}{L':List Zy_} (h:CpS lo w S v0 v1 v2 v3 v4 v5 v6 U) (ht:Zaj (S 3) w w') (hlo:lo<=w.heap.size) (hr:NRS tyL 1 w' (Gr (S 3) w w') v' L'):CpS lo w' (upd S 3 (Gr (S 3) w w')) v0 v1 v2 v' v4 v5 v6 { U with wi:=L' }:=by
 have hk:Zag (fun k=>k < w.heap.size/\¬ S 3 k) w w':=Zag.touchS ht fun _ h=>h
 have q:∀ j,j < 7->j≠3->∀ x,S j x->x < w.heap.size/\¬ S 3 x:=fun j hj hn x hx=>⟨(h.seg j hj x hx).2,h.ap j 3 hj (by decide) hn x hx⟩
 exact⟨Zkt h.seg ht.size hlo,apG h.seg h.ap,h.o0.kept hk (q 0 (by decide) (by decide)),h.o1.kept hk (q 1 (by decide) (by decide)),(by obtain⟨L,h2,e⟩:=h.o2;exact⟨L,h2.kept Zdn hk (q 2 (by decide) (by decide)),e⟩),hr,h.o4.kept hk (q 4 (by decide) (by decide)),h.o5.kept hk (q 5 (by decide) (by decide)),(by obtain⟨L,h2,e⟩:=h.o6;exact⟨L,h2.kept Zdm hk (q 6 (by decide) (by decide)),e⟩)⟩
theorem Rz.part3 {K:Nat->Prop}{b:Nat->Option Addr}{m:Nat->Nat}{S:Nat->Nat->Prop}{L':List Zy_} (h:Rz K lo w γ b m S U) (ht:Zaj (S 3) w w') (hr:NRS tyL 1 w' (Gr (S 3) w w') (.slice a' L'.length m') L') :
 Rz K lo (w'.setCell ⟨γ,10,none⟩ (.slice a' L'.length m')) γ (upd b 3 a') (upd m 3 m') (upd S 3 (Gr (S 3) w w')) { U with wi:=L' }/\Zag K w (w'.setCell ⟨γ,10,none⟩ (.slice a' L'.length m')):=
 Rz.partG h (by decide) ht (CpS.grow3 (v':=.slice a' L'.length m') h.cp ht h.low hr) (by show 10 < 18;omega) rfl
theorem CpS.grow4 {S:Nat->Nat->Prop}{L':List Int} (h:CpS lo w S v0 v1 v2 v3 v4 v5 v6 U) (ht:Zaj (S 4) w w') (hlo:lo<=w.heap.size) (hr:NRS inL 1 w' (Gr (S 4) w w') v' L'):CpS lo w' (upd S 4 (Gr (S 4) w w')) v0 v1 v2 v3 v' v5 v6 { U with ye:=L' }:=by
 have hk:Zag (fun k=>k < w.heap.size/\¬ S 4 k) w w':=Zag.touchS ht fun _ h=>h
 have q:∀ j,j < 7->j≠4->∀ x,S j x->x < w.heap.size/\¬ S 4 x:=fun j hj hn x hx=>⟨(h.seg j hj x hx).2,h.ap j 4 hj (by decide) hn x hx⟩
 exact⟨Zkt h.seg ht.size hlo,apG h.seg h.ap,h.o0.kept hk (q 0 (by decide) (by decide)),h.o1.kept hk (q 1 (by decide) (by decide)),(by obtain⟨L,h2,e⟩:=h.o2;exact⟨L,h2.kept Zdn hk (q 2 (by decide) (by decide)),e⟩),h.o3.kept hk (q 3 (by decide) (by decide)),hr,h.o5.kept hk (q 5 (by decide) (by decide)),(by obtain⟨L,h2,e⟩:=h.o6;exact⟨L,h2.kept Zdm hk (q 6 (by decide) (by decide)),e⟩)⟩
theorem Rz.part4 {K:Nat->Prop}{b:Nat->Option Addr}{m:Nat->Nat}{S:Nat->Nat->Prop}{L':List Int} (h:Rz K lo w γ b m S U) (ht:Zaj (S 4) w w') (hr:NRS inL 1 w' (Gr (S 4) w w') (.slice a' L'.length m') L') :
 Rz K lo (w'.setCell ⟨γ,14,none⟩ (.slice a' L'.length m')) γ (upd b 4 a') (upd m 4 m') (upd S 4 (Gr (S 4) w w')) { U with ye:=L' }/\Zag K w (w'.setCell ⟨γ,14,none⟩ (.slice a' L'.length m')):=
 Rz.partG h (by decide) ht (CpS.grow4 (v':=.slice a' L'.length m') h.cp ht h.low hr) (by show 14 < 18;omega) rfl
theorem CpS.grow5 {S:Nat->Nat->Prop} (h:CpS lo w S v0 v1 v2 v3 v4 v5 v6 U) (ht:Zaj (S 5) w w') (hlo:lo<=w.heap.size) (hr:NRS rsL 2 w' (Gr (S 5) w w') v' L'):CpS lo w' (upd S 5 (Gr (S 5) w w')) v0 v1 v2 v3 v4 v' v6 { U with be:=L' }:=by
 have hk:Zag (fun k=>k < w.heap.size/\¬ S 5 k) w w':=Zag.touchS ht fun _ h=>h
 have q:∀ j,j < 7->j≠5->∀ x,S j x->x < w.heap.size/\¬ S 5 x:=fun j hj hn x hx=>⟨(h.seg j hj x hx).2,h.ap j 5 hj (by decide) hn x hx⟩
 exact⟨Zkt h.seg ht.size hlo,apG h.seg h.ap,h.o0.kept hk (q 0 (by decide) (by decide)),h.o1.kept hk (q 1 (by decide) (by decide)),(by obtain⟨L,h2,e⟩:=h.o2;exact⟨L,h2.kept Zdn hk (q 2 (by decide) (by decide)),e⟩),h.o3.kept hk (q 3 (by decide) (by decide)),h.o4.kept hk (q 4 (by decide) (by decide)),hr,(by obtain⟨L,h2,e⟩:=h.o6;exact⟨L,h2.kept Zdm hk (q 6 (by decide) (by decide)),e⟩)⟩
theorem Rz.part5 {K:Nat->Prop}{b:Nat->Option Addr}{m:Nat->Nat}{S:Nat->Nat->Prop} (h:Rz K lo w γ b m S U) (ht:Zaj (S 5) w w') (hr:NRS rsL 2 w' (Gr (S 5) w w') (.slice a' L'.length m') L') :
 Rz K lo (w'.setCell ⟨γ,15,none⟩ (.slice a' L'.length m')) γ (upd b 5 a') (upd m 5 m') (upd S 5 (Gr (S 5) w w')) { U with be:=L' }/\Zag K w (w'.setCell ⟨γ,15,none⟩ (.slice a' L'.length m')):=
 Rz.partG h (by decide) ht (CpS.grow5 (v':=.slice a' L'.length m') h.cp ht h.low hr) (by show 15 < 18;omega) rfl
theorem CpS.grow6 {S:Nat->Nat->Prop}{L':List Ra} (h:CpS lo w S v0 v1 v2 v3 v4 v5 v6 U) (ht:Zaj (S 6) w w') (hlo:lo<=w.heap.size) (hr:(∃ L,NGS PA axL 2 w' (Gr (S 6) w w') v' L/\L.map (·.1)=L')):CpS lo w' (upd S 6 (Gr (S 6) w w')) v0 v1 v2 v3 v4 v5 v' { U with ac:=L' }:=by
 have hk:Zag (fun k=>k < w.heap.size/\¬ S 6 k) w w':=Zag.touchS ht fun _ h=>h
 have q:∀ j,j < 7->j≠6->∀ x,S j x->x < w.heap.size/\¬ S 6 x:=fun j hj hn x hx=>⟨(h.seg j hj x hx).2,h.ap j 6 hj (by decide) hn x hx⟩
 exact⟨Zkt h.seg ht.size hlo,apG h.seg h.ap,h.o0.kept hk (q 0 (by decide) (by decide)),h.o1.kept hk (q 1 (by decide) (by decide)),(by obtain⟨L,h2,e⟩:=h.o2;exact⟨L,h2.kept Zdn hk (q 2 (by decide) (by decide)),e⟩),h.o3.kept hk (q 3 (by decide) (by decide)),h.o4.kept hk (q 4 (by decide) (by decide)),h.o5.kept hk (q 5 (by decide) (by decide)),hr⟩
theorem Rz.part6 {K:Nat->Prop}{b:Nat->Option Addr}{m:Nat->Nat}{S:Nat->Nat->Prop}{L':List Ra} (h:Rz K lo w γ b m S U) (ht:Zaj (S 6) w w') (hr:(∃ L,NGS PA axL 2 w' (Gr (S 6) w w') (.slice a' L'.length m') L/\L.map (·.1)=L')) :
 Rz K lo (w'.setCell ⟨γ,16,none⟩ (.slice a' L'.length m')) γ (upd b 6 a') (upd m 6 m') (upd S 6 (Gr (S 6) w w')) { U with ac:=L' }/\Zag K w (w'.setCell ⟨γ,16,none⟩ (.slice a' L'.length m')):=
 Rz.partG h (by decide) ht (CpS.grow6 (v':=.slice a' L'.length m') h.cp ht h.low hr) (by show 16 < 18;omega) rfl
end Go.Proofs.YtdeammfdkaomlaaGreat
