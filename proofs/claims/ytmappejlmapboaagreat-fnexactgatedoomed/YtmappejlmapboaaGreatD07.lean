import Derived.Test.YtmappejlmapboaaGreatD02
import Derived.Test.YtmappejlmapboaaGreatD05
set_option maxHeartbeats 16000000
set_option maxRecDepth 100000
open Go.Proofs.Tryz
namespace Go.Proofs.YtmappejlmapboaaGreat
open Go.RowKit Go.Deep
section
variable {lo hi b off n:Nat} {w W W':World}
structure Zug (w:World) (b o:Nat) (wv:Value):Prop where
 lt:b < w.heap.size
 c0:(w.cell? ⟨b,o,none⟩).isSome=true
 cj:∀ j,j < 11->(w.cell? ⟨b,o+j,none⟩).isSome=true
 four:w.cell? ⟨b,o+4,none⟩=some wv
 fr:∀ i,w.frozen? ⟨b,i,none⟩=false
def Zsr (hi b off n:Nat) (w:World):Prop:=∀ i,i < n->∃ wv m,Zug w b (off+i*11) wv/\Zkp (b+1) hi w wv m/\m<=1048576
structure Mk (lo hi b off n:Nat) (w W:World):Prop where
 kept:ZbS lo hi w W
 inv:Zsr hi b off n W
theorem Mk.setp (h:Mk lo hi b off n w W) (hl:lo<=b) (hh:b < hi) (o:Nat) (ho:(W.cell? ⟨b,o,none⟩).isSome=true) (h4:∀ i,o≠off+i*11+4) (u:Value):Mk lo hi b off n w (W.setCell ⟨b,o,none⟩ u):=by
 have hk:=ZbS.setCell lo hi W ⟨b,o,none⟩ u ⟨hl,hh⟩ ho;refine⟨h.kept.trans hk,fun i hi'=>?_⟩;obtain⟨wv,m,hs,hw,hm⟩:=h.inv i hi';refine⟨wv,m,⟨Zk_ hs.lt hk.touch.size,hk.there _ hs.lt hs.c0,fun j hj=>hk.there _ hs.lt (hs.cj j hj),?_,fun i=>(hk.frz _ hs.lt).trans (hs.fr i)⟩,hw.kept hk,hm⟩;rw [show (W.setCell ⟨b,o,none⟩ u).cell? ⟨b,off+i*11+4,none⟩=W.cell? ⟨b,off+i*11+4,none⟩ from by apply World.cell?_setCell_other;simp only [ne_eq,Addr.mk.injEq,not_and];intro _ e;exact absurd e (h4 i)];exact hs.four
theorem Mk.set (h:Mk lo hi b off n w W) (hl:lo<=b) (hh:b < hi) (j c:Nat) (hj:j < n) (hc:c < 11) (h4:c≠4) (u:Value):Mk lo hi b off n w (W.setCell ⟨b,off+j*11+c,none⟩ u):=by
 obtain⟨wv,m,hs,_,_⟩:=h.inv j hj;exact h.setp hl hh _ (hs.cj c hc) (fun i=>by omega) u
theorem Mk.set0 (h:Mk lo hi b off n w W) (hl:lo<=b) (hh:b < hi) (j:Nat) (hj:j < n) (u:Value):Mk lo hi b off n w (W.setCell ⟨b,off+j*11,none⟩ u):=by
 obtain⟨wv,m,hs,_,_⟩:=h.inv j hj;exact h.setp hl hh _ hs.c0 (fun i=>by omega) u
theorem Mk.words (h:Mk lo hi b off n w W) (hl:lo<=b) (k:ZbS (b+1) hi W W'):Mk lo hi b off n w W':=by
 refine⟨h.kept.trans (k.wide (by omega) Zl_),fun i hi'=>?_⟩;obtain⟨wv,m,hs,hw,hm⟩:=h.inv i hi';exact⟨wv,m,⟨Zk_ hs.lt k.touch.size,k.there _ hs.lt hs.c0,fun j hj=>k.there _ hs.lt (hs.cj j hj),by rw [k.touch.cell (p:=⟨b,_,none⟩) hs.lt (Or.inl (by simp))];exact hs.four,fun i=>(k.frz _ hs.lt).trans (hs.fr i)⟩,hw.kept k,hm⟩
theorem Mk.below (h:Mk lo hi b off n w W) (hl:lo<=b) (k:Below W.heap.size W W'):Mk lo hi b off n w W':=h.words hl (ZbS.below k)
def Zip (lo hi:Nat) (w:World) (v:Value) (n:Nat):Prop:=
 (∃ (a:Option Addr) (cap:Nat),v=.slice a 0 cap/\n=0)\/
 ∃ (b off cap:Nat),v=.slice (some ⟨b,off,none⟩) n cap/\0 < n/\n<=maxLen/\lo<=b/\b < hi/\Zsr hi b off n w
theorem Zah (w:World) (b o o':Nat) (u:Value) (h:o≠o'):(w.setCell ⟨b,o,none⟩ u).cell? ⟨b,o',none⟩=w.cell? ⟨b,o',none⟩:=by
 rw [Zdi _ _ _ _ (by simp only [ne_eq,Addr.mk.injEq,not_and];intro _ e;exact absurd e h)]
theorem Zmf (lo hi:Nat) (v:Value) (n:Nat) (k:Int) (w:World) (hv:Zip lo hi w v n) (h0:0<=k) (hn:n<=1048576) (hk:k+n*1048586<=3000000000000000000) :
 Calls prog 105 #[v,.int .i64 k] w fun e w'=>∃ r:Int,e=.returned (.int .i64 r)/\k<=r/\r<=k+n*1048586/\ZbS lo hi w w':=by
 rcases hv with ⟨a,cap,rfl,rfl⟩ | ⟨b,off,cap,rfl,hne,hm,hlo,hhi,hinv⟩
 . go_enter func105,ntmps105
   go_wp2
   go_loop [5,1] (fun i q=>i=.int .i64 0/\q=.int .i64 k) (fun _ _=>0)
   case atStart=>exact⟨rfl,rfl⟩
   case round=>
    obtain⟨rfl,rfl⟩:=hrel;go_wp2;go_ret;exact⟨k,rfl,by omega,by omega,ZbS.refl _ _ _⟩
 . unfold maxLen at hm
   have HI:Hd (Mk lo hi b off n w w):=⟨ZbS.refl _ _ _,hinv⟩;clear hinv;go_enter func105,ntmps105;go_wp2
   go_loopw [5,1] (fun i q wr=>∃ (j:Nat) (r:Int),i=.int .i64 j/\q=.int .i64 r/\k<=r/\r<=k+j*1048586/\j<=n/\Mk lo hi b off n w wr) (fun i _ _=>n - (intOf i).toNat)
   case atStart=>exact⟨0,k,rfl,rfl,by omega,by omega,by omega,HI.o⟩
   case round=>
    obtain⟨j,r,rfl,rfl,hr0,hr1,hj,hmk⟩:=hrel;have HM:=Zab hmk;clear hmk HI
    by_cases hlt:j < n
    . go_wp2_with fail
      refine (Zal _ _ (by omega)).mono ?_;rintro e w1 ⟨rfl,hb1⟩;have HM1:=Zab (HM.o.below hlo hb1);clear hb1 HM;obtain⟨wv,m,hs,hw,hmm⟩:=HM1.o.inv j hlt;obtain⟨a4,cap4,rfl⟩:=hw.form;obtain⟨u0,g0⟩:=Option.isSome_iff_exists.1 hs.c0;obtain⟨u1,g1⟩:=Option.isSome_iff_exists.1 (hs.cj 1 (by omega));obtain⟨u2,g2⟩:=Option.isSome_iff_exists.1 (hs.cj 2 (by omega));obtain⟨u3,g3⟩:=Option.isSome_iff_exists.1 (hs.cj 3 (by omega));have g4:=hs.four;have gf:=hs.fr;have HW:=Zab hw;clear hs hw;go_wp2_with fail;have HX:=Zab ((((HM1.o.set0 hlo hhi j hlt (.string (mtB r))).set hlo hhi j 1 hlt (by omega) (by omega) (.int .i64 (r+1))).set hlo hhi j 2 hlt (by omega) (by omega) (.int .i64 (r+1+1))).set hlo hhi j 3 hlt (by omega) (by omega) (.int .i64 (r+1+1+1)))
      have HK:=Zab (((((ZbS.refl lo hi w1).trans (ZbS.setCell lo hi _ ⟨b,off+j*11,none⟩ (.string (mtB r)) ⟨hlo,hhi⟩ (by rw [g0];rfl))).trans (ZbS.setCell lo hi _ ⟨b,off+j*11+1,none⟩ (.int .i64 (r+1)) ⟨hlo,hhi⟩ (by rw [Zah _ _ _ _ _ (by omega),g1];rfl))).trans (ZbS.setCell lo hi _ ⟨b,off+j*11+2,none⟩ (.int .i64 (r+1+1)) ⟨hlo,hhi⟩ (by rw [Zah _ _ _ _ _ (by omega),Zah _ _ _ _ _ (by omega),g2];rfl))).trans (ZbS.setCell lo hi _ ⟨b,off+j*11+3,none⟩ (.int .i64 (r+1+1+1)) ⟨hlo,hhi⟩ (by rw [Zah _ _ _ _ _ (by omega),Zah _ _ _ _ _ (by omega),Zah _ _ _ _ _ (by omega),g3];rfl)));refine (Zj0 (b+1) hi _ m _ _ (HW.o.kept HK.o) (by omega) (by omega)).mono ?_;rintro e w2 ⟨rfl,hk2⟩;have HM2:=Zab (HX.o.words hlo hk2);clear hk2 HX HK HW HM1 g0 g1 g2 g3 g4 gf u0 u1 u2 u3;go_wp2_with fail
      refine (Zal _ _ (by omega)).mono ?_;rintro e w3 ⟨rfl,hb3⟩;have HM3:=Zab (HM2.o.below hlo hb3);clear hb3 HM2;obtain⟨wv',m',hs,_,_⟩:=HM3.o.inv j hlt;obtain⟨u5,g5⟩:=Option.isSome_iff_exists.1 (hs.cj 5 (by omega));obtain⟨u6,g6⟩:=Option.isSome_iff_exists.1 (hs.cj 6 (by omega));obtain⟨u7,g7⟩:=Option.isSome_iff_exists.1 (hs.cj 7 (by omega));obtain⟨u8,g8⟩:=Option.isSome_iff_exists.1 (hs.cj 8 (by omega));have gf:=hs.fr;clear hs;go_wp2_with fail;refine (Zal _ _ (by omega)).mono ?_;rintro e w4 ⟨rfl,hb4⟩;have HM4:=Zab (((((HM3.o.set hlo hhi j 5 hlt (by omega) (by omega) _).set hlo hhi j 6 hlt (by omega) (by omega) _).set hlo hhi j 7 hlt (by omega) (by omega) _).set hlo hhi j 8 hlt (by omega) (by omega) _).below hlo hb4);clear hb4 HM3 g5 g6 g7 g8 gf u5 u6 u7 u8;obtain⟨wv5,m5,hs,_,_⟩:=HM4.o.inv j hlt
      obtain⟨u9,g9⟩:=Option.isSome_iff_exists.1 (hs.cj 9 (by omega));have gf:=hs.fr;clear hs;go_wp2_with fail;refine (Zal _ _ (by omega)).mono ?_;rintro e w5 ⟨rfl,hb5⟩;have HM5:=Zab ((HM4.o.set hlo hhi j 9 hlt (by omega) (by omega) _).below hlo hb5);clear hb5 HM4 g9 gf u9;obtain⟨wv6,m6,hs,_,_⟩:=HM5.o.inv j hlt;obtain⟨u10,g10⟩:=Option.isSome_iff_exists.1 (hs.cj 10 (by omega));have gf:=hs.fr;clear hs;go_wp2;go_roundw
      . 
       exact⟨j+1,_,by go_num,rfl,by omega,by omega,by omega,HM5.o.set hlo hhi j 10 hlt (by omega) (by omega) _⟩
      . simp [intOf];omega
    . have e:j=n:=by omega
      subst e;go_wp2;go_ret;exact⟨r,rfl,by omega,by omega,HM.o.kept⟩
end
section
variable {lo hi lo' hi' n b off j:Nat} {w w':World} {v:Value}
theorem Zip.kept (h:Zip lo hi w v n) (k:ZbS lo' hi' w w') (ho:hi<=lo'\/hi'<=lo):Zip lo hi w' v n:=by
 rcases h with h | ⟨b,off,cap,h1,h2,h3,h4,h5,h6⟩
 . exact Or.inl h
 . refine Or.inr ⟨b,off,cap,h1,h2,h3,h4,h5,fun i hi'=>?_⟩
   obtain⟨wv,m,hs,hw,hm⟩:=h6 i hi';exact⟨wv,m,⟨Zk_ hs.lt k.touch.size,k.there _ hs.lt hs.c0,fun j hj=>k.there _ hs.lt (hs.cj j hj),by rw [k.touch.cell (p:=⟨b,_,none⟩) hs.lt (by simp only [];omega)];exact hs.four,fun i=>(k.frz _ hs.lt).trans (hs.fr i)⟩,hw.kept k,hm⟩
theorem Zip.form (h:Zip lo hi w v n):∃ a cap,v=.slice a n cap:=by
 rcases h with ⟨a,cap,h,rfl⟩ | ⟨b,off,cap,h,_⟩
 . exact⟨a,cap,h⟩
 . exact⟨_,cap,h⟩
structure ZsC (w:World) (b o:Nat) (fv:Value):Prop where
 lt:b < w.heap.size
 c0:(w.cell? ⟨b,o,none⟩).isSome=true
 one:w.cell? ⟨b,o+1,none⟩=some fv
 fr:∀ i,w.frozen? ⟨b,i,none⟩=false
def Zer (b off n:Nat) (m:Nat->Nat) (j:Nat) (w:World):Prop:=∀ i,i < n->j<=i->∃ fv nf,ZsC w b (off+i*2) fv/\Zip (m i) (m (i+1)) w fv nf/\nf<=1048576
theorem Zer.kept {m:Nat->Nat}{j':Nat} (h:Zer b off n m j w) (k:ZbS lo' hi' w w') (hm:∀ i j,i<=j->m i<=m j) (hjj:j<=j') (hb:b < lo') (hh:hi'<=m j'):Zer b off n m j' w':=by
 intro i hi hj;obtain⟨fv,nf,hs,hf,hn⟩:=h i hi (by omega);refine⟨fv,nf,⟨Zk_ hs.lt k.touch.size,k.there _ hs.lt hs.c0,by rw [k.touch.cell (p:=⟨b,_,none⟩) hs.lt (Or.inl hb)];exact hs.one,fun i=>(k.frz _ hs.lt).trans (hs.fr i)⟩,hf.kept k (Or.inr ?_),hn⟩;have:=hm j' i hj
 omega
theorem Zer.below {m:Nat->Nat} (h:Zer b off n m j w) (hb:Zw_ w w'):Zer b off n m j w':=by
 intro i hi hj;obtain⟨fv,nf,hs,hf,hn⟩:=h i hi hj;have k:ZbS (m (i+1)) (m (i+1)) w w':=ZbS.below hb;exact⟨fv,nf,⟨Zk_ hs.lt hb.size,k.there _ hs.lt hs.c0,by rw [hb.cell (p:=⟨b,_,none⟩) hs.lt];exact hs.one,fun i=>(k.frz _ hs.lt).trans (hs.fr i)⟩,hf.kept k (Or.inl Zl_),hn⟩
theorem Zer.set {m:Nat->Nat} (h:Zer b off n m j w) (hb:b < m 0) (hm:∀ i j,i<=j->m i<=m j) (l:Nat) (hl:l < n) (hlj:j<=l) (u:Value):Zer b off n m j (w.setCell ⟨b,off+l*2,none⟩ u)/\∀ lo hi,lo<=b->b < hi->ZbS lo hi w (w.setCell ⟨b,off+l*2,none⟩ u):=by
 obtain⟨_,_,hs0,_,_⟩:=h l hl hlj;have hk:=fun lo hi (h1:lo<=b) (h2:b < hi)=>ZbS.setCell lo hi w ⟨b,off+l*2,none⟩ u ⟨h1,h2⟩ hs0.c0
 refine⟨fun i hi hj=>?_,hk⟩;obtain⟨fv,nf,hs,hf,hn⟩:=h i hi hj;have k:=hk b (b+1) Zl_ (by omega);refine⟨fv,nf,⟨Zk_ hs.lt k.touch.size,k.there _ hs.lt hs.c0,by rw [Zah _ _ _ _ _ (by omega)];exact hs.one,fun i=>(k.frz _ hs.lt).trans (hs.fr i)⟩,hf.kept k (Or.inr ?_),hn⟩;have:=hm 0 i (by omega)
 omega
def ZrA (lo hi:Nat) (w:World) (v:Value) (n:Nat):Prop:=
 (∃ (a:Option Addr) (cap:Nat),v=.slice a 0 cap/\n=0)\/
 ∃ (b off cap:Nat) (m:Nat->Nat),v=.slice (some ⟨b,off,none⟩) n cap/\0 < n/\n<=maxLen/\lo<=b/\b < hi/\b < m 0/\(∀ i j,i<=j->m i<=m j)/\m n<=hi/\Zer b off n m 0 w
theorem Zmm (lo hi:Nat) (v:Value) (n:Nat) (k:Int) (w:World) (hv:ZrA lo hi w v n) (h0:0<=k) (hn:n<=1048576) (hk:k<=1000) :
 Calls prog 52 #[v,.int .i64 k] w fun e w'=>∃ r:Int,e=.returned (.int .i64 r)/\k<=r/\r<=1500000000000000000/\ZbS lo hi w w':=by
 rcases hv with ⟨a,cap,rfl,rfl⟩ | ⟨b,off,cap,m,rfl,hne,hm,hlo,hhi,hb0,hmono,hmn,hinv⟩
 . go_enter func52,ntmps52
   go_wp2
   go_loop [5,1] (fun i q=>i=.int .i64 0/\q=.int .i64 k) (fun _ _=>0)
   case atStart=>exact⟨rfl,rfl⟩
   case round=>
    obtain⟨rfl,rfl⟩:=hrel;go_wp2;go_ret;exact⟨k,rfl,by omega,by omega,ZbS.refl _ _ _⟩
 . unfold maxLen at hm
   have HI:Hd (Zer b off n m 0 w):=hinv;have HMO:=Zab hmono;clear hinv hmono;go_enter func52,ntmps52;go_wp2
   go_loopw [5,1] (fun i q wr=>∃ (j:Nat) (r:Int),i=.int .i64 j/\q=.int .i64 r/\k<=r/\r<=k+j*1099522113537/\j<=n/\ZbS lo hi w wr/\Zer b off n m j wr) (fun i _ _=>n - (intOf i).toNat)
   case atStart=>exact⟨0,k,rfl,rfl,by omega,by omega,by omega,ZbS.refl _ _ _,HI.o⟩
   case round=>
    obtain⟨j,r,rfl,rfl,hr0,hr1,hj,hkp,hsi⟩:=hrel;have HK:=Zab hkp;have HS:=Zab hsi;clear hkp hsi HI
    by_cases hlt:j < n
    . go_wp2_with fail
      refine (Zal _ _ (by omega)).mono ?_;rintro e w1 ⟨rfl,hb1⟩;have HK1:=Zab (HK.o.trans (ZbS.below hb1));have HS1:=Zab (HS.o.below hb1);clear hb1 HK HS;obtain⟨hset,hkset⟩:=HS1.o.set hb0 HMO.o j hlt Zl_ (.string (mtB r));have HSS:=Zab hset;have HKS:=Zab (HK1.o.trans (hkset lo hi hlo hhi));clear hset hkset;obtain⟨fv,nf,hs,hf,hnf⟩:=HS1.o j hlt Zl_;obtain⟨fv',nf',hs',hf',hnf'⟩:=HSS.o j hlt Zl_;obtain⟨u0,g0⟩:=Option.isSome_iff_exists.1 hs.c0;have g1:=hs.one;have gf:=hs.fr
      have efv:fv'=fv:=by
       have:=hs'.one;rw [Zah _ _ _ _ _ (by omega),g1] at this;exact (Option.some.inj this).symm
      subst efv;obtain⟨a4,cap4,rfl⟩:=hf'.form;have HF:=Zab hf';clear hs hs' hf hf' HK1;go_wp2_with fail;refine (Zmf (m j) (m (j+1)) _ nf' _ _ HF.o (by omega) (by omega) (by omega)).mono ?_;rintro e w2 ⟨r2,rfl,hr2,hr3,hk2⟩;have h1:=HMO.o 0 j (by omega);have h2:=HMO.o (j+1) n (by omega);have HK2:=Zab (HKS.o.trans (hk2.wide (by omega) (by omega)));have HS2:=Zab (HSS.o.kept hk2 HMO.o (j':=j+1) (by omega) (by omega) Zl_);clear hk2 HKS HSS HS1 HF g0 g1 gf u0;go_wp2;go_roundw
      . 
       exact⟨j+1,_,by go_num,rfl,by omega,by omega,by omega,HK2.o,HS2.o⟩
      . simp [intOf];omega
    . have e:j=n:=by omega
      subst e;go_wp2;go_ret;exact⟨r,rfl,by omega,by omega,HK.o⟩
end
section
variable {lo hi:Nat} {v:Value}
theorem Zad.form {w:World}{L:List Zy_} (h:Zad lo hi w v L):∃ a cap,v=.slice a L.length cap:=by
 rcases h with ⟨a,cap,h,rfl⟩ | ⟨b,off,cap,h,_⟩
 . exact⟨a,cap,h⟩
 . exact⟨_,cap,h⟩
theorem Zad.below {w w':World}{L:List Zy_} (h:Zad lo hi w v L) (hb:Zw_ w w'):Zad lo hi w' v L:=by
 rcases h with h | ⟨b,off,cap,h1,h2,h3,h4,h5,h6,h7,h8,h9⟩
 . exact Or.inl h
 . exact Or.inr ⟨b,off,cap,h1,h2,h3,Zk_ h4 hb.size,fun i hi'=>by rw [hb.cell (p:=⟨b,_,none⟩) h4];exact h5 i hi',h6,h7,h8,fun i=>by rw [hb.frozen (p:=⟨b,_,none⟩) h4];exact h9 i⟩
theorem Zad.wide {lo' hi':Nat}{w:World}{L:List Zy_} (h:Zad lo hi w v L) (h1:lo'<=lo) (h2:hi<=hi'):Zad lo' hi' w v L:=by
 rcases h with h | ⟨b,off,cap,q1,q2,q3,q4,q5,q6,q7,q8,q9⟩
 . exact Or.inl h
 . exact Or.inr ⟨b,off,cap,q1,q2,q3,q4,q5,q6,by omega,by omega,q9⟩
theorem Zad.setCell {w:World}{L:List Zy_} (h:Zad lo hi w v L) {p:Addr} (hp:p.block < lo) (u:Value):Zad lo hi (w.setCell p u) v L:=by
 rcases h with h | ⟨b,off,cap,h1,h2,h3,h4,h5,h6,h7,h8,h9⟩
 . exact Or.inl h
 . exact Or.inr ⟨b,off,cap,h1,h2,h3,by simpa [World.setCell] using h4,fun i hi'=>by rw [Zar _ _ _ _ (by show b≠p.block;omega)];exact h5 i hi',h6,h7,h8,fun i=>by rw [World.frozen?_setCell];exact h9 i⟩
section
variable (kind nm team:Zy_) (vv hv:Value) (en:Bool) (ver:Int) (V Ho:List Zy_) (w:World)
def ZfW (lo:Nat) (w:World) (v h:Value) (V Ho:List Zy_):Prop:=
 ∃ mid,lo<=mid/\mid<=w.heap.size/\Zad lo mid w v V/\Zad mid w.heap.size w h Ho
theorem ZhH (hV:Zaf w vv V) (hH:Zaf w hv Ho) (n1:V.length<=1048576) (n2:Ho.length<=1048576) :
 Calls prog 154 #[.agg #[.string kind,.string nm,.string team,vv,.bool en,hv,.int .i64 ver]] w
  fun e w'=>∃ v' h',e=.returned (.agg #[.string kind,.string nm,.string team,v',.bool en,h',.int .i64 ver])/\Zw_ w w'/\ZfW w.heap.size w' v' h' V Ho:=by
 have HV:=Zab hV;have HH:=Zab hH;obtain⟨a,n,cap,rfl⟩:=hV.form;obtain⟨a',n',cap',rfl⟩:=hH.form;clear hV hH;have HW:∀ o o',Hd (Zw_ w ((w.alloc o).alloc o')):=fun o o'=>(Zb_.alloc Zl_ _).alloc (by simp) _
 go_enter func154,ntmps154;go_wp2_with fail;refine (Zf4 _ V _ (HV.o.below (HW _ _).o) n1).mono ?_;rintro e w1 ⟨v1,rfl,hb,hs⟩;obtain⟨a1,cap1,rfl⟩:=hs.form;have HS:Hd (Zad (w.heap.size+2) w1.heap.size w1 (.slice a1 V.length cap1) V):=hs.wide (by simp) Zl_;have hz:w.heap.size+1 < w1.heap.size:=by have:=hb.size;simp at this;omega
 obtain⟨hc,hf⟩:=Zgu hb;have HB:Hd (Zw_ w w1):=(HW _ _).o.trans (hb.mono (by simp;omega));clear hb hs;have hz0:w.heap.size < w1.heap.size:=by omega
 have g0:∀ i,w1.cell? ⟨w.heap.size,i,none⟩=(#[.string kind,.string nm,.string team,.slice a n cap,.bool en,.slice a' n' cap',.int .i64 ver]:Array Value)[i]?:=fun i=>by
  rw [hc _ _ (by simp;omega),((Below.refl (w.alloc (.cells #[.string kind,.string nm,.string team,.slice a n cap,.bool en,.slice a' n' cap',.int .i64 ver] 128)).heap.size _).alloc Zl_ _).cell (p:=⟨w.heap.size,i,none⟩) (by simp)];simp
 have g1:∀ i,w1.cell? ⟨w.heap.size+1,i,none⟩=(#[.string ⟨#[]⟩,.string ⟨#[]⟩,.string ⟨#[]⟩,.slice none 0 0,.bool false,.slice none 0 0,.int .i64 0]:Array Value)[i]?:=fun i=>by
  rw [hc _ _ (by simp)];simp
 go_wp2_with fail;have hX:Hd (Zw_ w (w1.setCell ⟨w.heap.size,3,none⟩ (.slice a1 V.length cap1))):=HB.o.setCell Zl_ _;have hXs:(w1.setCell ⟨w.heap.size,3,none⟩ (.slice a1 V.length cap1)).heap.size=w1.heap.size:=by simp [World.setCell]
 have HS':=Zab (HS.o.setCell (p:=⟨w.heap.size,3,none⟩) (by simp only [];omega) (.slice a1 V.length cap1));refine (Zf4 _ Ho _ (HH.o.below hX.o) n2).mono ?_;rintro e w2 ⟨v2,rfl,hb2,hs2⟩;obtain⟨a2,cap2,rfl⟩:=hs2.form;have HS2:Hd (Zad (w.heap.size+2) w1.heap.size w2 (.slice a1 V.length cap1) V):=HS'.o.below hb2;have HH2:Hd (Zad w1.heap.size w2.heap.size w2 (.slice a2 Ho.length cap2) Ho):=by unfold Hd;rw [<- hXs];exact hs2
 have hz2:w.heap.size+1 < w2.heap.size:=by have:=hb2.size;rw [hXs] at this;omega
 have hz3:w1.heap.size<=w2.heap.size:=by have:=hb2.size;rw [hXs] at this;exact this
 have HB2:Hd (Zw_ w w2):=hX.o.trans (hb2.mono hX.o.size);have hc2:∀ b o,b < w1.heap.size->w2.cell? ⟨b,o,none⟩=(w1.setCell ⟨w.heap.size,3,none⟩ (.slice a1 V.length cap1)).cell? ⟨b,o,none⟩:=fun b o h=>hb2.cell (p:=⟨b,o,none⟩) (by rw [hXs];exact h)
 have hf2:∀ b o,b < w1.heap.size->w2.frozen? ⟨b,o,none⟩=(w1.setCell ⟨w.heap.size,3,none⟩ (.slice a1 V.length cap1)).frozen? ⟨b,o,none⟩:=fun b o h=>hb2.frozen (p:=⟨b,o,none⟩) (by rw [hXs];exact h)
 clear hb2 hs2 hXs;have k0:w2.cell? ⟨w.heap.size,0,none⟩=some (.string kind):=by rw [hc2 _ _ hz0];rw [show (w1.setCell ⟨w.heap.size,3,none⟩ (.slice a1 V.length cap1)).cell? ⟨w.heap.size,0,none⟩=w1.cell? ⟨w.heap.size,0,none⟩ from by apply World.cell?_setCell_other;simp,g0];rfl
 have k1:w2.cell? ⟨w.heap.size,1,none⟩=some (.string nm):=by rw [hc2 _ _ hz0];rw [show (w1.setCell ⟨w.heap.size,3,none⟩ (.slice a1 V.length cap1)).cell? ⟨w.heap.size,1,none⟩=w1.cell? ⟨w.heap.size,1,none⟩ from by apply World.cell?_setCell_other;simp,g0];rfl
 have k2:w2.cell? ⟨w.heap.size,2,none⟩=some (.string team):=by rw [hc2 _ _ hz0];rw [show (w1.setCell ⟨w.heap.size,3,none⟩ (.slice a1 V.length cap1)).cell? ⟨w.heap.size,2,none⟩=w1.cell? ⟨w.heap.size,2,none⟩ from by apply World.cell?_setCell_other;simp,g0];rfl
 have k3:w2.cell? ⟨w.heap.size,3,none⟩=some (.slice a1 V.length cap1):=by rw [hc2 _ _ hz0];exact World.cell?_setCell_same' _ _ _ (by rw [g0];rfl)
 have k4:w2.cell? ⟨w.heap.size,4,none⟩=some (.bool en):=by rw [hc2 _ _ hz0];rw [show (w1.setCell ⟨w.heap.size,3,none⟩ (.slice a1 V.length cap1)).cell? ⟨w.heap.size,4,none⟩=w1.cell? ⟨w.heap.size,4,none⟩ from by apply World.cell?_setCell_other;simp,g0];rfl
 have k5:w2.cell? ⟨w.heap.size,5,none⟩=some (.slice a' n' cap'):=by rw [hc2 _ _ hz0];rw [show (w1.setCell ⟨w.heap.size,3,none⟩ (.slice a1 V.length cap1)).cell? ⟨w.heap.size,5,none⟩=w1.cell? ⟨w.heap.size,5,none⟩ from by apply World.cell?_setCell_other;simp,g0];rfl
 have k6:w2.cell? ⟨w.heap.size,6,none⟩=some (.int .i64 ver):=by rw [hc2 _ _ hz0];rw [show (w1.setCell ⟨w.heap.size,3,none⟩ (.slice a1 V.length cap1)).cell? ⟨w.heap.size,6,none⟩=w1.cell? ⟨w.heap.size,6,none⟩ from by apply World.cell?_setCell_other;simp,g0];rfl
 have j0:w2.cell? ⟨w.heap.size+1,0,none⟩=some (.string ⟨#[]⟩):=by rw [hc2 _ _ hz,show (w1.setCell ⟨w.heap.size,3,none⟩ (.slice a1 V.length cap1)).cell? ⟨w.heap.size+1,0,none⟩=w1.cell? ⟨w.heap.size+1,0,none⟩ from by apply World.cell?_setCell_other;simp,g1];rfl
 have j1:w2.cell? ⟨w.heap.size+1,1,none⟩=some (.string ⟨#[]⟩):=by rw [hc2 _ _ hz,show (w1.setCell ⟨w.heap.size,3,none⟩ (.slice a1 V.length cap1)).cell? ⟨w.heap.size+1,1,none⟩=w1.cell? ⟨w.heap.size+1,1,none⟩ from by apply World.cell?_setCell_other;simp,g1];rfl
 have j2:w2.cell? ⟨w.heap.size+1,2,none⟩=some (.string ⟨#[]⟩):=by rw [hc2 _ _ hz,show (w1.setCell ⟨w.heap.size,3,none⟩ (.slice a1 V.length cap1)).cell? ⟨w.heap.size+1,2,none⟩=w1.cell? ⟨w.heap.size+1,2,none⟩ from by apply World.cell?_setCell_other;simp,g1];rfl
 have j3:w2.cell? ⟨w.heap.size+1,3,none⟩=some (.slice none 0 0):=by rw [hc2 _ _ hz,show (w1.setCell ⟨w.heap.size,3,none⟩ (.slice a1 V.length cap1)).cell? ⟨w.heap.size+1,3,none⟩=w1.cell? ⟨w.heap.size+1,3,none⟩ from by apply World.cell?_setCell_other;simp,g1];rfl
 have j4:w2.cell? ⟨w.heap.size+1,4,none⟩=some (.bool false):=by rw [hc2 _ _ hz,show (w1.setCell ⟨w.heap.size,3,none⟩ (.slice a1 V.length cap1)).cell? ⟨w.heap.size+1,4,none⟩=w1.cell? ⟨w.heap.size+1,4,none⟩ from by apply World.cell?_setCell_other;simp,g1];rfl
 have j5:w2.cell? ⟨w.heap.size+1,5,none⟩=some (.slice none 0 0):=by rw [hc2 _ _ hz,show (w1.setCell ⟨w.heap.size,3,none⟩ (.slice a1 V.length cap1)).cell? ⟨w.heap.size+1,5,none⟩=w1.cell? ⟨w.heap.size+1,5,none⟩ from by apply World.cell?_setCell_other;simp,g1];rfl
 have j6:w2.cell? ⟨w.heap.size+1,6,none⟩=some (.int .i64 0):=by rw [hc2 _ _ hz,show (w1.setCell ⟨w.heap.size,3,none⟩ (.slice a1 V.length cap1)).cell? ⟨w.heap.size+1,6,none⟩=w1.cell? ⟨w.heap.size+1,6,none⟩ from by apply World.cell?_setCell_other;simp,g1];rfl
 have fz0:∀ o,w2.frozen? ⟨w.heap.size,o,none⟩=false:=fun o=>by rw [hf2 _ _ hz0,World.frozen?_setCell,hf _ _ (by simp;omega)];simp
 have fz1:∀ o,w2.frozen? ⟨w.heap.size+1,o,none⟩=false:=fun o=>by rw [hf2 _ _ hz,World.frozen?_setCell,hf _ _ (by simp)];simp
 clear hc2 hf2 hc hf g0 g1;go_wp2;refine bodyPost_ret (v:=.agg #[.string kind,.string nm,.string team,.slice a1 V.length cap1,.bool en,.slice a2 Ho.length cap2,.int .i64 ver]) (by simp [results,results154,go_sem,j0,j1,j2,j3,j4,j5,j6]) rfl ⟨_,_,rfl,?_,w1.heap.size,by omega,by simp only [World.setCell,Array.size_modify];exact hz3,?_,?_⟩
 . repeat (refine Below.setCell ?_ (by simp only [];omega) _)
   exact HB2.o
 . refine Zad.wide (lo:=w.heap.size+2) (hi:=w1.heap.size) ?_ (by omega) Zl_
   repeat (refine Zad.setCell ?_ (by simp only [];omega) _)
   exact HS2.o
 . refine Zad.wide (lo:=w1.heap.size) (hi:=w2.heap.size) ?_ Zl_ (by simp [World.setCell])
   repeat (refine Zad.setCell ?_ (by simp only [];omega) _)
   exact HH2.o
end
end
section
variable {wr w w1:World} {B k lo hi:Nat} {v:Value} {Fs:List Fd}
theorem Zb7.own {L:List Zy_} (h:Zb7 wr B L k) (hk:L.length<=k) (hne:L≠[]) (hm:L.length<=maxLen) (hs:∀ s ∈ L,s.size<=maxLen):Zad B wr.heap.size wr (.slice (some ⟨B,0,none⟩) L.length L.length) L:=by
 refine Or.inr ⟨B,0,L.length,rfl,hne,hm,World.rowIs.lt h,fun i hi=>?_,hs,Nat.le_refl _,World.rowIs.lt h,fun i=>World.rowIs.frozen h _⟩;rw [Nat.zero_add,World.rowIs.cell h hi];unfold ZrN;rw [if_pos (by omega),List.getD_eq_getElem?_getD,List.getElem?_eq_getElem hi];rfl
theorem ZfL (v:Value) (L:List Zy_) (w:World) (hv:Zaf w v L) (hn:L.length<=1048576) :
 Calls prog 139 #[v] w fun e w'=>∃ v',e=.returned v'/\Zw_ w w'/\Zad w.heap.size w'.heap.size w' v' L:=by
 rcases hv with ⟨a,cap,rfl,rfl⟩ | ⟨b,off,cap,rfl,hne,hm,hbw,hc,hsz⟩
 . have hmk:∀ u:World,(Instr.makeSlice 111 (.int .i64 0) (.int .i64 0)).run prog u=.ok (.slice (some ⟨u.heap.size,0,none⟩) 0 0) (u.alloc (.cells (madeCells #[.string ⟨#[]⟩] 0) 9)):=
    fun u=>run_make_row' 111 9 (.string ⟨#[]⟩) 16 underlying111 Tryz.info9 rfl .i64 .i64 0 (by omega) (by omega) u
   go_enter func139,ntmps139;go_wp2
   go_loop [4] (fun i=>i=.int .i64 0) (fun _=>0)
   case atStart=>rfl
   case round=>
    subst hrel;go_wp2;go_ret;exact⟨_,rfl,Zb_.alloc Zl_ _,Or.inl ⟨_,_,rfl,rfl⟩⟩
 . have HM:Hd (L.length<=maxLen):=hm
   unfold maxLen at hm
   have hmk:∀ u:World,(Instr.makeSlice 111 (.int .i64 (L.length:Int)) (.int .i64 (L.length:Int))).run prog u=.ok (.slice (some ⟨u.heap.size,0,none⟩) L.length L.length) (u.alloc (.cells (madeCells #[.string ⟨#[]⟩] L.length) 9)):=
    fun u=>run_make_row' 111 9 (.string ⟨#[]⟩) 16 underlying111 Tryz.info9 rfl .i64 .i64 L.length (by omega) (by omega) u
   go_enter func139,ntmps139;go_wp2;clear hmk
   go_loopw [4] (fun i wr=>∃ k:Nat,i=.int .i64 k/\k<=L.length/\Zw_ w wr/\Zb7 wr w.heap.size L k) (fun i _=>L.length - (intOf i).toNat)
   case atStart=>exact⟨0,rfl,by omega,Zb_.alloc Zl_ _,World.rowIs_made w (.string ⟨#[]⟩) L.length 9⟩
   case round=>
    obtain⟨k,rfl,hk,hb,hf⟩:=hrel
    by_cases hlt:k < L.length
    . have hck:wr.cell? ⟨b,off+k,none⟩=some (.string L[k]):=by rw [hb.cell (p:=⟨b,off+k,none⟩) hbw];exact hc k hlt
      obtain⟨old,hold⟩:=hf.old hlt;have hfz:=hf.frozen k;go_wp2;go_roundw
      . exact⟨k+1,by go_num,by omega,hb.setCell Zl_ _,hf.step hlt⟩
      . simp [intOf];omega
    . go_wp2
      go_ret;exact⟨_,rfl,hb,hf.own (by omega) hne HM.o hsz⟩
theorem Zlu (nm to df we:Zy_) (kd le mo ro:Int) (mu fx:Bool) (wv:Value) (L:List Zy_) (w:World) (hv:Zaf w wv L) (hn:L.length<=1048576) :
 Calls prog 176 #[.agg #[.string nm,.int .i64 kd,.int .i64 le,.int .i64 mo,wv,.string to,.int .i64 ro,.bool mu,.bool fx,.string df,.string we]] w
  fun e w'=>∃ wv',e=.returned (.agg #[.string nm,.int .i64 kd,.int .i64 le,.int .i64 mo,wv',.string to,.int .i64 ro,.bool mu,.bool fx,.string df,.string we])/\Zw_ w w'/\Zad w.heap.size w'.heap.size w' wv' L:=by
 have HV:Hd (Zaf w wv L):=hv;obtain⟨a,n,cap,rfl⟩:=hv.form;clear hv;go_enter func176,ntmps176;go_wp2_with fail;refine (ZfL _ L _ (HV.o.below ?_) hn).mono ?_
 . exact ((Zb_.alloc Zl_ _).alloc (by simp) _).alloc (by simp;omega) _
 rintro e w1 ⟨wv',rfl,hb,hs⟩;obtain⟨a',cap',rfl⟩:=hs.form;have HS:Hd (Zad (w.heap.size+3) w1.heap.size w1 (.slice a' L.length cap') L):=hs.wide (by simp) Zl_;clear hs;have hz:w.heap.size+2 < w1.heap.size:=by have:=hb.size;simp at this;omega
 obtain⟨hc,hf⟩:=Zgu hb;have HB:Hd (Zw_ w w1):=(((Zb_.alloc Zl_ _).alloc (by simp) _).alloc (by simp;omega) _).trans (hb.mono (by simp;omega));clear hb;go_wp2;refine bodyPost_ret (v:=.agg #[.string nm,.int .i64 kd,.int .i64 le,.int .i64 mo,.slice a' L.length cap',.string to,.int .i64 ro,.bool mu,.bool fx,.string df,.string we]) (by simp [results,results176,go_sem,hc]) rfl ⟨_,rfl,?_,?_⟩
 . repeat (refine Below.setCell ?_ (by simp only [];omega) _)
   exact HB.o
 . refine Zad.wide (lo:=w.heap.size+3) (hi:=w1.heap.size) ?_ (by omega) (by simp [World.setCell])
   repeat (refine Zad.setCell ?_ (by simp only [];omega) _)
   exact HS.o
theorem Zkp.setCell {n:Nat} (h:Zkp lo hi w v n) {p:Addr} (hp:p.block < lo) (u:Value):Zkp lo hi (w.setCell p u) v n:=by
 rcases h with h | ⟨b,off,cap,h1,h2,h3,h4,h5,h6,h7,h8⟩
 . exact Or.inl h
 . exact Or.inr ⟨b,off,cap,h1,h2,h3,by simpa [World.setCell] using h4,fun i hi'=>by rw [Zar _ _ _ _ (by show b≠p.block;omega)];exact h5 i hi',h6,h7,fun i=>by rw [World.frozen?_setCell];exact h8 i⟩
def ZfR (wr:World) (B:Nat) (Fs:List Fd) (k:Nat):Prop:=
 ∀ i (h:i < Fs.length),i < k->∃ wv,wr.cell? ⟨B,i*11+4,none⟩=some wv/\Zkp (B+1) wr.heap.size wr wv Fs[i].words.length
theorem ZfR.below (h:ZfR wr B Fs k) (hb:Below wr.heap.size wr w1) (hB:B < wr.heap.size):ZfR w1 B Fs k:=fun i hi hik=>by
 obtain⟨wv,h1,h2⟩:=h i hi hik;exact⟨wv,by rw [hb.cell (p:=⟨B,_,none⟩) hB];exact h1,(h2.kept (ZbS.below (lo:=0) (hi:=0) hb)).wide Zl_ hb.size⟩
theorem ZfR.step {wv v0 v1 v2 v3 v5 v6 v7 v8 v9 v10 o4:Value} (h:ZfR w1 B Fs k) (hk:k < Fs.length) (ho:w1.cell? ⟨B,k*11+4,none⟩=some o4) (hs:Zkp (B+1) w1.heap.size w1 wv Fs[k].words.length) :
 ZfR (((((((((((w1.setCell ⟨B,k*11,none⟩ v0).setCell ⟨B,k*11+1,none⟩ v1).setCell ⟨B,k*11+2,none⟩ v2).setCell ⟨B,k*11+3,none⟩ v3).setCell ⟨B,k*11+4,none⟩ wv).setCell ⟨B,k*11+5,none⟩ v5).setCell ⟨B,k*11+6,none⟩ v6).setCell ⟨B,k*11+7,none⟩ v7).setCell ⟨B,k*11+8,none⟩ v8).setCell ⟨B,k*11+9,none⟩ v9).setCell ⟨B,k*11+10,none⟩ v10) B Fs (k+1):=by
 have hz:(((((((((((w1.setCell ⟨B,k*11,none⟩ v0).setCell ⟨B,k*11+1,none⟩ v1).setCell ⟨B,k*11+2,none⟩ v2).setCell ⟨B,k*11+3,none⟩ v3).setCell ⟨B,k*11+4,none⟩ wv).setCell ⟨B,k*11+5,none⟩ v5).setCell ⟨B,k*11+6,none⟩ v6).setCell ⟨B,k*11+7,none⟩ v7).setCell ⟨B,k*11+8,none⟩ v8).setCell ⟨B,k*11+9,none⟩ v9).setCell ⟨B,k*11+10,none⟩ v10).heap.size=w1.heap.size:=by simp [World.setCell]
 intro i hi hik
 by_cases e:i=k
 . subst e
   refine⟨wv,?_,?_⟩
   . rw [Zah _ _ _ _ _ (by omega),Zah _ _ _ _ _ (by omega),Zah _ _ _ _ _ (by omega),Zah _ _ _ _ _ (by omega),Zah _ _ _ _ _ (by omega),Zah _ _ _ _ _ (by omega),Zck _ _ _ _ (by rw [Zah _ _ _ _ _ (by omega),Zah _ _ _ _ _ (by omega),Zah _ _ _ _ _ (by omega),Zah _ _ _ _ _ (by omega)];exact ho)]
   . rw [hz]
     repeat (refine Zkp.setCell ?_ (by simp only [];omega) _)
     exact hs
 . obtain⟨wv',h1,h2⟩:=h i hi (by omega)
   refine⟨wv',?_,?_⟩
   . rw [Zah _ _ _ _ _ (by omega),Zah _ _ _ _ _ (by omega),Zah _ _ _ _ _ (by omega),Zah _ _ _ _ _ (by omega),Zah _ _ _ _ _ (by omega),Zah _ _ _ _ _ (by omega),Zah _ _ _ _ _ (by omega),Zah _ _ _ _ _ (by omega),Zah _ _ _ _ _ (by omega),Zah _ _ _ _ _ (by omega),Zah _ _ _ _ _ (by omega)];exact h1
   . rw [hz]
     repeat (refine Zkp.setCell ?_ (by simp only [];omega) _)
     exact h2
theorem ZfR.done (h:ZfR wr B Fs k) (hf:Zbk wr B Fs k) (hk:Fs.length<=k) (hne:Fs≠[]) (hm:Fs.length<=maxLen) (hn:Zdw Fs):Zip B wr.heap.size wr (.slice (some ⟨B,0,none⟩) Fs.length Fs.length) Fs.length:=by
 refine Or.inr ⟨B,0,Fs.length,rfl,List.length_pos_iff.2 hne,hm,Nat.le_refl _,hf.lt,fun i hi=>?_⟩;obtain⟨wv,h1,h2⟩:=h i hi (by omega);refine⟨wv,_,⟨hf.lt,?_,fun j hj=>?_,by rw [Nat.zero_add];exact h1,hf.free⟩,h2,hn.2 i hi⟩
 . obtain⟨v,hv⟩:=hf.there (i*11) (by omega);rw [Nat.zero_add,hv];rfl
 . obtain⟨v,hv⟩:=hf.there (i*11+j) (by omega);rw [Nat.zero_add,hv];rfl
theorem Zad.in {L:List Zy_} (h:Zad lo hi w v L):Zaq lo w v L:=by
 rcases h with h | ⟨b,off,cap,h1,h2,h3,h4,h5,h6,h7,_⟩
 . exact Or.inl h
 . exact Or.inr ⟨b,off,cap,h1,h2,h3,h4,h5,h6,h7⟩
theorem Zo4 (lo:Nat) (v:Value) (Fs:List Fd) (w:World) (hv:Zau lo w v Fs) (hn:Zdw Fs) :
 Calls prog 138 #[v] w fun e w'=>∃ v',e=.returned v'/\Zw_ w w'/\Zau w.heap.size w' v' Fs/\Zip w.heap.size w'.heap.size w' v' Fs.length:=by
 obtain⟨i0,hi,hz0,hz1,hz2⟩:=info_parts Tryz.info178
 by_cases hL:Fs=[]
 . subst hL
   obtain⟨a,cap,rfl⟩:=Zdz hv;clear hv
   have hmk:∀ u:World,(Instr.makeSlice 129 (.int .i64 0) (.int .i64 0)).run prog u=.ok (.slice (some ⟨u.heap.size,0,none⟩) 0 0) (u.alloc (.cells (madeCells (Value.cells (.agg #[.string ⟨#[]⟩,.int .i64 0,.int .i64 0,.int .i64 0,.slice none 0 0,.string ⟨#[]⟩,.int .i64 0,.bool false,.bool false,.string ⟨#[]⟩,.string ⟨#[]⟩])) 0) 178)):=fun u=>by
    have h:=run_make (P:=prog) u 129 178 i0 _ underlying129 hi hz0 .i64 .i64 0 0 (by omega) (by omega) (by omega) (by omega)
    simpa [hz1] using h
   go_enter func138,ntmps138;go_wp2
   go_loop [4] (fun i=>i=.int .i64 0) (fun _=>0)
   case atStart=>rfl
   case round=>
    subst hrel;go_wp2;go_ret;exact⟨_,rfl,Zb_.alloc Zl_ _,Or.inl ⟨_,_,rfl,rfl⟩,Or.inl ⟨_,_,rfl,rfl⟩⟩
 . obtain⟨b,off,cap,rfl,hm,hbw,_,hc⟩:=hv.full hL
   clear hv;have HN:=Zab hn;obtain⟨hn1,hn2⟩:=hn;have HM:Hd (Fs.length<=maxLen):=hm;unfold maxLen at hm
   have hmk:∀ u:World,(Instr.makeSlice 129 (.int .i64 (Fs.length:Int)) (.int .i64 (Fs.length:Int))).run prog u=.ok (.slice (some ⟨u.heap.size,0,none⟩) Fs.length Fs.length) (u.alloc (.cells (madeCells (Value.cells (.agg #[.string ⟨#[]⟩,.int .i64 0,.int .i64 0,.int .i64 0,.slice none 0 0,.string ⟨#[]⟩,.int .i64 0,.bool false,.bool false,.string ⟨#[]⟩,.string ⟨#[]⟩])) (Fs.length*11)) 178)):=fun u=>by
    have h:=run_make (P:=prog) u 129 178 i0 _ underlying129 hi hz0 .i64 .i64 Fs.length Fs.length (by omega) (by omega) (by rw [hz2];omega) (by omega);rw [hz1] at h
    simpa using h
   clear hi hz0 hz1 hz2;go_enter func138,ntmps138;go_wp2;clear hmk
   go_loopw [4] (fun i wr=>∃ k:Nat,i=.int .i64 k/\k<=Fs.length/\Zw_ w wr/\Zbk wr w.heap.size Fs k/\ZfR wr w.heap.size Fs k) (fun i _=>Fs.length - (intOf i).toNat)
   case atStart=>exact⟨0,rfl,by omega,Zb_.alloc Zl_ _,Zbk.new w Fs _,fun i _ h=>by omega⟩
   case round=>
    obtain⟨k,rfl,hk,hb,hf,how⟩:=hrel;have HOW:=Zab how;clear how
    by_cases hlt:k < Fs.length
    . obtain⟨hsz,wv,hcell,hst⟩:=hc k hlt
      obtain⟨c0,c1,c2,c3,c4,c5,c6,c7,c8,c9,c10⟩:=hcell.below hb hbw;clear hcell;go_wp2_with fail;refine (Zlu _ _ _ _ _ _ _ _ _ _ _ Fs[k].words _ (hst.at.below hb) (hn2 k hlt)).mono ?_;rintro e w1 ⟨wv1,rfl,hb1,hs1⟩;have hf1:=hf.below hb1;have hs1':Zaq (w.heap.size+1) w1 wv1 Fs[k].words:=(hs1.wide hf.lt Zl_).in;have HOWN:=Zab ((hs1.wide hf.lt Zl_).writ);have HOW1:=Zab (HOW.o.below hb1 hf.lt);have HST:=Zab (hf1.step hlt hsz hs1');have hB:Hd (Zw_ w w1):=hb.trans (hb1.mono hb.size);have hfr:=hf1.free;obtain⟨a1,cap1,rfl⟩:=hs1.form;obtain⟨o0,ho0⟩:=hf1.there (k*11) (by omega);obtain⟨o1,ho1⟩:=hf1.there (k*11+1) (by omega);obtain⟨o2,ho2⟩:=hf1.there (k*11+2) (by omega);obtain⟨o3,ho3⟩:=hf1.there (k*11+3) (by omega);obtain⟨o4,ho4⟩:=hf1.there (k*11+4) (by omega);obtain⟨o5,ho5⟩:=hf1.there (k*11+5) (by omega)
      obtain⟨o6,ho6⟩:=hf1.there (k*11+6) (by omega);obtain⟨o7,ho7⟩:=hf1.there (k*11+7) (by omega);obtain⟨o8,ho8⟩:=hf1.there (k*11+8) (by omega);obtain⟨o9,ho9⟩:=hf1.there (k*11+9) (by omega);obtain⟨o10,ho10⟩:=hf1.there (k*11+10) (by omega);have HSTO:=fun x0 x1 x2 x3 x5 x6 x7 x8 x9 x10=>Zab (HOW1.o.step (v0:=x0) (v1:=x1) (v2:=x2) (v3:=x3) (v5:=x5) (v6:=x6) (v7:=x7) (v8:=x8) (v9:=x9) (v10:=x10) hlt ho4 HOWN.o)
      clear HOW HOW1 HOWN;clear hf hf1 hs1 hs1' hb1 hb hst c0 c1 c2 c3 c4 c5 c6 c7 c8 c9 c10;go_wp2;go_roundw
      . 
       exact⟨k+1,by go_num,by omega,(((((((((((hB.o.setCell Zl_ _).setCell Zl_ _).setCell Zl_ _).setCell Zl_ _).setCell Zl_ _).setCell Zl_ _).setCell Zl_ _).setCell Zl_ _).setCell Zl_ _).setCell Zl_ _).setCell Zl_ _),HST.o,(HSTO _ _ _ _ _ _ _ _ _ _).o⟩
      . simp [intOf];omega
    . go_wp2
      go_ret;exact⟨_,rfl,hb,hf.done (by omega) hL HM.o,HOW.o.done hf (by omega) hL HM.o HN.o⟩
end
section
variable {lo hi n B k:Nat} {v:Value} {wr:World} {Ss:List Sh}
theorem Zip.wide {lo' hi':Nat}{w:World} (h:Zip lo hi w v n) (h1:lo'<=lo) (h2:hi<=hi'):Zip lo' hi' w v n:=by
 rcases h with h | ⟨b,off,cap,q1,q2,q3,q4,q5,q6⟩
 . exact Or.inl h
 . refine Or.inr ⟨b,off,cap,q1,q2,q3,by omega,by omega,fun i hi'=>?_⟩
   obtain⟨wv,m,hs,hw,hm⟩:=q6 i hi';exact⟨wv,m,hs,hw.wide Zl_ h2,hm⟩
theorem Zip.setCell {w:World} (h:Zip lo hi w v n) {p:Addr} (hp:p.block < lo) (u:Value):Zip lo hi (w.setCell p u) v n:=by
 rcases h with h | ⟨b,off,cap,q1,q2,q3,q4,q5,q6⟩
 . exact Or.inl h
 . refine Or.inr ⟨b,off,cap,q1,q2,q3,q4,q5,fun i hi'=>?_⟩
   obtain⟨wv,m,hs,hw,hm⟩:=q6 i hi';have e:∀ o,(w.setCell p u).cell? ⟨b,o,none⟩=w.cell? ⟨b,o,none⟩:=fun o=>Zar _ _ _ _ (by show b≠p.block;omega)
   exact⟨wv,m,⟨by simpa [World.setCell] using hs.lt,by rw [e];exact hs.c0,fun j hj=>by rw [e];exact hs.cj j hj,by rw [e];exact hs.four,fun i=>by rw [World.frozen?_setCell];exact hs.fr i⟩,hw.setCell (by omega) u,hm⟩
theorem Zlv (lo:Nat) (kind:Zy_) (v:Value) (Fs:List Fd) (w:World) (hv:Zau lo w v Fs) (hn:Zdw Fs) :
 Calls prog 86 #[.agg #[.string kind,v]] w fun e w'=>∃ v',e=.returned (.agg #[.string kind,v'])/\Zw_ w w'/\Zau w.heap.size w' v' Fs/\Zip w.heap.size w'.heap.size w' v' Fs.length:=by
 have HV:=Zab hv;obtain⟨a,cap,rfl⟩:=hv.form;clear hv;go_enter func86,ntmps86;go_wp2_with fail;refine (Zo4 lo _ Fs _ (HV.o.below ?_) hn).mono ?_
 . exact ((Zb_.alloc Zl_ _).alloc (by simp) _).alloc (by simp;omega) _
 rintro e w1 ⟨v1,rfl,hb,hs,hq⟩;obtain⟨a',cap',rfl⟩:=hs.form;have HS:Hd (Zau (w.heap.size+3) w1 (.slice a' Fs.length cap') Fs):=hs.mono (by simp);have HQ:Hd (Zip (w.heap.size+3) w1.heap.size w1 (.slice a' Fs.length cap') Fs.length):=hq.wide (by simp) Zl_;clear hs hq;have hz:w.heap.size+2 < w1.heap.size:=by have:=hb.size;simp at this;omega
 obtain⟨hc,hf⟩:=Zgu hb;have HB:Hd (Zw_ w w1):=(((Zb_.alloc Zl_ _).alloc (by simp) _).alloc (by simp;omega) _).trans (hb.mono (by simp;omega));clear hb;go_wp2;refine bodyPost_ret (v:=.agg #[.string kind,.slice a' Fs.length cap']) (by simp [results,results86,go_sem,hc]) rfl ⟨_,rfl,?_,?_,?_⟩
 . repeat (refine Below.setCell ?_ (by simp only [];omega) _)
   exact HB.o
 . refine Zau.mono (lo:=w.heap.size+3) ?_ (by omega)
   repeat (refine Zau.setCell ?_ (by simp only [];omega) _)
   exact HS.o
 . refine Zip.wide (lo:=w.heap.size+3) (hi:=w1.heap.size) ?_ (by omega) (by simp [World.setCell])
   repeat (refine Zip.setCell ?_ (by simp only [];omega) _)
   exact HQ.o
def ZiM (wr:World) (B:Nat) (Ss:List Sh) (k:Nat):Prop:=
 ∃ m:Nat->Nat,B < m 0/\(∀ i j,i<=j->m i<=m j)/\(∀ i,m i<=wr.heap.size)/\∀ i (h:i < Ss.length),i < k->∃ fv,wr.cell? ⟨B,i*2+1,none⟩=some fv/\Zip (m i) (m (i+1)) wr fv Ss[i].fields.length
theorem ZiM.step {w1:World}{fv v0 o1:Value} (h:ZiM wr B Ss k) (hb:Below wr.heap.size wr w1) (hB:B < wr.heap.size) (hk:k < Ss.length) (ho:w1.cell? ⟨B,k*2+1,none⟩=some o1) (hs:Zip wr.heap.size w1.heap.size w1 fv Ss[k].fields.length) :
 ZiM ((w1.setCell ⟨B,k*2,none⟩ v0).setCell ⟨B,k*2+1,none⟩ fv) B Ss (k+1):=by
 obtain⟨m,h1,h2,h3,h4⟩:=h;have hz:((w1.setCell ⟨B,k*2,none⟩ v0).setCell ⟨B,k*2+1,none⟩ fv).heap.size=w1.heap.size:=by simp [World.setCell]
 refine⟨fun i=>if i<=k then m i else w1.heap.size,by simpa using h1,fun i j hij=>?_,fun i=>?_,fun i hi hik=>?_⟩
 . simp only []
   by_cases a1:i<=k
   . rw [if_pos a1]
     by_cases a2:j<=k
     . rw [if_pos a2];exact h2 i j hij
     . rw [if_neg a2];exact Nat.le_trans (h3 i) hb.size
   . rw [if_neg a1,if_neg (by omega)];exact Nat.le_refl _
 . simp only []
   rw [hz]
   by_cases a1:i<=k
   . rw [if_pos a1];exact Nat.le_trans (h3 i) hb.size
   . rw [if_neg a1];exact Nat.le_refl _
 . simp only []
   have hm0:∀ i,m 0<=m i:=fun i=>h2 0 i Zz_
   by_cases e:i=k
   . subst e
     refine⟨fv,?_,?_⟩
     . rw [Zck _ _ _ _ (by rw [Zah _ _ _ _ _ (by omega)];exact ho)]
     . rw [if_pos Zl_,if_neg (by omega)]
       exact ((hs.wide (h3 i) Zl_).setCell (by have:=hm0 i;simp only [];omega) _).setCell (by have:=hm0 i;simp only [];omega) _
   . obtain⟨fv',q1,q2⟩:=h4 i hi (by omega)
     refine⟨fv',?_,?_⟩
     . rw [Zah _ _ _ _ _ (by omega),Zah _ _ _ _ _ (by omega),hb.cell (p:=⟨B,_,none⟩) hB];exact q1
     . rw [if_pos (by omega),if_pos (by omega)]
       exact ((q2.kept (ZbS.below (lo:=m (i+1)) (hi:=0) hb) (Or.inl Zl_)).setCell (by have:=hm0 i;simp only [];omega) _).setCell (by have:=hm0 i;simp only [];omega) _
theorem ZiM.done (h:ZiM wr B Ss k) (hf:Zbl wr B Ss k) (hk:Ss.length<=k) (hne:Ss≠[]) (hm:Ss.length<=maxLen) (hn:ZfY Ss):ZrA B wr.heap.size wr (.slice (some ⟨B,0,none⟩) Ss.length Ss.length) Ss.length:=by
 obtain⟨m,h1,h2,h3,h4⟩:=h;refine Or.inr ⟨B,0,Ss.length,m,rfl,List.length_pos_iff.2 hne,hm,Nat.le_refl _,hf.lt,h1,h2,h3 _,fun i hi _=>?_⟩;obtain⟨fv,q1,q2⟩:=h4 i hi (by omega);refine⟨fv,_,⟨hf.lt,?_,by rw [Nat.zero_add];exact q1,hf.free⟩,q2,(hn.2 i hi).1⟩;obtain⟨v,hv⟩:=hf.there (i*2) (by omega);rw [Nat.zero_add,hv];rfl
theorem Zpe (lo:Nat) (v:Value) (Ss:List Sh) (w:World) (hv:ZaI lo w v Ss) (hn:ZfY Ss) :
 Calls prog 36 #[v] w fun e w'=>∃ v',e=.returned v'/\Zw_ w w'/\ZaI w.heap.size w' v' Ss/\ZrA w.heap.size w'.heap.size w' v' Ss.length:=by
 obtain⟨i0,hi,hz0,hz1,hz2⟩:=info_parts Tryz.info131
 by_cases hL:Ss=[]
 . subst hL
   obtain⟨a,cap,rfl⟩:=hv.form;clear hv
   have hmk:∀ u:World,(Instr.makeSlice 37 (.int .i64 0) (.int .i64 0)).run prog u=.ok (.slice (some ⟨u.heap.size,0,none⟩) 0 0) (u.alloc (.cells (madeCells (Value.cells (.agg #[.string ⟨#[]⟩,.slice none 0 0])) 0) 131)):=fun u=>by
    have h:=run_make (P:=prog) u 37 131 i0 _ underlying37 hi hz0 .i64 .i64 0 0 (by omega) (by omega) (by omega) (by omega)
    simpa [hz1] using h
   go_enter func36,ntmps36;go_wp2
   go_loop [4] (fun i=>i=.int .i64 0) (fun _=>0)
   case atStart=>rfl
   case round=>
    subst hrel;go_wp2;go_ret;exact⟨_,rfl,Zb_.alloc Zl_ _,Or.inl ⟨_,_,rfl,rfl⟩,Or.inl ⟨_,_,rfl,rfl⟩⟩
 . obtain⟨b,off,cap,rfl,hm,hbw,hc⟩:=hv.full hL
   clear hv;have HN:=Zab hn;obtain⟨hn1,hn2⟩:=hn;have HM:Hd (Ss.length<=maxLen):=hm;unfold maxLen at hm
   have hmk:∀ u:World,(Instr.makeSlice 37 (.int .i64 (Ss.length:Int)) (.int .i64 (Ss.length:Int))).run prog u=.ok (.slice (some ⟨u.heap.size,0,none⟩) Ss.length Ss.length) (u.alloc (.cells (madeCells (Value.cells (.agg #[.string ⟨#[]⟩,.slice none 0 0])) (Ss.length*2)) 131)):=fun u=>by
    have h:=run_make (P:=prog) u 37 131 i0 _ underlying37 hi hz0 .i64 .i64 Ss.length Ss.length (by omega) (by omega) (by rw [hz2];omega) (by omega);rw [hz1] at h
    simpa using h
   clear hi hz0 hz1 hz2;go_enter func36,ntmps36;go_wp2;clear hmk
   go_loopw [4] (fun i wr=>∃ k:Nat,i=.int .i64 k/\k<=Ss.length/\Zw_ w wr/\Zbl wr w.heap.size Ss k/\ZiM wr w.heap.size Ss k) (fun i _=>Ss.length - (intOf i).toNat)
   case atStart=>exact⟨0,rfl,by omega,Zb_.alloc Zl_ _,Zbl.new w Ss _,fun _=>w.heap.size+1,Nat.lt_succ_self _,fun _ _ _=>Nat.le_refl _,fun _=>by simp,fun i _ h=>by omega⟩
   case round=>
    obtain⟨k,rfl,hk,hb,hf,how⟩:=hrel;have HOW:=Zab how;clear how
    by_cases hlt:k < Ss.length
    . obtain⟨hsz,fv,d0,d1,hst⟩:=hc k hlt
      have c0:wr.cell? ⟨b,off+k*2,none⟩=some (.string Ss[k].kind):=by rw [hb.cell (p:=⟨b,_,none⟩) hbw];exact d0
      have c1:wr.cell? ⟨b,off+k*2+1,none⟩=some fv:=by rw [hb.cell (p:=⟨b,_,none⟩) hbw];exact d1
      clear d0 d1;go_wp2_with fail;refine (Zlv lo _ _ Ss[k].fields _ (hst.below hb) (hn2 k hlt)).mono ?_;rintro e w1 ⟨wv1,rfl,hb1,hs1,hq1⟩;have hlt0:=hf.lt;have hf1:=hf.below hb1;have hs1':Zau (w.heap.size+1) w1 wv1 Ss[k].fields:=hs1.mono hf.lt;have HST:=Zab (hf1.step hlt hsz hs1');have hB:Hd (Zw_ w w1):=hb.trans (hb1.mono hb.size);have hfr:=hf1.free;obtain⟨a1,cap1,rfl⟩:=hs1.form;obtain⟨o0,ho0⟩:=hf1.there (k*2) (by omega);obtain⟨o1,ho1⟩:=hf1.there (k*2+1) (by omega);have HSTO:=fun x0=>Zab (HOW.o.step (v0:=x0) hb1 hlt0 hlt ho1 hq1)
      clear HOW hq1 hlt0;clear hf hf1 hs1 hs1' hb1 hb hst c0 c1;go_wp2;go_roundw
      . 
       exact⟨k+1,by go_num,by omega,((hB.o.setCell Zl_ _).setCell Zl_ _),HST.o,(HSTO _).o⟩
      . simp [intOf];omega
    . go_wp2
      go_ret;exact⟨_,rfl,hb,hf.done (by omega) hL HM.o,HOW.o.done hf (by omega) hL HM.o HN.o⟩
section
variable (kind nm team:Zy_) (vv hv:Value) (en:Bool) (ver:Int) (V Ho:List Zy_) (w:World)
theorem Zpa (hV:Zaf w vv V) (hH:Zaf w hv Ho) (n1:V.length<=1048576) (n2:Ho.length<=1048576) :
 Calls prog 89 #[.agg #[.string kind,.string nm,.string team,vv,.bool en,hv,.int .i64 ver]] w
  fun e w'=>∃ v' h',e=.returned (.agg #[.string kind,.string nm,.string team,v',.bool en,h',.int .i64 ver])/\Zw_ w w'/\ZfW w.heap.size w' v' h' V Ho:=by
 have HV:=Zab hV;have HH:=Zab hH;obtain⟨a,n,cap,rfl⟩:=hV.form;obtain⟨a',n',cap',rfl⟩:=hH.form;clear hV hH;have HW:∀ o o' o'',Hd (Zw_ w (((w.alloc o).alloc o').alloc o'')):=fun o o' o''=>((Zb_.alloc Zl_ _).alloc (by simp) _).alloc (by simp;omega) _
 go_enter func89,ntmps89;go_wp2_with fail;refine (ZfL _ V _ (HV.o.below (HW _ _ _).o) n1).mono ?_;rintro e w1 ⟨v1,rfl,hb,hs⟩;obtain⟨a1,cap1,rfl⟩:=hs.form;have HS:Hd (Zad (w.heap.size+3) w1.heap.size w1 (.slice a1 V.length cap1) V):=hs.wide (by simp) Zl_;have hz:w.heap.size+2 < w1.heap.size:=by have:=hb.size;simp at this;omega
 obtain⟨hc,hf⟩:=Zgu hb;have HB:Hd (Zw_ w w1):=(HW _ _ _).o.trans (hb.mono (by simp;omega));clear hb hs;go_wp2_with fail;have hX:Hd (Zw_ w ((w1.setCell ⟨w.heap.size+1+1,3,none⟩ (.slice a1 V.length cap1)).setCell ⟨w.heap.size+1+1,4,none⟩ (.bool en))):=(HB.o.setCell (by simp only [];omega) _).setCell (by simp only [];omega) _;have hXs:((w1.setCell ⟨w.heap.size+1+1,3,none⟩ (.slice a1 V.length cap1)).setCell ⟨w.heap.size+1+1,4,none⟩ (.bool en)).heap.size=w1.heap.size:=by simp [World.setCell]
 have HS':=Zab ((HS.o.setCell (p:=⟨w.heap.size+1+1,3,none⟩) (by simp only [];omega) (.slice a1 V.length cap1)).setCell (p:=⟨w.heap.size+1+1,4,none⟩) (by simp only [];omega) (.bool en));refine (ZfL _ Ho _ (HH.o.below hX.o) n2).mono ?_;rintro e w2 ⟨v2,rfl,hb2,hs2⟩;obtain⟨a2,cap2,rfl⟩:=hs2.form;have HS2:Hd (Zad (w.heap.size+3) w1.heap.size w2 (.slice a1 V.length cap1) V):=HS'.o.below hb2;have HH2:Hd (Zad w1.heap.size w2.heap.size w2 (.slice a2 Ho.length cap2) Ho):=by unfold Hd;rw [<- hXs];exact hs2
 have hz2:w.heap.size+2 < w2.heap.size:=by have:=hb2.size;rw [hXs] at this;omega
 have hz3:w1.heap.size<=w2.heap.size:=by have:=hb2.size;rw [hXs] at this;exact this
 have HB2:Hd (Zw_ w w2):=hX.o.trans (hb2.mono hX.o.size);have hc2:∀ b o,b < w1.heap.size->w2.cell? ⟨b,o,none⟩=((w1.setCell ⟨w.heap.size+1+1,3,none⟩ (.slice a1 V.length cap1)).setCell ⟨w.heap.size+1+1,4,none⟩ (.bool en)).cell? ⟨b,o,none⟩:=fun b o h=>hb2.cell (p:=⟨b,o,none⟩) (by rw [hXs];exact h)
 have hf2:∀ b o,b < w1.heap.size->w2.frozen? ⟨b,o,none⟩=((w1.setCell ⟨w.heap.size+1+1,3,none⟩ (.slice a1 V.length cap1)).setCell ⟨w.heap.size+1+1,4,none⟩ (.bool en)).frozen? ⟨b,o,none⟩:=fun b o h=>hb2.frozen (p:=⟨b,o,none⟩) (by rw [hXs];exact h)
 clear hb2 hs2 hXs;have hz0:w.heap.size < w1.heap.size:=by omega
 have hz1:w.heap.size+1 < w1.heap.size:=by omega
 have hz1':w.heap.size+1+1 < w1.heap.size:=by omega
 go_wp2;refine bodyPost_ret (v:=.agg #[.string kind,.string nm,.string team,.slice a1 V.length cap1,.bool en,.slice a2 Ho.length cap2,.int .i64 ver]) (by simp [results,results89,go_sem,hc,hc2,hz1]) rfl ⟨_,_,rfl,?_,w1.heap.size,by omega,by simp only [World.setCell,Array.size_modify];exact hz3,?_,?_⟩
 . repeat (refine Below.setCell ?_ (by simp only [];omega) _)
   exact HB2.o
 . refine Zad.wide (lo:=w.heap.size+3) (hi:=w1.heap.size) ?_ (by omega) Zl_
   repeat (refine Zad.setCell ?_ (by simp only [];omega) _)
   exact HS2.o
 . refine Zad.wide (lo:=w1.heap.size) (hi:=w2.heap.size) ?_ Zl_ (by simp [World.setCell])
   repeat (refine Zad.setCell ?_ (by simp only [];omega) _)
   exact HH2.o
end
end
def ZqF (b:Bool):Value:=if b=true then .nilIface else .iface 347 (.agg #[.int .i64 1,.int .i64 0])
theorem ZaK (b:Bool) (w:World):Calls prog 297 #[.bool b] w fun e w'=>e=.returned (ZqF b)/\Zw_ w w':=by
 cases b with
 | true=>
  go_enter func297,ntmps297;go_wp2;go_ret;exact⟨rfl,Below.refl _ _⟩
 | false=>
  go_enter func297,ntmps297;go_wp2;go_ret;exact⟨rfl,Below.refl _ _⟩
section
variable (kd kind nm team:Zy_) (vv hv fv:Value) (en:Bool) (ver:Int) (V Ho:List Zy_) (Fs:List Fd) (w:World) (lo:Nat)
theorem Zir (s2:nm.size<=maxLen) (s3:team.size<=maxLen) :
 Calls prog 287 #[.agg #[.string kd,fv],.agg #[.string kind,.string nm,.string team,vv,.bool en,hv,.int .i64 ver]] w
  fun e w'=>e=.returned (ZqF (Zap nm&&Zap team))/\Zw_ w w':=by
 have HW:∀ o o',Hd (Zw_ w ((w.alloc o).alloc o')):=fun o o'=>(Zb_.alloc Zl_ _).alloc (by simp) _
 cases hn:Zap nm with
 | false=>
  go_enter func287,ntmps287
  go_wp2_with (first
   | (go_at_call 206;refine (Zan _ _ (by assumption)).mono ?_;rintro e w' ⟨rfl,rfl⟩)
   | (go_at_call 297;refine (ZaK _ _).mono ?_;rintro e w' ⟨rfl,hb⟩))
  go_ret;exact⟨rfl,(HW _ _).o.trans (hb.mono (HW _ _).o.size)⟩
 | true=>
  cases ht:Zap team with
  | false=>
   go_enter func287,ntmps287
   go_wp2_with (first
    | (go_at_call 206;refine (Zan _ _ (by assumption)).mono ?_;rintro e w' ⟨rfl,rfl⟩)
    | (go_at_call 297;refine (ZaK _ _).mono ?_;rintro e w' ⟨rfl,hb⟩))
   go_ret;exact⟨rfl,(HW _ _).o.trans (hb.mono (HW _ _).o.size)⟩
  | true=>
   go_enter func287,ntmps287
   go_wp2_with (first
    | (go_at_call 206;refine (Zan _ _ (by assumption)).mono ?_;rintro e w' ⟨rfl,rfl⟩)
    | (go_at_call 297;refine (ZaK _ _).mono ?_;rintro e w' ⟨rfl,hb⟩))
   go_ret;exact⟨rfl,(HW _ _).o.trans (hb.mono (HW _ _).o.size)⟩
theorem ZjD (a a1:Option Addr) (cap cap1 n m:Nat) :
 Calls prog 288 #[.agg #[.string kd,.slice a1 m cap1],.agg #[.string kind,.string nm,.string team,.slice a n cap,.bool en,hv,.int .i64 ver]] w
  fun e w'=>e=.returned (ZqF (decide (n=m)))/\Zw_ w w':=by
 have HW:∀ o o',Hd (Zw_ w ((w.alloc o).alloc o')):=fun o o'=>(Zb_.alloc Zl_ _).alloc (by simp) _
 by_cases hnm:n=m
 . have hd:decide (n=m)=true:=by simpa using hnm
   have hi:((n:Int) == (m:Int))=true:=by rw [hnm];simp
   rw [hd];clear hnm hd;go_enter func288,ntmps288
   go_wp2_with (first
    | (go_at_call 297;refine (ZaK _ _).mono ?_;rintro e w' ⟨rfl,hb⟩))
   go_ret;exact⟨rfl,(HW _ _).o.trans (hb.mono (HW _ _).o.size)⟩
 . have hd:decide (n=m)=false:=by simpa using hnm
   have hi:((n:Int) == (m:Int))=false:=by simp;omega
   rw [hd];clear hnm hd;go_enter func288,ntmps288
   go_wp2_with (first
    | (go_at_call 297;refine (ZaK _ _).mono ?_;rintro e w' ⟨rfl,hb⟩))
   go_ret;exact⟨rfl,(HW _ _).o.trans (hb.mono (HW _ _).o.size)⟩
theorem Ziq (hH:Zaf w hv Ho) :
 Calls prog 289 #[.agg #[.string kd,fv],.agg #[.string kind,.string nm,.string team,vv,.bool en,hv,.int .i64 ver]] w
  fun e w'=>e=.returned (ZqF (decide (Ho.length<=3)&&Zpw Ho))/\Zw_ w w':=by
 have HW:∀ o o',Hd (Zw_ w ((w.alloc o).alloc o')):=fun o o'=>(Zb_.alloc Zl_ _).alloc (by simp) _
 have HH:=Zab hH
 obtain⟨a,cap,rfl⟩:∃ a cap,hv=.slice a Ho.length cap:=by
  rcases hH with ⟨a,cap,h,rfl⟩ | ⟨b,off,cap,h,_⟩
  . exact⟨_,_,h⟩
  . exact⟨_,_,h⟩
 clear hH
 by_cases h3:Ho.length<=3
 . have hd:decide (Ho.length<=3)=true:=by simpa using h3
   have hi:(Ho.length:Int)<=3:=by omega
   rw [hd,Bool.true_and];generalize hB:Zpw Ho=B;have HB:=Zab hB;clear h3 hd hB;go_enter func289,ntmps289;go_wp2_with fail;refine (ZgT _ Ho _ (HH.o.below (HW _ _).o)).mono ?_;rintro e w1 ⟨rfl,hb1⟩;have HB1:Hd (Zw_ w w1):=by rw [hb1];exact (HW _ _).o
   rw [HB.o];subst hb1;go_wp2_with fail;refine (ZaK _ _).mono ?_;rintro e w' ⟨rfl,hb⟩;have HB2:Hd (Zw_ w w'):=HB1.o.trans (hb.mono HB1.o.size);clear hb;go_wp2;go_ret;exact⟨rfl,HB2.o⟩
 . have hd:decide (Ho.length<=3)=false:=by simpa using h3
   have hi:¬ (Ho.length:Int)<=3:=by omega
   rw [hd,Bool.false_and];clear h3 hd;go_enter func289,ntmps289
   go_wp2_with (first
    | (go_at_call 297;refine (ZaK _ _).mono ?_;rintro e w' ⟨rfl,hb⟩))
   go_ret;exact⟨rfl,(HW _ _).o.trans (hb.mono (HW _ _).o.size)⟩
theorem Zhh :
 Calls prog 290 #[.agg #[.string kd,fv],.agg #[.string kind,.string nm,.string team,vv,.bool en,hv,.int .i64 ver]] w
  fun e w'=>e=.returned (ZqF (inB 0 1000000 ver))/\Zw_ w w':=by
 have HW:∀ o o',Hd (Zw_ w ((w.alloc o).alloc o')):=fun o o'=>(Zb_.alloc Zl_ _).alloc (by simp) _
 by_cases h0:0<=ver
 . by_cases h1:ver<=1000000
   . have hd:inB 0 1000000 ver=true:=by simp [inB];omega
     rw [hd];clear hd;go_enter func290,ntmps290
     go_wp2_with (first
      | (go_at_call 297;refine (ZaK _ _).mono ?_;rintro e w' ⟨rfl,hb⟩))
     go_ret;exact⟨rfl,(HW _ _).o.trans (hb.mono (HW _ _).o.size)⟩
   . have hd:inB 0 1000000 ver=false:=by simp [inB];omega
     rw [hd];clear hd;go_enter func290,ntmps290
     go_wp2_with (first
      | (go_at_call 297;refine (ZaK _ _).mono ?_;rintro e w' ⟨rfl,hb⟩))
     go_ret;exact⟨rfl,(HW _ _).o.trans (hb.mono (HW _ _).o.size)⟩
 . have hd:inB 0 1000000 ver=false:=by simp [inB];omega
   rw [hd];clear hd;go_enter func290,ntmps290
   go_wp2_with (first
    | (go_at_call 297;refine (ZaK _ _).mono ?_;rintro e w' ⟨rfl,hb⟩))
   go_ret;exact⟨rfl,(HW _ _).o.trans (hb.mono (HW _ _).o.size)⟩
end
end Go.Proofs.YtmappejlmapboaaGreat
