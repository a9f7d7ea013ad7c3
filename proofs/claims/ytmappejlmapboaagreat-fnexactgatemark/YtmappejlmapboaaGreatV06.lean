import Derived.Test.YtmappejlmapboaaGreatV02
import Derived.Test.YtmappejlmapboaaGreatV05
import Derived.Deep.AppendLies
import Derived.ProofKit
import Derived.Deep.Strs
import Derived.Deep.RegionHeld
set_option maxHeartbeats 16000000
set_option maxRecDepth 100000
open Go.Proofs.Tryz
namespace Go.Proofs.YtmappejlmapboaaGreat
section
open Go.RowKit Go.Deep
variable {lo hi b off n:Nat} {w W W':World}
structure Zr4 (w:World) (b o:Nat) (wv:Value):Prop where
 lt:b < w.heap.size
 c0:(w.cell? ⟨b,o,none⟩).isSome=true
 cj:∀ j,j < 11->(w.cell? ⟨b,o+j,none⟩).isSome=true
 four:w.cell? ⟨b,o+4,none⟩=some wv
 fr:∀ i,w.frozen? ⟨b,i,none⟩=false
def Zp7 (hi b off n:Nat) (w:World):Prop:=∀ i,i < n->∃ wv m,Zr4 w b (off+i*11) wv/\ZiV (b+1) hi w wv m/\m<=1048576
structure Mk (lo hi b off n:Nat) (w W:World):Prop where
 kept:ZbF lo hi w W
 inv:Zp7 hi b off n W
theorem Mk.setp (h:Mk lo hi b off n w W) (hl:lo<=b) (hh:b < hi) (o:Nat) (ho:(W.cell? ⟨b,o,none⟩).isSome=true) (h4:∀ i,o≠off+i*11+4) (u:Value):Mk lo hi b off n w (W.setCell ⟨b,o,none⟩ u):=by
 have hk:=ZbF.setCell lo hi W ⟨b,o,none⟩ u ⟨hl,hh⟩ ho;refine⟨h.kept.trans hk,fun i hi'=>?_⟩;obtain⟨wv,m,hs,hw,hm⟩:=h.inv i hi';refine⟨wv,m,⟨Zk_ hs.lt hk.touch.size,hk.there _ hs.lt hs.c0,fun j hj=>hk.there _ hs.lt (hs.cj j hj),?_,fun i=>(hk.frz _ hs.lt).trans (hs.fr i)⟩,hw.kept hk,hm⟩;rw [show (W.setCell ⟨b,o,none⟩ u).cell? ⟨b,off+i*11+4,none⟩=W.cell? ⟨b,off+i*11+4,none⟩ from by apply World.cell?_setCell_other;simp only [ne_eq,Addr.mk.injEq,not_and];intro _ e;exact absurd e (h4 i)];exact hs.four
theorem Mk.set (h:Mk lo hi b off n w W) (hl:lo<=b) (hh:b < hi) (j c:Nat) (hj:j < n) (hc:c < 11) (h4:c≠4) (u:Value):Mk lo hi b off n w (W.setCell ⟨b,off+j*11+c,none⟩ u):=by
 obtain⟨wv,m,hs,_,_⟩:=h.inv j hj;exact h.setp hl hh _ (hs.cj c hc) (fun i=>by omega) u
theorem Mk.set0 (h:Mk lo hi b off n w W) (hl:lo<=b) (hh:b < hi) (j:Nat) (hj:j < n) (u:Value):Mk lo hi b off n w (W.setCell ⟨b,off+j*11,none⟩ u):=by
 obtain⟨wv,m,hs,_,_⟩:=h.inv j hj;exact h.setp hl hh _ hs.c0 (fun i=>by omega) u
theorem Mk.words (h:Mk lo hi b off n w W) (hl:lo<=b) (k:ZbF (b+1) hi W W'):Mk lo hi b off n w W':=by
 refine⟨h.kept.trans (k.wide (by omega) Zl_),fun i hi'=>?_⟩;obtain⟨wv,m,hs,hw,hm⟩:=h.inv i hi';exact⟨wv,m,⟨Zk_ hs.lt k.touch.size,k.there _ hs.lt hs.c0,fun j hj=>k.there _ hs.lt (hs.cj j hj),by rw [k.touch.cell (p:=⟨b,_,none⟩) hs.lt (Or.inl (by simp))];exact hs.four,fun i=>(k.frz _ hs.lt).trans (hs.fr i)⟩,hw.kept k,hm⟩
theorem Mk.below (h:Mk lo hi b off n w W) (hl:lo<=b) (k:Below W.heap.size W W'):Mk lo hi b off n w W':=h.words hl (ZbF.below k)
def Zhd (lo hi:Nat) (w:World) (v:Value) (n:Nat):Prop:=
 (∃ (a:Option Addr) (cap:Nat),v=.slice a 0 cap/\n=0)\/
 ∃ (b off cap:Nat),v=.slice (some ⟨b,off,none⟩) n cap/\0 < n/\n<=maxLen/\lo<=b/\b < hi/\Zp7 hi b off n w
theorem Zah (w:World) (b o o':Nat) (u:Value) (h:o≠o'):(w.setCell ⟨b,o,none⟩ u).cell? ⟨b,o',none⟩=w.cell? ⟨b,o',none⟩:=by
 rw [ZcP _ _ _ _ (by simp only [ne_eq,Addr.mk.injEq,not_and];intro _ e;exact absurd e h)]
theorem Zkn (lo hi:Nat) (v:Value) (n:Nat) (k:Int) (w:World) (hv:Zhd lo hi w v n) (h0:0<=k) (hn:n<=1048576) (hk:k+n*1048586<=3000000000000000000) :
 Calls prog 105 #[v,.int .i64 k] w fun e w'=>∃ r:Int,e=.returned (.int .i64 r)/\k<=r/\r<=k+n*1048586/\ZbF lo hi w w':=by
 rcases hv with ⟨a,cap,rfl,rfl⟩ | ⟨b,off,cap,rfl,hne,hm,hlo,hhi,hinv⟩
 . go_enter func105,ntmps105
   go_wp2
   go_loop [5,1] (fun i q=>i=.int .i64 0/\q=.int .i64 k) (fun _ _=>0)
   case atStart=>exact⟨rfl,rfl⟩
   case round=>
    obtain⟨rfl,rfl⟩:=hrel;go_wp2;go_ret;exact⟨k,rfl,by omega,by omega,ZbF.refl _ _ _⟩
 . unfold maxLen at hm
   have HI:Hd (Mk lo hi b off n w w):=⟨ZbF.refl _ _ _,hinv⟩;clear hinv;go_enter func105,ntmps105;go_wp2
   go_loopw [5,1] (fun i q wr=>∃ (j:Nat) (r:Int),i=.int .i64 j/\q=.int .i64 r/\k<=r/\r<=k+j*1048586/\j<=n/\Mk lo hi b off n w wr) (fun i _ _=>n - (intOf i).toNat)
   case atStart=>exact⟨0,k,rfl,rfl,by omega,by omega,by omega,HI.o⟩
   case round=>
    obtain⟨j,r,rfl,rfl,hr0,hr1,hj,hmk⟩:=hrel;have HM:=Zab hmk;clear hmk HI
    by_cases hlt:j < n
    . go_wp2_with fail
      refine (Zal _ _ (by omega)).mono ?_;rintro e w1 ⟨rfl,hb1⟩;have HM1:=Zab (HM.o.below hlo hb1);clear hb1 HM;obtain⟨wv,m,hs,hw,hmm⟩:=HM1.o.inv j hlt;obtain⟨a4,cap4,rfl⟩:=hw.form;obtain⟨u0,g0⟩:=Option.isSome_iff_exists.1 hs.c0;obtain⟨u1,g1⟩:=Option.isSome_iff_exists.1 (hs.cj 1 (by omega));obtain⟨u2,g2⟩:=Option.isSome_iff_exists.1 (hs.cj 2 (by omega));obtain⟨u3,g3⟩:=Option.isSome_iff_exists.1 (hs.cj 3 (by omega));have g4:=hs.four;have gf:=hs.fr;have HW:=Zab hw;clear hs hw;go_wp2_with fail;have HX:=Zab ((((HM1.o.set0 hlo hhi j hlt (.string (mtB r))).set hlo hhi j 1 hlt (by omega) (by omega) (.int .i64 (r+1))).set hlo hhi j 2 hlt (by omega) (by omega) (.int .i64 (r+1+1))).set hlo hhi j 3 hlt (by omega) (by omega) (.int .i64 (r+1+1+1)))
      have HK:=Zab (((((ZbF.refl lo hi w1).trans (ZbF.setCell lo hi _ ⟨b,off+j*11,none⟩ (.string (mtB r)) ⟨hlo,hhi⟩ (by rw [g0];rfl))).trans (ZbF.setCell lo hi _ ⟨b,off+j*11+1,none⟩ (.int .i64 (r+1)) ⟨hlo,hhi⟩ (by rw [Zah _ _ _ _ _ (by omega),g1];rfl))).trans (ZbF.setCell lo hi _ ⟨b,off+j*11+2,none⟩ (.int .i64 (r+1+1)) ⟨hlo,hhi⟩ (by rw [Zah _ _ _ _ _ (by omega),Zah _ _ _ _ _ (by omega),g2];rfl))).trans (ZbF.setCell lo hi _ ⟨b,off+j*11+3,none⟩ (.int .i64 (r+1+1+1)) ⟨hlo,hhi⟩ (by rw [Zah _ _ _ _ _ (by omega),Zah _ _ _ _ _ (by omega),Zah _ _ _ _ _ (by omega),g3];rfl)));refine (Zit (b+1) hi _ m _ _ (HW.o.kept HK.o) (by omega) (by omega)).mono ?_;rintro e w2 ⟨rfl,hk2⟩;have HM2:=Zab (HX.o.words hlo hk2);clear hk2 HX HK HW HM1 g0 g1 g2 g3 g4 gf u0 u1 u2 u3;go_wp2_with fail
      refine (Zal _ _ (by omega)).mono ?_;rintro e w3 ⟨rfl,hb3⟩;have HM3:=Zab (HM2.o.below hlo hb3);clear hb3 HM2;obtain⟨wv',m',hs,_,_⟩:=HM3.o.inv j hlt;obtain⟨u5,g5⟩:=Option.isSome_iff_exists.1 (hs.cj 5 (by omega));obtain⟨u6,g6⟩:=Option.isSome_iff_exists.1 (hs.cj 6 (by omega));obtain⟨u7,g7⟩:=Option.isSome_iff_exists.1 (hs.cj 7 (by omega));obtain⟨u8,g8⟩:=Option.isSome_iff_exists.1 (hs.cj 8 (by omega));have gf:=hs.fr;clear hs;go_wp2_with fail;refine (Zal _ _ (by omega)).mono ?_;rintro e w4 ⟨rfl,hb4⟩;have HM4:=Zab (((((HM3.o.set hlo hhi j 5 hlt (by omega) (by omega) _).set hlo hhi j 6 hlt (by omega) (by omega) _).set hlo hhi j 7 hlt (by omega) (by omega) _).set hlo hhi j 8 hlt (by omega) (by omega) _).below hlo hb4);clear hb4 HM3 g5 g6 g7 g8 gf u5 u6 u7 u8;obtain⟨wv5,m5,hs,_,_⟩:=HM4.o.inv j hlt
      obtain⟨u9,g9⟩:=Option.isSome_iff_exists.1 (hs.cj 9 (by omega));have gf:=hs.fr;clear hs;go_wp2_with fail;refine (Zal _ _ (by omega)).mono ?_;rintro e w5 ⟨rfl,hb5⟩;have HM5:=Zab ((HM4.o.set hlo hhi j 9 hlt (by omega) (by omega) _).below hlo hb5);clear hb5 HM4 g9 gf u9;obtain⟨wv6,m6,hs,_,_⟩:=HM5.o.inv j hlt;obtain⟨u10,g10⟩:=Option.isSome_iff_exists.1 (hs.cj 10 (by omega));have gf:=hs.fr;clear hs;go_wp2;go_roundw
      . 
       exact⟨j+1,_,by go_num,rfl,by omega,by omega,by omega,HM5.o.set hlo hhi j 10 hlt (by omega) (by omega) _⟩
      . simp [intOf];omega
    . have e:j=n:=by omega
      subst e;go_wp2;go_ret;exact⟨r,rfl,by omega,by omega,HM.o.kept⟩
end
section
open Go.RowKit Go.Deep
variable {lo hi lo' hi' n b off j:Nat} {w w':World} {v:Value}
theorem Zhd.kept (h:Zhd lo hi w v n) (k:ZbF lo' hi' w w') (ho:hi<=lo'\/hi'<=lo):Zhd lo hi w' v n:=by
 rcases h with h | ⟨b,off,cap,h1,h2,h3,h4,h5,h6⟩
 . exact Or.inl h
 . refine Or.inr ⟨b,off,cap,h1,h2,h3,h4,h5,fun i hi'=>?_⟩
   obtain⟨wv,m,hs,hw,hm⟩:=h6 i hi';exact⟨wv,m,⟨Zk_ hs.lt k.touch.size,k.there _ hs.lt hs.c0,fun j hj=>k.there _ hs.lt (hs.cj j hj),by rw [k.touch.cell (p:=⟨b,_,none⟩) hs.lt (by simp only [];omega)];exact hs.four,fun i=>(k.frz _ hs.lt).trans (hs.fr i)⟩,hw.kept k,hm⟩
theorem Zhd.form (h:Zhd lo hi w v n):∃ a cap,v=.slice a n cap:=by
 rcases h with ⟨a,cap,h,rfl⟩ | ⟨b,off,cap,h,_⟩
 . exact⟨a,cap,h⟩
 . exact⟨_,cap,h⟩
structure Zqi (w:World) (b o:Nat) (fv:Value):Prop where
 lt:b < w.heap.size
 c0:(w.cell? ⟨b,o,none⟩).isSome=true
 one:w.cell? ⟨b,o+1,none⟩=some fv
 fr:∀ i,w.frozen? ⟨b,i,none⟩=false
def ZdL (b off n:Nat) (m:Nat->Nat) (j:Nat) (w:World):Prop:=∀ i,i < n->j<=i->∃ fv nf,Zqi w b (off+i*2) fv/\Zhd (m i) (m (i+1)) w fv nf/\nf<=1048576
theorem ZdL.kept {m:Nat->Nat}{j':Nat} (h:ZdL b off n m j w) (k:ZbF lo' hi' w w') (hm:∀ i j,i<=j->m i<=m j) (hjj:j<=j') (hb:b < lo') (hh:hi'<=m j'):ZdL b off n m j' w':=by
 intro i hi hj;obtain⟨fv,nf,hs,hf,hn⟩:=h i hi (by omega);refine⟨fv,nf,⟨Zk_ hs.lt k.touch.size,k.there _ hs.lt hs.c0,by rw [k.touch.cell (p:=⟨b,_,none⟩) hs.lt (Or.inl hb)];exact hs.one,fun i=>(k.frz _ hs.lt).trans (hs.fr i)⟩,hf.kept k (Or.inr ?_),hn⟩;have:=hm j' i hj
 omega
theorem ZdL.below {m:Nat->Nat} (h:ZdL b off n m j w) (hb:Zw_ w w'):ZdL b off n m j w':=by
 intro i hi hj;obtain⟨fv,nf,hs,hf,hn⟩:=h i hi hj;have k:ZbF (m (i+1)) (m (i+1)) w w':=ZbF.below hb;exact⟨fv,nf,⟨Zk_ hs.lt hb.size,k.there _ hs.lt hs.c0,by rw [hb.cell (p:=⟨b,_,none⟩) hs.lt];exact hs.one,fun i=>(k.frz _ hs.lt).trans (hs.fr i)⟩,hf.kept k (Or.inl Zl_),hn⟩
theorem ZdL.set {m:Nat->Nat} (h:ZdL b off n m j w) (hb:b < m 0) (hm:∀ i j,i<=j->m i<=m j) (l:Nat) (hl:l < n) (hlj:j<=l) (u:Value):ZdL b off n m j (w.setCell ⟨b,off+l*2,none⟩ u)/\∀ lo hi,lo<=b->b < hi->ZbF lo hi w (w.setCell ⟨b,off+l*2,none⟩ u):=by
 obtain⟨_,_,hs0,_,_⟩:=h l hl hlj;have hk:=fun lo hi (h1:lo<=b) (h2:b < hi)=>ZbF.setCell lo hi w ⟨b,off+l*2,none⟩ u ⟨h1,h2⟩ hs0.c0
 refine⟨fun i hi hj=>?_,hk⟩;obtain⟨fv,nf,hs,hf,hn⟩:=h i hi hj;have k:=hk b (b+1) Zl_ (by omega);refine⟨fv,nf,⟨Zk_ hs.lt k.touch.size,k.there _ hs.lt hs.c0,by rw [Zah _ _ _ _ _ (by omega)];exact hs.one,fun i=>(k.frz _ hs.lt).trans (hs.fr i)⟩,hf.kept k (Or.inr ?_),hn⟩;have:=hm 0 i (by omega)
 omega
def ZoV (lo hi:Nat) (w:World) (v:Value) (n:Nat):Prop:=
 (∃ (a:Option Addr) (cap:Nat),v=.slice a 0 cap/\n=0)\/
 ∃ (b off cap:Nat) (m:Nat->Nat),v=.slice (some ⟨b,off,none⟩) n cap/\0 < n/\n<=maxLen/\lo<=b/\b < hi/\b < m 0/\(∀ i j,i<=j->m i<=m j)/\m n<=hi/\ZdL b off n m 0 w
theorem Zku (lo hi:Nat) (v:Value) (n:Nat) (k:Int) (w:World) (hv:ZoV lo hi w v n) (h0:0<=k) (hn:n<=1048576) (hk:k<=1000) :
 Calls prog 52 #[v,.int .i64 k] w fun e w'=>∃ r:Int,e=.returned (.int .i64 r)/\k<=r/\r<=1500000000000000000/\ZbF lo hi w w':=by
 rcases hv with ⟨a,cap,rfl,rfl⟩ | ⟨b,off,cap,m,rfl,hne,hm,hlo,hhi,hb0,hmono,hmn,hinv⟩
 . go_enter func52,ntmps52
   go_wp2
   go_loop [5,1] (fun i q=>i=.int .i64 0/\q=.int .i64 k) (fun _ _=>0)
   case atStart=>exact⟨rfl,rfl⟩
   case round=>
    obtain⟨rfl,rfl⟩:=hrel;go_wp2;go_ret;exact⟨k,rfl,by omega,by omega,ZbF.refl _ _ _⟩
 . unfold maxLen at hm
   have HI:Hd (ZdL b off n m 0 w):=hinv;have HMO:=Zab hmono;clear hinv hmono;go_enter func52,ntmps52;go_wp2
   go_loopw [5,1] (fun i q wr=>∃ (j:Nat) (r:Int),i=.int .i64 j/\q=.int .i64 r/\k<=r/\r<=k+j*1099522113537/\j<=n/\ZbF lo hi w wr/\ZdL b off n m j wr) (fun i _ _=>n - (intOf i).toNat)
   case atStart=>exact⟨0,k,rfl,rfl,by omega,by omega,by omega,ZbF.refl _ _ _,HI.o⟩
   case round=>
    obtain⟨j,r,rfl,rfl,hr0,hr1,hj,hkp,hsi⟩:=hrel;have HK:=Zab hkp;have HS:=Zab hsi;clear hkp hsi HI
    by_cases hlt:j < n
    . go_wp2_with fail
      refine (Zal _ _ (by omega)).mono ?_;rintro e w1 ⟨rfl,hb1⟩;have HK1:=Zab (HK.o.trans (ZbF.below hb1));have HS1:=Zab (HS.o.below hb1);clear hb1 HK HS;obtain⟨hset,hkset⟩:=HS1.o.set hb0 HMO.o j hlt Zl_ (.string (mtB r));have HSS:=Zab hset;have HKS:=Zab (HK1.o.trans (hkset lo hi hlo hhi));clear hset hkset;obtain⟨fv,nf,hs,hf,hnf⟩:=HS1.o j hlt Zl_;obtain⟨fv',nf',hs',hf',hnf'⟩:=HSS.o j hlt Zl_;obtain⟨u0,g0⟩:=Option.isSome_iff_exists.1 hs.c0;have g1:=hs.one;have gf:=hs.fr
      have efv:fv'=fv:=by
       have:=hs'.one;rw [Zah _ _ _ _ _ (by omega),g1] at this;exact (Option.some.inj this).symm
      subst efv;obtain⟨a4,cap4,rfl⟩:=hf'.form;have HF:=Zab hf';clear hs hs' hf hf' HK1;go_wp2_with fail;refine (Zkn (m j) (m (j+1)) _ nf' _ _ HF.o (by omega) (by omega) (by omega)).mono ?_;rintro e w2 ⟨r2,rfl,hr2,hr3,hk2⟩;have h1:=HMO.o 0 j (by omega);have h2:=HMO.o (j+1) n (by omega);have HK2:=Zab (HKS.o.trans (hk2.wide (by omega) (by omega)));have HS2:=Zab (HSS.o.kept hk2 HMO.o (j':=j+1) (by omega) (by omega) Zl_);clear hk2 HKS HSS HS1 HF g0 g1 gf u0;go_wp2;go_roundw
      . 
       exact⟨j+1,_,by go_num,rfl,by omega,by omega,by omega,HK2.o,HS2.o⟩
      . simp [intOf];omega
    . have e:j=n:=by omega
      subst e;go_wp2;go_ret;exact⟨r,rfl,by omega,by omega,HK.o⟩
end
section
open Go.RowKit Go.Deep
section
variable (kind nm team:Zy_) (vv hv:Value) (en:Bool) (ver:Int) (V Ho:List Zy_) (w:World)
def Zr7 (V Ho:List Zy_) (left r:Int):Prop:= -1<=r/\r<=left/\(0<=r->(V.length:Int)<=left/\(Ho.length:Int)<=left)
theorem Zov (left:Int) (hV:Zaf w vv V) (hH:Zaf w hv Ho) (h0:0<=left) (h1:left<=1048576) (s1:kind.size<=maxLen) (s2:nm.size<=maxLen) (s3:team.size<=maxLen) :
 Calls prog 77 #[.agg #[.string kind,.string nm,.string team,vv,.bool en,hv,.int .i64 ver],.int .i64 left] w
  fun e w'=>∃ r:Int,e=.returned (.int .i64 r)/\Zw_ w w'/\Zr7 V Ho left r:=by
 have HV:=Zab hV;have HH:=Zab hH;obtain⟨a,n,cap,rfl⟩:=hV.form;obtain⟨a',n',cap',rfl⟩:=hH.form;clear hV hH;unfold maxLen at s1 s2 s3;have HW:∀ o,Hd (Zw_ w (w.alloc o)):=fun o=>Zb_.alloc Zl_ _
 by_cases c1:(kind.size:Int)<=left
 . by_cases c2:(kind.size:Int)+nm.size<=left
   . by_cases c3:(kind.size:Int)+nm.size+team.size<=left
     . go_enter func77,ntmps77
       go_wp2_with fail;refine (ZfO _ V _ _ (by omega) (by omega) (HV.o.below (HW _).o)).mono ?_;rintro e w1 ⟨r,rfl,rfl,q0,q1,q2⟩
       by_cases hr:r < 0
       . go_wp2
         go_ret;exact⟨-1,rfl,(HW _).o,by omega,by omega,fun h=>by omega⟩
       . go_wp2_with fail
         refine (ZfO _ Ho _ _ (by omega) (by omega) (HH.o.below (HW _).o)).mono ?_;rintro e w1 ⟨r2,rfl,rfl,p0,p1,p2⟩;go_wp2
         all_goals go_ret
         all_goals first
          | exact⟨_,rfl,(HW _).o,by omega,by omega,fun h=>⟨by have:=q2 (by omega);omega,by have:=p2 (by omega);omega⟩⟩
          | exact⟨-1,rfl,(HW _).o,by omega,by omega,fun h=>by omega⟩
     . go_enter func77,ntmps77
       go_wp2;go_ret;exact⟨-1,rfl,(HW _).o,by omega,by omega,fun h=>by omega⟩
   . go_enter func77,ntmps77
     go_wp2;go_ret;exact⟨-1,rfl,(HW _).o,by omega,by omega,fun h=>by omega⟩
 . go_enter func77,ntmps77
   go_wp2;go_ret;exact⟨-1,rfl,(HW _).o,by omega,by omega,fun h=>by omega⟩
theorem ZoJ (hV:Zaf w vv V) (hH:Zaf w hv Ho) (n1:V.length<=1048576) (n2:Ho.length<=1048576) :
 Calls prog 89 #[.agg #[.string kind,.string nm,.string team,vv,.bool en,hv,.int .i64 ver]] w
  fun e w'=>∃ v' h',e=.returned (.agg #[.string kind,.string nm,.string team,v',.bool en,h',.int .i64 ver])/\Zw_ w w'/\Zaq w.heap.size w' v' V/\Zaq w.heap.size w' h' Ho:=by
 have HV:=Zab hV;have HH:=Zab hH;obtain⟨a,n,cap,rfl⟩:=hV.form;obtain⟨a',n',cap',rfl⟩:=hH.form;clear hV hH;have HW:∀ o o' o'',Hd (Zw_ w (((w.alloc o).alloc o').alloc o'')):=fun o o' o''=>((Zb_.alloc Zl_ _).alloc (by simp) _).alloc (by simp;omega) _
 go_enter func89,ntmps89;go_wp2_with fail;refine (ZfQ _ V _ (HV.o.below (HW _ _ _).o) n1).mono ?_;rintro e w1 ⟨v1,rfl,hb,hs⟩;obtain⟨a1,m1,cap1,rfl⟩:=hs.form;have HS:Hd (Zaq (w.heap.size+3) w1 (.slice a1 m1 cap1) V):=hs.mono (by simp);have hz:w.heap.size+2 < w1.heap.size:=by have:=hb.size;simp at this;omega
 obtain⟨hc,hf⟩:=ZfC hb;have HB:Hd (Zw_ w w1):=(HW _ _ _).o.trans (hb.mono (by simp;omega));clear hb hs;go_wp2_with fail;have hX:Hd (Zw_ w ((w1.setCell ⟨w.heap.size+1+1,3,none⟩ (.slice a1 m1 cap1)).setCell ⟨w.heap.size+1+1,4,none⟩ (.bool en))):=(HB.o.setCell (by simp only [];omega) _).setCell (by simp only [];omega) _;have hXs:((w1.setCell ⟨w.heap.size+1+1,3,none⟩ (.slice a1 m1 cap1)).setCell ⟨w.heap.size+1+1,4,none⟩ (.bool en)).heap.size=w1.heap.size:=by simp [World.setCell]
 have HS':=Zab ((HS.o.setCell (p:=⟨w.heap.size+1+1,3,none⟩) (by simp only [];omega) (.slice a1 m1 cap1)).setCell (p:=⟨w.heap.size+1+1,4,none⟩) (by simp only [];omega) (.bool en));refine (ZfQ _ Ho _ (HH.o.below hX.o) n2).mono ?_;rintro e w2 ⟨v2,rfl,hb2,hs2⟩;obtain⟨a2,m2,cap2,rfl⟩:=hs2.form;have HS2:Hd (Zaq (w.heap.size+3) w2 (.slice a1 m1 cap1) V):=HS'.o.below hb2;have HH2:Hd (Zaq (w.heap.size+3) w2 (.slice a2 m2 cap2) Ho):=hs2.mono (by rw [hXs];omega);have hz2:w.heap.size+2 < w2.heap.size:=by have:=hb2.size;rw [hXs] at this;omega
 have HB2:Hd (Zw_ w w2):=hX.o.trans (hb2.mono hX.o.size);have hc2:∀ b o,b < w1.heap.size->w2.cell? ⟨b,o,none⟩=((w1.setCell ⟨w.heap.size+1+1,3,none⟩ (.slice a1 m1 cap1)).setCell ⟨w.heap.size+1+1,4,none⟩ (.bool en)).cell? ⟨b,o,none⟩:=fun b o h=>hb2.cell (p:=⟨b,o,none⟩) (by rw [hXs];exact h)
 have hf2:∀ b o,b < w1.heap.size->w2.frozen? ⟨b,o,none⟩=((w1.setCell ⟨w.heap.size+1+1,3,none⟩ (.slice a1 m1 cap1)).setCell ⟨w.heap.size+1+1,4,none⟩ (.bool en)).frozen? ⟨b,o,none⟩:=fun b o h=>hb2.frozen (p:=⟨b,o,none⟩) (by rw [hXs];exact h)
 clear hb2 hs2 hXs;have hz0:w.heap.size < w1.heap.size:=by omega
 have hz1:w.heap.size+1 < w1.heap.size:=by omega
 have hz1':w.heap.size+1+1 < w1.heap.size:=by omega
 go_wp2;refine bodyPost_ret (v:=.agg #[.string kind,.string nm,.string team,.slice a1 m1 cap1,.bool en,.slice a2 m2 cap2,.int .i64 ver]) (by simp [results,results89,go_sem,hc,hc2,hz1]) rfl ⟨_,_,rfl,?_,?_,?_⟩
 . repeat (refine Below.setCell ?_ (by simp only [];omega) _)
   exact HB2.o
 . refine Zaq.mono (lo:=w.heap.size+3) ?_ (by omega)
   repeat (refine Zaq.setCell ?_ (by simp only [];omega) _)
   exact HS2.o
 . refine Zaq.mono (lo:=w.heap.size+3) ?_ (by omega)
   repeat (refine Zaq.setCell ?_ (by simp only [];omega) _)
   exact HH2.o
theorem ZlK (vv' hv':Value) (hV:Zaf w vv V) (hH:Zaf w hv Ho) (hV':Zaf w vv' V) (hH':Zaf w hv' Ho) :
 Calls prog 100 #[.agg #[.string kind,.string nm,.string team,vv,.bool en,hv,.int .i64 ver],.agg #[.string kind,.string nm,.string team,vv',.bool en,hv',.int .i64 ver]] w
  fun e w'=>e=.returned (.bool true)/\Zw_ w w':=by
 have HV:=Zab hV;have HH:=Zab hH;have HV':=Zab hV';have HH':=Zab hH';obtain⟨a,n,cap,rfl⟩:=hV.form;obtain⟨a1,n1,cap1,rfl⟩:=hH.form;obtain⟨a2,n2,cap2,rfl⟩:=hV'.form;obtain⟨a3,n3,cap3,rfl⟩:=hH'.form;clear hV hH hV' hH';have HW:∀ o o',Hd (Zw_ w ((w.alloc o).alloc o')):=fun o o'=>(Zb_.alloc Zl_ _).alloc (by simp) _
 go_enter func100,ntmps100;go_wp2_with fail;refine (ZeP _ _ V _ (HV.o.below (HW _ _).o) (HV'.o.below (HW _ _).o)).mono ?_;rintro e w1 ⟨rfl,hb⟩;have hz:w.heap.size+1 < w1.heap.size:=by have:=hb.size;simp at this;omega
 have HB:Hd (Zw_ w w1):=(HW _ _).o.trans (hb.mono (by simp;omega));obtain⟨hc,hf⟩:=ZfC hb;clear hb;go_wp2_with fail;refine (ZeP _ _ Ho _ (HH.o.below HB.o) (HH'.o.below HB.o)).mono ?_;rintro e w2 ⟨rfl,hb2⟩;have HB2:Hd (Zw_ w w2):=HB.o.trans (hb2.mono HB.o.size);have hz2:w.heap.size < w1.heap.size:=by omega
 obtain⟨hc2,hf2⟩:=ZfC hb2;clear hb2;go_wp2;go_ret;exact⟨rfl,HB2.o⟩
end
end
section
variable {k:Nat} {Fs:List Fd} {Ss:List Sh}
def ZcF {α:Type} (N:List α) (rd:α->List α) (R:List α):Prop:=∀ i (h:i < R.length),R[i] ∈ N/\R[i] ∉ R.take i/\∀ r ∈ rd R[i],r ∈ R.take i
def Zh7 {α:Type} (N:List α) (rd:α->List α) (row:List α):Prop:=∀ x ∈ N,x ∉ row->¬ ∀ r ∈ rd x,r ∈ row
section
variable {α:Type} {N:List α} {rd:α->List α} {R R':List α}
theorem ZcF.nil:ZcF N rd []:=fun i h=>absurd h (Nat.not_lt_zero i)
theorem ZcF.snoc {x:α} (hg:ZcF N rd R) (hn:x ∈ N) (hx:x ∉ R) (hr:∀ r ∈ rd x,r ∈ R):ZcF N rd (R ++ [x]):=by
 intro i h;have h':i < R.length+1:=by rw [List.length_append] at h;exact h
 by_cases hi:i < R.length
 . rw [List.getElem_append_left hi,List.take_append_of_le_length (Nat.le_of_lt hi)]
   exact hg i hi
 . have e:i=R.length:=by omega
   subst e;have e1:(R ++ [x])[R.length]=x:=by simp
   have e2:(R ++ [x]).take R.length=R:=by simp
   rw [e1,e2];exact⟨hn,hx,hr⟩
theorem ZcF.init {x:α} (h:ZcF N rd (R ++ [x])):ZcF N rd R/\x ∈ N/\x ∉ R/\∀ r ∈ rd x,r ∈ R:=by
 constructor
 . intro i hi
   have:=h i (by rw [List.length_append];omega);rw [List.getElem_append_left hi,List.take_append_of_le_length (Nat.le_of_lt hi)] at this;exact this
 . have:=h R.length (by simp)
   have e1:(R ++ [x])[R.length]=x:=by simp
   have e2:(R ++ [x]).take R.length=R:=by simp
   rw [e1,e2] at this;exact this
theorem ZcF.along {p:List α->Prop} (h0:p []) (hs:∀ row x,ZcF N rd row->x ∈ N->x ∉ row->(∀ r ∈ rd x,r ∈ row)->p row->p (row ++ [x])):∀ (n:Nat) (R:List α),R.length=n->ZcF N rd R->p R:=by
 intro n
 induction n with
 | zero=>intro R hl _;rw [List.length_eq_zero_iff.1 hl];exact h0
 | succ n ih=>
  intro R hl hg;have hne:R≠[]:=by intro e;rw [e] at hl;cases hl
  have e:R.dropLast ++ [R.getLast hne]=R:=List.dropLast_concat_getLast hne;rw [<- e] at hg |-;obtain⟨h1,h2,h3,h4⟩:=hg.init;exact hs _ _ h1 h2 h3 h4 (ih _ (by rw [List.length_dropLast,hl];rfl) h1)
theorem ZcF.nodup (h:ZcF N rd R):R.Nodup:=by
 refine ZcF.along (p:=fun R=>R.Nodup) List.nodup_nil (fun row x _ _ hx _ ih=>?_) _ R rfl h;rw [List.nodup_append];exact⟨ih,by simp,fun a ha b hb=>by simp at hb;subst hb;exact fun e=>hx (e ▸ ha)⟩
theorem ZcF.sub (h:ZcF N rd R):R ⊆ N:=by
 intro y hy;obtain⟨i,hi,rfl⟩:=List.getElem_of_mem hy;exact (h i hi).1
theorem ZcF.reads (h:ZcF N rd R) {x:α} (hx:x ∈ R):∀ r ∈ rd x,r ∈ R:=by
 intro r hr;obtain⟨i,hi,rfl⟩:=List.getElem_of_mem hx;exact List.mem_of_mem_take ((h i hi).2.2 r hr)
theorem ZcF.into (h:ZcF N rd R) (hs:Zh7 N rd R'):R ⊆ R':=by
 refine ZcF.along (p:=fun R=>R ⊆ R') (List.nil_subset _) (fun row x _ hn _ hr ih=>?_) _ R rfl h;intro z hz
 rcases List.mem_append.1 hz with h | h
 . exact ih h
 . simp at h;subst h
   exact Classical.byContradiction fun hc=>hs z hn hc fun r hrr=>ih (hr r hrr)
theorem ZcF.all (h:ZcF N rd R) (hl:N.length<=R.length):∀ x ∈ N,x ∈ R:=by
 intro x hx;refine Classical.byContradiction fun hc=>?_
 have:(x :: R).length<=N.length:=List.Nodup.length_le_of_subset (List.nodup_cons.2 ⟨hc,h.nodup⟩) (List.cons_subset.2 ⟨hx,h.sub⟩);simp at this;omega
end
def Zop {α:Type} [DecidableEq α] (N:List α) (rd:α->List α) (R:List α):List α:=
 match N.find? fun x=>decide (x ∉ R)&&(rd x).all fun r=>decide (r ∈ R) with
 | some x=>R ++ [x]
 | none=>R
def Zfd {α:Type} [DecidableEq α] (N:List α) (rd:α->List α):Nat->List α
 | 0=>[]
 | n+1=>Zop N rd (Zfd N rd n)
def Zna {α:Type} [DecidableEq α] (N:List α) (rd:α->List α):Bool:=decide (N.length<=(Zfd N rd N.length).length)
section
variable {α:Type} [DecidableEq α] {N:List α} {rd:α->List α} {R:List α}
theorem ZeQ (n:Nat):ZcF N rd (Zfd N rd n)/\((Zfd N rd n).length=n\/Zh7 N rd (Zfd N rd n)):=by
 induction n with
 | zero=>exact⟨ZcF.nil,Or.inl rfl⟩
 | succ n ih=>
  obtain⟨hg,hc⟩:=ih
  show ZcF N rd (Zop N rd (Zfd N rd n))/\((Zop N rd (Zfd N rd n)).length=n+1\/Zh7 N rd (Zop N rd (Zfd N rd n)))
  generalize Zfd N rd n=R at*;unfold Zop
  cases hf:N.find? fun x=>decide (x ∉ R)&&(rd x).all fun r=>decide (r ∈ R) with
  | none=>
   refine⟨hg,Or.inr fun x hx hn hr=>?_⟩;have:=List.find?_eq_none.1 hf x hx;exact this (by simp only [Bool.and_eq_true,decide_eq_true_eq,List.all_eq_true];exact⟨hn,hr⟩)
  | some x=>
   have hp:=List.find?_some hf;simp only [Bool.and_eq_true,decide_eq_true_eq,List.all_eq_true] at hp;have hx:=List.mem_of_find?_eq_some hf;refine⟨hg.snoc hx hp.1 hp.2,?_⟩
   rcases hc with hc | hc
   . exact Or.inl (by simp [hc])
   . exact absurd hp.2 (hc x hx hp.1)
theorem Zlk (h:ZcF N rd R) (hl:N.length<=R.length):Zna N rd=true:=by
 unfold Zna;refine decide_eq_true ?_
 rcases (ZeQ (N:=N) (rd:=rd) N.length).2 with hc | hc
 . omega
 . have:=List.Nodup.length_le_of_subset h.nodup (h.into hc)
   omega
theorem Zod (hs:Zh7 N rd R) (hl:R.length < N.length):Zna N rd=false:=by
 unfold Zna;refine decide_eq_false ?_;have hg:=(ZeQ (N:=N) (rd:=rd) N.length).1;have:=List.Nodup.length_le_of_subset hg.nodup (hg.into hs)
 omega
theorem ZjG (h:Zna N rd=true):∃ R,ZcF N rd R/\N.length<=R.length:=by
 unfold Zna at h;exact⟨_,(ZeQ (N:=N) (rd:=rd) N.length).1,of_decide_eq_true h⟩
end
section
variable {α β:Type} (pl:α->Nat) (dec:List β->α->Option β)
def setp (V:List β) (x:α):List β:=match dec V x with
 | some v=>V.set (pl x) v
 | none=>V
def ZcI (R:List α) (V:List β):List β:=R.foldl (setp pl dec) V
theorem ZhI (R:List α) (x:α) (V:List β):ZcI pl dec (R ++ [x]) V=setp pl dec (ZcI pl dec R V) x:=by simp [ZcI]
theorem ZhJ {R:List α} (h:k < R.length) (V:List β):ZcI pl dec (R.take (k+1)) V=setp pl dec (ZcI pl dec (R.take k) V) R[k]:=by
 rw [List.take_succ_eq_append_getElem h,ZhI]
theorem ZiK (V:List β) (x:α):(setp pl dec V x).length=V.length:=by
 unfold setp;cases dec V x <;> simp
theorem ZgV (R:List α):∀ (V:List β),(ZcI pl dec R V).length=V.length:=by
 induction R with
 | nil=>intro V;rfl
 | cons x R ih=>intro V;show (ZcI pl dec R (setp pl dec V x)).length=_;rw [ih,ZiK]
theorem Zog (V:List β) (x:α) {i:Nat} (h:pl x≠i):(setp pl dec V x)[i]?=V[i]?:=by
 unfold setp;cases dec V x with
 | none=>rfl
 | some v=>exact List.getElem?_set_ne h
structure Fix (N:List α) (V F:List β):Prop where
 len:F.length=V.length
 at':∀ x ∈ N,F[pl x]?=(dec F x).or V[pl x]?
 off:∀ i,(∀ x ∈ N,pl x≠i)->F[i]?=V[i]?
def ZoX (N:List α) (rd:α->List α):Prop:=∀ x ∈ N,∀ V V':List β,V.length=V'.length->(∀ r ∈ rd x,V[pl r]?=V'[pl r]?)->dec V x=dec V' x
def Zqh (N:List α):Prop:=∀ x ∈ N,∀ y ∈ N,pl x=pl y->x=y
variable {pl dec} {N:List α} {rd:α->List α}
theorem ZqA (ha:Zqh pl N) (hl:ZoX pl dec N rd) {R:List α} (h:ZcF N rd R) (V:List β) (hp:∀ x ∈ N,pl x < V.length):Fix pl dec R V (ZcI pl dec R V):=by
 refine ZcF.along (p:=fun R=>Fix pl dec R V (ZcI pl dec R V)) ⟨rfl,fun x hx=>by simp at hx,fun _ _=>rfl⟩ (fun row x hg hn hx hr ih=>?_) _ R rfl h
 . rw [ZhI]
   have hlen:=ZgV pl dec row V;generalize hF:ZcI pl dec row V=F at*;have hoff:∀ y ∈ row,(setp pl dec F x)[pl y]?=F[pl y]?:=fun y hy=>Zog _ _ _ _ fun e=>hx (by rw [ha x hn y (hg.sub hy) e];exact hy)
   have hdec:∀ y,y ∈ N->(∀ r ∈ rd y,r ∈ row)->dec (setp pl dec F x) y=dec F y:=fun y hy hry=>hl y hy _ _ (by rw [ZiK]) fun r hrr=>hoff r (hry r hrr)
   refine⟨by rw [ZiK,hlen],fun y hy=>?_,fun i hi=>?_⟩
   . rcases List.mem_append.1 hy with h | h
     . rw [hoff y h,hdec y (hg.sub h) (hg.reads h)];exact ih.at' y h
     . simp at h;subst h
       rw [hdec y hn hr];have hV:F[pl y]?=V[pl y]?:=ih.off _ fun z hz e=>hx (by rw [<- ha z (hg.sub hz) y hn e];exact hz)
       unfold setp
       cases hd:dec F y with
       | none=>simp [hV]
       | some v=>simp [List.getElem?_set_self (show pl y < F.length by rw [hlen];exact hp y hn)]
   . rw [Zog _ _ _ _ (hi x (by simp))]
     exact ih.off i fun z hz=>hi z (by simp [hz])
theorem Fix.grow {R:List α}{V F:List β} (h:Fix pl dec R V F) (h1:R ⊆ N) (h2:∀ x ∈ N,x ∈ R):Fix pl dec N V F:=
 ⟨h.len,fun x hx=>h.at' x (h2 x hx),fun i hi=>h.off i fun x hx=>hi x (h1 hx)⟩
theorem Zpa (ha:Zqh pl N) (hl:ZoX pl dec N rd) {R:List α} (h:ZcF N rd R) (hn:N.length<=R.length) (V:List β) (hp:∀ x ∈ N,pl x < V.length):Fix pl dec N V (ZcI pl dec R V):=
 (ZqA ha hl h V hp).grow h.sub (h.all hn)
theorem ZlS [DecidableEq α] (hl:ZoX pl dec N rd) (hr:Zna N rd=true) {V F G:List β} (h1:Fix pl dec N V F) (h2:Fix pl dec N V G):F=G:=by
 obtain⟨R,hg,hn⟩:=ZjG hr;have hlen:F.length=G.length:=h1.len.trans h2.len.symm
 have key:∀ P,ZcF N rd P->∀ x ∈ P,F[pl x]?=G[pl x]?:=by
  intro P hP;refine ZcF.along (p:=fun P=>∀ x ∈ P,F[pl x]?=G[pl x]?) (fun x hx=>by simp at hx) (fun row x _ hxn _ hrr ih=>?_) _ P rfl hP
  . intro y hy
    rcases List.mem_append.1 hy with h | h
    . exact ih y h
    . simp at h;subst h
      rw [h1.at' y hxn,h2.at' y hxn,hl y hxn F G hlen fun r hr'=>ih r (hrr r hr')]
 apply List.ext_getElem?;intro i
 by_cases h:∃ x ∈ N,pl x=i
 . obtain⟨x,hx,rfl⟩:=h
   exact key R hg x (hg.all hn x hx)
 . have hi:∀ x ∈ N,pl x≠i:=fun x hx e=>h ⟨x,hx,e⟩
   rw [h1.off i hi,h2.off i hi]
end
open Go.RowKit Go.Deep
theorem ZaF {x y:Zy_}:(x.toList == y.toList)=true↔x=y:=by
 rw [beq_iff_eq];refine⟨fun h=>?_,fun h=>by rw [h]⟩;rw [ByteArray.toList_eq,ByteArray.toList_eq] at h;exact ByteArray.ext (Array.toList_inj.1 h)
theorem ZcK (x:Zy_):(x.toList == x.toList)=true:=ZaF.2 rfl
theorem Ze9 {x y:Zy_}:(x.toList == y.toList)=false↔x≠y:=by
 rw [<- Bool.not_eq_true,Ne,ZaF]
structure Md where
 kind:Zy_
 field:Zy_
 wh:Zy_
 is:Zy_
 put:Zy_
 fr:Zy_
variable {m:Md} {Ms:List Md}
def ZaA (Fs:List Fd):List Zy_:=Fs.map Fd.nm
theorem Zcl {s:Zy_}:s ∈ ZaA Fs↔∃ i,∃ h:i < Fs.length,Fs[i].nm=s:=by
 unfold ZaA;rw [List.mem_map]
 constructor
 . rintro⟨f,hf,rfl⟩;obtain⟨i,hi,rfl⟩:=List.getElem_of_mem hf;exact⟨i,hi,rfl⟩
 . rintro⟨i,hi,rfl⟩;exact⟨_,List.getElem_mem hi,rfl⟩
def ZaN (Fs:List Fd) (s:Zy_):Nat:=Fs.findIdx fun f=>f.nm.toList == s.toList
theorem Zb4 {s:Zy_}:ZaN Fs s < Fs.length↔s ∈ ZaA Fs:=by
 unfold ZaN;rw [List.findIdx_lt_length,Zcl]
 constructor
 . rintro⟨f,hf,h⟩;obtain⟨i,hi,rfl⟩:=List.getElem_of_mem hf;exact⟨i,hi,ZaF.1 h⟩
 . rintro⟨i,hi,rfl⟩;exact⟨_,List.getElem_mem hi,ZcK _⟩
theorem ZiB {s:Zy_} (h:ZaN Fs s < Fs.length):Fs[ZaN Fs s].nm=s:=by
 have:=List.findIdx_getElem (p:=fun f:Fd=>f.nm.toList == s.toList) (xs:=Fs) (w:=h);exact ZaF.1 this
theorem Zn9 {s:Zy_} (hk:k < Fs.length) (h:(Fs[k].nm.toList == s.toList)=true) (hall:∀ i (h:i < Fs.length),i < k->(Fs[i].nm.toList == s.toList)=false):ZaN Fs s=k:=by
 unfold ZaN;rw [List.findIdx_eq hk];exact⟨h,fun j hj=>hall j (by omega) hj⟩
theorem Zrb {s:Zy_} (hall:∀ i (h:i < Fs.length),(Fs[i].nm.toList == s.toList)=false):ZaN Fs s=Fs.length:=by
 unfold ZaN;rw [List.findIdx_eq_length];intro f hf;obtain⟨i,hi,rfl⟩:=List.getElem_of_mem hf;exact hall i hi
theorem Zmk (Fs:List Fd):Zqh (ZaN Fs) (ZaA Fs):=fun x hx y hy e=>by
 rw [<- ZiB (Zb4.2 hx),<- ZiB (Zb4.2 hy)];simp only [e]
def Zbc (Fs:List Fd) (s:Zy_):Bool:=match Fs[ZaN Fs s]? with
 | some f=>!(f.kd == 4)
 | none=>false
theorem Zdr {s:Zy_} (h:Zbc Fs s=true):s ∈ ZaA Fs:=by
 rw [<- Zb4];unfold Zbc at h
 by_cases hl:ZaN Fs s < Fs.length
 . exact hl
 . rw [List.getElem?_eq_none (by omega)] at h;cases h
theorem Zlb {s:Zy_} (h:ZaN Fs s < Fs.length):Zbc Fs s=!(Fs[ZaN Fs s].kd == 4):=by unfold Zbc;rw [List.getElem?_eq_getElem h]
theorem Zlc {s:Zy_} (h:¬ ZaN Fs s < Fs.length):Zbc Fs s=false:=by unfold Zbc;rw [List.getElem?_eq_none (by omega)]
def Zm9 (Fs:List Fd) (s t:Zy_):Bool:=match Fs[ZaN Fs s]? with
 | some f=>ZaL f.kd f.le f.mo f.words t
 | none=>false
theorem ZnE {s t:Zy_} (h:ZaN Fs s < Fs.length):Zm9 Fs s t=ZaL Fs[ZaN Fs s].kd Fs[ZaN Fs s].le Fs[ZaN Fs s].mo Fs[ZaN Fs s].words t:=by unfold Zm9;rw [List.getElem?_eq_getElem h]
def Zg1 (Fs:List Fd) (field s:Zy_):Bool:=s.toList.isEmpty || Zbc Fs s&&!(s.toList == field.toList)
def ZbQ (m:Md):Bool:=!(m.wh.toList.isEmpty&&!m.is.toList.isEmpty)&&!(m.put.toList.isEmpty == m.fr.toList.isEmpty)
def ZdP (Fs:List Fd) (m:Md):Bool:=Zbc Fs m.field&&Zg1 Fs m.field m.wh&&Zg1 Fs m.field m.fr&&ZbQ m&&(m.put.toList.isEmpty || Zm9 Fs m.field m.put)
def Zcm (Fs:List Fd) (m:Md):Bool:=
 Zbc Fs m.field&&(m.wh.toList.isEmpty || Zbc Fs m.wh)&&(m.fr.toList.isEmpty || Zbc Fs m.fr)&&!(m.wh.toList == m.field.toList)&&!(m.fr.toList == m.field.toList)&&ZbQ m&&(m.put.toList.isEmpty || Zm9 Fs m.field m.put)
theorem ZnT (hn:∀ s ∈ ZaA Fs,s.toList.isEmpty=false):ZdP Fs m=Zcm Fs m:=by
 unfold ZdP Zcm Zg1
 cases hp:Zbc Fs m.field with
 | false=>simp
 | true=>
  have hf:=hn _ (Zdr hp)
  have h1:m.wh.toList.isEmpty=true->(m.wh.toList == m.field.toList)=false:=fun h=>by
   rw [Ze9];intro e;rw [e] at h;rw [h] at hf;cases hf
  have h2:m.fr.toList.isEmpty=true->(m.fr.toList == m.field.toList)=false:=fun h=>by
   rw [Ze9];intro e;rw [e] at h;rw [h] at hf;cases hf
  cases ha:m.wh.toList.isEmpty with
  | true=>
   rw [h1 ha]
   cases hb:m.fr.toList.isEmpty with
   | true=>rw [h2 hb];simp
   | false=>simp
  | false=>
   cases hb:m.fr.toList.isEmpty with
   | true=>rw [h2 hb];simp
   | false=>simp;cases Zbc Fs m.wh <;> cases (m.wh.toList == m.field.toList) <;> cases Zbc Fs m.fr <;> cases (m.fr.toList == m.field.toList) <;> simp
def ZiD (m:Md):List Zy_:=(if m.wh.toList.isEmpty=true then [] else [m.wh]) ++ (if m.fr.toList.isEmpty=true then [] else [m.fr])
def ZcQ (kind field:Zy_) (m:Md):Bool:=(m.kind.toList == kind.toList)&&(m.field.toList == field.toList)
def Zam (kind:Zy_) (Ms:List Md) (field:Zy_):List Zy_:=(Ms.filter (ZcQ kind field)).flatMap ZiD
theorem ZkE (kind field:Zy_):Zam kind [] field=[]:=rfl
theorem ZjE (kind field:Zy_) (Ms:List Md) (m:Md):Zam kind (Ms ++ [m]) field=Zam kind Ms field ++ (if ZcQ kind field m=true then ZiD m else []):=by
 unfold Zam;rw [List.filter_append,List.flatMap_append]
 by_cases h:ZcQ kind field m=true <;> simp [h]
theorem ZdD {kind field:Zy_}{r:Zy_}:r ∈ Zam kind Ms field↔∃ m ∈ Ms,ZcQ kind field m=true/\r ∈ ZiD m:=by
 unfold Zam;simp [List.mem_flatMap,and_assoc]
theorem ZrT (h:m.wh.toList.isEmpty=false):m.wh ∈ ZiD m:=by unfold ZiD;simp [h]
theorem ZrS (h:m.fr.toList.isEmpty=false):m.fr ∈ ZiD m:=by unfold ZiD;simp [h]
def ZbD (Fs:List Fd) (V:List Zy_) (s:Zy_):Zy_:=(V[ZaN Fs s]?).getD ⟨#[]⟩
def Zge (Fs:List Fd) (V:List Zy_) (m:Md):Bool:=(m.wh.toList.isEmpty || (ZbD Fs V m.wh).toList == m.is.toList)&&(m.fr.toList.isEmpty || !(ZbD Fs V m.fr).toList.isEmpty)
def Zcf (Fs:List Fd) (V:List Zy_) (m:Md):Zy_:=if m.fr.toList.isEmpty=true then m.put else ZbD Fs V m.fr
def ZcB (Fs:List Fd) (kind:Zy_) (Ms:List Md) (V:List Zy_) (field:Zy_):Option Zy_:=(Ms.find? fun m=>ZcQ kind field m&&Zge Fs V m).map (Zcf Fs V)
theorem Zhh {α β:Type}{p q:α->Bool}{f g:α->β}{L:List α} (h:∀ x ∈ L,p x=q x) (hf:∀ x ∈ L,p x=true->f x=g x):(L.find? p).map f=(L.find? q).map g:=by
 induction L with
 | nil=>rfl
 | cons a L ih=>
  have ha:=h a (by simp);rw [List.find?_cons,List.find?_cons,<- ha]
  cases hp:p a with
  | true=>simp only [Option.map_some];rw [hf a (by simp) hp]
  | false=>exact ih (fun x hx=>h x (by simp [hx])) fun x hx=>hf x (by simp [hx])
theorem ZhC (Fs:List Fd) (kind:Zy_) (Ms:List Md) (N:List Zy_):ZoX (ZaN Fs) (ZcB Fs kind Ms) N (Zam kind Ms):=by
 intro x _ V V' _ hr
 have hw:∀ m ∈ Ms,ZcQ kind x m=true->m.wh.toList.isEmpty=false->ZbD Fs V m.wh=ZbD Fs V' m.wh:=fun m hm hf h=>by
  unfold ZbD;rw [hr m.wh (ZdD.2 ⟨m,hm,hf,ZrT h⟩)]
 have hg:∀ m ∈ Ms,ZcQ kind x m=true->m.fr.toList.isEmpty=false->ZbD Fs V m.fr=ZbD Fs V' m.fr:=fun m hm hf h=>by
  unfold ZbD;rw [hr m.fr (ZdD.2 ⟨m,hm,hf,ZrS h⟩)]
 unfold ZcB;refine Zhh (fun m hm=>?_) fun m hm hp=>?_
 . cases hf:ZcQ kind x m with
   | false=>rfl
   | true=>
    unfold Zge
    cases h1:m.wh.toList.isEmpty with
    | true=>cases h2:m.fr.toList.isEmpty with
     | true=>rfl
     | false=>rw [hg m hm hf h2];rfl
    | false=>cases h2:m.fr.toList.isEmpty with
     | true=>rw [hw m hm hf h1];rfl
     | false=>rw [hw m hm hf h1,hg m hm hf h2]
 . have hf:ZcQ kind x m=true:=by simp at hp;exact hp.1
   unfold Zcf
   cases h2:m.fr.toList.isEmpty with
   | true=>rfl
   | false=>rw [hg m hm hf h2]
def ZcU (Ss:List Sh) (m:Md):Bool:=match Zca Ss m.kind with
 | some x=>Zcm x.fields m
 | none=>false
def Zbk (Ms:List Md) (x:Sh):Bool:=Zna (ZaA x.fields) (Zam x.kind Ms)
def Zax (Ss:List Sh) (Ms:List Md):Bool:=ZaE Ss&&decide (Ms.length<=12)&&Ms.all (ZcU Ss)&&Ss.all (Zbk Ms)
theorem ZbG (h:ZaE Ss=true) {x:Sh} (hx:x ∈ Ss):Zaz Ss x.fields=true:=by
 unfold ZaE at h;rw [Bool.and_eq_true,List.all_eq_true] at h;obtain⟨i,hi,rfl⟩:=List.getElem_of_mem hx;have:=h.2 i (List.mem_range.2 hi)
 cases i with
 | zero=>rw [Zcv hi,Bool.and_eq_true] at this;exact this.2
 | succ j=>rw [ZbC hi,Bool.and_eq_true] at this;exact this.2
theorem Zja (h:Zaz Ss Fs=true) {k:Nat} (hk:k < Fs.length):Zap Fs[k].nm=true/\ZlE (Fs.take k) Fs[k].nm=false:=by
 unfold Zaz at h;rw [Bool.and_eq_true,List.all_eq_true] at h;have:=h.2 k (List.mem_range.2 hk);rw [ZaG hk] at this;simp at this;exact⟨this.1.1,this.2⟩
theorem ZcL (h:Zaz Ss Fs=true):Fs.length<=6:=by
 unfold Zaz at h;rw [Bool.and_eq_true] at h;exact of_decide_eq_true h.1
theorem ZhZ (h:ZaE Ss=true):Ss.length<=6:=by
 unfold ZaE at h;rw [Bool.and_eq_true] at h;exact of_decide_eq_true h.1
theorem Zn0 {s:Zy_} (h:Zap s=true):s.toList.isEmpty=false:=by
 unfold Zap inB at h;rw [Bool.and_eq_true] at h;have:=of_decide_eq_true h.1;rw [ByteArray.toList_eq]
 cases hs:s.data.toList with
 | nil=>have e:s.size=0:=by show s.data.size=0;rw [<- Array.length_toList,hs];rfl
        omega
 | cons a l=>rfl
theorem ZfY (h:Zaz Ss Fs=true):∀ s ∈ ZaA Fs,s.toList.isEmpty=false:=by
 intro s hs;obtain⟨i,hi,rfl⟩:=Zcl.1 hs;exact Zn0 (Zja h hi).1
theorem Zi9 (h:Zaz Ss Fs=true) {k:Nat} (hk:k < Fs.length):ZaN Fs Fs[k].nm=k:=by
 refine Zn9 hk (ZcK _) fun i hi hlt=>?_
 have hd:=(Zja h hk).2
 cases he:(Fs[i].nm.toList == Fs[k].nm.toList) with
 | false=>rfl
 | true=>rw [Zgl hi hlt he] at hd;cases hd
theorem Zcg {s:Zy_}{x:Sh} (h:Zca Ss s=some x):x ∈ Ss/\x.kind=s:=by
 unfold Zca at h;have h2:=List.find?_some h;exact⟨List.mem_of_find?_eq_some h,ZaF.1 h2⟩
def Znc (x:Sh) (Ms:List Md) (V F:List Zy_):Prop:=Fix (ZaN x.fields) (ZcB x.fields x.kind Ms) (ZaA x.fields) V F
def ZkY (Ss:List Sh) (Ms:List Md) (kind:Zy_) (V F:List Zy_):Prop:=
 (∃ x,Zax Ss Ms=true/\Zca Ss kind=some x/\x.fields.length=V.length/\Znc x Ms V F)\/
 ((Zax Ss Ms=false\/∀ x,Zca Ss kind=some x->x.fields.length≠V.length)/\F=V)
theorem Zeq (h:Zax Ss Ms=true) {x:Sh} (hx:x ∈ Ss):Zna (ZaA x.fields) (Zam x.kind Ms)=true:=by
 unfold Zax at h;rw [Bool.and_eq_true,List.all_eq_true] at h;exact h.2 x hx
theorem ZcJ (h:Zax Ss Ms=true):ZaE Ss=true:=by
 unfold Zax at h;simp only [Bool.and_eq_true] at h;exact h.1.1.1
theorem Zfk (h:Zax Ss Ms=true):Ms.length<=12:=by
 unfold Zax at h;simp only [Bool.and_eq_true,decide_eq_true_eq] at h;exact h.1.1.2
theorem Zkz (h:Zax Ss Ms=true) {m:Md} (hm:m ∈ Ms):ZcU Ss m=true:=by
 unfold Zax at h;simp only [Bool.and_eq_true,List.all_eq_true] at h;exact h.1.2 m hm
theorem Znc.unique (h:Zax Ss Ms=true) {x:Sh} (hx:x ∈ Ss) {V F G:List Zy_} (h1:Znc x Ms V F) (h2:Znc x Ms V G):F=G:=
 ZlS (ZhC _ _ _ _) (Zeq h hx) h1 h2
theorem Ziu {x:Sh}{R V:List Zy_} (h:ZcF (ZaA x.fields) (Zam x.kind Ms) R) (hl:(ZaA x.fields).length<=R.length) (hv:x.fields.length=V.length):Znc x Ms V (ZcI (ZaN x.fields) (ZcB x.fields x.kind Ms) R V):=
 Zpa (Zmk _) (ZhC _ _ _ _) h hl V fun s hs=>by rw [<- hv];exact Zb4.2 hs
def ZeY (nm v:Zy_) (m:Md):Bool:=(nm.toList == m.wh.toList)&&!(v.toList == m.is.toList) || (nm.toList == m.fr.toList)&&v.toList.isEmpty
theorem Zlr {V:List Zy_} (hf:Zaz Ss Fs=true) {i:Nat} (h:i < Fs.length) (h':i < V.length):ZbD Fs V Fs[i].nm=V[i]:=by
 unfold ZbD;rw [Zi9 hf h,List.getElem?_eq_getElem h'];rfl
theorem Znm {V:List Zy_} (hf:Zaz Ss Fs=true) {i:Nat} (h:i < Fs.length) (h':i < V.length) (ht:ZeY Fs[i].nm V[i] m=true):Zge Fs V m=false:=by
 have hn:=ZfY hf Fs[i].nm (Zcl.2 ⟨i,h,rfl⟩);unfold ZeY at ht;rw [Bool.or_eq_true,Bool.and_eq_true,Bool.and_eq_true,ZaF,ZaF] at ht;unfold Zge
 rcases ht with ⟨e,hv⟩ | ⟨e,hv⟩
 . rw [<- e,hn,Zlr hf h h']
   have:(V[i].toList == m.is.toList)=false:=by simpa using hv
   rw [this];rfl
 . rw [<- e,hn,Zlr hf h h',hv];simp
theorem Zqk {V:List Zy_} (hl:Fs.length=V.length) (hw:m.wh.toList.isEmpty=true\/m.wh ∈ ZaA Fs) (hr:m.fr.toList.isEmpty=true\/m.fr ∈ ZaA Fs)
 (ht:∀ i (h:i < Fs.length) (h':i < V.length),ZeY Fs[i].nm V[i] m=false):Zge Fs V m=true:=by
 unfold Zge;rw [Bool.and_eq_true]
 constructor
 . rcases hw with hw | hw
   . rw [hw];rfl
   . have hp:=Zb4.2 hw
     have:=ht _ hp (by omega);unfold ZeY at this;rw [ZiB hp,ZcK] at this;simp only [Bool.true_and,Bool.or_eq_false_iff] at this;unfold ZbD;rw [List.getElem?_eq_getElem (show ZaN Fs m.wh < V.length by omega),Option.getD_some];have h2:=this.1;rw [Bool.not_eq_false'] at h2;rw [h2];simp
 . rcases hr with hw | hw
   . rw [hw];rfl
   . have hp:=Zb4.2 hw
     have:=ht _ hp (by omega);unfold ZeY at this;rw [ZiB hp,ZcK] at this;simp only [Bool.true_and,Bool.or_eq_false_iff] at this;unfold ZbD;rw [List.getElem?_eq_getElem (show ZaN Fs m.fr < V.length by omega),Option.getD_some,this.2];simp
theorem Zmf (h:Zax Ss Ms=true) {x:Sh} {kind:Zy_} (hx:Zca Ss kind=some x) {m:Md} (hm:m ∈ Ms) (hk:m.kind=x.kind) :
 m.field ∈ ZaA x.fields/\(m.wh.toList.isEmpty=true\/m.wh ∈ ZaA x.fields)/\(m.fr.toList.isEmpty=true\/m.fr ∈ ZaA x.fields):=by
 have hb:=Zkz h hm;unfold ZcU at hb;rw [hk,(Zcg hx).2,hx] at hb;simp only [Zcm,Bool.and_eq_true,Bool.or_eq_true] at hb;refine⟨Zdr hb.1.1.1.1.1.1,?_,?_⟩
 . rcases hb.1.1.1.1.1.2 with h | h
   . exact Or.inl h
   . exact Or.inr (Zdr h)
 . rcases hb.1.1.1.1.2 with h | h
   . exact Or.inl h
   . exact Or.inr (Zdr h)
theorem ZlR {α:Type}{p:α->Bool}{L:List α} (hk:k < L.length) (h:p L[k]=true) (hall:∀ i (h:i < L.length),i < k->p L[i]=false):L.find? p=some L[k]:=by
 rw [List.find?_eq_some_iff_getElem];exact⟨h,k,hk,rfl,fun j hj=>by simp [hall j (by omega) hj]⟩
theorem ZnD {α:Type}{p:α->Bool}{L:List α} (hall:∀ i (h:i < L.length),p L[i]=false):L.find? p=none:=by
 rw [List.find?_eq_none];intro x hx;obtain⟨i,hi,rfl⟩:=List.getElem_of_mem hx;simp [hall i hi]
theorem Zd7 {kind:Zy_}{V:List Zy_}{f:Zy_} (hk:k < Ms.length) (h:(ZcQ kind f Ms[k]&&Zge Fs V Ms[k])=true) (hall:∀ i (h:i < Ms.length),i < k->(ZcQ kind f Ms[i]&&Zge Fs V Ms[i])=false):ZcB Fs kind Ms V f=some (Zcf Fs V Ms[k]):=by
 unfold ZcB;rw [ZlR (p:=fun m=>ZcQ kind f m&&Zge Fs V m) hk h hall];rfl
theorem Zi4 {kind:Zy_}{V:List Zy_}{f:Zy_} (hall:∀ i (h:i < Ms.length),(ZcQ kind f Ms[i]&&Zge Fs V Ms[i])=false):ZcB Fs kind Ms V f=none:=by
 unfold ZcB;rw [ZnD (p:=fun m=>ZcQ kind f m&&Zge Fs V m) hall];rfl
theorem Zoi {kind:Zy_}{V:List Zy_}{f v:Zy_} (h:ZcB Fs kind Ms V f=some v):setp (ZaN Fs) (ZcB Fs kind Ms) V f=V.set (ZaN Fs f) v:=by unfold setp;rw [h]
theorem Zoh {kind:Zy_}{V:List Zy_}{f:Zy_} (h:ZcB Fs kind Ms V f=none):setp (ZaN Fs) (ZcB Fs kind Ms) V f=V:=by unfold setp;rw [h]
end
section
open Go.RowKit Go.Deep
variable {w w' W:World} {lo n k base:Nat} {v:Value} {Ms:List Md} {Fs:List Fd}
structure ZeM (w:World) (b o:Nat) (m:Md):Prop where
 c0:w.cell? ⟨b,o,none⟩=some (.string m.kind)
 c1:w.cell? ⟨b,o+1,none⟩=some (.string m.field)
 c2:w.cell? ⟨b,o+2,none⟩=some (.string m.wh)
 c3:w.cell? ⟨b,o+3,none⟩=some (.string m.is)
 c4:w.cell? ⟨b,o+4,none⟩=some (.string m.put)
 c5:w.cell? ⟨b,o+5,none⟩=some (.string m.fr)
structure ZdK (m:Md):Prop where
 s0:m.kind.size<=maxLen
 s1:m.field.size<=maxLen
 s2:m.wh.size<=maxLen
 s3:m.is.size<=maxLen
 s4:m.put.size<=maxLen
 s5:m.fr.size<=maxLen
theorem ZeM.below {b o:Nat}{m:Md} (h:ZeM w b o m) (hb:Zw_ w w') (hlt:b < w.heap.size):ZeM w' b o m:=by
 have e:∀ o,w'.cell? ⟨b,o,none⟩=w.cell? ⟨b,o,none⟩:=fun o=>hb.cell (p:=⟨b,o,none⟩) hlt
 exact⟨by rw [e];exact h.c0,by rw [e];exact h.c1,by rw [e];exact h.c2,by rw [e];exact h.c3,by rw [e];exact h.c4,by rw [e];exact h.c5⟩
def Za7 (lo:Nat) (w:World) (v:Value) (Ms:List Md):Prop:=
 (∃ (a:Option Addr) (cap:Nat),v=.slice a 0 cap/\Ms=[])\/
 ∃ (b off cap:Nat),v=.slice (some ⟨b,off,none⟩) Ms.length cap/\Ms≠[]/\Ms.length<=maxLen/\b < w.heap.size/\lo<=b/\Ms.length<=cap/\
  ∀ i (h:i < Ms.length),ZdK Ms[i]/\ZeM w b (off+i*6) Ms[i]
theorem Za7.below (h:Za7 lo w v Ms) (hb:Zw_ w w'):Za7 lo w' v Ms:=by
 rcases h with h | ⟨b,off,cap,h1,h2,h3,h4,h5,h6,h7⟩
 . exact Or.inl h
 . refine Or.inr ⟨b,off,cap,h1,h2,h3,Zk_ h4 hb.size,h5,h6,fun i hi=>?_⟩
   obtain⟨hs,hc⟩:=h7 i hi;exact⟨hs,hc.below hb h4⟩
theorem Za7.mono {lo':Nat} (h:Za7 lo w v Ms) (hl:lo'<=lo):Za7 lo' w v Ms:=by
 rcases h with h | ⟨b,off,cap,h1,h2,h3,h4,h5,h6,h7⟩
 . exact Or.inl h
 . exact Or.inr ⟨b,off,cap,h1,h2,h3,h4,Nat.le_trans hl h5,h6,h7⟩
theorem Za7.form (h:Za7 lo w v Ms):∃ a cap,v=.slice a Ms.length cap:=by
 rcases h with ⟨a,cap,h,rfl⟩ | ⟨b,off,cap,h,_⟩
 . exact⟨a,cap,h⟩
 . exact⟨_,cap,h⟩
theorem Za7.full (h:Za7 lo w v Ms) (hne:Ms≠[]):∃ (b off cap:Nat),v=.slice (some ⟨b,off,none⟩) Ms.length cap/\Ms.length<=maxLen/\b < w.heap.size/\Ms.length<=cap/\
 ∀ i (h:i < Ms.length),ZdK Ms[i]/\ZeM w b (off+i*6) Ms[i]:=by
 rcases h with ⟨_,_,_,h⟩ | ⟨b,off,cap,h1,_,h3,h4,_,h6,h7⟩
 . exact absurd h hne
 . exact⟨b,off,cap,h1,h3,h4,h6,h7⟩
theorem Za7.full' {a:Option Addr}{cap:Nat} (h:Za7 lo w (.slice a n cap) Ms) (hL:0 < Ms.length) :
 ∃ b off,a=some ⟨b,off,none⟩/\b < w.heap.size/\∀ i (h:i < Ms.length),ZdK Ms[i]/\ZeM w b (off+i*6) Ms[i]:=by
 rcases h with ⟨a',cap',h,rfl⟩ | ⟨b',off',cap',h1,h2,h3,h4,h5,h6,h7⟩
 . simp at hL
 . injection h1 with e1 e2 e3
   exact⟨b',off',e1,h4,h7⟩
theorem ZmG (k f h i p r:Zy_) (left:Int) (w:World) (h0:0<=left) (h1:left<=1048576)
 (s0:k.size<=maxLen) (s1:f.size<=maxLen) (s2:h.size<=maxLen) (s3:i.size<=maxLen) (s4:p.size<=maxLen) (s5:r.size<=maxLen) :
 Calls prog 75 #[.agg #[.string k,.string f,.string h,.string i,.string p,.string r],.int .i64 left] w
  fun e w'=>∃ r:Int,e=.returned (.int .i64 r)/\Zw_ w w'/\-1<=r/\r<=left:=by
 unfold maxLen at s0 s1 s2 s3 s4 s5;have HW:∀ o,Hd (Zw_ w (w.alloc o)):=fun o=>Zb_.alloc Zl_ _
 go_enter func75,ntmps75;go_wp2
 all_goals go_ret
 all_goals exact⟨_,rfl,(HW _).o,by omega,by omega⟩
theorem Zou (lo:Nat) (v:Value) (Ms:List Md) (left:Int) (w:World) (h0:0<=left) (h1:left<=1048576) (hv:Za7 lo w v Ms) :
 Calls prog 28 #[v,.int .i64 left] w fun e w'=>∃ r:Int,e=.returned (.int .i64 r)/\Zw_ w w'/\Zro Ms.length left r:=by
 rcases hv with ⟨a,cap,rfl,rfl⟩ | ⟨b,off,cap,rfl,hne,hm,hbw,_,_,hc⟩
 . go_enter func28,ntmps28
   go_wp2
   go_loop [1,5] (fun l i=>∃ r:Int,l=.int .i64 r/\0<=r/\r<=left/\i=.int .i64 0) (fun _ _=>0)
   case atStart=>exact⟨_,rfl,by omega,by omega,rfl⟩
   case round=>
    obtain⟨r,rfl,hr0,hr1,rfl⟩:=hrel;go_wp2;go_ret;exact⟨r,rfl,Below.refl _ _,by omega,by omega,fun _=>by simp;omega⟩
 . unfold maxLen at hm
   by_cases hle:(Ms.length:Int)<=left
   . go_enter func28,ntmps28
     go_wp2
     go_loopw [1,5] (fun l i wr=>∃ (r:Int) (k:Nat),l=.int .i64 r/\0<=r/\r<=left/\i=.int .i64 k/\k<=Ms.length/\Zw_ w wr) (fun _ i _=>Ms.length - (intOf i).toNat)
     case atStart=>exact⟨_,0,rfl,by omega,by omega,rfl,by omega,Below.refl _ _⟩
     case round=>
      obtain⟨r,k,rfl,hr0,hr1,rfl,hk,hb⟩:=hrel
      by_cases hlt:k < Ms.length
      . obtain⟨hsz,hcell⟩:=hc k hlt
        obtain⟨c0,c1,c2,c3,c4,c5⟩:=hcell.below hb hbw;go_wp2_with fail;refine (ZmG _ _ _ _ _ _ _ _ hr0 (by omega) hsz.s0 hsz.s1 hsz.s2 hsz.s3 hsz.s4 hsz.s5).mono ?_;rintro e w1 ⟨r1,rfl,hb1,q0,q1⟩;have hB:Hd (Zw_ w w1):=hb.trans (hb1.mono hb.size);clear hb1 c0 c1 c2 c3 c4 c5 hb;go_wp2
        all_goals first
         | (go_roundw
            . exact⟨_,k+1,rfl,by omega,by omega,by go_num,by omega,hB.o⟩
            . simp [intOf];omega)
         | (go_ret
            exact⟨-1,rfl,hB.o,by omega,by omega,fun h=>by omega⟩)
      . go_wp2
        go_ret;exact⟨r,rfl,hb,by omega,by omega,fun _=>hle⟩
   . go_enter func28,ntmps28
     go_wp2;go_ret;exact⟨-1,rfl,Below.refl _ _,by omega,by omega,fun h=>by omega⟩
theorem ZmP (k f h i p r:Zy_) (w:World) :
 Calls prog 87 #[.agg #[.string k,.string f,.string h,.string i,.string p,.string r]] w
  fun e w'=>e=.returned (.agg #[.string k,.string f,.string h,.string i,.string p,.string r])/\Zw_ w w':=by
 go_enter func87,ntmps87;go_wp2;refine bodyPost_ret (v:=.agg #[.string k,.string f,.string h,.string i,.string p,.string r]) (by simp [results,results87,go_sem]) rfl ⟨rfl,?_⟩
 repeat (refine Below.setCell ?_ (by simp only [];omega) _)
 exact ((Zb_.alloc Zl_ _).alloc (by simp) _).alloc (by simp;omega) _
theorem Zj6 (k f h i p r:Zy_) (w:World) :
 Calls prog 98 #[.agg #[.string k,.string f,.string h,.string i,.string p,.string r],.agg #[.string k,.string f,.string h,.string i,.string p,.string r]] w
  fun e w'=>e=.returned (.bool true)/\Zw_ w w':=by
 go_enter func98,ntmps98;go_wp2;go_ret;exact⟨rfl,(Zb_.alloc Zl_ _).alloc (by simp) _⟩
theorem ZlJ (lo lo':Nat) (v v':Value) (Ms:List Md) (w:World) (hv:Za7 lo w v Ms) (hv':Za7 lo' w v' Ms) :
 Calls prog 46 #[v,v'] w fun e w'=>e=.returned (.bool true)/\Zw_ w w':=by
 by_cases hL:Ms=[]
 . subst hL
   obtain⟨a,cap,rfl⟩:=hv.form;obtain⟨a',cap',rfl⟩:=hv'.form;clear hv hv';go_enter func46,ntmps46;go_wp2
   go_loop [5] (fun i=>i=.int .i64 0) (fun _=>0)
   case atStart=>rfl
   case round=>
    subst hrel;go_wp2;go_ret;exact⟨rfl,Below.refl _ _⟩
 . obtain⟨b,off,cap,rfl,hm,hbw,_,hc⟩:=hv.full hL
   obtain⟨b',off',cap',rfl,_,hbw',_,hc'⟩:=hv'.full hL;clear hv hv';unfold maxLen at hm;go_enter func46,ntmps46;go_wp2
   go_loopw [5] (fun i wr=>∃ k:Nat,i=.int .i64 k/\k<=Ms.length/\Zw_ w wr) (fun i _=>Ms.length - (intOf i).toNat)
   case atStart=>exact⟨0,rfl,by omega,Below.refl _ _⟩
   case round=>
    obtain⟨k,rfl,hk,hb⟩:=hrel
    by_cases hlt:k < Ms.length
    . obtain⟨_,hcell⟩:=hc k hlt
      obtain⟨_,hcell'⟩:=hc' k hlt;obtain⟨c0,c1,c2,c3,c4,c5⟩:=hcell.below hb hbw;obtain⟨d0,d1,d2,d3,d4,d5⟩:=hcell'.below hb hbw';clear hcell hcell';have HB:=Zab hb;clear hb;go_wp2
      go_region_with (go_at_call 98;refine (Zj6 _ _ _ _ _ _ _).mono ?_;rintro e w1 ⟨rfl,hb1⟩;have hB:Hd (Zw_ w w1):=(HB.o.drew).trans (hb1.mono HB.o.size);clear hb1)
      all_goals go_wp2
      all_goals go_roundw
      all_goals first
       | (case rel=>exact⟨k+1,by go_num,by omega,hB.o⟩)
       | (case measure=>simp [intOf];omega)
    . go_wp2
      go_ret;exact⟨rfl,hb⟩
def ZbW (Fs:List Fd) (s:Zy_):Int:=if ZaN Fs s < Fs.length then (ZaN Fs s:Int) else -1
theorem ZhQ {s:Zy_} (hk:k < Fs.length) (h:(Fs[k].nm.toList == s.toList)=true) (hall:∀ i (h:i < Fs.length),i < k->(Fs[i].nm.toList == s.toList)=false):ZbW Fs s=k:=by
 unfold ZbW;rw [Zn9 hk h hall,if_pos hk]
theorem ZjD {s:Zy_} (hall:∀ i (h:i < Fs.length),(Fs[i].nm.toList == s.toList)=false):ZbW Fs s= -1:=by
 unfold ZbW;rw [Zrb hall,if_neg (Nat.lt_irrefl _)]
theorem ZbB {s:Zy_} (h:ZaN Fs s < Fs.length):ZbW Fs s=ZaN Fs s:=if_pos h
theorem ZjC {s:Zy_} (h:¬ ZaN Fs s < Fs.length):ZbW Fs s= -1:=if_neg h
theorem Zbf (lo:Nat) (v:Value) (Fs:List Fd) (s:Zy_) (w:World) (hv:Zau lo w v Fs) :
 Calls prog 200 #[v,.string s] w fun e w'=>e=.returned (.int .i64 (ZbW Fs s))/\w'=w:=by
 by_cases hL:Fs=[]
 . subst hL
   obtain⟨a,cap,rfl⟩:=Zc6 hv;clear hv;go_enter func200,ntmps200;go_wp2
   go_loop [5] (fun i=>i=.int .i64 0) (fun _=>0)
   case atStart=>rfl
   case round=>
    subst hrel;go_wp2;go_ret;exact⟨rfl,rfl⟩
 . obtain⟨b,off,cap,rfl,hm,hbw,_,hc⟩:=hv.full hL
   clear hv;unfold maxLen at hm;go_enter func200,ntmps200;go_wp2
   go_loop [5] (fun i=>∃ k:Nat,i=.int .i64 k/\k<=Fs.length/\∀ i (h:i < Fs.length),i < k->(Fs[i].nm.toList == s.toList)=false) (fun i=>Fs.length - (intOf i).toNat)
   case atStart=>exact⟨0,rfl,by omega,fun i _ h=>by omega⟩
   case round=>
    obtain⟨k,rfl,hk,hall⟩:=hrel;have HA:=Zab hall;clear hall
    by_cases hlt:k < Fs.length
    . obtain⟨_,wv,hcell,_⟩:=hc k hlt
      have c0:=hcell.c0;clear hcell
      by_cases he:(Fs[k].nm.toList == s.toList)=true
      . go_wp2
        go_ret;exact⟨by rw [ZhQ hlt he HA.o];rfl,rfl⟩
      . have he':(Fs[k].nm.toList == s.toList)=false:=by simpa using he
        clear he;go_wp2
        go_round
        case rel=>exact⟨k+1,by go_num,by omega,fun i h h'=>by
                   by_cases e:i=k
                   . subst e;exact he'
                   . exact HA.o i h (by omega)⟩
        . simp [intOf];omega
    . go_wp2
      go_ret;exact⟨by rw [ZjD fun i h=>HA.o i h (by omega)];rfl,rfl⟩
theorem ZdC (lo:Nat) (v:Value) (Fs:List Fd) (s:Zy_) (w:World) (hv:Zau lo w v Fs) :
 Calls prog 199 #[v,.string s] w fun e w'=>e=.returned (.bool (Zbc Fs s))/\w'=w:=by
 have HV:=Zab hv
 by_cases hp:ZaN Fs s < Fs.length
 . obtain⟨b,off,cap,rfl,hm,hbw,_,hc⟩:=hv.full (by intro e;rw [e] at hp;simp at hp)
   clear hv;unfold maxLen at hm;obtain⟨_,wv,hcell,_⟩:=hc _ hp;have c1:=hcell.c1;have HQ:Hd (Zbc Fs s=!(Fs[ZaN Fs s].kd == 4)):=Zlb hp;have HP:Hd (ZbW Fs s=ZaN Fs s):=ZbB hp;clear hcell hc;go_enter func199,ntmps199;go_wp2_with fail;refine (Zbf lo _ Fs s _ HV.o).mono ?_;rintro e w1 ⟨rfl,rfl⟩;rw [HP.o]
   cases hk:(Fs[ZaN Fs s].kd == 4) with
   | true=>
    have HQ2:Hd (Zbc Fs s=false):=by unfold Hd;rw [HQ.o,hk];rfl
    have e4:Fs[ZaN Fs s].kd=4:=by simpa using hk
    rw [e4] at c1;clear e4 hk HQ HP;go_wp2;go_ret;exact⟨Zaa HQ2.o.symm,rfl⟩
   | false=>
    have HQ2:Hd (Zbc Fs s=true):=by unfold Hd;rw [HQ.o,hk];rfl
    have e4:¬ Fs[ZaN Fs s].kd=4:=by simpa using hk
    clear hk HQ HP;go_wp2;go_ret;exact⟨Zaa (by rw [HQ2.o];simp [e4]),rfl⟩
 . obtain⟨a,cap,rfl⟩:=hv.form
   clear hv;have HQ:Hd (Zbc Fs s=false):=Zlc hp;have HP:Hd (ZbW Fs s= -1):=ZjC hp;go_enter func199,ntmps199;go_wp2_with fail;refine (Zbf lo _ Fs s _ HV.o).mono ?_;rintro e w1 ⟨rfl,rfl⟩;rw [HP.o];clear HP hp;go_wp2;go_ret;exact⟨Zaa HQ.o.symm,rfl⟩
theorem Zc5 {L:List Zy_}{s:Zy_}:Zen L s=true↔s ∈ L:=by
 unfold Zen;rw [List.any_eq_true]
 constructor
 . rintro⟨x,hx,h⟩;rw [ZaF] at h;subst h;exact hx
 . exact fun h=>⟨s,h,ZcK _⟩
theorem Zil {L:List Zy_}{s:Zy_} (h:Zen L s=false):s ∉ L:=fun hm=>by rw [Zc5.2 hm] at h;cases h
def Zfm (Ms:List Md) (kind field:Zy_) (row:List Zy_):Bool:=(Zam kind Ms field).all (Zen row)
theorem ZcW {kind field:Zy_}{row:List Zy_}:Zfm Ms kind field row=true↔∀ r ∈ Zam kind Ms field,r ∈ row:=by
 unfold Zfm;rw [List.all_eq_true];exact⟨fun h r hr=>Zc5.1 (h r hr),fun h r hr=>Zc5.2 (h r hr)⟩
def ZiW (kind field:Zy_) (row:List Zy_) (m:Md):Bool:=!ZcQ kind field m || ((m.wh.toList.isEmpty || Zen row m.wh)&&(m.fr.toList.isEmpty || Zen row m.fr))
theorem ZpW {kind field:Zy_}{row:List Zy_} (h:∀ i (h:i < Ms.length),ZiW kind field row Ms[i]=true):Zfm Ms kind field row=true:=by
 rw [ZcW];intro r hr;obtain⟨m,hm,hf,hrd⟩:=ZdD.1 hr;obtain⟨i,hi,rfl⟩:=List.getElem_of_mem hm;have:=h i hi;unfold ZiW at this;rw [hf] at this;simp only [Bool.not_true,Bool.false_or,Bool.and_eq_true,Bool.or_eq_true] at this;unfold ZiD at hrd
 rcases List.mem_append.1 hrd with h1 | h1
 . by_cases he:Ms[i].wh.toList.isEmpty=true
   . rw [if_pos he] at h1;cases h1
   . rw [if_neg he] at h1
     rw [List.mem_singleton.1 h1]
     rcases this.1 with h2 | h2
     . exact absurd h2 he
     . exact Zc5.1 h2
 . by_cases he:Ms[i].fr.toList.isEmpty=true
   . rw [if_pos he] at h1;cases h1
   . rw [if_neg he] at h1
     rw [List.mem_singleton.1 h1]
     rcases this.2 with h2 | h2
     . exact absurd h2 he
     . exact Zc5.1 h2
theorem Zg2 {kind field:Zy_}{row:List Zy_}{i:Nat} (hi:i < Ms.length) (h:ZiW kind field row Ms[i]=false):Zfm Ms kind field row=false:=by
 cases hr:Zfm Ms kind field row with
 | false=>rfl
 | true=>
  rw [ZcW] at hr
  have hf:ZcQ kind field Ms[i]=true:=by
   cases hf:ZcQ kind field Ms[i] with
   | true=>rfl
   | false=>unfold ZiW at h;rw [hf] at h;cases h
  have key:∀ r ∈ ZiD Ms[i],Zen row r=true:=fun r hrr=>Zc5.2 (hr r (ZdD.2 ⟨Ms[i],List.getElem_mem hi,hf,hrr⟩))
  have hx:ZiW kind field row Ms[i]=true:=by
   unfold ZiW;simp only [hf,Bool.not_true,Bool.false_or,Bool.and_eq_true,Bool.or_eq_true];refine⟨?_,?_⟩
   . cases hw:Ms[i].wh.toList.isEmpty with
     | true=>exact Or.inl rfl
     | false=>exact Or.inr (key _ (ZrT hw))
   . cases hw:Ms[i].fr.toList.isEmpty with
     | true=>exact Or.inl rfl
     | false=>exact Or.inr (key _ (ZrS hw))
  rw [hx] at h;cases h
theorem Zke (lo:Nat) (v rv:Value) (Ms:List Md) (kind field:Zy_) (row:List Zy_) (w:World) (hv:Za7 lo w v Ms) (hr:Zaf w rv row) :
 Calls prog 202 #[v,.string kind,.string field,rv] w fun e w'=>e=.returned (.bool (Zfm Ms kind field row))/\Zw_ w w':=by
 have HR:=Zab hr;obtain⟨ra,rn,rcap,rfl⟩:=hr.form;clear hr
 by_cases hL:Ms=[]
 . subst hL
   obtain⟨a,cap,rfl⟩:=hv.form;clear hv;have HQ:Hd (Zfm [] kind field row=true):=rfl;go_enter func202,ntmps202;go_wp2
   go_loop [9] (fun i=>i=.int .i64 0) (fun _=>0)
   case atStart=>rfl
   case round=>
    subst hrel;go_wp2;go_ret;exact⟨Zaa HQ.o.symm,Below.refl _ _⟩
 obtain⟨b,off,cap,rfl,hm,hbw,_,hc⟩:=hv.full hL;clear hv;unfold maxLen at hm;go_enter func202,ntmps202;go_wp2
 go_loopw [9] (fun i wr=>∃ k:Nat,i=.int .i64 k/\k<=Ms.length/\Zw_ w wr/\∀ i (h:i < Ms.length),i < k->ZiW kind field row Ms[i]=true) (fun i _=>Ms.length - (intOf i).toNat)
 case atStart=>exact⟨0,rfl,by omega,Below.refl _ _,fun i _ h=>by omega⟩
 case round=>
  obtain⟨k,rfl,hk,hb,hall⟩:=hrel;have HA:=Zab hall;have HB:=Zab hb;clear hall hb
  by_cases hlt:k < Ms.length
  . obtain⟨_,hcell⟩:=hc k hlt
    obtain⟨c0,c1,c2,c3,c4,c5⟩:=hcell.below HB.o hbw;clear hcell;have HB1:∀ o,Hd (Zw_ w (wr.alloc o)):=fun o=>HB.o.alloc HB.o.size _
    have HNX:Hd (ZiW kind field row Ms[k]=true->∀ i (h:i < Ms.length),i < k+1->ZiW kind field row Ms[i]=true):=fun h i hi hik=>by
     by_cases e:i=k
     . subst e;exact h
     . exact HA.o i hi (by omega)
    cases hk1:(Ms[k].kind.toList == kind.toList) with
    | false=>
     go_wp2;go_roundw
     . exact⟨k+1,by go_num,by omega,(HB1 _).o,HNX.o (by unfold ZiW ZcQ;simp [hk1])⟩
     . simp [intOf];omega
    | true=>
     cases hf1:(Ms[k].field.toList == field.toList) with
     | false=>
      go_wp2;go_roundw
      . exact⟨k+1,by go_num,by omega,(HB1 _).o,HNX.o (by unfold ZiW ZcQ;simp [hk1,hf1])⟩
      . simp [intOf];omega
     | true=>
      cases hwe:Ms[k].wh.toList.isEmpty with
      | true=>
       cases hfe:Ms[k].fr.toList.isEmpty with
       | true=>
        go_wp2;go_roundw
        . exact⟨k+1,by go_num,by omega,(HB1 _).o,HNX.o (by unfold ZiW ZcQ;simp [hk1,hf1,hwe,hfe])⟩
        . simp [intOf];omega
       | false=>
        go_wp2_with fail;refine (Zec _ row Ms[k].fr _ (HR.o.below (HB1 _).o)).mono ?_;rintro e w1 ⟨rfl,rfl⟩
        cases hfh:Zen row Ms[k].fr with
        | true=>
         go_wp2;go_roundw
         . exact⟨k+1,by go_num,by omega,(HB1 _).o,HNX.o (by unfold ZiW ZcQ;simp [hk1,hf1,hwe,hfe,hfh])⟩
         . simp [intOf];omega
        | false=>
         go_wp2;go_ret;exact⟨Zaa (Zg2 hlt (by unfold ZiW ZcQ;simp [hk1,hf1,hwe,hfe,hfh])).symm,(HB1 _).o⟩
      | false=>
       go_wp2_with fail;refine (Zec _ row Ms[k].wh _ (HR.o.below (HB1 _).o)).mono ?_;rintro e w1 ⟨rfl,rfl⟩
       cases hwh:Zen row Ms[k].wh with
       | false=>
        go_wp2;go_ret;exact⟨Zaa (Zg2 hlt (by unfold ZiW ZcQ;simp [hk1,hf1,hwe,hwh])).symm,(HB1 _).o⟩
       | true=>
        cases hfe:Ms[k].fr.toList.isEmpty with
        | true=>
         go_wp2;go_roundw
         . exact⟨k+1,by go_num,by omega,(HB1 _).o,HNX.o (by unfold ZiW ZcQ;simp [hk1,hf1,hwe,hwh,hfe])⟩
         . simp [intOf];omega
        | false=>
         go_wp2_with fail;refine (Zec _ row Ms[k].fr _ (HR.o.below (HB1 _).o)).mono ?_;rintro e w1 ⟨rfl,rfl⟩
         cases hfh:Zen row Ms[k].fr with
         | true=>
          go_wp2;go_roundw
          . exact⟨k+1,by go_num,by omega,(HB1 _).o,HNX.o (by unfold ZiW ZcQ;simp [hk1,hf1,hwe,hwh,hfe,hfh])⟩
          . simp [intOf];omega
         | false=>
          go_wp2;go_ret;exact⟨Zaa (Zg2 hlt (by unfold ZiW ZcQ;simp [hk1,hf1,hwe,hwh,hfe,hfh])).symm,(HB1 _).o⟩
  . go_wp2
    go_ret;exact⟨Zaa (ZpW fun i h=>HA.o i h (by omega)).symm,HB.o⟩
structure Zdv (base:Nat) (W:World) (v:Value) (R:List Zy_):Prop where
 row:W.ownsRow base 9 1 v R.length (R.map Value.string)
 sz:∀ s ∈ R,s.size<=maxLen
theorem Zdv.form {R:List Zy_} (h:Zdv base W v R):∃ a cap,v=.slice a R.length cap:=by
 rcases h.row.2 with ⟨hv,hn⟩ | ⟨g,cap,cur,hv,_⟩
 . rw [hn];exact⟨_,_,hv⟩
 . exact⟨_,_,hv⟩
theorem Zdv.below {W':World}{R:List Zy_} (h:Zdv base W v R) (hb:Below W.heap.size W W'):Zdv base W' v R:=by
 refine⟨⟨h.row.1,?_⟩,h.sz⟩
 rcases h.row.2 with hv | ⟨g,cap,cur,hv,h1,h2,h3⟩
 . exact Or.inl hv
 . have hg:g < W.heap.size:=by
    rcases Nat.lt_or_ge g W.heap.size with h | h
    . exact h
    . rw [Array.getElem?_eq_none h] at h2;cases h2
   exact Or.inr ⟨g,cap,cur,hv,h1,by rw [hb.block g hg];exact h2,h3⟩
theorem Zdv.strs {R:List Zy_} (h:Zdv base W v R):Zaf W v R:=by
 rcases h.row.2 with ⟨hv,hn⟩ | ⟨g,cap,cur,hv,h1,h2,h3,h4,h5,h6⟩
 . exact Or.inl ⟨none,0,hv,List.length_eq_zero_iff.1 hn⟩
 . by_cases hR:R=[]
   . subst hR;exact Or.inl ⟨_,_,hv,rfl⟩
   . have hg:g < W.heap.size:=by
      rcases Nat.lt_or_ge g W.heap.size with h | h
      . exact h
      . rw [Array.getElem?_eq_none h] at h2;cases h2
     refine Or.inr ⟨g,0,cap,hv,hR,Nat.le_trans h3 h4,hg,fun i hi=>?_,h.sz⟩;rw [Nat.zero_add,cell_of_row W g i cur 9 (0,0) h2];have:(cur.toList.take (R.length*1))[i]?=(R.map Value.string)[i]?:=by rw [h6]
     rw [List.getElem?_take_of_lt (by omega)] at this
     simpa [hi] using this
theorem Zdv.mono {base':Nat}{R:List Zy_} (h:Zdv base W v R) (hb:base'<=base):Zdv base' W v R:=by
 refine⟨⟨h.row.1,?_⟩,h.sz⟩
 rcases h.row.2 with hv | ⟨g,cap,cur,hv,h1,h2⟩
 . exact Or.inl hv
 . exact Or.inr ⟨g,cap,cur,hv,Nat.le_trans hb h1,h2⟩
theorem Zdv.nil (base:Nat) (W:World):Zdv base W (.slice none 0 0) []:=⟨World.ownsRow_nil _ _ _ _,fun s h=>by simp at h⟩
theorem Zdv.made (W:World) (g:Nat) (hg:W.heap.size=g) (hb:base<=g):Zdv base (W.alloc (.cells #[] 9)) (.slice (some ⟨g,0,none⟩) 0 0) []:=by
 subst hg;exact⟨World.ownsRow_made (base:=base) (e:=9) (size:=1) W #[] 0 hb Zz_ (by simp),fun s h=>by simp at h⟩
theorem Zdv.grown {R:List Zy_} (h:Zdv base W v R) (hg:W.grownBy w' v.ownBlock) (hb:base<=W.heap.size):Below base W w':=by
 refine⟨hg.os,hg.tape,hg.output,hg.size,fun k hk=>hg.block k (by omega) ?_⟩
 rcases h.row.2 with ⟨hv,_⟩ | ⟨g,cap,cur,hv,h1,_⟩
 . rw [hv];intro e;cases e
 . rw [hv];intro e
   have:k=g:=by simpa [Value.ownBlock] using e
   omega
theorem Zdv.snoc {v':Value}{R:List Zy_}{s:Zy_} (h:Zdv base W v R) (hown:w'.ownsRow base 9 1 v' (R.length+1) (R.map Value.string ++ [.string s])) (hs:s.size<=maxLen):Zdv base w' v' (R ++ [s]):=by
 refine⟨by rw [List.length_append,List.map_append];exact hown,fun t ht=>?_⟩
 rcases List.mem_append.1 ht with h1 | h1
 . exact h.sz t h1
 . rw [List.mem_singleton.1 h1];exact hs
theorem Zfa (X:World) (g:Nat) (u:Value) (t:TypeId) (hg:X.heap.size=g):∀ j x,[u][j]?=some x->(X.alloc (.cells #[u] t)).cell? ((⟨g,0,none⟩:Addr).add j)=some x:=by
 subst hg;intro j x hj;rw [Go.WideShapes.add_plain,Nat.zero_add]
 cases j with
 | zero=>simp at hj;subst hj;simp
 | succ j=>simp at hj
theorem ZdE (s:Zy_):∀ u ∈ [Value.string s],u.oneCell'=true:=fun u hu=>by rw [List.mem_singleton.1 hu];rfl
def ZdV (Fs:List Fd) (rd:Zy_->List Zy_) (R:List Zy_) (k:Nat):Prop:=∀ i (h:i < Fs.length),i < k->Fs[i].nm ∈ R\/¬ ∀ r ∈ rd Fs[i].nm,r ∈ R
theorem ZdV.stuck {rd:Zy_->List Zy_}{R:List Zy_} (h:ZdV Fs rd R k) (hk:Fs.length<=k):Zh7 (ZaA Fs) rd R:=by
 intro x hx hn;obtain⟨i,hi,rfl⟩:=Zcl.1 hx
 rcases h i hi (by omega) with h1 | h1
 . exact absurd h1 hn
 . exact h1
theorem ZdV.succ {rd:Zy_->List Zy_}{R:List Zy_} (h:ZdV Fs rd R k) (hk:k < Fs.length) (hx:Fs[k].nm ∈ R\/¬ ∀ r ∈ rd Fs[k].nm,r ∈ R):ZdV Fs rd R (k+1):=by
 intro i hi hik
 by_cases e:i=k
 . subst e;exact hx
 . exact h i hi (by omega)
theorem Zef (Fs:List Fd):(ZaA Fs).length=Fs.length:=by simp [ZaA]
theorem Zik {rd:Zy_->List Zy_}{R:List Zy_} (h:ZcF (ZaA Fs) rd R):R.length<=Fs.length:=by
 have:=List.Nodup.length_le_of_subset h.nodup h.sub
 rwa [Zef] at this
def Zo1 (x:Sh) (Ms:List Md) (R:List Zy_):Prop:=
 ZcF (ZaA x.fields) (Zam x.kind Ms) R/\R.length<=x.fields.length/\(R.length=x.fields.length↔Zbk Ms x=true)
theorem Zo1.mk' {x:Sh}{R:List Zy_} (hg:ZcF (ZaA x.fields) (Zam x.kind Ms) R) (hn:x.fields.length<=n) (h:R.length=n\/Zh7 (ZaA x.fields) (Zam x.kind Ms) R):Zo1 x Ms R:=by
 have hl:=Zik hg;refine⟨hg,hl,fun e=>Zlk hg (by rw [Zef];omega),fun hb=>?_⟩
 rcases h with h | h
 . omega
 . rcases Nat.lt_or_ge R.length x.fields.length with hlt | hge
   . unfold Zbk at hb
     rw [Zod h (by rw [Zef];exact hlt)] at hb;cases hb
   . omega
end
open Go.ChangeShapes Go.WideShapes Go.ChangeAt Go.RowKit Go.Deep
open Go.ChangeMaps (open_string shut_string)
variable {fuel:Nat} {c:Value} {l cs:List Value}
theorem Tryz.own:ownKnob prog.godebug=none:=by kernel_rfl
theorem Tryz.cells9:prog.cellsOf 9=1:=by kernel_rfl
theorem Tryz.cells3:prog.cellsOf 3=1:=by kernel_rfl
theorem Tryz.cells4:prog.cellsOf 4=1:=by kernel_rfl
theorem Tryz.cells111:prog.cellsOf 111=1:=by kernel_rfl
theorem Tryz.cells226:prog.cellsOf 226=11:=by kernel_rfl
section
variable {H:Type} {enc:TypeId×Value->H} {W:World}
theorem ZfL {x:DataW H×List MemPlace} (h:DataW.trod enc prog W 0 (fun _=>true) true fuel 111 [c]=some x):∃ L,Zaf W c L:=by
 rcases open_strs underlying111 underlying9 Tryz.cells9 h with ⟨hcs,_⟩ | ⟨a,len,cap,m,Sx,hcs,_,hl,hm,hmm,_,hcell⟩
 . simp only [List.cons.injEq,and_true] at hcs
   exact⟨[],Or.inl ⟨_,_,hcs,rfl⟩⟩
 . simp only [List.cons.injEq,and_true] at hcs
   simp only [if_true] at hmm;subst hmm
   by_cases h0:len=0
   . subst h0
     exact⟨[],Or.inl ⟨_,_,hcs,rfl⟩⟩
   . obtain⟨b,off,spot⟩:=a
     have hspot:spot=none:=by simpa [Addr.add] using World.cell?_spot (hcell 0 (by omega)).1
     subst hspot;refine⟨(List.range len).map Sx,Or.inr ⟨b,off,m,?_,?_,?_,?_,?_,?_⟩⟩
     . rw [hcs];simp
     . intro e;simp at e;exact h0 e
     . simp;omega
     . exact World.block_lt_of_cell? W _ (hcell 0 (by omega)).1
     . intro i hi
       simp at hi;have:=(hcell i (by omega)).1;rw [add_plain] at this
       simpa using this
     . intro s hs
       obtain⟨i,hi,rfl⟩:=List.mem_map.1 hs;exact (hcell i (by have:=List.mem_range.1 hi;omega)).2
end
theorem Tryz.cells101:prog.cellsOf 101=1:=by kernel_rfl
theorem Tryz.cells103:prog.cellsOf 103=2:=by kernel_rfl
theorem Zby {α:Type}{p:Nat->α->Prop} (n:Nat):(∀ i,i < n->∃ x,p i x)->∃ L:List α,L.length=n/\∀ i (h:i < L.length),p i L[i]:=by
 induction n with
 | zero=>intro _;exact⟨[],rfl,fun i h=>absurd h (by simp)⟩
 | succ n ih=>
  intro h;obtain⟨L,hl,hL⟩:=ih (fun i hi=>h i (by omega));obtain⟨x,hx⟩:=h n (by omega);refine⟨L ++ [x],by simp [hl],fun i hi=>?_⟩
  by_cases e:i < L.length
  . rw [List.getElem_append_left e];exact hL i e
  . have e2:i=n:=by simp at hi;omega
    subst e2;have:(L ++ [x])[i]=x:=by rw [List.getElem_append_right (by omega)];simp [hl]
    rw [this];exact hx
theorem ZrI (h:l.length=11):∃ c0 c1 c2 c3 c4 c5 c6 c7 c8 c9 c10,l=[c0,c1,c2,c3,c4,c5,c6,c7,c8,c9,c10]:=by
 match l,h with
 | [c0,c1,c2,c3,c4,c5,c6,c7,c8,c9,c10],_=>exact⟨c0,c1,c2,c3,c4,c5,c6,c7,c8,c9,c10,rfl⟩
theorem ZrJ (h:l.length=2):∃ c0 c1,l=[c0,c1]:=by
 match l,h with
 | [c0,c1],_=>exact⟨c0,c1,rfl⟩
theorem Zaf.in0 {w:World}{v:Value}{L:List Zy_} (h:Zaf w v L):Zaq 0 w v L:=by
 rcases h with h | ⟨b,off,cap,h1,h2,h3,h4,h5,h6⟩
 . exact Or.inl h
 . exact Or.inr ⟨b,off,cap,h1,h2,h3,h4,h5,h6,Nat.zero_le _⟩
section
variable {H:Type} {enc:TypeId×Value->H} {W:World}
theorem Zq6 {x:DataW H×List MemPlace} (h:DataW.trod enc prog W 0 (fun _=>true) true fuel 226 cs=some x) :
 ∃ (f:Fd) (wv:Value),cs=[.string f.nm,.int .i64 f.kd,.int .i64 f.le,.int .i64 f.mo,wv,.string f.to,.int .i64 f.ro,.bool f.mu,.bool f.fx,.string f.df,.string f.we]/\Zaf W wv f.words/\ZeD f:=by
 obtain⟨xs,n,_,_,hl,hlen,hfld⟩:=DataW.trod_struct underlying226 h;obtain⟨c0,c1,c2,c3,c4,c5,c6,c7,c8,c9,c10,rfl⟩:=ZrI (hl.trans Tryz.cells226);simp only [Array.size,List.length_cons,List.length_nil] at hlen;have g0:DataW.trod enc prog W 0 (fun _=>true) true n 9 ((([c0,c1,c2,c3,c4,c5,c6,c7,c8,c9,c10]:List Value).drop 0).take (prog.cellsOf 9))=xs[0]?:=hfld 0 _ rfl;have g1:DataW.trod enc prog W 0 (fun _=>true) true n 3 ((([c0,c1,c2,c3,c4,c5,c6,c7,c8,c9,c10]:List Value).drop 1).take (prog.cellsOf 3))=xs[1]?:=hfld 1 _ rfl;have g2:DataW.trod enc prog W 0 (fun _=>true) true n 3 ((([c0,c1,c2,c3,c4,c5,c6,c7,c8,c9,c10]:List Value).drop 2).take (prog.cellsOf 3))=xs[2]?:=hfld 2 _ rfl;have g3:DataW.trod enc prog W 0 (fun _=>true) true n 3 ((([c0,c1,c2,c3,c4,c5,c6,c7,c8,c9,c10]:List Value).drop 3).take (prog.cellsOf 3))=xs[3]?:=hfld 3 _ rfl
 have g4:DataW.trod enc prog W 0 (fun _=>true) true n 111 ((([c0,c1,c2,c3,c4,c5,c6,c7,c8,c9,c10]:List Value).drop 4).take (prog.cellsOf 111))=xs[4]?:=hfld 4 _ rfl;have g5:DataW.trod enc prog W 0 (fun _=>true) true n 9 ((([c0,c1,c2,c3,c4,c5,c6,c7,c8,c9,c10]:List Value).drop 5).take (prog.cellsOf 9))=xs[5]?:=hfld 5 _ rfl;have g6:DataW.trod enc prog W 0 (fun _=>true) true n 3 ((([c0,c1,c2,c3,c4,c5,c6,c7,c8,c9,c10]:List Value).drop 6).take (prog.cellsOf 3))=xs[6]?:=hfld 6 _ rfl;have g7:DataW.trod enc prog W 0 (fun _=>true) true n 4 ((([c0,c1,c2,c3,c4,c5,c6,c7,c8,c9,c10]:List Value).drop 7).take (prog.cellsOf 4))=xs[7]?:=hfld 7 _ rfl;have g8:DataW.trod enc prog W 0 (fun _=>true) true n 4 ((([c0,c1,c2,c3,c4,c5,c6,c7,c8,c9,c10]:List Value).drop 8).take (prog.cellsOf 4))=xs[8]?:=hfld 8 _ rfl
 have g9:DataW.trod enc prog W 0 (fun _=>true) true n 9 ((([c0,c1,c2,c3,c4,c5,c6,c7,c8,c9,c10]:List Value).drop 9).take (prog.cellsOf 9))=xs[9]?:=hfld 9 _ rfl;have g10:DataW.trod enc prog W 0 (fun _=>true) true n 9 ((([c0,c1,c2,c3,c4,c5,c6,c7,c8,c9,c10]:List Value).drop 10).take (prog.cellsOf 9))=xs[10]?:=hfld 10 _ rfl;simp only [Tryz.cells9,Tryz.cells3,Tryz.cells4,Tryz.cells111,List.drop_succ_cons,List.drop_zero,List.take_succ_cons,List.take_zero] at g0 g1 g2 g3 g4 g5 g6 g7 g8 g9 g10;rw [List.getElem?_eq_getElem (by omega)] at g0 g1 g2 g3 g4 g5 g6 g7 g8 g9 g10;obtain⟨nm,e0,_,s0⟩:=DataW.trod_string underlying9 g0;obtain⟨kd,e1,_,_⟩:=DataW.trod_int underlying3 g1;obtain⟨le,e2,_,_⟩:=DataW.trod_int underlying3 g2;obtain⟨mo,e3,_,_⟩:=DataW.trod_int underlying3 g3;obtain⟨L,hL⟩:=ZfL g4;obtain⟨tq,e5,_,s5⟩:=DataW.trod_string underlying9 g5
 obtain⟨ro,e6,_,_⟩:=DataW.trod_int underlying3 g6;obtain⟨mu,e7,_⟩:=DataW.trod_bool underlying4 g7;obtain⟨fx,e8,_⟩:=DataW.trod_bool underlying4 g8;obtain⟨df,e9,_,s9⟩:=DataW.trod_string underlying9 g9;obtain⟨we,e10,_,s10⟩:=DataW.trod_string underlying9 g10;simp only [List.cons.injEq,and_true] at e0 e1 e2 e3 e5 e6 e7 e8 e9 e10;subst e0 e1 e2 e3 e5 e6 e7 e8 e9 e10;exact⟨⟨nm,kd,le,mo,L,tq,ro,mu,fx,df,we⟩,c4,rfl,hL,⟨s0,s5,s9,s10⟩⟩
theorem ZpJ {x:DataW H×List MemPlace} (h:DataW.trod enc prog W 0 (fun _=>true) true fuel 101 [c]=some x):∃ Fs,Zau 0 W c Fs:=by
 rcases open_slice underlying101 h with ⟨hcs,_⟩ | ⟨a,len,cap,m,n,D,Pl,hcs,_,hl,hm,hmm,_,hx⟩
 . simp only [List.cons.injEq,and_true] at hcs
   exact⟨[],Or.inl ⟨_,_,hcs,rfl⟩⟩
 . simp only [List.cons.injEq,and_true] at hcs
   simp only [if_true] at hmm;subst hmm;rw [Tryz.cells226] at hx
   by_cases h0:len=0
   . subst h0
     exact⟨[],Or.inl ⟨_,_,hcs,rfl⟩⟩
   . obtain⟨Fs,hF,hall⟩:=Zby (p:=fun i (f:Fd)=>ZeD f/\∃ wv,Zaf W wv f.words/\W.cells? 0 (a.add (i*11)) 11=some [.string f.nm,.int .i64 f.kd,.int .i64 f.le,.int .i64 f.mo,wv,.string f.to,.int .i64 f.ro,.bool f.mu,.bool f.fx,.string f.df,.string f.we]) len (fun i hi=>by
      obtain⟨cs',h1,h2⟩:=hx i (by omega);obtain⟨f,wv,e,hw,hz⟩:=Zq6 h2;rw [e] at h1;exact⟨f,hz,wv,hw,h1⟩)
     obtain⟨b,off,spot⟩:=a
     have hspot:spot=none:=by
      obtain⟨_,wv,_,h1⟩:=hall 0 (by omega);have:=(World.cells?_some h1).2.2 0 (by omega);rw [Nat.zero_mul] at this;have e0:((⟨b,off,spot⟩:Addr).add 0).add 0=⟨b,off,spot⟩:=by simp [Addr.add]
      rw [e0] at this
      simpa using World.cell?_spot (by simpa using this)
     subst hspot
     have hcell:∀ i (hi:i < Fs.length) wv,W.cells? 0 ((⟨b,off,none⟩:Addr).add (i*11)) 11=some [.string Fs[i].nm,.int .i64 Fs[i].kd,.int .i64 Fs[i].le,.int .i64 Fs[i].mo,wv,.string Fs[i].to,.int .i64 Fs[i].ro,.bool Fs[i].mu,.bool Fs[i].fx,.string Fs[i].df,.string Fs[i].we]->Zcw W b (off+i*11) Fs[i] wv:=fun i hi wv h1=>by
      obtain⟨_,_,hc⟩:=World.cells?_some h1;rw [add_plain] at hc;have q:=fun j (hj:j < 11)=>(add_plain b (off+i*11) j) ▸ hc j hj
      exact⟨by simpa using q 0 (by omega),by simpa using q 1 (by omega),by simpa using q 2 (by omega),by simpa using q 3 (by omega),by simpa using q 4 (by omega),by simpa using q 5 (by omega),by simpa using q 6 (by omega),by simpa using q 7 (by omega),by simpa using q 8 (by omega),by simpa using q 9 (by omega),by simpa using q 10 (by omega)⟩
     have hbw:b < W.heap.size:=by
      obtain⟨_,wv,_,h1⟩:=hall 0 (by omega);exact World.block_lt_of_cell? W _ (hcell 0 (by omega) wv h1).c0
     refine⟨Fs,Or.inr ⟨b,off,m,by rw [hcs,hF],?_,by omega,hbw,Nat.zero_le _,by omega,fun i hi=>?_⟩⟩
     . intro e;rw [e] at hF;simp at hF;omega
     . obtain⟨hz,wv,hw,h1⟩:=hall i hi
       exact⟨hz,wv,hcell i hi wv h1,hw.in0⟩
theorem Zq8 {x:DataW H×List MemPlace} (h:DataW.trod enc prog W 0 (fun _=>true) true fuel 103 cs=some x) :
 ∃ (s:Sh) (fv:Value),cs=[.string s.kind,fv]/\Zau 0 W fv s.fields/\s.kind.size<=maxLen:=by
 obtain⟨xs,n,_,_,hl,hlen,hfld⟩:=DataW.trod_struct underlying103 h;obtain⟨c0,c1,rfl⟩:=ZrJ (hl.trans Tryz.cells103);simp only [Array.size,List.length_cons,List.length_nil] at hlen;have g0:DataW.trod enc prog W 0 (fun _=>true) true n 9 ((([c0,c1]:List Value).drop 0).take (prog.cellsOf 9))=xs[0]?:=hfld 0 _ rfl;have g1:DataW.trod enc prog W 0 (fun _=>true) true n 101 ((([c0,c1]:List Value).drop 1).take (prog.cellsOf 101))=xs[1]?:=hfld 1 _ rfl;simp only [Tryz.cells9,Tryz.cells101,List.drop_succ_cons,List.drop_zero,List.take_succ_cons,List.take_zero] at g0 g1;rw [List.getElem?_eq_getElem (by omega)] at g0 g1;obtain⟨kd,e0,_,s0⟩:=DataW.trod_string underlying9 g0;obtain⟨Fs,hF⟩:=ZpJ g1;simp only [List.cons.injEq,and_true] at e0;subst e0;exact⟨⟨kd,Fs⟩,c1,rfl,hF,s0⟩
theorem ZpN {x:DataW H×List MemPlace} (h:DataW.trod enc prog W 0 (fun _=>true) true fuel 22 [c]=some x):∃ Ss,ZaH 0 W c Ss:=by
 rcases open_slice underlying22 h with ⟨hcs,_⟩ | ⟨a,len,cap,m,n,D,Pl,hcs,_,hl,hm,hmm,_,hx⟩
 . simp only [List.cons.injEq,and_true] at hcs
   exact⟨[],Or.inl ⟨_,_,hcs,rfl⟩⟩
 . simp only [List.cons.injEq,and_true] at hcs
   simp only [if_true] at hmm;subst hmm;rw [Tryz.cells103] at hx
   by_cases h0:len=0
   . subst h0
     exact⟨[],Or.inl ⟨_,_,hcs,rfl⟩⟩
   . obtain⟨Ss,hF,hall⟩:=Zby (p:=fun i (s:Sh)=>s.kind.size<=maxLen/\∃ fv,Zau 0 W fv s.fields/\W.cells? 0 (a.add (i*2)) 2=some [.string s.kind,fv]) len (fun i hi=>by
      obtain⟨cs',h1,h2⟩:=hx i (by omega);obtain⟨s,fv,e,hw,hz⟩:=Zq8 h2;rw [e] at h1;exact⟨s,hz,fv,hw,h1⟩)
     obtain⟨b,off,spot⟩:=a
     have hspot:spot=none:=by
      obtain⟨_,fv,_,h1⟩:=hall 0 (by omega);have:=(World.cells?_some h1).2.2 0 (by omega);rw [Nat.zero_mul] at this;have e0:((⟨b,off,spot⟩:Addr).add 0).add 0=⟨b,off,spot⟩:=by simp [Addr.add]
      rw [e0] at this
      simpa using World.cell?_spot (by simpa using this)
     subst hspot
     have hcell:∀ i (hi:i < Ss.length) fv,W.cells? 0 ((⟨b,off,none⟩:Addr).add (i*2)) 2=some [.string Ss[i].kind,fv]->W.cell? ⟨b,off+i*2,none⟩=some (.string Ss[i].kind)/\W.cell? ⟨b,off+i*2+1,none⟩=some fv:=fun i hi fv h1=>by
      obtain⟨_,_,hc⟩:=World.cells?_some h1;rw [add_plain] at hc;have q:=fun j (hj:j < 2)=>(add_plain b (off+i*2) j) ▸ hc j hj
      exact⟨by simpa using q 0 (by omega),by simpa using q 1 (by omega)⟩
     have hbw:b < W.heap.size:=by
      obtain⟨_,fv,_,h1⟩:=hall 0 (by omega);exact World.block_lt_of_cell? W _ (hcell 0 (by omega) fv h1).1
     refine⟨Ss,Or.inr ⟨b,off,m,by rw [hcs,hF],?_,by omega,hbw,Nat.zero_le _,fun i hi=>?_⟩⟩
     . intro e;rw [e] at hF;simp at hF;omega
     . obtain⟨hz,fv,hw,h1⟩:=hall i hi
       exact⟨hz,fv,(hcell i hi fv h1).1,(hcell i hi fv h1).2,hw⟩
end
theorem Tryz.cells113:prog.cellsOf 113=7:=by kernel_rfl
theorem ZrB {cs:Array Value} (h:cs.size=7):∃ c0 c1 c2 c3 c4 c5 c6,cs=#[c0,c1,c2,c3,c4,c5,c6]:=by
 obtain⟨l⟩:=cs
 match l,h with
 | [c0,c1,c2,c3,c4,c5,c6],_=>exact⟨c0,c1,c2,c3,c4,c5,c6,rfl⟩
theorem Tryz.cells106:prog.cellsOf 106=6:=by kernel_rfl
theorem Zse (h:l.length=6):∃ c0 c1 c2 c3 c4 c5,l=[c0,c1,c2,c3,c4,c5]:=by
 match l,h with
 | [c0,c1,c2,c3,c4,c5],_=>exact⟨c0,c1,c2,c3,c4,c5,rfl⟩
section
variable {H:Type} {enc:TypeId×Value->H} {W:World}
theorem Zq7 {x:DataW H×List MemPlace} (h:DataW.trod enc prog W 0 (fun _=>true) true fuel 106 cs=some x) :
 ∃ (m:Md),cs=[.string m.kind,.string m.field,.string m.wh,.string m.is,.string m.put,.string m.fr]/\ZdK m:=by
 obtain⟨xs,n,_,_,hl,hlen,hfld⟩:=DataW.trod_struct underlying106 h;obtain⟨c0,c1,c2,c3,c4,c5,rfl⟩:=Zse (hl.trans Tryz.cells106);simp only [Array.size,List.length_cons,List.length_nil] at hlen;have g0:DataW.trod enc prog W 0 (fun _=>true) true n 9 ((([c0,c1,c2,c3,c4,c5]:List Value).drop 0).take (prog.cellsOf 9))=xs[0]?:=hfld 0 _ rfl;have g1:DataW.trod enc prog W 0 (fun _=>true) true n 9 ((([c0,c1,c2,c3,c4,c5]:List Value).drop 1).take (prog.cellsOf 9))=xs[1]?:=hfld 1 _ rfl;have g2:DataW.trod enc prog W 0 (fun _=>true) true n 9 ((([c0,c1,c2,c3,c4,c5]:List Value).drop 2).take (prog.cellsOf 9))=xs[2]?:=hfld 2 _ rfl;have g3:DataW.trod enc prog W 0 (fun _=>true) true n 9 ((([c0,c1,c2,c3,c4,c5]:List Value).drop 3).take (prog.cellsOf 9))=xs[3]?:=hfld 3 _ rfl
 have g4:DataW.trod enc prog W 0 (fun _=>true) true n 9 ((([c0,c1,c2,c3,c4,c5]:List Value).drop 4).take (prog.cellsOf 9))=xs[4]?:=hfld 4 _ rfl;have g5:DataW.trod enc prog W 0 (fun _=>true) true n 9 ((([c0,c1,c2,c3,c4,c5]:List Value).drop 5).take (prog.cellsOf 9))=xs[5]?:=hfld 5 _ rfl;simp only [Tryz.cells9,List.drop_succ_cons,List.drop_zero,List.take_succ_cons,List.take_zero] at g0 g1 g2 g3 g4 g5;rw [List.getElem?_eq_getElem (by omega)] at g0 g1 g2 g3 g4 g5;obtain⟨k,e0,_,s0⟩:=DataW.trod_string underlying9 g0;obtain⟨f,e1,_,s1⟩:=DataW.trod_string underlying9 g1;obtain⟨wh,e2,_,s2⟩:=DataW.trod_string underlying9 g2;obtain⟨is,e3,_,s3⟩:=DataW.trod_string underlying9 g3;obtain⟨pu,e4,_,s4⟩:=DataW.trod_string underlying9 g4;obtain⟨fr,e5,_,s5⟩:=DataW.trod_string underlying9 g5;simp only [List.cons.injEq,and_true] at e0 e1 e2 e3 e4 e5
 subst e0 e1 e2 e3 e4 e5;exact⟨⟨k,f,wh,is,pu,fr⟩,rfl,⟨s0,s1,s2,s3,s4,s5⟩⟩
theorem ZpL {x:DataW H×List MemPlace} (h:DataW.trod enc prog W 0 (fun _=>true) true fuel 23 [c]=some x):∃ Ms,Za7 0 W c Ms:=by
 rcases open_slice underlying23 h with ⟨hcs,_⟩ | ⟨a,len,cap,m,n,D,Pl,hcs,_,hl,hm,hmm,_,hx⟩
 . simp only [List.cons.injEq,and_true] at hcs
   exact⟨[],Or.inl ⟨_,_,hcs,rfl⟩⟩
 . simp only [List.cons.injEq,and_true] at hcs
   simp only [if_true] at hmm;subst hmm;rw [Tryz.cells106] at hx
   by_cases h0:len=0
   . subst h0
     exact⟨[],Or.inl ⟨_,_,hcs,rfl⟩⟩
   . obtain⟨Ms,hF,hall⟩:=Zby (p:=fun i (m:Md)=>ZdK m/\W.cells? 0 (a.add (i*6)) 6=some [.string m.kind,.string m.field,.string m.wh,.string m.is,.string m.put,.string m.fr]) len (fun i hi=>by
      obtain⟨cs',h1,h2⟩:=hx i (by omega);obtain⟨md,e,hz⟩:=Zq7 h2;rw [e] at h1;exact⟨md,hz,h1⟩)
     obtain⟨b,off,spot⟩:=a
     have hspot:spot=none:=by
      obtain⟨_,h1⟩:=hall 0 (by omega);have:=(World.cells?_some h1).2.2 0 (by omega);rw [Nat.zero_mul] at this;have e0:((⟨b,off,spot⟩:Addr).add 0).add 0=⟨b,off,spot⟩:=by simp [Addr.add]
      rw [e0] at this
      simpa using World.cell?_spot (by simpa using this)
     subst hspot
     have hcell:∀ i (hi:i < Ms.length),W.cells? 0 ((⟨b,off,none⟩:Addr).add (i*6)) 6=some [.string Ms[i].kind,.string Ms[i].field,.string Ms[i].wh,.string Ms[i].is,.string Ms[i].put,.string Ms[i].fr]->ZeM W b (off+i*6) Ms[i]:=fun i hi h1=>by
      obtain⟨_,_,hc⟩:=World.cells?_some h1;rw [add_plain] at hc;have q:=fun j (hj:j < 6)=>(add_plain b (off+i*6) j) ▸ hc j hj
      exact⟨by simpa using q 0 (by omega),by simpa using q 1 (by omega),by simpa using q 2 (by omega),by simpa using q 3 (by omega),by simpa using q 4 (by omega),by simpa using q 5 (by omega)⟩
     have hbw:b < W.heap.size:=by
      obtain⟨_,h1⟩:=hall 0 (by omega);exact World.block_lt_of_cell? W _ (hcell 0 (by omega) h1).c0
     refine⟨Ms,Or.inr ⟨b,off,m,by rw [hcs,hF],?_,by omega,hbw,Nat.zero_le _,by omega,fun i hi=>?_⟩⟩
     . intro e;rw [e] at hF;simp at hF;omega
     . obtain⟨hz,h1⟩:=hall i hi
       exact⟨hz,hcell i hi h1⟩
end
end Go.Proofs.YtmappejlmapboaaGreat
