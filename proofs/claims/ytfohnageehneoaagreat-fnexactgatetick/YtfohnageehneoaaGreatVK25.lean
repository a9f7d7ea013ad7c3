import Derived.Test.YtfohnageehneoaaGreatVB1
import Derived.Test.YtfohnageehneoaaGreatVCC
set_option maxHeartbeats 16000000
set_option maxRecDepth 100000
open Go.Proofs.Tryz
namespace Go.Proofs.YtfohnageehneoaaGreat
open Go.RowKit Go.Deep
structure Ztc (w:World) (b o:Nat) (wv:Value):Prop where
 lt:b < w.heap.size
 c0:(w.cell? ⟨b,o,none⟩).isSome=true
 cj:∀ j,j < 11→(w.cell? ⟨b,o+j,none⟩).isSome=true
 four:w.cell? ⟨b,o+4,none⟩=some wv
 fr:∀ i,w.frozen? ⟨b,i,none⟩=false
def ZqU (hi b off n:Nat) (w:World):Prop:=∀ i,i < n→∃ wv m,Ztc w b (off+i*11) wv∧Zjd (b+1) hi w wv m∧m≤1048576
structure Mk (lo hi b off n:Nat) (w W:World):Prop where
 kept:ZbS lo hi w W
 inv:ZqU hi b off n W
theorem Mk.setp {lo hi b off n:Nat} {w W:World} (h:Mk lo hi b off n w W) (hl:lo≤b) (hh:b < hi) (o:Nat) (ho:(W.cell? ⟨b,o,none⟩).isSome=true) (h4:∀ i,o≠off+i*11+4) (u:Value):Mk lo hi b off n w (W.setCell ⟨b,o,none⟩ u):=by
 have hk:=ZbS.setCell lo hi W ⟨b,o,none⟩ u ⟨hl,hh⟩ ho;refine⟨h.kept.trans hk,fun i hi'=>?_⟩;obtain⟨wv,m,hs,hw,hm⟩:=h.inv i hi';refine⟨wv,m,⟨Zk_ hs.lt hk.touch.size,hk.there _ hs.lt hs.c0,fun j hj=>hk.there _ hs.lt (hs.cj j hj),?_,fun i=>(hk.frz _ hs.lt).trans (hs.fr i)⟩,hw.kept hk,hm⟩;rw [show (W.setCell ⟨b,o,none⟩ u).cell? ⟨b,off+i*11+4,none⟩=W.cell? ⟨b,off+i*11+4,none⟩ from by apply World.cell?_setCell_other;simp only [ne_eq,Addr.mk.injEq,not_and];intro _ e;exact absurd e (h4 i)];exact hs.four
theorem Mk.set {lo hi b off n:Nat} {w W:World} (h:Mk lo hi b off n w W) (hl:lo≤b) (hh:b < hi) (j c:Nat) (hj:j < n) (hc:c < 11) (h4:c≠4) (u:Value):Mk lo hi b off n w (W.setCell ⟨b,off+j*11+c,none⟩ u):=by
 obtain⟨wv,m,hs,_,_⟩:=h.inv j hj;exact h.setp hl hh _ (hs.cj c hc) (fun i=>by omega) u
theorem Mk.set0 {lo hi b off n:Nat} {w W:World} (h:Mk lo hi b off n w W) (hl:lo≤b) (hh:b < hi) (j:Nat) (hj:j < n) (u:Value):Mk lo hi b off n w (W.setCell ⟨b,off+j*11,none⟩ u):=by
 obtain⟨wv,m,hs,_,_⟩:=h.inv j hj;exact h.setp hl hh _ hs.c0 (fun i=>by omega) u
theorem Mk.words {lo hi b off n:Nat} {w W W':World} (h:Mk lo hi b off n w W) (hl:lo≤b) (k:ZbS (b+1) hi W W'):Mk lo hi b off n w W':=by
 refine⟨h.kept.trans (k.wide (by omega) Zl_),fun i hi'=>?_⟩;obtain⟨wv,m,hs,hw,hm⟩:=h.inv i hi';exact⟨wv,m,⟨Zk_ hs.lt k.touch.size,k.there _ hs.lt hs.c0,fun j hj=>k.there _ hs.lt (hs.cj j hj),by rw [k.touch.cell (p:=⟨b,_,none⟩) hs.lt (Or.inl (by simp))];exact hs.four,fun i=>(k.frz _ hs.lt).trans (hs.fr i)⟩,hw.kept k,hm⟩
theorem Mk.below {lo hi b off n:Nat} {w W W':World} (h:Mk lo hi b off n w W) (hl:lo≤b) (k:Below W.heap.size W W'):Mk lo hi b off n w W':=h.words hl (ZbS.below k)
def ZhF (lo hi:Nat) (w:World) (v:Value) (n:Nat):Prop:=
 (∃ (a:Option Addr) (cap:Nat),v=.slice a 0 cap∧n=0)∨
 ∃ (b off cap:Nat),v=.slice (some ⟨b,off,none⟩) n cap∧0 < n∧n≤maxLen∧lo≤b∧b < hi∧ZqU hi b off n w
theorem Zai (w:World) (b o o':Nat) (u:Value) (h:o≠o'):(w.setCell ⟨b,o,none⟩ u).cell? ⟨b,o',none⟩=w.cell? ⟨b,o',none⟩:=by
 rw [Zdl _ _ _ _ (by simp only [ne_eq,Addr.mk.injEq,not_and];intro _ e;exact absurd e h)]
theorem Zlr (lo hi:Nat) (v:Value) (n:Nat) (k:Int) (w:World) (hv:ZhF lo hi w v n) (h0:0≤k) (hn:n≤1048576) (hk:k+n*1048586≤3000000000000000000) :
 Calls prog 122 #[v,.int .i64 k] w fun e w'=>∃ r:Int,e=.returned (.int .i64 r)∧k≤r∧r≤k+n*1048586∧ZbS lo hi w w':=by
 rcases hv with ⟨a,cap,rfl,rfl⟩ | ⟨b,off,cap,rfl,hne,hm,hlo,hhi,hinv⟩
 · go_enter func122,ntmps122
   go_wp2
   go_loop [5,1] (fun i q=>i=.int .i64 0∧q=.int .i64 k) (fun _ _=>0)
   case atStart=>exact⟨rfl,rfl⟩
   case round=>
    obtain⟨rfl,rfl⟩:=hrel;go_wp2;go_ret;exact⟨k,rfl,by omega,by omega,ZbS.refl _ _ _⟩
 · unfold maxLen at hm
   have HI:Hid (Mk lo hi b off n w w):=⟨ZbS.refl _ _ _,hinv⟩;clear hinv;go_enter func122,ntmps122;go_wp2
   go_loopw [5,1] (fun i q wr=>∃ (j:Nat) (r:Int),i=.int .i64 j∧q=.int .i64 r∧k≤r∧r≤k+j*1048586∧j≤n∧Mk lo hi b off n w wr) (fun i _ _=>n - (intOf i).toNat)
   case atStart=>exact⟨0,k,rfl,rfl,by omega,by omega,by omega,HI.out⟩
   case round=>
    obtain⟨j,r,rfl,rfl,hr0,hr1,hj,hmk⟩:=hrel;have HM:=Zab hmk;clear hmk HI
    by_cases hlt:j < n
    · go_wp2_with fail
      refine (Zah _ _ (by omega)).mono ?_;rintro e w1 ⟨rfl,hb1⟩;have HM1:=Zab (HM.out.below hlo hb1);clear hb1 HM;obtain⟨wv,m,hs,hw,hmm⟩:=HM1.out.inv j hlt;obtain⟨a4,cap4,rfl⟩:=hw.form;obtain⟨u0,g0⟩:=Option.isSome_iff_exists.1 hs.c0;obtain⟨u1,g1⟩:=Option.isSome_iff_exists.1 (hs.cj 1 (by omega));obtain⟨u2,g2⟩:=Option.isSome_iff_exists.1 (hs.cj 2 (by omega));obtain⟨u3,g3⟩:=Option.isSome_iff_exists.1 (hs.cj 3 (by omega));have g4:=hs.four;have gf:=hs.fr;have HW:=Zab hw;clear hs hw;go_wp2_with fail;have HX:=Zab ((((HM1.out.set0 hlo hhi j hlt (.string (mtB r))).set hlo hhi j 1 hlt (by omega) (by omega) (.int .i64 (r+1))).set hlo hhi j 2 hlt (by omega) (by omega) (.int .i64 (r+1+1))).set hlo hhi j 3 hlt (by omega) (by omega) (.int .i64 (r+1+1+1)))
      have HK:=Zab (((((ZbS.refl lo hi w1).trans (ZbS.setCell lo hi _ ⟨b,off+j*11,none⟩ (.string (mtB r)) ⟨hlo,hhi⟩ (by rw [g0];rfl))).trans (ZbS.setCell lo hi _ ⟨b,off+j*11+1,none⟩ (.int .i64 (r+1)) ⟨hlo,hhi⟩ (by rw [Zai _ _ _ _ _ (by omega),g1];rfl))).trans (ZbS.setCell lo hi _ ⟨b,off+j*11+2,none⟩ (.int .i64 (r+1+1)) ⟨hlo,hhi⟩ (by rw [Zai _ _ _ _ _ (by omega),Zai _ _ _ _ _ (by omega),g2];rfl))).trans (ZbS.setCell lo hi _ ⟨b,off+j*11+3,none⟩ (.int .i64 (r+1+1+1)) ⟨hlo,hhi⟩ (by rw [Zai _ _ _ _ _ (by omega),Zai _ _ _ _ _ (by omega),Zai _ _ _ _ _ (by omega),g3];rfl)));refine (ZiY (b+1) hi _ m _ _ (HW.out.kept HK.out) (by omega) (by omega)).mono ?_;rintro e w2 ⟨rfl,hk2⟩;have HM2:=Zab (HX.out.words hlo hk2);clear hk2 HX HK HW HM1 g0 g1 g2 g3 g4 gf u0 u1 u2 u3;go_wp2_with fail
      refine (Zah _ _ (by omega)).mono ?_;rintro e w3 ⟨rfl,hb3⟩;have HM3:=Zab (HM2.out.below hlo hb3);clear hb3 HM2;obtain⟨wv',m',hs,_,_⟩:=HM3.out.inv j hlt;obtain⟨u5,g5⟩:=Option.isSome_iff_exists.1 (hs.cj 5 (by omega));obtain⟨u6,g6⟩:=Option.isSome_iff_exists.1 (hs.cj 6 (by omega));obtain⟨u7,g7⟩:=Option.isSome_iff_exists.1 (hs.cj 7 (by omega));obtain⟨u8,g8⟩:=Option.isSome_iff_exists.1 (hs.cj 8 (by omega));have gf:=hs.fr;clear hs;go_wp2_with fail;refine (Zah _ _ (by omega)).mono ?_;rintro e w4 ⟨rfl,hb4⟩;have HM4:=Zab (((((HM3.out.set hlo hhi j 5 hlt (by omega) (by omega) _).set hlo hhi j 6 hlt (by omega) (by omega) _).set hlo hhi j 7 hlt (by omega) (by omega) _).set hlo hhi j 8 hlt (by omega) (by omega) _).below hlo hb4);clear hb4 HM3 g5 g6 g7 g8 gf u5 u6 u7 u8;obtain⟨wv5,m5,hs,_,_⟩:=HM4.out.inv j hlt
      obtain⟨u9,g9⟩:=Option.isSome_iff_exists.1 (hs.cj 9 (by omega));have gf:=hs.fr;clear hs;go_wp2_with fail;refine (Zah _ _ (by omega)).mono ?_;rintro e w5 ⟨rfl,hb5⟩;have HM5:=Zab ((HM4.out.set hlo hhi j 9 hlt (by omega) (by omega) _).below hlo hb5);clear hb5 HM4 g9 gf u9;obtain⟨wv6,m6,hs,_,_⟩:=HM5.out.inv j hlt;obtain⟨u10,g10⟩:=Option.isSome_iff_exists.1 (hs.cj 10 (by omega));have gf:=hs.fr;clear hs;go_wp2;go_roundw
      case rel=>
       exact⟨j+1,_,by go_num,rfl,by omega,by omega,by omega,HM5.out.set hlo hhi j 10 hlt (by omega) (by omega) _⟩
      case measure=>simp [intOf];omega
    · have e:j=n:=by omega
      subst e;go_wp2;go_ret;exact⟨r,rfl,by omega,by omega,HM.out.kept⟩
theorem ZhF.kept {lo hi lo' hi':Nat} {w w':World} {v:Value} {n:Nat} (h:ZhF lo hi w v n) (k:ZbS lo' hi' w w') (ho:hi≤lo'∨hi'≤lo):ZhF lo hi w' v n:=by
 rcases h with h | ⟨b,off,cap,h1,h2,h3,h4,h5,h6⟩
 · exact Or.inl h
 · refine Or.inr ⟨b,off,cap,h1,h2,h3,h4,h5,fun i hi'=>?_⟩
   obtain⟨wv,m,hs,hw,hm⟩:=h6 i hi';exact⟨wv,m,⟨Zk_ hs.lt k.touch.size,k.there _ hs.lt hs.c0,fun j hj=>k.there _ hs.lt (hs.cj j hj),by rw [k.touch.cell (p:=⟨b,_,none⟩) hs.lt (by simp only [];omega)];exact hs.four,fun i=>(k.frz _ hs.lt).trans (hs.fr i)⟩,hw.kept k,hm⟩
theorem ZhF.form {lo hi:Nat} {w:World} {v:Value} {n:Nat} (h:ZhF lo hi w v n):∃ a cap,v=.slice a n cap:=by
 rcases h with ⟨a,cap,h,rfl⟩ | ⟨b,off,cap,h,_⟩
 · exact⟨a,cap,h⟩
 · exact⟨_,cap,h⟩
structure ZrM (w:World) (b o:Nat) (fv:Value):Prop where
 lt:b < w.heap.size
 c0:(w.cell? ⟨b,o,none⟩).isSome=true
 one:w.cell? ⟨b,o+1,none⟩=some fv
 fr:∀ i,w.frozen? ⟨b,i,none⟩=false
def Zea (b off n:Nat) (m:Nat→Nat) (j:Nat) (w:World):Prop:=∀ i,i < n→j≤i→∃ fv nf,ZrM w b (off+i*2) fv∧ZhF (m i) (m (i+1)) w fv nf∧nf≤1048576
theorem Zea.kept {b off n:Nat} {m:Nat→Nat} {j j' lo' hi':Nat} {w w':World} (h:Zea b off n m j w) (k:ZbS lo' hi' w w') (hm:∀ i j,i≤j→m i≤m j) (hjj:j≤j') (hb:b < lo') (hh:hi'≤m j'):Zea b off n m j' w':=by
 intro i hi hj;obtain⟨fv,nf,hs,hf,hn⟩:=h i hi (by omega);refine⟨fv,nf,⟨Zk_ hs.lt k.touch.size,k.there _ hs.lt hs.c0,by rw [k.touch.cell (p:=⟨b,_,none⟩) hs.lt (Or.inl hb)];exact hs.one,fun i=>(k.frz _ hs.lt).trans (hs.fr i)⟩,hf.kept k (Or.inr ?_),hn⟩;have:=hm j' i hj
 omega
theorem Zea.below {b off n:Nat} {m:Nat→Nat} {j:Nat} {w w':World} (h:Zea b off n m j w) (hb:Zw_ w w'):Zea b off n m j w':=by
 intro i hi hj;obtain⟨fv,nf,hs,hf,hn⟩:=h i hi hj;have k:ZbS (m (i+1)) (m (i+1)) w w':=ZbS.below hb;exact⟨fv,nf,⟨Zk_ hs.lt hb.size,k.there _ hs.lt hs.c0,by rw [hb.cell (p:=⟨b,_,none⟩) hs.lt];exact hs.one,fun i=>(k.frz _ hs.lt).trans (hs.fr i)⟩,hf.kept k (Or.inl Zl_),hn⟩
theorem Zea.set {b off n:Nat} {m:Nat→Nat} {j:Nat} {w:World} (h:Zea b off n m j w) (hb:b < m 0) (hm:∀ i j,i≤j→m i≤m j) (l:Nat) (hl:l < n) (hlj:j≤l) (u:Value):Zea b off n m j (w.setCell ⟨b,off+l*2,none⟩ u)∧∀ lo hi,lo≤b→b < hi→ZbS lo hi w (w.setCell ⟨b,off+l*2,none⟩ u):=by
 obtain⟨_,_,hs0,_,_⟩:=h l hl hlj;have hk:=fun lo hi (h1:lo≤b) (h2:b < hi)=>ZbS.setCell lo hi w ⟨b,off+l*2,none⟩ u ⟨h1,h2⟩ hs0.c0
 refine⟨fun i hi hj=>?_,hk⟩;obtain⟨fv,nf,hs,hf,hn⟩:=h i hi hj;have k:=hk b (b+1) Zl_ (by omega);refine⟨fv,nf,⟨Zk_ hs.lt k.touch.size,k.there _ hs.lt hs.c0,by rw [Zai _ _ _ _ _ (by omega)];exact hs.one,fun i=>(k.frz _ hs.lt).trans (hs.fr i)⟩,hf.kept k (Or.inr ?_),hn⟩;have:=hm 0 i (by omega)
 omega
def ZpL (lo hi:Nat) (w:World) (v:Value) (n:Nat):Prop:=
 (∃ (a:Option Addr) (cap:Nat),v=.slice a 0 cap∧n=0)∨
 ∃ (b off cap:Nat) (m:Nat→Nat),v=.slice (some ⟨b,off,none⟩) n cap∧0 < n∧n≤maxLen∧lo≤b∧b < hi∧b < m 0∧(∀ i j,i≤j→m i≤m j)∧m n≤hi∧Zea b off n m 0 w
theorem Zkz (lo hi:Nat) (v:Value) (n:Nat) (k:Int) (w:World) (hv:ZpL lo hi w v n) (h0:0≤k) (hn:n≤1048576) (hk:k≤1000) :
 Calls prog 58 #[v,.int .i64 k] w fun e w'=>∃ r:Int,e=.returned (.int .i64 r)∧k≤r∧r≤1500000000000000000∧ZbS lo hi w w':=by
 rcases hv with ⟨a,cap,rfl,rfl⟩ | ⟨b,off,cap,m,rfl,hne,hm,hlo,hhi,hb0,hmono,hmn,hinv⟩
 · go_enter func58,ntmps58
   go_wp2
   go_loop [5,1] (fun i q=>i=.int .i64 0∧q=.int .i64 k) (fun _ _=>0)
   case atStart=>exact⟨rfl,rfl⟩
   case round=>
    obtain⟨rfl,rfl⟩:=hrel;go_wp2;go_ret;exact⟨k,rfl,by omega,by omega,ZbS.refl _ _ _⟩
 · unfold maxLen at hm
   have HI:Hid (Zea b off n m 0 w):=hinv;have HMO:=Zab hmono;clear hinv hmono;go_enter func58,ntmps58;go_wp2
   go_loopw [5,1] (fun i q wr=>∃ (j:Nat) (r:Int),i=.int .i64 j∧q=.int .i64 r∧k≤r∧r≤k+j*1099522113537∧j≤n∧ZbS lo hi w wr∧Zea b off n m j wr) (fun i _ _=>n - (intOf i).toNat)
   case atStart=>exact⟨0,k,rfl,rfl,by omega,by omega,by omega,ZbS.refl _ _ _,HI.out⟩
   case round=>
    obtain⟨j,r,rfl,rfl,hr0,hr1,hj,hkp,hsi⟩:=hrel;have HK:=Zab hkp;have HS:=Zab hsi;clear hkp hsi HI
    by_cases hlt:j < n
    · go_wp2_with fail
      refine (Zah _ _ (by omega)).mono ?_;rintro e w1 ⟨rfl,hb1⟩;have HK1:=Zab (HK.out.trans (ZbS.below hb1));have HS1:=Zab (HS.out.below hb1);clear hb1 HK HS;obtain⟨hset,hkset⟩:=HS1.out.set hb0 HMO.out j hlt Zl_ (.string (mtB r));have HSS:=Zab hset;have HKS:=Zab (HK1.out.trans (hkset lo hi hlo hhi));clear hset hkset;obtain⟨fv,nf,hs,hf,hnf⟩:=HS1.out j hlt Zl_;obtain⟨fv',nf',hs',hf',hnf'⟩:=HSS.out j hlt Zl_;obtain⟨u0,g0⟩:=Option.isSome_iff_exists.1 hs.c0;have g1:=hs.one;have gf:=hs.fr
      have efv:fv'=fv:=by
       have:=hs'.one;rw [Zai _ _ _ _ _ (by omega),g1] at this;exact (Option.some.inj this).symm
      subst efv;obtain⟨a4,cap4,rfl⟩:=hf'.form;have HF:=Zab hf';clear hs hs' hf hf' HK1;go_wp2_with fail;refine (Zlr (m j) (m (j+1)) _ nf' _ _ HF.out (by omega) (by omega) (by omega)).mono ?_;rintro e w2 ⟨r2,rfl,hr2,hr3,hk2⟩;have h1:=HMO.out 0 j (by omega);have h2:=HMO.out (j+1) n (by omega);have HK2:=Zab (HKS.out.trans (hk2.wide (by omega) (by omega)));have HS2:=Zab (HSS.out.kept hk2 HMO.out (j':=j+1) (by omega) (by omega) Zl_);clear hk2 HKS HSS HS1 HF g0 g1 gf u0;go_wp2;go_roundw
      case rel=>
       exact⟨j+1,_,by go_num,rfl,by omega,by omega,by omega,HK2.out,HS2.out⟩
      case measure=>simp [intOf];omega
    · have e:j=n:=by omega
      subst e;go_wp2;go_ret;exact⟨r,rfl,by omega,by omega,HK.out⟩
theorem Zb9.own {wr:World} {B:Nat} {L:List Zy_} {k:Nat} (h:Zb9 wr B L k) (hk:L.length≤k) (hne:L≠[]) (hm:L.length≤maxLen) (hs:∀ s ∈ L,s.size≤maxLen):Zae B wr.heap.size wr (.slice (some ⟨B,0,none⟩) L.length L.length) L:=by
 refine Or.inr ⟨B,0,L.length,rfl,hne,hm,World.rowIs.lt h,fun i hi=>?_,hs,Nat.le_refl _,World.rowIs.lt h,fun i=>World.rowIs.frozen h _⟩;rw [Nat.zero_add,World.rowIs.cell h hi];unfold ZqH;rw [if_pos (by omega),List.getD_eq_getElem?_getD,List.getElem?_eq_getElem hi];rfl
theorem Zfb (v:Value) (L:List Zy_) (w:World) (hv:Zag w v L) (hn:L.length≤1048576) :
 Calls prog 142 #[v] w fun e w'=>∃ v',e=.returned v'∧Zw_ w w'∧Zae w.heap.size w'.heap.size w' v' L:=by
 rcases hv with ⟨a,cap,rfl,rfl⟩ | ⟨b,off,cap,rfl,hne,hm,hbw,hc,hsz⟩
 · have hmk:∀ u:World,(Instr.makeSlice 59 (.int .i64 0) (.int .i64 0)).run prog u=.ok (.slice (some ⟨u.heap.size,0,none⟩) 0 0) (u.alloc (.cells (madeCells #[.string ⟨#[]⟩] 0) 9)):=
    fun u=>run_make_row' 59 9 (.string ⟨#[]⟩) 16 underlying59 Tryz.info9 rfl .i64 .i64 0 (by omega) (by omega) u
   go_enter func142,ntmps142;go_wp2
   go_loop [4] (fun i=>i=.int .i64 0) (fun _=>0)
   case atStart=>rfl
   case round=>
    subst hrel;go_wp2;go_ret;exact⟨_,rfl,Zb_.alloc Zl_ _,Or.inl ⟨_,_,rfl,rfl⟩⟩
 · have HM:Hid (L.length≤maxLen):=hm
   unfold maxLen at hm
   have hmk:∀ u:World,(Instr.makeSlice 59 (.int .i64 (L.length:Int)) (.int .i64 (L.length:Int))).run prog u=.ok (.slice (some ⟨u.heap.size,0,none⟩) L.length L.length) (u.alloc (.cells (madeCells #[.string ⟨#[]⟩] L.length) 9)):=
    fun u=>run_make_row' 59 9 (.string ⟨#[]⟩) 16 underlying59 Tryz.info9 rfl .i64 .i64 L.length (by omega) (by omega) u
   go_enter func142,ntmps142;go_wp2;clear hmk
   go_loopw [4] (fun i wr=>∃ k:Nat,i=.int .i64 k∧k≤L.length∧Zw_ w wr∧Zb9 wr w.heap.size L k) (fun i _=>L.length - (intOf i).toNat)
   case atStart=>exact⟨0,rfl,by omega,Zb_.alloc Zl_ _,World.rowIs_made w (.string ⟨#[]⟩) L.length 9⟩
   case round=>
    obtain⟨k,rfl,hk,hb,hf⟩:=hrel
    by_cases hlt:k < L.length
    · have hck:wr.cell? ⟨b,off+k,none⟩=some (.string L[k]):=by rw [hb.cell (p:=⟨b,off+k,none⟩) hbw];exact hc k hlt
      obtain⟨old,hold⟩:=hf.old hlt;have hfz:=hf.frozen k;go_wp2;go_roundw
      case rel=>exact⟨k+1,by go_num,by omega,hb.setCell Zl_ _,hf.step hlt⟩
      case measure=>simp [intOf];omega
    · go_wp2
      go_ret;exact⟨_,rfl,hb,hf.own (by omega) hne HM.out hsz⟩
theorem Zjz (nm to df we:Zy_) (kd le mo ro:Int) (mu fx:Bool) (wv:Value) (L:List Zy_) (w:World) (hv:Zag w wv L) (hn:L.length≤1048576) :
 Calls prog 202 #[.agg #[.string nm,.int .i64 kd,.int .i64 le,.int .i64 mo,wv,.string to,.int .i64 ro,.bool mu,.bool fx,.string df,.string we]] w
  fun e w'=>∃ wv',e=.returned (.agg #[.string nm,.int .i64 kd,.int .i64 le,.int .i64 mo,wv',.string to,.int .i64 ro,.bool mu,.bool fx,.string df,.string we])∧Zw_ w w'∧Zae w.heap.size w'.heap.size w' wv' L:=by
 have HV:Hid (Zag w wv L):=hv;obtain⟨a,n,cap,rfl⟩:=hv.form;clear hv;go_enter func202,ntmps202;go_wp2_with fail;refine (Zfb _ L _ (HV.out.below ?_) hn).mono ?_
 · exact ((Zb_.alloc Zl_ _).alloc (by simp) _).alloc (by simp;omega) _
 rintro e w1 ⟨wv',rfl,hb,hs⟩;obtain⟨a',cap',rfl⟩:=hs.form;have HS:Hid (Zae (w.heap.size+3) w1.heap.size w1 (.slice a' L.length cap') L):=hs.wide (by simp) Zl_;clear hs;have hz:w.heap.size+2 < w1.heap.size:=by have:=hb.size;simp at this;omega
 obtain⟨hc,hf⟩:=Zf4 hb;have HB:Hid (Zw_ w w1):=(((Zb_.alloc Zl_ _).alloc (by simp) _).alloc (by simp;omega) _).trans (hb.mono (by simp;omega));clear hb;go_wp2;refine bodyPost_ret (v:=.agg #[.string nm,.int .i64 kd,.int .i64 le,.int .i64 mo,.slice a' L.length cap',.string to,.int .i64 ro,.bool mu,.bool fx,.string df,.string we]) (by simp [results,results202,go_sem,hc]) rfl ⟨_,rfl,?_,?_⟩
 · repeat (refine Below.setCell ?_ (by simp only [];omega) _)
   exact HB.out
 · refine Zae.wide (lo:=w.heap.size+3) (hi:=w1.heap.size) ?_ (by omega) (by simp [World.setCell])
   repeat (refine Zae.setCell ?_ (by simp only [];omega) _)
   exact HS.out
theorem Zjd.setCell {lo hi:Nat} {w:World} {v:Value} {n:Nat} (h:Zjd lo hi w v n) {p:Addr} (hp:p.block < lo) (u:Value):Zjd lo hi (w.setCell p u) v n:=by
 rcases h with h | ⟨b,off,cap,h1,h2,h3,h4,h5,h6,h7,h8⟩
 · exact Or.inl h
 · exact Or.inr ⟨b,off,cap,h1,h2,h3,by simpa [World.setCell] using h4,fun i hi'=>by rw [Zaq _ _ _ _ (by show b≠p.block;omega)];exact h5 i hi',h6,h7,fun i=>by rw [World.frozen?_setCell];exact h8 i⟩
def Zfh (wr:World) (B:Nat) (Fs:List Fd) (k:Nat):Prop:=
 ∀ i (h:i < Fs.length),i < k→∃ wv,wr.cell? ⟨B,i*11+4,none⟩=some wv∧Zjd (B+1) wr.heap.size wr wv Fs[i].words.length
theorem Zfh.below {wr w1:World} {B:Nat} {Fs:List Fd} {k:Nat} (h:Zfh wr B Fs k) (hb:Below wr.heap.size wr w1) (hB:B < wr.heap.size):Zfh w1 B Fs k:=fun i hi hik=>by
 obtain⟨wv,h1,h2⟩:=h i hi hik;exact⟨wv,by rw [hb.cell (p:=⟨B,_,none⟩) hB];exact h1,(h2.kept (ZbS.below (lo:=0) (hi:=0) hb)).wide Zl_ hb.size⟩
theorem Zfh.step {w1:World} {B:Nat} {Fs:List Fd} {k:Nat} {wv v0 v1 v2 v3 v5 v6 v7 v8 v9 v10 o4:Value} (h:Zfh w1 B Fs k) (hk:k < Fs.length) (ho:w1.cell? ⟨B,k*11+4,none⟩=some o4) (hs:Zjd (B+1) w1.heap.size w1 wv Fs[k].words.length) :
 Zfh (((((((((((w1.setCell ⟨B,k*11,none⟩ v0).setCell ⟨B,k*11+1,none⟩ v1).setCell ⟨B,k*11+2,none⟩ v2).setCell ⟨B,k*11+3,none⟩ v3).setCell ⟨B,k*11+4,none⟩ wv).setCell ⟨B,k*11+5,none⟩ v5).setCell ⟨B,k*11+6,none⟩ v6).setCell ⟨B,k*11+7,none⟩ v7).setCell ⟨B,k*11+8,none⟩ v8).setCell ⟨B,k*11+9,none⟩ v9).setCell ⟨B,k*11+10,none⟩ v10) B Fs (k+1):=by
 have hz:(((((((((((w1.setCell ⟨B,k*11,none⟩ v0).setCell ⟨B,k*11+1,none⟩ v1).setCell ⟨B,k*11+2,none⟩ v2).setCell ⟨B,k*11+3,none⟩ v3).setCell ⟨B,k*11+4,none⟩ wv).setCell ⟨B,k*11+5,none⟩ v5).setCell ⟨B,k*11+6,none⟩ v6).setCell ⟨B,k*11+7,none⟩ v7).setCell ⟨B,k*11+8,none⟩ v8).setCell ⟨B,k*11+9,none⟩ v9).setCell ⟨B,k*11+10,none⟩ v10).heap.size=w1.heap.size:=by simp [World.setCell]
 intro i hi hik
 by_cases e:i=k
 · subst e
   refine⟨wv,?_,?_⟩
   · rw [Zai _ _ _ _ _ (by omega),Zai _ _ _ _ _ (by omega),Zai _ _ _ _ _ (by omega),Zai _ _ _ _ _ (by omega),Zai _ _ _ _ _ (by omega),Zai _ _ _ _ _ (by omega),Zcg _ _ _ _ (by rw [Zai _ _ _ _ _ (by omega),Zai _ _ _ _ _ (by omega),Zai _ _ _ _ _ (by omega),Zai _ _ _ _ _ (by omega)];exact ho)]
   · rw [hz]
     repeat (refine Zjd.setCell ?_ (by simp only [];omega) _)
     exact hs
 · obtain⟨wv',h1,h2⟩:=h i hi (by omega)
   refine⟨wv',?_,?_⟩
   · rw [Zai _ _ _ _ _ (by omega),Zai _ _ _ _ _ (by omega),Zai _ _ _ _ _ (by omega),Zai _ _ _ _ _ (by omega),Zai _ _ _ _ _ (by omega),Zai _ _ _ _ _ (by omega),Zai _ _ _ _ _ (by omega),Zai _ _ _ _ _ (by omega),Zai _ _ _ _ _ (by omega),Zai _ _ _ _ _ (by omega),Zai _ _ _ _ _ (by omega)];exact h1
   · rw [hz]
     repeat (refine Zjd.setCell ?_ (by simp only [];omega) _)
     exact h2
theorem Zfh.done {wr:World} {B:Nat} {Fs:List Fd} {k:Nat} (h:Zfh wr B Fs k) (hf:Zbm wr B Fs k) (hk:Fs.length≤k) (hne:Fs≠[]) (hm:Fs.length≤maxLen) (hn:Zdx Fs):ZhF B wr.heap.size wr (.slice (some ⟨B,0,none⟩) Fs.length Fs.length) Fs.length:=by
 refine Or.inr ⟨B,0,Fs.length,rfl,List.length_pos_iff.2 hne,hm,Nat.le_refl _,hf.lt,fun i hi=>?_⟩;obtain⟨wv,h1,h2⟩:=h i hi (by omega);refine⟨wv,_,⟨hf.lt,?_,fun j hj=>?_,by rw [Nat.zero_add];exact h1,hf.free⟩,h2,hn.2 i hi⟩
 · obtain⟨v,hv⟩:=hf.there (i*11) (by omega);rw [Nat.zero_add,hv];rfl
 · obtain⟨v,hv⟩:=hf.there (i*11+j) (by omega);rw [Nat.zero_add,hv];rfl
theorem Zae.in {lo hi:Nat} {w:World} {v:Value} {L:List Zy_} (h:Zae lo hi w v L):Zao lo w v L:=by
 rcases h with h | ⟨b,off,cap,h1,h2,h3,h4,h5,h6,h7,_⟩
 · exact Or.inl h
 · exact Or.inr ⟨b,off,cap,h1,h2,h3,h4,h5,h6,h7⟩
theorem ZmX (lo:Nat) (v:Value) (Fs:List Fd) (w:World) (hv:Zav lo w v Fs) (hn:Zdx Fs) :
 Calls prog 160 #[v] w fun e w'=>∃ v',e=.returned v'∧Zw_ w w'∧Zav w.heap.size w' v' Fs∧ZhF w.heap.size w'.heap.size w' v' Fs.length:=by
 obtain⟨i0,hi,hz0,hz1,hz2⟩:=info_parts Tryz.info218
 by_cases hL:Fs=[]
 · subst hL
   obtain⟨a,cap,rfl⟩:=Zdp hv;clear hv
   have hmk:∀ u:World,(Instr.makeSlice 162 (.int .i64 0) (.int .i64 0)).run prog u=.ok (.slice (some ⟨u.heap.size,0,none⟩) 0 0) (u.alloc (.cells (madeCells (Value.cells (.agg #[.string ⟨#[]⟩,.int .i64 0,.int .i64 0,.int .i64 0,.slice none 0 0,.string ⟨#[]⟩,.int .i64 0,.bool false,.bool false,.string ⟨#[]⟩,.string ⟨#[]⟩])) 0) 218)):=fun u=>by
    have h:=run_make (P:=prog) u 162 218 i0 _ underlying162 hi hz0 .i64 .i64 0 0 (by omega) (by omega) (by omega) (by omega)
    simpa [hz1] using h
   go_enter func160,ntmps160;go_wp2
   go_loop [4] (fun i=>i=.int .i64 0) (fun _=>0)
   case atStart=>rfl
   case round=>
    subst hrel;go_wp2;go_ret;exact⟨_,rfl,Zb_.alloc Zl_ _,Or.inl ⟨_,_,rfl,rfl⟩,Or.inl ⟨_,_,rfl,rfl⟩⟩
 · obtain⟨b,off,cap,rfl,hm,hbw,_,hc⟩:=hv.full hL
   clear hv;have HN:=Zab hn;obtain⟨hn1,hn2⟩:=hn;have HM:Hid (Fs.length≤maxLen):=hm;unfold maxLen at hm
   have hmk:∀ u:World,(Instr.makeSlice 162 (.int .i64 (Fs.length:Int)) (.int .i64 (Fs.length:Int))).run prog u=.ok (.slice (some ⟨u.heap.size,0,none⟩) Fs.length Fs.length) (u.alloc (.cells (madeCells (Value.cells (.agg #[.string ⟨#[]⟩,.int .i64 0,.int .i64 0,.int .i64 0,.slice none 0 0,.string ⟨#[]⟩,.int .i64 0,.bool false,.bool false,.string ⟨#[]⟩,.string ⟨#[]⟩])) (Fs.length*11)) 218)):=fun u=>by
    have h:=run_make (P:=prog) u 162 218 i0 _ underlying162 hi hz0 .i64 .i64 Fs.length Fs.length (by omega) (by omega) (by rw [hz2];omega) (by omega);rw [hz1] at h
    simpa using h
   clear hi hz0 hz1 hz2;go_enter func160,ntmps160;go_wp2;clear hmk
   go_loopw [4] (fun i wr=>∃ k:Nat,i=.int .i64 k∧k≤Fs.length∧Zw_ w wr∧Zbm wr w.heap.size Fs k∧Zfh wr w.heap.size Fs k) (fun i _=>Fs.length - (intOf i).toNat)
   case atStart=>exact⟨0,rfl,by omega,Zb_.alloc Zl_ _,Zbm.new w Fs _,fun i _ h=>by omega⟩
   case round=>
    obtain⟨k,rfl,hk,hb,hf,how⟩:=hrel;have HOW:=Zab how;clear how
    by_cases hlt:k < Fs.length
    · obtain⟨hsz,wv,hcell,hst⟩:=hc k hlt
      obtain⟨c0,c1,c2,c3,c4,c5,c6,c7,c8,c9,c10⟩:=hcell.below hb hbw;clear hcell;go_wp2_with fail;refine (Zjz _ _ _ _ _ _ _ _ _ _ _ Fs[k].words _ (hst.at.below hb) (hn2 k hlt)).mono ?_;rintro e w1 ⟨wv1,rfl,hb1,hs1⟩;have hf1:=hf.below hb1;have hs1':Zao (w.heap.size+1) w1 wv1 Fs[k].words:=(hs1.wide hf.lt Zl_).in;have HOWN:=Zab ((hs1.wide hf.lt Zl_).writ);have HOW1:=Zab (HOW.out.below hb1 hf.lt);have HST:=Zab (hf1.step hlt hsz hs1');have hB:Hid (Zw_ w w1):=hb.trans (hb1.mono hb.size);have hfr:=hf1.free;obtain⟨a1,cap1,rfl⟩:=hs1.form;obtain⟨o0,ho0⟩:=hf1.there (k*11) (by omega);obtain⟨o1,ho1⟩:=hf1.there (k*11+1) (by omega);obtain⟨o2,ho2⟩:=hf1.there (k*11+2) (by omega);obtain⟨o3,ho3⟩:=hf1.there (k*11+3) (by omega);obtain⟨o4,ho4⟩:=hf1.there (k*11+4) (by omega);obtain⟨o5,ho5⟩:=hf1.there (k*11+5) (by omega)
      obtain⟨o6,ho6⟩:=hf1.there (k*11+6) (by omega);obtain⟨o7,ho7⟩:=hf1.there (k*11+7) (by omega);obtain⟨o8,ho8⟩:=hf1.there (k*11+8) (by omega);obtain⟨o9,ho9⟩:=hf1.there (k*11+9) (by omega);obtain⟨o10,ho10⟩:=hf1.there (k*11+10) (by omega);have HSTO:=fun x0 x1 x2 x3 x5 x6 x7 x8 x9 x10=>Zab (HOW1.out.step (v0:=x0) (v1:=x1) (v2:=x2) (v3:=x3) (v5:=x5) (v6:=x6) (v7:=x7) (v8:=x8) (v9:=x9) (v10:=x10) hlt ho4 HOWN.out)
      clear HOW HOW1 HOWN;clear hf hf1 hs1 hs1' hb1 hb hst c0 c1 c2 c3 c4 c5 c6 c7 c8 c9 c10;go_wp2;go_roundw
      case rel=>
       exact⟨k+1,by go_num,by omega,(((((((((((hB.out.setCell Zl_ _).setCell Zl_ _).setCell Zl_ _).setCell Zl_ _).setCell Zl_ _).setCell Zl_ _).setCell Zl_ _).setCell Zl_ _).setCell Zl_ _).setCell Zl_ _).setCell Zl_ _),HST.out,(HSTO _ _ _ _ _ _ _ _ _ _).out⟩
      case measure=>simp [intOf];omega
    · go_wp2
      go_ret;exact⟨_,rfl,hb,hf.done (by omega) hL HM.out,HOW.out.done hf (by omega) hL HM.out HN.out⟩
theorem ZhF.wide {lo hi lo' hi':Nat} {w:World} {v:Value} {n:Nat} (h:ZhF lo hi w v n) (h1:lo'≤lo) (h2:hi≤hi'):ZhF lo' hi' w v n:=by
 rcases h with h | ⟨b,off,cap,q1,q2,q3,q4,q5,q6⟩
 · exact Or.inl h
 · refine Or.inr ⟨b,off,cap,q1,q2,q3,by omega,by omega,fun i hi'=>?_⟩
   obtain⟨wv,m,hs,hw,hm⟩:=q6 i hi';exact⟨wv,m,hs,hw.wide Zl_ h2,hm⟩
theorem ZhF.setCell {lo hi:Nat} {w:World} {v:Value} {n:Nat} (h:ZhF lo hi w v n) {p:Addr} (hp:p.block < lo) (u:Value):ZhF lo hi (w.setCell p u) v n:=by
 rcases h with h | ⟨b,off,cap,q1,q2,q3,q4,q5,q6⟩
 · exact Or.inl h
 · refine Or.inr ⟨b,off,cap,q1,q2,q3,q4,q5,fun i hi'=>?_⟩
   obtain⟨wv,m,hs,hw,hm⟩:=q6 i hi';have e:∀ o,(w.setCell p u).cell? ⟨b,o,none⟩=w.cell? ⟨b,o,none⟩:=fun o=>Zaq _ _ _ _ (by show b≠p.block;omega)
   exact⟨wv,m,⟨by simpa [World.setCell] using hs.lt,by rw [e];exact hs.c0,fun j hj=>by rw [e];exact hs.cj j hj,by rw [e];exact hs.four,fun i=>by rw [World.frozen?_setCell];exact hs.fr i⟩,hw.setCell (by omega) u,hm⟩
theorem ZjC (lo:Nat) (kind:Zy_) (v:Value) (Fs:List Fd) (w:World) (hv:Zav lo w v Fs) (hn:Zdx Fs) :
 Calls prog 100 #[.agg #[.string kind,v]] w fun e w'=>∃ v',e=.returned (.agg #[.string kind,v'])∧Zw_ w w'∧Zav w.heap.size w' v' Fs∧ZhF w.heap.size w'.heap.size w' v' Fs.length:=by
 have HV:=Zab hv;obtain⟨a,cap,rfl⟩:=hv.form;clear hv;go_enter func100,ntmps100;go_wp2_with fail;refine (ZmX lo _ Fs _ (HV.out.below ?_) hn).mono ?_
 · exact ((Zb_.alloc Zl_ _).alloc (by simp) _).alloc (by simp;omega) _
 rintro e w1 ⟨v1,rfl,hb,hs,hq⟩;obtain⟨a',cap',rfl⟩:=hs.form;have HS:Hid (Zav (w.heap.size+3) w1 (.slice a' Fs.length cap') Fs):=hs.mono (by simp);have HQ:Hid (ZhF (w.heap.size+3) w1.heap.size w1 (.slice a' Fs.length cap') Fs.length):=hq.wide (by simp) Zl_;clear hs hq;have hz:w.heap.size+2 < w1.heap.size:=by have:=hb.size;simp at this;omega
 obtain⟨hc,hf⟩:=Zf4 hb;have HB:Hid (Zw_ w w1):=(((Zb_.alloc Zl_ _).alloc (by simp) _).alloc (by simp;omega) _).trans (hb.mono (by simp;omega));clear hb;go_wp2;refine bodyPost_ret (v:=.agg #[.string kind,.slice a' Fs.length cap']) (by simp [results,results100,go_sem,hc]) rfl ⟨_,rfl,?_,?_,?_⟩
 · repeat (refine Below.setCell ?_ (by simp only [];omega) _)
   exact HB.out
 · refine Zav.mono (lo:=w.heap.size+3) ?_ (by omega)
   repeat (refine Zav.setCell ?_ (by simp only [];omega) _)
   exact HS.out
 · refine ZhF.wide (lo:=w.heap.size+3) (hi:=w1.heap.size) ?_ (by omega) (by simp [World.setCell])
   repeat (refine ZhF.setCell ?_ (by simp only [];omega) _)
   exact HQ.out
def Zih (wr:World) (B:Nat) (Ss:List Sh) (k:Nat):Prop:=
 ∃ m:Nat→Nat,B < m 0∧(∀ i j,i≤j→m i≤m j)∧(∀ i,m i≤wr.heap.size)∧∀ i (h:i < Ss.length),i < k→∃ fv,wr.cell? ⟨B,i*2+1,none⟩=some fv∧ZhF (m i) (m (i+1)) wr fv Ss[i].fields.length
theorem Zih.step {wr w1:World} {B:Nat} {Ss:List Sh} {k:Nat} {fv v0 o1:Value} (h:Zih wr B Ss k) (hb:Below wr.heap.size wr w1) (hB:B < wr.heap.size) (hk:k < Ss.length) (ho:w1.cell? ⟨B,k*2+1,none⟩=some o1) (hs:ZhF wr.heap.size w1.heap.size w1 fv Ss[k].fields.length) :
 Zih ((w1.setCell ⟨B,k*2,none⟩ v0).setCell ⟨B,k*2+1,none⟩ fv) B Ss (k+1):=by
 obtain⟨m,h1,h2,h3,h4⟩:=h;have hz:((w1.setCell ⟨B,k*2,none⟩ v0).setCell ⟨B,k*2+1,none⟩ fv).heap.size=w1.heap.size:=by simp [World.setCell]
 refine⟨fun i=>if i≤k then m i else w1.heap.size,by simpa using h1,fun i j hij=>?_,fun i=>?_,fun i hi hik=>?_⟩
 · simp only []
   by_cases a1:i≤k
   · rw [if_pos a1]
     by_cases a2:j≤k
     · rw [if_pos a2];exact h2 i j hij
     · rw [if_neg a2];exact Nat.le_trans (h3 i) hb.size
   · rw [if_neg a1,if_neg (by omega)];exact Nat.le_refl _
 · simp only []
   rw [hz]
   by_cases a1:i≤k
   · rw [if_pos a1];exact Nat.le_trans (h3 i) hb.size
   · rw [if_neg a1];exact Nat.le_refl _
 · simp only []
   have hm0:∀ i,m 0≤m i:=fun i=>h2 0 i Zz_
   by_cases e:i=k
   · subst e
     refine⟨fv,?_,?_⟩
     · rw [Zcg _ _ _ _ (by rw [Zai _ _ _ _ _ (by omega)];exact ho)]
     · rw [if_pos Zl_,if_neg (by omega)]
       exact ((hs.wide (h3 i) Zl_).setCell (by have:=hm0 i;simp only [];omega) _).setCell (by have:=hm0 i;simp only [];omega) _
   · obtain⟨fv',q1,q2⟩:=h4 i hi (by omega)
     refine⟨fv',?_,?_⟩
     · rw [Zai _ _ _ _ _ (by omega),Zai _ _ _ _ _ (by omega),hb.cell (p:=⟨B,_,none⟩) hB];exact q1
     · rw [if_pos (by omega),if_pos (by omega)]
       exact ((q2.kept (ZbS.below (lo:=m (i+1)) (hi:=0) hb) (Or.inl Zl_)).setCell (by have:=hm0 i;simp only [];omega) _).setCell (by have:=hm0 i;simp only [];omega) _
theorem Zih.done {wr:World} {B:Nat} {Ss:List Sh} {k:Nat} (h:Zih wr B Ss k) (hf:Zbl wr B Ss k) (hk:Ss.length≤k) (hne:Ss≠[]) (hm:Ss.length≤maxLen) (hn:Zfz Ss):ZpL B wr.heap.size wr (.slice (some ⟨B,0,none⟩) Ss.length Ss.length) Ss.length:=by
 obtain⟨m,h1,h2,h3,h4⟩:=h;refine Or.inr ⟨B,0,Ss.length,m,rfl,List.length_pos_iff.2 hne,hm,Nat.le_refl _,hf.lt,h1,h2,h3 _,fun i hi _=>?_⟩;obtain⟨fv,q1,q2⟩:=h4 i hi (by omega);refine⟨fv,_,⟨hf.lt,?_,by rw [Nat.zero_add];exact q1,hf.free⟩,q2,(hn.2 i hi).1⟩;obtain⟨v,hv⟩:=hf.there (i*2) (by omega);rw [Nat.zero_add,hv];rfl
theorem Zmq (lo:Nat) (v:Value) (Ss:List Sh) (w:World) (hv:ZaP lo w v Ss) (hn:Zfz Ss) :
 Calls prog 41 #[v] w fun e w'=>∃ v',e=.returned v'∧Zw_ w w'∧ZaP w.heap.size w' v' Ss∧ZpL w.heap.size w'.heap.size w' v' Ss.length:=by
 obtain⟨i0,hi,hz0,hz1,hz2⟩:=info_parts Tryz.info164
 by_cases hL:Ss=[]
 · subst hL
   obtain⟨a,cap,rfl⟩:=hv.form;clear hv
   have hmk:∀ u:World,(Instr.makeSlice 43 (.int .i64 0) (.int .i64 0)).run prog u=.ok (.slice (some ⟨u.heap.size,0,none⟩) 0 0) (u.alloc (.cells (madeCells (Value.cells (.agg #[.string ⟨#[]⟩,.slice none 0 0])) 0) 164)):=fun u=>by
    have h:=run_make (P:=prog) u 43 164 i0 _ underlying43 hi hz0 .i64 .i64 0 0 (by omega) (by omega) (by omega) (by omega)
    simpa [hz1] using h
   go_enter func41,ntmps41;go_wp2
   go_loop [4] (fun i=>i=.int .i64 0) (fun _=>0)
   case atStart=>rfl
   case round=>
    subst hrel;go_wp2;go_ret;exact⟨_,rfl,Zb_.alloc Zl_ _,Or.inl ⟨_,_,rfl,rfl⟩,Or.inl ⟨_,_,rfl,rfl⟩⟩
 · obtain⟨b,off,cap,rfl,hm,hbw,hc⟩:=hv.full hL
   clear hv;have HN:=Zab hn;obtain⟨hn1,hn2⟩:=hn;have HM:Hid (Ss.length≤maxLen):=hm;unfold maxLen at hm
   have hmk:∀ u:World,(Instr.makeSlice 43 (.int .i64 (Ss.length:Int)) (.int .i64 (Ss.length:Int))).run prog u=.ok (.slice (some ⟨u.heap.size,0,none⟩) Ss.length Ss.length) (u.alloc (.cells (madeCells (Value.cells (.agg #[.string ⟨#[]⟩,.slice none 0 0])) (Ss.length*2)) 164)):=fun u=>by
    have h:=run_make (P:=prog) u 43 164 i0 _ underlying43 hi hz0 .i64 .i64 Ss.length Ss.length (by omega) (by omega) (by rw [hz2];omega) (by omega);rw [hz1] at h
    simpa using h
   clear hi hz0 hz1 hz2;go_enter func41,ntmps41;go_wp2;clear hmk
   go_loopw [4] (fun i wr=>∃ k:Nat,i=.int .i64 k∧k≤Ss.length∧Zw_ w wr∧Zbl wr w.heap.size Ss k∧Zih wr w.heap.size Ss k) (fun i _=>Ss.length - (intOf i).toNat)
   case atStart=>exact⟨0,rfl,by omega,Zb_.alloc Zl_ _,Zbl.new w Ss _,fun _=>w.heap.size+1,Nat.lt_succ_self _,fun _ _ _=>Nat.le_refl _,fun _=>by simp,fun i _ h=>by omega⟩
   case round=>
    obtain⟨k,rfl,hk,hb,hf,how⟩:=hrel;have HOW:=Zab how;clear how
    by_cases hlt:k < Ss.length
    · obtain⟨hsz,fv,d0,d1,hst⟩:=hc k hlt
      have c0:wr.cell? ⟨b,off+k*2,none⟩=some (.string Ss[k].kind):=by rw [hb.cell (p:=⟨b,_,none⟩) hbw];exact d0
      have c1:wr.cell? ⟨b,off+k*2+1,none⟩=some fv:=by rw [hb.cell (p:=⟨b,_,none⟩) hbw];exact d1
      clear d0 d1;go_wp2_with fail;refine (ZjC lo _ _ Ss[k].fields _ (hst.below hb) (hn2 k hlt)).mono ?_;rintro e w1 ⟨wv1,rfl,hb1,hs1,hq1⟩;have hlt0:=hf.lt;have hf1:=hf.below hb1;have hs1':Zav (w.heap.size+1) w1 wv1 Ss[k].fields:=hs1.mono hf.lt;have HST:=Zab (hf1.step hlt hsz hs1');have hB:Hid (Zw_ w w1):=hb.trans (hb1.mono hb.size);have hfr:=hf1.free;obtain⟨a1,cap1,rfl⟩:=hs1.form;obtain⟨o0,ho0⟩:=hf1.there (k*2) (by omega);obtain⟨o1,ho1⟩:=hf1.there (k*2+1) (by omega);have HSTO:=fun x0=>Zab (HOW.out.step (v0:=x0) hb1 hlt0 hlt ho1 hq1)
      clear HOW hq1 hlt0;clear hf hf1 hs1 hs1' hb1 hb hst c0 c1;go_wp2;go_roundw
      case rel=>
       exact⟨k+1,by go_num,by omega,((hB.out.setCell Zl_ _).setCell Zl_ _),HST.out,(HSTO _).out⟩
      case measure=>simp [intOf];omega
    · go_wp2
      go_ret;exact⟨_,rfl,hb,hf.done (by omega) hL HM.out,HOW.out.done hf (by omega) hL HM.out HN.out⟩
section
variable (kind nm team:Zy_) (vv hv:Value) (en:Bool) (ver:Int) (V Ho:List Zy_) (w:World)
theorem ZnM (hV:Zag w vv V) (hH:Zag w hv Ho) (n1:V.length≤1048576) (n2:Ho.length≤1048576) :
 Calls prog 103 #[.agg #[.string kind,.string nm,.string team,vv,.bool en,hv,.int .i64 ver]] w
  fun e w'=>∃ v' h',e=.returned (.agg #[.string kind,.string nm,.string team,v',.bool en,h',.int .i64 ver])∧Zw_ w w'∧Zen w.heap.size w' v' h' V Ho:=by
 have HV:=Zab hV;have HH:=Zab hH;obtain⟨a,n,cap,rfl⟩:=hV.form;obtain⟨a',n',cap',rfl⟩:=hH.form;clear hV hH;have HW:∀ o o' o'',Hid (Zw_ w (((w.alloc o).alloc o').alloc o'')):=fun o o' o''=>((Zb_.alloc Zl_ _).alloc (by simp) _).alloc (by simp;omega) _
 go_enter func103,ntmps103;go_wp2_with fail;refine (Zfb _ V _ (HV.out.below (HW _ _ _).out) n1).mono ?_;rintro e w1 ⟨v1,rfl,hb,hs⟩;obtain⟨a1,cap1,rfl⟩:=hs.form;have HS:Hid (Zae (w.heap.size+3) w1.heap.size w1 (.slice a1 V.length cap1) V):=hs.wide (by simp) Zl_;have hz:w.heap.size+2 < w1.heap.size:=by have:=hb.size;simp at this;omega
 obtain⟨hc,hf⟩:=Zf4 hb;have HB:Hid (Zw_ w w1):=(HW _ _ _).out.trans (hb.mono (by simp;omega));clear hb hs;go_wp2_with fail;have hX:Hid (Zw_ w ((w1.setCell ⟨w.heap.size+1+1,3,none⟩ (.slice a1 V.length cap1)).setCell ⟨w.heap.size+1+1,4,none⟩ (.bool en))):=(HB.out.setCell (by simp only [];omega) _).setCell (by simp only [];omega) _;have hXs:((w1.setCell ⟨w.heap.size+1+1,3,none⟩ (.slice a1 V.length cap1)).setCell ⟨w.heap.size+1+1,4,none⟩ (.bool en)).heap.size=w1.heap.size:=by simp [World.setCell]
 have HS':=Zab ((HS.out.setCell (p:=⟨w.heap.size+1+1,3,none⟩) (by simp only [];omega) (.slice a1 V.length cap1)).setCell (p:=⟨w.heap.size+1+1,4,none⟩) (by simp only [];omega) (.bool en));refine (Zfb _ Ho _ (HH.out.below hX.out) n2).mono ?_;rintro e w2 ⟨v2,rfl,hb2,hs2⟩;obtain⟨a2,cap2,rfl⟩:=hs2.form;have HS2:Hid (Zae (w.heap.size+3) w1.heap.size w2 (.slice a1 V.length cap1) V):=HS'.out.below hb2;have HH2:Hid (Zae w1.heap.size w2.heap.size w2 (.slice a2 Ho.length cap2) Ho):=by unfold Hid;rw [← hXs];exact hs2
 have hz2:w.heap.size+2 < w2.heap.size:=by have:=hb2.size;rw [hXs] at this;omega
 have hz3:w1.heap.size≤w2.heap.size:=by have:=hb2.size;rw [hXs] at this;exact this
 have HB2:Hid (Zw_ w w2):=hX.out.trans (hb2.mono hX.out.size);have hc2:∀ b o,b < w1.heap.size→w2.cell? ⟨b,o,none⟩=((w1.setCell ⟨w.heap.size+1+1,3,none⟩ (.slice a1 V.length cap1)).setCell ⟨w.heap.size+1+1,4,none⟩ (.bool en)).cell? ⟨b,o,none⟩:=fun b o h=>hb2.cell (p:=⟨b,o,none⟩) (by rw [hXs];exact h)
 have hf2:∀ b o,b < w1.heap.size→w2.frozen? ⟨b,o,none⟩=((w1.setCell ⟨w.heap.size+1+1,3,none⟩ (.slice a1 V.length cap1)).setCell ⟨w.heap.size+1+1,4,none⟩ (.bool en)).frozen? ⟨b,o,none⟩:=fun b o h=>hb2.frozen (p:=⟨b,o,none⟩) (by rw [hXs];exact h)
 clear hb2 hs2 hXs;have hz0:w.heap.size < w1.heap.size:=by omega
 have hz1:w.heap.size+1 < w1.heap.size:=by omega
 have hz1':w.heap.size+1+1 < w1.heap.size:=by omega
 go_wp2;refine bodyPost_ret (v:=.agg #[.string kind,.string nm,.string team,.slice a1 V.length cap1,.bool en,.slice a2 Ho.length cap2,.int .i64 ver]) (by simp [results,results103,go_sem,hc,hc2,hz1]) rfl ⟨_,_,rfl,?_,w1.heap.size,by omega,by simp only [World.setCell,Array.size_modify];exact hz3,?_,?_⟩
 · repeat (refine Below.setCell ?_ (by simp only [];omega) _)
   exact HB2.out
 · refine Zae.wide (lo:=w.heap.size+3) (hi:=w1.heap.size) ?_ (by omega) Zl_
   repeat (refine Zae.setCell ?_ (by simp only [];omega) _)
   exact HS2.out
 · refine Zae.wide (lo:=w1.heap.size) (hi:=w2.heap.size) ?_ Zl_ (by simp [World.setCell])
   repeat (refine Zae.setCell ?_ (by simp only [];omega) _)
   exact HH2.out
end
end Go.Proofs.YtfohnageehneoaaGreat
