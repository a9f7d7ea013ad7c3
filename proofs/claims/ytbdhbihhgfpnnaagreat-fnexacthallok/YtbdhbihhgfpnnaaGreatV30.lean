import Derived.Test.YtbdhbihhgfpnnaaGreatV27
import Derived.Test.YtbdhbihhgfpnnaaGreatV29
set_option maxHeartbeats 16000000
set_option maxRecDepth 100000
open Go.Proofs.Tryz
namespace Go.Proofs.YtbdhbihhgfpnnaaGreat
open Go.RowKit Go.Deep
section
variable {k:Nat}
def svF (L:List Sv) (s:Zy_):Option Sv:=L.find? fun x=>x.nm.toList == s.toList
def ZfY (L:List Be) (s:Zy_):Bool:=L.any fun x=>x.nm.toList == s.toList
def cpT (B:Sb) (c:Cp) (x:Sv):Bool:=inB 1 (x.nx - 1) c.nu&&(inB 1 B.now c.ve&&(inB 1 1000000 c.im&&(inB 1 4 c.st&&(if c.st == 1 then c.be.toList.isEmpty else ZfY B.bs c.be))))
def cpB (B:Sb) (c:Cp):Bool:=match svF B.ss c.se with
 | none=>false
 | some x=>cpT B c x
def Zbb (a b:Cp):Bool:=Op.bytesLess a.se.toList b.se.toList || ((a.se.toList == b.se.toList)&&decide (a.nu < b.nu))
def ZfK {X:Type} (r:X->X->Bool) (L:List X):Nat->Bool
 | 0=>true
 | j+1=>match L[j]?,L[j+1]? with
  | some x,some y=>r x y
  | _,_=>true
def ZcK {X:Type} (r:X->X->Bool) (L:List X):Bool:=(List.range L.length).all (ZfK r L)
theorem ZdJ {X:Type}{r:X->X->Bool}{L:List X}{j:Nat} (h:j+1 < L.length):ZfK r L (j+1)=r L[j] L[j+1]:=by
 show (match L[j]?,L[j+1]? with | some x,some y=>r x y | _,_=>true)=_
 rw [List.getElem?_eq_getElem (by omega),List.getElem?_eq_getElem h]
def rSv (x y:Sv):Bool:=Op.bytesLess x.nm.toList y.nm.toList
def rBe (x y:Be):Bool:=Op.bytesLess x.nm.toList y.nm.toList
def beB (x:Be):Bool:=nmB x.nm
def svI (L:List Sv) (s:Zy_):Nat:=L.findIdx fun x=>x.nm.toList == s.toList
def ZrL (L:List Sv) (s:Zy_) (r:Int):Prop:=(r= -1/\svF L s=none)\/(r=(svI L s:Int)/\∃ (h:svI L s < L.length),svF L s=some L[svI L s])
def ZrI (L:List Be) (s:Zy_) (r:Int):Prop:=decide (0<=r)=ZfY L s
def ZaW (B:Sb):Bool:=inB 0 1000000 B.now&&(decide (B.ss.length<=8)&&(decide (B.cs.length<=200)&&(decide (B.bs.length<=6)&&((B.ss.all (svB B.now)&&ZcK rSv B.ss)&&((B.bs.all beB&&ZcK rBe B.bs)&&(B.cs.all (cpB B)&&ZcK Zbb B.cs))))))
theorem ZrO {X:Type}{L:List X}{f:X->Bool} (h:L.all f=true) {k:Nat} (hk:k < L.length):f L[k]=true:=List.all_eq_true.1 h _ (List.getElem_mem hk)
theorem Znx {X:Type}{L:List X}{f:X->Bool} (hk:k < L.length) (hno:∀ j (h:j < L.length),j < k->f L[j]=false) (h:f L[k]=true):L.find? f=some L[k]:=by
 rw [List.find?_eq_some_iff_getElem];exact⟨h,k,hk,rfl,fun j hj=>by rw [hno j (by omega) hj];rfl⟩
theorem ZpV {X:Type}{L:List X}{f:X->Bool} (hk:k < L.length) (hno:∀ j (h:j < L.length),j < k->f L[j]=false) (h:f L[k]=true):L.findIdx f=k:=(List.findIdx_eq hk).2 ⟨h,fun j hj=>hno j (by omega) hj⟩
theorem ZrL.at {L:List Sv}{s:Zy_} (hk:k < L.length) (hno:∀ j (h:j < L.length),j < k->(L[j].nm.toList == s.toList)=false) (h:(L[k].nm.toList == s.toList)=true):ZrL L s (k:Int):=by
 have hi:svI L s=k:=ZpV (f:=fun x:Sv=>x.nm.toList == s.toList) hk hno h;refine Or.inr ?_;rw [hi];exact⟨rfl,hk,Znx (f:=fun x:Sv=>x.nm.toList == s.toList) hk hno h⟩
theorem ZmT {X:Type}{L:List X}{f:X->Bool} (hno:∀ j (h:j < L.length),f L[j]=false):L.find? f=none:=by
 rw [List.find?_eq_none];intro x hx;obtain⟨i,hi,rfl⟩:=List.getElem_of_mem hx;rw [hno i hi];exact Bool.false_ne_true
theorem ZrP {X:Type}{L:List X}{f:X->Bool} (hk:k < L.length) (h:f L[k]=true):L.any f=true:=List.any_eq_true.2 ⟨_,List.getElem_mem hk,h⟩
theorem ZoV {X:Type}{L:List X}{f:X->Bool} (hno:∀ j (h:j < L.length),f L[j]=false):L.any f=false:=by
 rw [List.any_eq_false];intro x hx;obtain⟨i,hi,rfl⟩:=List.getElem_of_mem hx;rw [hno i hi];exact Bool.false_ne_true
theorem Zp3 {now:Int}{x:Sv} (h:svB now x=true):1<=x.nx/\x.nx<=1000000:=by
 unfold svB at h;simp only [Bool.and_eq_true] at h;have:=h.2.2.2.1;exact⟨ZnM this,ZnK this⟩
end
section
variable {b o c0 c1 lo hi lo' hi' off n:Nat} {w w':World} {x:Fd} {v:Value} {Xl:List Fd}
def Zj7 (b o c0 c1:Nat) (w:World) (x:Fd):Prop:=Zew x/\∃ (vv0:Value),c0<=c1/\Zdx w b o x vv0/\Zaf c0 c1 w vv0 x.words
theorem Zj7.touch (h:Zj7 b o c0 c1 w x) (ht:Zaw lo hi w w') (hlt:b < w.heap.size) (hb:b < lo\/hi<=b) (hi':c1<=lo\/hi<=c0):Zj7 b o c0 c1 w' x:=by
 obtain⟨hs,vv0,q0,hc,l0⟩:=h;obtain⟨h0,h1,h2,h3,h4,h5,h6,h7,h8,h9,h10⟩:=hc;exact⟨hs,vv0,q0,⟨(ht.cell (p:=⟨b,o,none⟩) hlt hb).trans h0,(ht.cell (p:=⟨b,o+1,none⟩) hlt hb).trans h1,(ht.cell (p:=⟨b,o+2,none⟩) hlt hb).trans h2,(ht.cell (p:=⟨b,o+3,none⟩) hlt hb).trans h3,(ht.cell (p:=⟨b,o+4,none⟩) hlt hb).trans h4,(ht.cell (p:=⟨b,o+5,none⟩) hlt hb).trans h5,(ht.cell (p:=⟨b,o+6,none⟩) hlt hb).trans h6,(ht.cell (p:=⟨b,o+7,none⟩) hlt hb).trans h7,(ht.cell (p:=⟨b,o+8,none⟩) hlt hb).trans h8,(ht.cell (p:=⟨b,o+9,none⟩) hlt hb).trans h9,(ht.cell (p:=⟨b,o+10,none⟩) hlt hb).trans h10⟩,l0.touch ht (by omega)⟩
theorem Zj7.below (h:Zj7 b o c0 c1 w x) (ht:Zw_ w w') (hlt:b < w.heap.size):Zj7 b o c0 c1 w' x:=by
 obtain⟨hs,vv0,q0,hc,l0⟩:=h;obtain⟨h0,h1,h2,h3,h4,h5,h6,h7,h8,h9,h10⟩:=hc;exact⟨hs,vv0,q0,⟨(ht.cell (p:=⟨b,o,none⟩) hlt).trans h0,(ht.cell (p:=⟨b,o+1,none⟩) hlt).trans h1,(ht.cell (p:=⟨b,o+2,none⟩) hlt).trans h2,(ht.cell (p:=⟨b,o+3,none⟩) hlt).trans h3,(ht.cell (p:=⟨b,o+4,none⟩) hlt).trans h4,(ht.cell (p:=⟨b,o+5,none⟩) hlt).trans h5,(ht.cell (p:=⟨b,o+6,none⟩) hlt).trans h6,(ht.cell (p:=⟨b,o+7,none⟩) hlt).trans h7,(ht.cell (p:=⟨b,o+8,none⟩) hlt).trans h8,(ht.cell (p:=⟨b,o+9,none⟩) hlt).trans h9,(ht.cell (p:=⟨b,o+10,none⟩) hlt).trans h10⟩,l0.below ht⟩
structure Zj8 (lo hi:Nat) (w:World) (b off n:Nat) (c:Nat->Nat×Nat) (X:Nat->Fd):Prop where
 lt:b < w.heap.size
 low:lo<=b
 bh:b < hi
 seg:∀ i,i < n->lo<=(c i).1/\(c i).2<=hi/\(b < (c i).1\/(c i).2<=b)
 mono:∀ i j,i < j->j < n->(c i).2<=(c j).1
 frz:∀ i,w.frozen? ⟨b,i,none⟩=false
 row:∀ i,i < n->Zj7 b (off+i*11) (c i).1 (c i).2 w (X i)
theorem Zj8.touch {c:Nat->Nat×Nat}{X:Nat->Fd} (h:Zj8 lo hi w b off n c X) (ht:Zaw lo' hi' w w') (ho:hi<=lo'\/hi'<=lo):Zj8 lo hi w' b off n c X:=by
 have h1:=h.low;have h2:=h.bh;refine⟨Zk_ h.lt ht.size,h.low,h.bh,h.seg,h.mono,fun i=>(ht.frozen (p:=⟨b,i,none⟩) h.lt (by simp only [];omega)).trans (h.frz i),fun i hi'=>?_⟩;have h5:=h.seg i hi';exact (h.row i hi').touch ht h.lt (by omega) (by omega)
theorem Zj8.below {c:Nat->Nat×Nat}{X:Nat->Fd} (h:Zj8 lo hi w b off n c X) (ht:Zw_ w w'):Zj8 lo hi w' b off n c X:=
 ⟨Zk_ h.lt ht.size,h.low,h.bh,h.seg,h.mono,fun i=>(ht.frozen (p:=⟨b,i,none⟩) h.lt).trans (h.frz i),fun i hi'=>(h.row i hi').below ht h.lt⟩
def ZdT (lo hi:Nat) (w:World) (v:Value) (Xl:List Fd):Prop:=
 (∃ (a:Option Addr) (cap:Nat),v=.slice a 0 cap/\Xl=[])\/
 ∃ (b off cap:Nat) (c:Nat->Nat×Nat) (X:Nat->Fd),v=.slice (some ⟨b,off,none⟩) Xl.length cap/\Xl≠[]/\Xl.length<=maxLen/\Xl.length<=cap/\(∀ i (h:i < Xl.length),X i=Xl[i])/\Zj8 lo hi w b off Xl.length c X
theorem ZdT.touch (h:ZdT lo hi w v Xl) (ht:Zaw lo' hi' w w') (ho:hi<=lo'\/hi'<=lo):ZdT lo hi w' v Xl:=by
 rcases h with h | ⟨b,off,cap,c,X,h1,h2,h3,h4,h5,h6⟩
 . exact Or.inl h
 . exact Or.inr ⟨b,off,cap,c,X,h1,h2,h3,h4,h5,h6.touch ht ho⟩
theorem ZdT.below (h:ZdT lo hi w v Xl) (ht:Zw_ w w'):ZdT lo hi w' v Xl:=by
 rcases h with h | ⟨b,off,cap,c,X,h1,h2,h3,h4,h5,h6⟩
 . exact Or.inl h
 . exact Or.inr ⟨b,off,cap,c,X,h1,h2,h3,h4,h5,h6.below ht⟩
theorem ZdT.at (h:ZdT lo hi w v Xl):ZaU lo w v Xl:=by
 rcases h with h | ⟨b,off,cap,c,X,h1,h2,h3,h4,h5,h6⟩
 . exact Or.inl h
 . refine Or.inr ⟨b,off,cap,h1,h2,h3,h6.lt,h6.low,h4,fun i hi'=>?_⟩
   have hr:=h6.row i hi';have g0:=h6.seg i hi';rw [h5 i hi'] at hr;obtain⟨hs,vv0,q0,hc,l0⟩:=hr;exact⟨hs,vv0,hc,(l0.in').mono (by omega)⟩
end
section
variable {b lo hi off n lo' hi':Nat} {w w':World} {v:Value} {Xl:List Md}
def ZoO (b o _c0 _c1:Nat) (w:World) (x:Md):Prop:=ZdM x/\ZeH w b o x
theorem ZoO.touch {o c0 c1:Nat}{x:Md} (h:ZoO b o c0 c1 w x) (ht:Zaw lo hi w w') (hlt:b < w.heap.size) (hb:b < lo\/hi<=b) (_hi:c1<=lo\/hi<=c0):ZoO b o c0 c1 w' x:=by
 obtain⟨hs,hc⟩:=h;obtain⟨h0,h1,h2,h3,h4,h5⟩:=hc;exact⟨hs,⟨(ht.cell (p:=⟨b,o,none⟩) hlt hb).trans h0,(ht.cell (p:=⟨b,o+1,none⟩) hlt hb).trans h1,(ht.cell (p:=⟨b,o+2,none⟩) hlt hb).trans h2,(ht.cell (p:=⟨b,o+3,none⟩) hlt hb).trans h3,(ht.cell (p:=⟨b,o+4,none⟩) hlt hb).trans h4,(ht.cell (p:=⟨b,o+5,none⟩) hlt hb).trans h5⟩⟩
structure Zlx (lo hi:Nat) (w:World) (b off n:Nat) (c:Nat->Nat) (X:Nat->Md):Prop where
 lt:b < w.heap.size
 low:lo<=b
 bc:b < c 0
 bh:b < hi
 mono:∀ i,i < n->c i<=c (i+1)
 top:c n<=hi
 frz:∀ i,w.frozen? ⟨b,i,none⟩=false
 row:∀ i,i < n->ZoO b (off+i*6) (c i) (c (i+1)) w (X i)
theorem Zlx.le {c:Nat->Nat}{X:Nat->Md} (h:Zlx lo hi w b off n c X) {i:Nat}:∀ {j:Nat},i<=j->j<=n->c i<=c j:=by
 intro j
 induction j with
 | zero=>intro hij _;have:i=0:=by omega
         subst this;exact Nat.le_refl _
 | succ j ih=>
  intro hij hjn
  by_cases e:i=j+1
  . subst e;exact Nat.le_refl _
  . exact Nat.le_trans (ih (by omega) (by omega)) (h.mono j (by omega))
theorem Zlx.touch {c:Nat->Nat}{X:Nat->Md} (h:Zlx lo hi w b off n c X) (ht:Zaw lo' hi' w w') (ho:hi<=lo'\/hi'<=lo):Zlx lo hi w' b off n c X:=by
 have h1:=h.low;have h2:=h.bh;have h3:=h.top;have h4:=h.bc;refine⟨Zk_ h.lt ht.size,h.low,h.bc,h.bh,h.mono,h.top,fun i=>(ht.frozen (p:=⟨b,i,none⟩) h.lt (by simp only [];omega)).trans (h.frz i),fun i hi'=>?_⟩;have h5:=h.le (Nat.zero_le i) (by omega);have h6:=h.le (i:=i+1) (j:=n) (by omega) Zl_;exact (h.row i hi').touch ht h.lt (by omega) (by omega)
def ZeW (lo hi:Nat) (w:World) (v:Value) (Xl:List Md):Prop:=
 (∃ (a:Option Addr) (cap:Nat),v=.slice a 0 cap/\Xl=[])\/
 ∃ (b off cap:Nat) (c:Nat->Nat) (X:Nat->Md),v=.slice (some ⟨b,off,none⟩) Xl.length cap/\Xl≠[]/\Xl.length<=maxLen/\Xl.length<=cap/\(∀ i (h:i < Xl.length),X i=Xl[i])/\Zlx lo hi w b off Xl.length c X
theorem ZeW.touch (h:ZeW lo hi w v Xl) (ht:Zaw lo' hi' w w') (ho:hi<=lo'\/hi'<=lo):ZeW lo hi w' v Xl:=by
 rcases h with h | ⟨b,off,cap,c,X,h1,h2,h3,h4,h5,h6⟩
 . exact Or.inl h
 . exact Or.inr ⟨b,off,cap,c,X,h1,h2,h3,h4,h5,h6.touch ht ho⟩
theorem ZeW.at (h:ZeW lo hi w v Xl):ZbY lo w v Xl:=by
 rcases h with h | ⟨b,off,cap,c,X,h1,h2,h3,h4,h5,h6⟩
 . exact Or.inl h
 . refine Or.inr ⟨b,off,cap,h1,h2,h3,h6.lt,h6.low,h4,fun i hi'=>?_⟩
   have hr:=h6.row i hi';rw [h5 i hi'] at hr;obtain⟨hs,hc⟩:=hr;exact⟨hs,hc⟩
end
def Zjx (Ss:List Sh) (Ms:List Md) (Ts:List Tm):Bool:=Zay Ss Ms&&Za5 Ts
section
variable (lo:Nat) (sv mv tv:Value) (Ss:List Sh) (Ms:List Md) (Ts:List Tm) (w:World)
theorem ZiI (h:ZdQ lo w sv mv tv Ss Ms Ts) :
 Calls prog 45 #[.agg #[sv,mv,tv]] w fun e w'=>e=.returned (.bool (Zjx Ss Ms Ts))/\Zw_ w w':=by
 have HL:=Zab h;obtain⟨a,cap,rfl⟩:=h.shs.form;obtain⟨a1,cap1,rfl⟩:=h.mds.form;obtain⟨a2,cap2,rfl⟩:=h.tms.form;clear h;go_enter func45,ntmps45;go_wp2_with fail;generalize hWa:w.alloc _=Wa;have HBa:Hd (Zw_ w Wa):=by rw [<- hWa];exact Zac w _
 have FA:Hd (Box Wa w.heap.size #[.slice a Ss.length cap,.slice a1 Ms.length cap1,.slice a2 Ts.length cap2]):=by rw [<- hWa];exact Box.new _ _ _ _ rfl
 clear hWa;refine (ZiJ lo lo _ _ Ss Ms _ (HL.o.below HBa.o).shs (HL.o.below HBa.o).mds).mono ?_;rintro e w1 ⟨rfl,hb1⟩;have HB1:Hd (Zw_ w w1):=bt HBa.o hb1;replace FA:=Zab (FA.o.on hb1);have g2:=FA.o.cell 2;simp at g2;clear hb1 HBa
 cases hm:Zay Ss Ms with
 | false=>
  have HE:Hd (Zjx Ss Ms Ts=false):=by unfold Hd Zjx;rw [hm];rfl
  go_wp2;go_ret;exact⟨Zaa HE.o.symm,HB1.o⟩
 | true=>
  have HE:Hd (Zjx Ss Ms Ts=Za5 Ts):=by unfold Hd Zjx;rw [hm];rfl
  go_wp2_with fail;refine (Zff lo _ Ts _ (HL.o.below HB1.o).tms).mono ?_;rintro e w2 ⟨rfl,hb2⟩;have HB2:Hd (Zw_ w w2):=bt HB1.o hb2;clear hb2;go_wp2;go_ret;exact⟨Zaa HE.o.symm,HB2.o⟩
theorem Zil (h:ZdQ lo w sv mv tv Ss Ms Ts) :
 Calls prog 70 #[.agg #[sv,mv,tv]] w fun e w'=>e=.returned (.bool (Zjx Ss Ms Ts))/\Zw_ w w':=by
 have HL:=Zab h;obtain⟨a,cap,rfl⟩:=h.shs.form;obtain⟨a1,cap1,rfl⟩:=h.mds.form;obtain⟨a2,cap2,rfl⟩:=h.tms.form;clear h;go_enter func70,ntmps70;go_wp2_with fail;generalize hWa:w.alloc _=Wa;have HBa:Hd (Zw_ w Wa):=by rw [<- hWa];exact Zac w _
 have FA:Hd (Box Wa w.heap.size #[.slice a Ss.length cap,.slice a1 Ms.length cap1,.slice a2 Ts.length cap2]):=by rw [<- hWa];exact Box.new _ _ _ _ rfl
 clear hWa;refine (Zim lo lo _ _ Ss Ms _ (HL.o.below HBa.o).shs (HL.o.below HBa.o).mds).mono ?_;rintro e w1 ⟨rfl,hb1⟩;have HB1:Hd (Zw_ w w1):=bt HBa.o hb1;replace FA:=Zab (FA.o.on hb1);have g2:=FA.o.cell 2;simp at g2;clear hb1 HBa
 cases hm:Zay Ss Ms with
 | false=>
  have HE:Hd (Zjx Ss Ms Ts=false):=by unfold Hd Zjx;rw [hm];rfl
  go_wp2;go_ret;exact⟨Zaa HE.o.symm,HB1.o⟩
 | true=>
  have HE:Hd (Zjx Ss Ms Ts=Za5 Ts):=by unfold Hd Zjx;rw [hm];rfl
  go_wp2_with fail;refine (Ze8 lo _ Ts _ (HL.o.below HB1.o).tms).mono ?_;rintro e w2 ⟨rfl,hb2⟩;have HB2:Hd (Zw_ w w2):=bt HB1.o hb2;clear hb2;go_wp2;go_ret;exact⟨Zaa HE.o.symm,HB2.o⟩
end
end Go.Proofs.YtbdhbihhgfpnnaaGreat
