import Derived.Test.YtmappejlmapboaaGreatD15
import Derived.OrdersHeld
set_option maxHeartbeats 16000000
set_option maxRecDepth 100000
open Go.Proofs.Tryz
namespace Go.Proofs.YtmappejlmapboaaGreat
section
open Go.RowKit Go.Deep Go.Shelf
variable {F:Fence} {n:Nat} {P:Program}
theorem Zeb {md:Region.Mode}{ops:Array Oper}{Q:Exit->Act->World->Prop} (l:Nat) (hnd:∀ (i:Nat) (o:Oper),ops[i]?=some o->∀ c,o.op≠.defer c) :
 ∀ (fuel:Nat) (listed:Array Bool) (a:Act) (w:World),wpAnyIn F n P md ops Q fuel listed a w->wpAnyIn (F.inRound l) n P md ops Q fuel listed a w
 | 0,_,_,_,h=>h
 | fuel+1,listed,a,w,⟨h0,h1⟩=>⟨h0,fun i hi=>by
  have h2:=h1 i hi;unfold wpOpIn at h2 |-
  split
  . rename_i e
    rw [e] at h2;exact Zeb l hnd fuel _ _ _ h2
  . rename_i o e
    rw [e] at h2;simp only at h2
    split
    . rename_i hw
      rw [if_pos hw] at h2;have h3:=Oper.wpIn_mono (fun a w h=>Zeb l hnd fuel _ a w h) h2;obtain⟨g1,g2⟩:=h3;refine⟨g1,?_⟩;rw [Oper.semAt_plain _ _ _ (hnd i o e)] at g2 |-;exact g2
    . rename_i hw
      rw [if_neg hw] at h2;exact⟨h2.1,Zeb l hnd fuel _ _ _ h2.2⟩⟩
theorem Zha {id l:Nat}{ops:Array Oper}{Q:Exit->Act->World->Prop}{a:Act}{w:World} (hm:P.follows .mixedOrders=true) (hnd:ops.all (fun o=>match o.op with | .defer _=>false | _=>true)=true)
 (h:wpAnyIn F n P .any ops Q ops.size (Array.replicate ops.size false) a w.drew):(Code.region id ops true).wpIn (F.inRound l) n P Q a w:=by
 refine wpIn_region_any hm (Zeb l (fun i o e c hc=>?_) _ _ _ _ h);have:=Array.all_eq_true_iff_forall_mem.1 hnd o (Array.mem_of_getElem? e);rw [hc] at this
 cases this
end
section
open Go.RowKit Go.Deep Go.Maps
theorem Zgm (a b:Int):wrap64 (wrap64 a+b)=wrap64 (a+b):=by unfold wrap64;omega
theorem Zin (a b:Int):wrap64 (wrap64 a+wrap64 b)=wrap64 (a+b):=by unfold wrap64;omega
abbrev Tri:=Zy_×Zy_×Int
variable {T:List Tri}
def ZsD (T:List Tri):Prop:=∀ p ∈ T,p.1.size<=maxLen/\p.2.1.size<=maxLen
def Zl4 (T:List Tri) (a b:Zy_):Int:=(T.map fun p=>if (p.1=a/\p.2.1=b) then p.2.2 else 0).sum
theorem ZhW (A B:List Tri) (a b:Zy_):Zl4 (A ++ B) a b=Zl4 A a b+Zl4 B a b:=by simp [Zl4]
theorem ZmY (p:Tri) (a b:Zy_):Zl4 [p] a b=if (p.1=a/\p.2.1=b) then p.2.2 else 0:=by simp [Zl4]
structure ZfZ {H:Type} (T:List Tri) (D:DataW H):Prop where
 isMap:IsMap D
 sums:∀ a b:Zy_,a.size<=maxLen->b.size<=maxLen->D.atKey (ZbI a b) (.lit (.int .i64 0))=.lit (.int .i64 (wrap64 (Zl4 T a b)))
 has:∀ p ∈ T,Maps.has D (ZbI p.1 p.2.1)=true
theorem ZeW (a b:Zy_):WideAt.IsKeyLit (ZbI a b):=trivial
theorem ZfZ.start {H:Type}:ZfZ [] (.map []:DataW H):=⟨⟨[],rfl⟩,fun a b _ _=>by simp [Zl4,wrap64];rfl,fun p hp=>by cases hp⟩
theorem Zss {a b a' b':Zy_} (ha:a.size<=maxLen) (hb:b.size<=maxLen) (ha':a'.size<=maxLen) (hb':b'.size<=maxLen) (h:¬ (a=a'/\b=b')):ZbI a b≠ZbI a' b':=fun e=>h (Zet.inj Zf0 ha hb ha' hb' e)
theorem ZfZ.step {H:Type}{D:DataW H} (h:ZfZ T D) {t r:Zy_} (ht:t.size<=maxLen) (hr:r.size<=maxLen) {c:Int} (hat:D.atKey (ZbI t r) (.lit (.int .i64 0))=.lit (.int .i64 c)) (n:Int) :
 ZfZ (T ++ [(t,r,n)]) (D.put (ZbI t r) (.lit (.int .i64 (wrap64 (c+n))))):=by
 have hc:=hat.symm.trans (h.sums t r ht hr);injection hc with hc
 injection hc with _ hc
 refine⟨h.isMap.put _ _,fun a b ha hb=>?_,fun p hp=>?_⟩
 . by_cases e:t=a/\r=b
   . obtain⟨rfl,rfl⟩:=e
     rw [atKey_put_same h.isMap (ZeW _ _),ZhW,ZmY,if_pos ⟨rfl,rfl⟩,hc,Zgm]
   . rw [atKey_put_other (Zss ha hb ht hr (fun e'=>e ⟨e'.1.symm,e'.2.symm⟩)),h.sums a b ha hb,ZhW,ZmY,if_neg e,Int.add_zero]
 . by_cases e:ZbI p.1 p.2.1=ZbI t r
   . rw [e]
     exact has_put_same h.isMap (ZeW _ _) _
   . rw [has_put_other e]
     rcases List.mem_append.1 hp with hp | hp
     . exact h.has p hp
     . simp at hp
       subst hp;exact absurd rfl e
def Zij (Ts:List Tm) (team r:Zy_) (p:Tri):Int:=if (p.2.1.toList == r.toList&&Zbd Ts p.1 team)=true then p.2.2 else 0
def ZlE (Ts:List Tm) (team r:Zy_) (T:List Tri) (left:Lit->Bool):Int:=(T.map fun p=>if left (ZbI p.1 p.2.1)=true then 0 else Zij Ts team r p).sum
theorem Zpm {H:Type}{D:DataW H} (h:ZfZ T D) (Ts:List Tm) (team r:Zy_):ZlE Ts team r T (Maps.has D)=0:=by
 have:∀ L:List Tri,(∀ p ∈ L,Maps.has D (ZbI p.1 p.2.1)=true)->ZlE Ts team r L (Maps.has D)=0:=by
  intro L
  induction L with
  | nil=>intro _;rfl
  | cons p L ih=>
   intro hL;have h1:=hL p (List.mem_cons_self ..);have h2:=ih (fun q hq=>hL q (List.mem_cons_of_mem _ hq));unfold ZlE at h2 |-;rw [List.map_cons,List.sum_cons,h2,if_pos h1]
   rfl
 exact this T h.has
theorem Zsq {left:Lit->Bool} (h:∀ kl,left kl=false) (Ts:List Tm) (team r:Zy_) (T:List Tri):ZlE Ts team r T left=(T.map (Zij Ts team r)).sum:=by
 unfold ZlE;simp [h]
theorem Zlw (Ts:List Tm) (team r:Zy_) {left:Lit->Bool} {a b:Zy_} (ha:a.size<=maxLen) (hb:b.size<=maxLen) (hl:left (ZbI a b)=true):∀ (T:List Tri),ZsD T->
 ZlE Ts team r T (fun z=>left z&&!z.sameKey (ZbI a b))=ZlE Ts team r T left+(if (b.toList == r.toList&&Zbd Ts a team)=true then Zl4 T a b else 0)
 | [],_=>by simp [ZlE,Zl4]
 | p :: T,hT=>by
  have ih:=Zlw Ts team r ha hb hl T (fun q hq=>hT q (List.mem_cons_of_mem _ hq));obtain⟨s1,s2⟩:=hT p (List.mem_cons_self ..);unfold ZlE Zl4 at ih |-;simp only [List.map_cons,List.sum_cons];rw [ih]
  by_cases e:p.1=a/\p.2.1=b
  . obtain⟨e1,e2⟩:=e
    have hs:(ZbI a b).sameKey (ZbI a b)=true:=by unfold ZbI;simp [Lit.sameKey]
    unfold Zij;simp only [hs,hl,Bool.not_true,Bool.and_false,Bool.false_eq_true,if_false,if_true,e1,e2,eq_self,and_self]
    cases hc:(b.toList == r.toList&&Zbd Ts a team)
    . simp only [Bool.false_eq_true,if_false];omega
    . simp only [if_true];omega
  . have hs:(ZbI p.1 p.2.1).sameKey (ZbI a b)=false:=sameKey_ne (Zss s1 s2 ha hb e)
    simp only [hs,Bool.not_false,Bool.and_true,if_neg e]
    cases hc:(b.toList == r.toList&&Zbd Ts a team)
    . simp only [Bool.false_eq_true,if_false];omega
    . simp only [if_true];omega
def ZcE (Ss:List Sh) (Os:List Ob):List Tri:=Os.flatMap fun o=>(Ze2 Ss o.kd o.vs).map fun p=>(o.tm,p.1,p.2)
theorem Zps (Ss:List Sh) (A:List Ob) (o:Ob):ZcE Ss (A ++ [o])=ZcE Ss A ++ (Ze2 Ss o.kd o.vs).map fun p=>(o.tm,p.1,p.2):=by simp [ZcE]
def Zdv (Ss:List Sh) (Ts:List Tm) (Os:List Ob) (team r:Zy_):Int:=(Os.map fun o=>if Zbd Ts o.tm team=true then Zd5 Ss o.kd o.vs r else 0).sum
theorem Zpg (Ts:List Tm) (team r t:Zy_) (L:List (Zy_×Int)):((L.map fun p=>((t,p.1,p.2):Tri)).map (Zij Ts team r)).sum=if Zbd Ts t team=true then ZoN r L else 0:=by
 induction L with
 | nil=>simp [ZoN]
 | cons p L ih=>
  rw [List.map_cons,List.map_cons,List.sum_cons,ih];unfold ZoN Zij;rw [List.map_cons,List.sum_cons]
  cases h1:Zbd Ts t team <;> cases h2:(p.1.toList == r.toList) <;> simp
theorem Zpl (Ss:List Sh) (Ts:List Tm) (team r:Zy_) (Os:List Ob):((ZcE Ss Os).map (Zij Ts team r)).sum=Zdv Ss Ts Os team r:=by
 induction Os with
 | nil=>rfl
 | cons o Os ih=>
  have e:ZcE Ss (o :: Os)=((Ze2 Ss o.kd o.vs).map fun p=>(o.tm,p.1,p.2)) ++ ZcE Ss Os:=by simp [ZcE]
  rw [e,List.map_append,List.sum_append,ih,Zpg,ZoQ]
  rfl
theorem Zpk (Ss:List Sh) (Ts:List Tm) (A:List Ob) (o:Ob) (team r:Zy_):Zdv Ss Ts (A ++ [o]) team r=Zdv Ss Ts A team r+(if Zbd Ts o.tm team=true then Zd5 Ss o.kd o.vs r else 0):=by simp [Zdv]
theorem Zry (Ss:List Sh) (kind:Zy_) (V:List Zy_):(Ze2 Ss kind V).length<=V.length+1:=by
 unfold Ze2
 split
 . split
   . rename_i x _ _
     have:=ZgR x.fields V V.length;have h1:(ZdJ kind).length<=1:=by unfold ZdJ;split <;> simp
     rw [List.length_append];omega
   . simp
 . simp
theorem ZlC (Ss:List Sh):∀ Os:List Ob,(∀ o ∈ Os,o.vs.length<=1048576)->(ZcE Ss Os).length<=Os.length*1048577
 | [],_=>by simp [ZcE]
 | o :: Os,h=>by
  have ih:=ZlC Ss Os (fun q hq=>h q (List.mem_cons_of_mem _ hq));have h1:=h o (List.mem_cons_self ..);have h2:=Zry Ss o.kd o.vs;have e:ZcE Ss (o :: Os)=((Ze2 Ss o.kd o.vs).map fun p=>(o.tm,p.1,p.2)) ++ ZcE Ss Os:=by simp [ZcE]
  rw [e,List.length_append,List.length_map,List.length_cons]
  omega
end
section
open Go.RowKit Go.Deep
variable {b o c0 c1 lo hi off n lo' hi':Nat} {w w' v wr:World} {x y:Pu} {Xl:List Pu}
def Zgs (b o _c0 _c1:Nat) (w:World) (x:Pu):Prop:=ZeJ x/\ZcU w b o x
theorem Zgs.near {o1 d0 d1:Nat} (h:Zgs b o c0 c1 w x) (hn:ZbV b o1 5 d0 d1 w w') (ho:o+5<=o1\/o1+5<=o) (hi:c1<=d0\/d1<=c0) (hb:b < c0\/c1<=b):Zgs b o c0 c1 w' x:=by
 obtain⟨hs,hc⟩:=h;obtain⟨h0,h1,h2,h3,h4⟩:=hc;have e:∀ t,t < 5->w'.cell? ⟨b,o+t,none⟩=w.cell? ⟨b,o+t,none⟩:=fun t ht=>hn.cell _ (by omega)
 have e0:w'.cell? ⟨b,o,none⟩=w.cell? ⟨b,o,none⟩:=hn.cell _ (by omega);exact⟨hs,⟨e0.trans h0,(e 1 (by omega)).trans h1,(e 2 (by omega)).trans h2,(e 3 (by omega)).trans h3,(e 4 (by omega)).trans h4⟩⟩
theorem Zgs.touch (h:Zgs b o c0 c1 w x) (ht:Zag lo hi w w') (hlt:b < w.heap.size) (hb:b < lo\/hi<=b) (_hi:c1<=lo\/hi<=c0):Zgs b o c0 c1 w' x:=by
 obtain⟨hs,hc⟩:=h;obtain⟨h0,h1,h2,h3,h4⟩:=hc;exact⟨hs,⟨(ht.cell (p:=⟨b,o,none⟩) hlt hb).trans h0,(ht.cell (p:=⟨b,o+1,none⟩) hlt hb).trans h1,(ht.cell (p:=⟨b,o+2,none⟩) hlt hb).trans h2,(ht.cell (p:=⟨b,o+3,none⟩) hlt hb).trans h3,(ht.cell (p:=⟨b,o+4,none⟩) hlt hb).trans h4⟩⟩
theorem Zgs.below (h:Zgs b o c0 c1 w x) (ht:Zw_ w w') (hlt:b < w.heap.size):Zgs b o c0 c1 w' x:=by
 obtain⟨hs,hc⟩:=h;obtain⟨h0,h1,h2,h3,h4⟩:=hc;exact⟨hs,⟨(ht.cell (p:=⟨b,o,none⟩) hlt).trans h0,(ht.cell (p:=⟨b,o+1,none⟩) hlt).trans h1,(ht.cell (p:=⟨b,o+2,none⟩) hlt).trans h2,(ht.cell (p:=⟨b,o+3,none⟩) hlt).trans h3,(ht.cell (p:=⟨b,o+4,none⟩) hlt).trans h4⟩⟩
structure Zfi (lo hi:Nat) (w:World) (b off n:Nat) (c:Nat->Nat) (X:Nat->Pu):Prop where
 lt:b < w.heap.size
 low:lo<=b
 bc:b < c 0
 bh:b < hi
 mono:∀ i,i < n->c i<=c (i+1)
 top:c n<=hi
 frz:∀ i,w.frozen? ⟨b,i,none⟩=false
 row:∀ i,i < n->Zgs b (off+i*5) (c i) (c (i+1)) w (X i)
theorem Zfi.le {c:Nat->Nat}{X:Nat->Pu} (h:Zfi lo hi w b off n c X) {i:Nat}:∀ {j:Nat},i<=j->j<=n->c i<=c j:=by
 intro j
 induction j with
 | zero=>intro hij _;have:i=0:=by omega
         subst this;exact Nat.le_refl _
 | succ j ih=>
  intro hij hjn
  by_cases e:i=j+1
  . subst e;exact Nat.le_refl _
  . exact Nat.le_trans (ih (by omega) (by omega)) (h.mono j (by omega))
theorem Zfi.near {c:Nat->Nat}{X:Nat->Pu} (h:Zfi lo hi w b off n c X) {j:Nat} (hj:j < n) (hn:ZbV b (off+j*5) 5 (c j) (c (j+1)) w w') {x:Pu} (hx:Zgs b (off+j*5) (c j) (c (j+1)) w' x):Zfi lo hi w' b off n c (fun i=>if i=j then x else X i):=by
 refine⟨Zk_ h.lt hn.size,h.low,h.bc,h.bh,h.mono,h.top,fun i=>(hn.frz i).trans (h.frz i),fun i hi'=>?_⟩
 by_cases e:i=j
 . subst e;rw [if_pos rfl];exact hx
 . rw [if_neg e]
   have h0:=h.le (Nat.zero_le i) (by omega);have hbc:=h.bc;refine (h.row i hi').near hn (by omega) ?_ (by omega)
   rcases Nat.lt_or_ge i j with hij | hij
   . exact Or.inl (h.le (by omega) (by omega))
   . exact Or.inr (h.le (by omega) (by omega))
theorem Zfi.touch {c:Nat->Nat}{X:Nat->Pu} (h:Zfi lo hi w b off n c X) (ht:Zag lo' hi' w w') (ho:hi<=lo'\/hi'<=lo):Zfi lo hi w' b off n c X:=by
 have h1:=h.low;have h2:=h.bh;have h3:=h.top;have h4:=h.bc;refine⟨Zk_ h.lt ht.size,h.low,h.bc,h.bh,h.mono,h.top,fun i=>(ht.frozen (p:=⟨b,i,none⟩) h.lt (by simp only [];omega)).trans (h.frz i),fun i hi'=>?_⟩;have h5:=h.le (Nat.zero_le i) (by omega);have h6:=h.le (i:=i+1) (j:=n) (by omega) Zl_;exact (h.row i hi').touch ht h.lt (by omega) (by omega)
theorem Zfi.below {c:Nat->Nat}{X:Nat->Pu} (h:Zfi lo hi w b off n c X) (ht:Zw_ w w'):Zfi lo hi w' b off n c X:=
 ⟨Zk_ h.lt ht.size,h.low,h.bc,h.bh,h.mono,h.top,fun i=>(ht.frozen (p:=⟨b,i,none⟩) h.lt).trans (h.frz i),fun i hi'=>(h.row i hi').below ht h.lt⟩
theorem Zfi.to {c:Nat->Nat}{X Y:Nat->Pu} (h:Zfi lo hi w b off n c X) (e:∀ i,i < n->X i=Y i):Zfi lo hi w b off n c Y:=
 ⟨h.lt,h.low,h.bc,h.bh,h.mono,h.top,h.frz,fun i hi'=>e i hi' ▸ h.row i hi'⟩
def Zcv (lo hi:Nat) (w:World) (v:Value) (Xl:List Pu):Prop:=
 (∃ (a:Option Addr) (cap:Nat),v=.slice a 0 cap/\Xl=[])\/
 ∃ (b off cap:Nat) (c:Nat->Nat) (X:Nat->Pu),v=.slice (some ⟨b,off,none⟩) Xl.length cap/\Xl≠[]/\Xl.length<=maxLen/\Xl.length<=cap/\(∀ i (h:i < Xl.length),X i=Xl[i])/\Zfi lo hi w b off Xl.length c X
theorem Zcv.touch {v:Value} (h:Zcv lo hi w v Xl) (ht:Zag lo' hi' w w') (ho:hi<=lo'\/hi'<=lo):Zcv lo hi w' v Xl:=by
 rcases h with h | ⟨b,off,cap,c,X,h1,h2,h3,h4,h5,h6⟩
 . exact Or.inl h
 . exact Or.inr ⟨b,off,cap,c,X,h1,h2,h3,h4,h5,h6.touch ht ho⟩
theorem Zcv.below {v:Value} (h:Zcv lo hi w v Xl) (ht:Zw_ w w'):Zcv lo hi w' v Xl:=by
 rcases h with h | ⟨b,off,cap,c,X,h1,h2,h3,h4,h5,h6⟩
 . exact Or.inl h
 . exact Or.inr ⟨b,off,cap,c,X,h1,h2,h3,h4,h5,h6.below ht⟩
theorem Zcv.form {v:Value} (h:Zcv lo hi w v Xl):∃ a cap,v=.slice a Xl.length cap:=by
 rcases h with ⟨a,cap,h,rfl⟩ | ⟨b,off,cap,c,X,h1,_⟩
 . exact⟨a,cap,h⟩
 . exact⟨_,cap,h1⟩
theorem Zcv.at {v:Value} (h:Zcv lo hi w v Xl):Zb9 lo w v Xl:=by
 rcases h with h | ⟨b,off,cap,c,X,h1,h2,h3,h4,h5,h6⟩
 . exact Or.inl h
 . refine Or.inr ⟨b,off,cap,h1,h2,h3,h6.lt,h6.low,h4,fun i hi'=>?_⟩
   have hr:=h6.row i hi';rw [h5 i hi'] at hr;obtain⟨hs,hc⟩:=hr;exact⟨hs,hc⟩
def ZtD (k:Int) (_x:Pu):Pu:=⟨mtB (k),mtB (k+1),mtB (k+1+1),k+1+1+1,k+1+1+1+1⟩
def Zt8 (_x:Pu):Nat:=5
def ZeB (Xl:List Pu) (i:Nat):Nat:=((Xl.take i).map Zt8).sum
def ZoC (k:Int) (Xl:List Pu):List Pu:=Xl.mapIdx (fun i x=>ZtD (k+(ZeB Xl i:Int)) x)
theorem ZdX (k:Int) (Xl:List Pu):(ZoC k Xl).length=Xl.length:=by unfold ZoC;simp
theorem Zqz (k:Int) (Xl:List Pu) (i:Nat) (h:i < (ZoC k Xl).length) (h':i < Xl.length):(ZoC k Xl)[i]=ZtD (k+(ZeB Xl i:Int)) Xl[i]:=List.getElem_mapIdx (f:=fun i x=>ZtD (k+(ZeB Xl i:Int)) x) (h:=h)
theorem Zji {i:Nat} (h:i < Xl.length):ZeB Xl (i+1)=ZeB Xl i+Zt8 Xl[i]:=by
 unfold ZeB;rw [List.take_succ_eq_append_getElem h,List.map_append,List.sum_append];simp
theorem Znd (hn:Ze5 Xl):∀ {i:Nat},i<=Xl.length->ZeB Xl i<=i*3000000:=by
 intro i
 induction i with
 | zero=>intro _;simp [ZeB]
 | succ i ih=>
  intro hi';have h1:=ih (by omega);rw [Zji (by omega)]
  have h2:Zt8 Xl[i]<=3000000:=by
   have hsm:=hn.2 i (by omega);unfold Zhw at hsm;unfold Zt8
   omega
  omega
structure Zio (wr:World) (b o c0 c1:Nat) (v:World) (y:Pu):Prop where
 near:ZbV b o 5 c0 c1 wr v
 bc:b < c0
 cells:ZcU v b o y
 frz:∀ i,v.frozen? ⟨b,i,none⟩=false
 lt:b < v.heap.size
theorem Zio.below {v':World} (h:Zio wr b o c0 c1 v y) (hb:Below v.heap.size v v'):Zio wr b o c0 c1 v' y:=
 ⟨h.near.trans (ZbV.below hb h.lt),h.bc,h.cells.below hb h.lt,fun i=>(hb.frozen (p:=⟨b,i,none⟩) h.lt).trans (h.frz i),Zk_ h.lt hb.size⟩
theorem Zio.s0 (h:Zio wr b o c0 c1 v y) (u:Zy_):Zio wr b o c0 c1 (v.setCell ⟨b,o,none⟩ (.string u)) { y with dr:=u }:=by
 obtain⟨h0,h1,h2,h3,h4⟩:=h.cells;have ht:Zag b (b+1) v (v.setCell ⟨b,o,none⟩ (.string u)):=Zag.setCell _ _ _ _ _ ⟨Nat.le_refl _,by simp only [];omega⟩;have hbc:=h.bc;exact⟨h.near.trans (ZbV.set _ _ _ _ _ _ _ _ (by omega) (by omega)),h.bc,⟨World.cell?_setCell_same' _ _ _ (by rw [h0];rfl),(cne (by omega)).trans h1,(cne (by omega)).trans h2,(cne (by omega)).trans h3,(cne (by omega)).trans h4⟩,fun i=>by rw [World.frozen?_setCell];exact h.frz i,by simpa [World.setCell] using h.lt⟩
theorem Zio.s1 (h:Zio wr b o c0 c1 v y) (u:Zy_):Zio wr b o c0 c1 (v.setCell ⟨b,o+1,none⟩ (.string u)) { y with tm:=u }:=by
 obtain⟨h0,h1,h2,h3,h4⟩:=h.cells;have ht:Zag b (b+1) v (v.setCell ⟨b,o+1,none⟩ (.string u)):=Zag.setCell _ _ _ _ _ ⟨Nat.le_refl _,by simp only [];omega⟩;have hbc:=h.bc;exact⟨h.near.trans (ZbV.set _ _ _ _ _ _ _ _ (by omega) (by omega)),h.bc,⟨(cne (by omega)).trans h0,World.cell?_setCell_same' _ _ _ (by rw [h1];rfl),(cne (by omega)).trans h2,(cne (by omega)).trans h3,(cne (by omega)).trans h4⟩,fun i=>by rw [World.frozen?_setCell];exact h.frz i,by simpa [World.setCell] using h.lt⟩
theorem Zio.s2 (h:Zio wr b o c0 c1 v y) (u:Zy_):Zio wr b o c0 c1 (v.setCell ⟨b,o+2,none⟩ (.string u)) { y with re:=u }:=by
 obtain⟨h0,h1,h2,h3,h4⟩:=h.cells;have ht:Zag b (b+1) v (v.setCell ⟨b,o+2,none⟩ (.string u)):=Zag.setCell _ _ _ _ _ ⟨Nat.le_refl _,by simp only [];omega⟩;have hbc:=h.bc;exact⟨h.near.trans (ZbV.set _ _ _ _ _ _ _ _ (by omega) (by omega)),h.bc,⟨(cne (by omega)).trans h0,(cne (by omega)).trans h1,World.cell?_setCell_same' _ _ _ (by rw [h2];rfl),(cne (by omega)).trans h3,(cne (by omega)).trans h4⟩,fun i=>by rw [World.frozen?_setCell];exact h.frz i,by simpa [World.setCell] using h.lt⟩
theorem Zio.s3 (h:Zio wr b o c0 c1 v y) (u:Int):Zio wr b o c0 c1 (v.setCell ⟨b,o+3,none⟩ (.int .i64 u)) { y with am:=u }:=by
 obtain⟨h0,h1,h2,h3,h4⟩:=h.cells;have ht:Zag b (b+1) v (v.setCell ⟨b,o+3,none⟩ (.int .i64 u)):=Zag.setCell _ _ _ _ _ ⟨Nat.le_refl _,by simp only [];omega⟩;have hbc:=h.bc;exact⟨h.near.trans (ZbV.set _ _ _ _ _ _ _ _ (by omega) (by omega)),h.bc,⟨(cne (by omega)).trans h0,(cne (by omega)).trans h1,(cne (by omega)).trans h2,World.cell?_setCell_same' _ _ _ (by rw [h3];rfl),(cne (by omega)).trans h4⟩,fun i=>by rw [World.frozen?_setCell];exact h.frz i,by simpa [World.setCell] using h.lt⟩
theorem Zio.s4 (h:Zio wr b o c0 c1 v y) (u:Int):Zio wr b o c0 c1 (v.setCell ⟨b,o+4,none⟩ (.int .i64 u)) { y with un:=u }:=by
 obtain⟨h0,h1,h2,h3,h4⟩:=h.cells;have ht:Zag b (b+1) v (v.setCell ⟨b,o+4,none⟩ (.int .i64 u)):=Zag.setCell _ _ _ _ _ ⟨Nat.le_refl _,by simp only [];omega⟩;have hbc:=h.bc;exact⟨h.near.trans (ZbV.set _ _ _ _ _ _ _ _ (by omega) (by omega)),h.bc,⟨(cne (by omega)).trans h0,(cne (by omega)).trans h1,(cne (by omega)).trans h2,(cne (by omega)).trans h3,World.cell?_setCell_same' _ _ _ (by rw [h4];rfl)⟩,fun i=>by rw [World.frozen?_setCell];exact h.frz i,by simpa [World.setCell] using h.lt⟩
end
section
open Go.RowKit Go.Deep
variable {i fuel n:Nat} {D:List Nat} {o:Oper} {a:Act} {w:World}
section
variable {P:Program} {ops:Array Oper} {Q:Exit->Act->World->Prop} {md:Region.Mode} {T:Nat->World->Prop}
def Zd6 (P:Program) (md:Region.Mode) (ops:Array Oper) (Q:Exit->Act->World->Prop) (T:Nat->World->Prop):Nat->Array Bool->Act->World->Prop
 | 0,listed,a,w=>Region.ready md ops listed=[]/\Q .normal a w
 | fuel+1,listed,a,w=>
  (Region.ready md ops listed=[]->Q .normal a w)/\
  ∀ i ∈ Region.ready md ops listed,wpOp P ops Q i (fun a' w'=>T i w'/\Zd6 P md ops Q T fuel (listed.setIfInBounds i true) a' w') a w
theorem Zjv:∀ (fuel:Nat) (listed:Array Bool) (a:Act) (w:World),Zd6 P md ops Q T fuel listed a w->wpAny P md ops Q fuel listed a w
 | 0,_,_,_,h=>h
 | fuel+1,_,_,_,h=>⟨h.1,fun i hi=>wpOp_mono (fun a' w' h'=>Zjv fuel _ a' w' h'.2) (h.2 i hi)⟩
def Znq (md:Region.Mode) (ops:Array Oper) (i:Nat) (D:List Nat):Bool:=D.all fun j=>match ops[j]? with
 | some oj=>oj.after.any fun e=>Region.binds md e&&((e.on == i) || D.contains e.on)
 | none=>false
theorem Zru {listed:Array Bool} (hD:Znq md ops i D=true) (hi:listed.getD i true=false) (hun:∀ j ∈ D,listed.getD j true=false) {j:Nat} (hj:j ∈ Region.ready md ops listed):j ∉ D:=by
 intro hjD;unfold Znq at hD;rw [List.all_eq_true] at hD;have h1:=hD j hjD;obtain⟨-,oj,hoj,hall⟩:=mem_ready.1 hj;rw [hoj] at h1;simp only [Array.any_eq_true] at h1;obtain⟨k,hk,he⟩:=h1;rw [Bool.and_eq_true,Bool.or_eq_true,beq_iff_eq] at he;have h2:=hall _ (Array.getElem_mem hk) he.1
 have h3:listed.getD (oj.after[k]).on true=false:=by
  rcases he.2 with h | h
  . rw [h];exact hi
  . exact hun _ (by simpa using h)
 rcases Nat.lt_or_ge (oj.after[k]).on listed.size with h' | h'
 . simp [h'] at h2 h3;rw [h3] at h2;cases h2
 . simp [Array.getElem?_eq_none h'] at h2
theorem ZlA {S:World->Prop}{oi:Oper}{v:Value} (hi:ops[i]?=some oi) (hsel:∀ (j:Nat) (o:Oper) cs b,ops[j]?=some o->o.op≠.select cs b)
 (hQ:∀ c a w,Q (.panic c) (a.put oi.dst v) w->Q (.panic c) a w) (hD:Znq md ops i D=true) (hTi:∀ w,S w->T i w) :
 ∀ (fuel:Nat) (listed:Array Bool) (a:Act) (w:World),
  (∀ j,listed.getD j true=false->j ∉ D->j≠i->∀ w,T j w->S w)->
  (∀ j oj,ops[j]?=some oj->j≠i->listed.getD j true=false->(∀ e ∈ oj.after,Region.binds md e=true->e.on≠i)->oi.apart ops oj=true)->
  (∀ j ∈ D,listed.getD j true=false)->
  i ∈ Region.ready md ops listed->YieldsIf P ops S oi v a->S w->
  Zd6 P md ops Q T fuel (listed.setIfInBounds i true) (a.put oi.dst v) w->Zd6 P md ops Q T (fuel+1) listed a w:=by
 intro fuel
 induction fuel with
 | zero=>
  intro listed a w _ _ _ hr hy hS H;refine⟨fun h=>(by rw [h] at hr;cases hr),fun j hj=>?_⟩
  by_cases hji:j=i
  . subst hji;exact hy.wpOp hi hS ⟨hTi _ hS,H⟩
  . have:=ready_mono hj hji
    rw [H.1] at this
    cases this
 | succ fuel ih=>
  intro listed a w hTS hfree hun hr hy hS H;refine⟨fun h=>(by rw [h] at hr;cases hr),fun j hj=>?_⟩
  by_cases hji:j=i
  . subst hji;exact hy.wpOp hi hS ⟨hTi _ hS,H⟩
  . have hjD:j ∉ D:=Zru hD (mem_ready.1 hr).1 hun hj
    have h1:=H.2 j (ready_mono hj hji);obtain⟨hjun,oj,hoj,hall⟩:=mem_ready.1 hj
    have hnot:∀ e ∈ oj.after,Region.binds md e=true->e.on≠i:=fun e he hb heq=>by
     have h1:=hall e he hb;have h0:=(mem_ready.1 hr).1;rw [heq] at h1
     rcases Nat.lt_or_ge i listed.size with h' | h'
     . simp [h'] at h0 h1;rw [h0] at h1;cases h1
     . simp [Array.getElem?_eq_none h'] at h1
    have h2:=wpOp_putIf hoj (hfree j oj hoj hji hjun hnot) (fun cs b=>hsel i oi cs b hi) (fun cs b=>hsel j oj cs b hoj) hQ hy h1
    have hback:∀ k,(listed.setIfInBounds j true).getD k true=false->listed.getD k true=false:=fun k hk=>by
     by_cases hjk:j=k
     . subst hjk;exact hjun
     . rw [getD_set_ne true hjk] at hk;exact hk
    have hfree':∀ k ok,ops[k]?=some ok->k≠i->(listed.setIfInBounds j true).getD k true=false->
     (∀ e ∈ ok.after,Region.binds md e=true->e.on≠i)->oi.apart ops ok=true:=fun k ok hk hki hun hno=>hfree k ok hk hki (hback k hun) hno
    have hun':∀ k ∈ D,(listed.setIfInBounds j true).getD k true=false:=fun k hk=>by
     rw [getD_set_ne true (fun e=>hjD (by rw [e];exact hk))];exact hun k hk
    refine wpOp_mono (fun a' w' h3=>⟨h3.2.1,ih (listed.setIfInBounds j true) a' w' (fun k hk=>hTS k (hback k hk)) hfree' hun' (ready_mono hr (Ne.symm hji)) h3.1 (hTS j hjun hjD hji _ h3.2.1) ?_⟩) h2;rw [Array.setIfInBounds_comm _ _ hji];exact h3.2.2
theorem Za6 (S:World->Prop) (D:List Nat) {i:Nat} {oi:Oper} {v:Value} {fuel:Nat} {listed:Array Bool} {a:Act} {w:World} (hi:ops[i]?=some oi)
 (hs:Region.noSelect ops=true) (hf:Region.free md ops listed i=true) (hr:(Region.ready md ops listed).contains i=true)
 (hD:(Znq md ops i D&&D.all fun j=>!listed.getD j true)=true) (hTi:∀ w,S w->T i w) (hTS:∀ j,listed.getD j true=false->j ∉ D->j≠i->∀ w,T j w->S w)
 (hQ:∀ c a w,Q (.panic c) (a.put oi.dst v) w->Q (.panic c) a w) (hy:YieldsIf P ops S oi v a) (hS:S w)
 (h:Zd6 P md ops Q T fuel (listed.setIfInBounds i true) (a.put oi.dst v) w):Zd6 P md ops Q T (fuel+1) listed a w:=by
 simp only [Bool.and_eq_true,Bool.not_eq_true',List.all_eq_true] at hD;exact ZlA hi (Region.noSelect_spec hs) hQ hD.1 hTi fuel listed a w hTS (Region.free_spec hi hf) hD.2 (by simpa using hr) hy hS h
theorem ZbD {listed:Array Bool} (hr:Region.ready md ops listed=[i]) (ho:ops[i]?=some o)
 (h:∀ K':Act->World->Prop,Shut (∀ a w,T i w->Zd6 P md ops Q T fuel (listed.setIfInBounds i true) a w->K' a w)->if Region.wanted o (yielded ops a.tmps)=true then Oper.wp P o a w K' Q else K' (a.put o.dst undef) w):Zd6 P md ops Q T (fuel+1) listed a w:=by
 refine⟨fun h0=>(by rw [hr] at h0;cases h0),fun j hj=>?_⟩;rw [hr] at hj;have:=List.mem_singleton.1 hj;subst this;exact wpOp_step ho fun K' hK=>h K' fun a w hS hW=>hK a w ⟨hS,hW⟩
theorem Zju {i':Nat}{o':Oper}{listed:Array Bool} (hr:Region.ready md ops listed=[i,i']) (ho:ops[i]?=some o) (ho':ops[i']?=some o')
 (h:∀ K':Act->World->Prop,Shut (∀ a w,T i w->Zd6 P md ops Q T fuel (listed.setIfInBounds i true) a w->K' a w)->if Region.wanted o (yielded ops a.tmps)=true then Oper.wp P o a w K' Q else K' (a.put o.dst undef) w)
 (h':∀ K':Act->World->Prop,Shut (∀ a w,T i' w->Zd6 P md ops Q T fuel (listed.setIfInBounds i' true) a w->K' a w)->if Region.wanted o' (yielded ops a.tmps)=true then Oper.wp P o' a w K' Q else K' (a.put o'.dst undef) w):Zd6 P md ops Q T (fuel+1) listed a w:=by
 refine⟨fun h0=>(by rw [hr] at h0;cases h0),fun j hj=>?_⟩;rw [hr] at hj
 rcases List.mem_cons.1 hj with rfl | hj
 . exact wpOp_step ho fun K' hK=>h K' fun a w hS hW=>hK a w ⟨hS,hW⟩
 . have:=List.mem_singleton.1 hj
   subst this;exact wpOp_step ho' fun K' hK=>h' K' fun a w hS hW=>hK a w ⟨hS,hW⟩
theorem ZfN {listed:Array Bool} (hr:Region.ready md ops listed=[]) (h:Q .normal a w):∀ fuel,Zd6 P md ops Q T fuel listed a w
 | 0=>⟨hr,h⟩
 | _+1=>⟨fun _=>h,by rw [hr];simp⟩
end
section
variable {P:Program} {ops:Array Oper} {Q:Exit->Act->World->Prop} {md:Region.Mode}
theorem Zmz {row:String}{args:Array Value}{R:Value->World->Prop} (h:Rows P row args w R):RowsIn Fence.wide n P row args w R:=fun c cs _=>by
 obtain⟨v,w',r,s⟩:=h c cs;exact⟨v,w',r,stepsIn_wide.2 s⟩
theorem Zrs {K K':Act->World->Prop} (hK:∀ a w,K a w->K' a w) (hno:¬ LetsOut Q) {r:Result Next} (h:o.upon P a K Q r):o.uponIn Fence.wide n P a K' Q r:=by
 have hd:Fence.wide.depth.isSome=true->1<=n:=fun h=>by cases h
 match r,h with
 | .ok (.value v) w',h=>exact hK _ _ h
 | .ok .skip w',h=>exact hK _ _ h
 | .ok (.defer d) w',h=>exact hK _ _ h
 | .ok (.enter f args) w',h=>
  refine⟨hd,callsIn_wide.2 (h.mono ?_)⟩;intro e w2 he
  cases e with
  | returned v=>exact hK _ _ he
  | panicked chain=>exact he
  | outgrown=>exact absurd he hno
 | .ok (.row row args) w',h=>exact⟨hd,Zmz (h.mono fun v w2 hv=>hK _ _ hv)⟩
 | .halt (.panic v) w',h=>exact h
theorem ZqG {K K':Act->World->Prop} (hK:∀ a w,K a w->K' a w) (hno:¬ LetsOut Q) (h:wpOp P ops Q i K a w):wpOpIn Fence.wide n P ops Q i K' a w:=by
 unfold wpOp at h;unfold wpOpIn
 split at h
 . rename_i e
   rw [e];exact hK _ _ h
 . rename_i o e
   rw [e];dsimp only
   split at h
   . rename_i hw
     rw [if_pos hw]
     rcases h with h | h
     . exact⟨fun _ _=>trivial,Zrs hK hno h⟩
     . exact absurd h.2 hno
   . rename_i hw
     rw [if_neg hw];exact⟨fun _ _=>trivial,hK _ _ h⟩
theorem ZiN (hno:¬ LetsOut Q):∀ (fuel:Nat) (listed:Array Bool) (a:Act) (w:World),wpAny P md ops Q fuel listed a w->wpAnyIn Fence.wide n P md ops Q fuel listed a w
 | 0,_,_,_,h=>h
 | fuel+1,_,_,_,h=>⟨h.1,fun i hi=>ZqG (fun a w h'=>ZiN hno fuel _ a w h') hno (h.2 i hi)⟩
theorem ZiC (T:Nat->World->Prop) {n id l:Nat} {a:Act} {w:World} (hm:P.follows .mixedOrders=true) (hnd:ops.all (fun o=>match o.op with | .defer _=>false | _=>true)=true) (hno:¬ LetsOut Q)
 (h:Zd6 P .any ops Q T ops.size (Array.replicate ops.size false) a w.drew):(Code.region id ops true).wpIn (Fence.wide.inRound l) n P Q a w:=
 Zha hm hnd (ZiN hno _ _ _ _ (Zjv _ _ _ _ h))
end
end
section
open Go.RowKit Go.Deep
theorem Zmk (lo hi:Nat) (v:Value) (Xl:List Ob) (k:Int) (w:World) (hv:ZbW lo hi w v Xl) (hn:Zbg Xl) (h0:0<=k) (hk:k<=2000000000000000000) :
 Calls prog 55 #[v,.int .i64 k] w fun e w'=>e=.returned (.int .i64 (k+(ZdM Xl Xl.length:Int)))/\Zag lo hi w w'/\ZbW lo hi w' v (ZoB k Xl):=by
 rcases hv with ⟨a,cap,rfl,rfl⟩ | ⟨b,off,cap,c,X,rfl,hne,hm,hcap,hX,hR⟩
 . go_enter func55,ntmps55
   go_wp2
   go_loop [5,1] (fun i q=>i=.int .i64 0/\q=.int .i64 k) (fun _ _=>0)
   case atStart=>exact⟨rfl,rfl⟩
   case round=>
    obtain⟨rfl,rfl⟩:=hrel;go_wp2;go_ret;exact⟨by simp [ZdM],Zag.refl _ _ _,Or.inl ⟨_,_,rfl,rfl⟩⟩
 . have hlen:=hn.1
   have HN:=Zab hn;have HX:=Zab hX;have HR0:=Zab hR;have HM:=Zab hm;have HC:=Zab hcap;have HNE:=Zab hne;clear hn hX hR hm hcap hne;go_enter func55,ntmps55;go_wp2
   go_loopw [5,1] (fun i q wr=>∃ j:Nat,i=.int .i64 j/\q=.int .i64 (k+(ZdM Xl j:Int))/\j<=Xl.length/\Zag lo hi w wr/\ZfV lo hi wr b off Xl.length c (fun i=>if i < j then ZtC (k+(ZdM Xl i:Int)) (X i) else X i)) (fun i _ _=>Xl.length - (intOf i).toNat)
   case atStart=>exact⟨0,rfl,by simp [ZdM],by omega,Zag.refl _ _ _,HR0.o.to (fun i _=>by simp)⟩
   case round=>
    obtain⟨j,rfl,rfl,hj,ht,hr⟩:=hrel;have HT:=Zab ht;have HR:=Zab hr;clear ht hr HR0
    by_cases hlt:j < Xl.length
    . have hpos:=Znc HN.o (i:=j) (by omega)
      have HP:=Zab (Zjh hlt)
      have hone:Zgr b (off+j*7) (c j).1 (c j).2 wr (X j):=by
       have:=HR.o.row j hlt;simp only [Nat.lt_irrefl,if_false] at this;exact this
      have hxj:X j=Xl[j]:=HX.o j hlt;obtain⟨x,hx⟩:∃ x,x=X j:=⟨_,rfl⟩
      rw [<- hx] at hone;obtain⟨hs,vv0,vv1,m1,q0,q1,hc,l0,l1⟩:=hone;have hs0:x.vs.length<=1048576:=by have:=HN.o.2 j hlt;rw [hx,hxj];unfold ZeI at this;omega
      have hs1:x.hs.length<=1048576:=by have:=HN.o.2 j hlt;rw [hx,hxj];unfold ZeI at this;omega
      have HXJ:=Zab hxj;have HXX:=Zab hx;obtain⟨K,hK⟩:∃ K,K=k+(ZdM Xl j:Int):=⟨_,rfl⟩
      rw [<- hK];have hK0:0<=K:=by omega
      have hK1:K<=2500000000000000000:=by omega
      have HK:=Zab hK;have HBC:Hd (b < (c j).1\/(c j).2<=b):=(HR.o.seg j hlt).2.2;have HS:Hd (Zfp wr b (off+j*7) (c j).1 (c j).2 m1 vv0 vv1 wr x):=⟨ZbV.refl _ _ _ _ _ _,HBC.o,q0,q1,hc,l0,l1,HR.o.frz,HR.o.lt⟩;clear hpos hxj hx hs hc l0 l1 q0 q1 hK;obtain⟨d0,d1,d2,d3,d4,d5,d6⟩:=HS.o.cells;have fz:=HS.o.frz;go_wp2_with fail;clear d0 d1 d2 d3 d4 d5 d6 fz;refine (Zal _ _ (by omega)).mono ?_;rintro e v1 ⟨rfl,hb⟩;have HS1:=Zab (HS.o.below hb);clear hb HS;obtain⟨d0,d1,d2,d3,d4,d5,d6⟩:=HS1.o.cells;have fz:=HS1.o.frz;go_wp2_with fail;clear d0 d1 d2 d3 d4 d5 d6 fz;obtain⟨v2,hv2,HS2⟩:∃ v',v'=(v1.setCell ⟨b,off+j*7,none⟩ (.string (mtB (K))))/\Hd (Zfp wr b (off+j*7) (c j).1 (c j).2 m1 vv0 vv1 v' ⟨mtB (K),x.nm,x.tm,x.vs,x.en,x.hs,x.ver⟩):=⟨_,rfl,(HS1.o.s0 (mtB (K)))⟩
      rw [<- hv2];clear hv2 HS1;refine (Zal _ _ (by omega)).mono ?_;rintro e v3 ⟨rfl,hb⟩;have HS3:=Zab (HS2.o.below hb);clear hb HS2;obtain⟨d0,d1,d2,d3,d4,d5,d6⟩:=HS3.o.cells;have fz:=HS3.o.frz;go_wp2_with fail;clear d0 d1 d2 d3 d4 d5 d6 fz;obtain⟨v4,hv4,HS4⟩:∃ v',v'=(v3.setCell ⟨b,off+j*7+1,none⟩ (.string (mtB (K+1))))/\Hd (Zfp wr b (off+j*7) (c j).1 (c j).2 m1 vv0 vv1 v' ⟨mtB (K),mtB (K+1),x.tm,x.vs,x.en,x.hs,x.ver⟩):=⟨_,rfl,(HS3.o.s1 (mtB (K+1)))⟩
      rw [<- hv4];clear hv4 HS3;refine (Zal _ _ (by omega)).mono ?_;rintro e v5 ⟨rfl,hb⟩;have HS5:=Zab (HS4.o.below hb);clear hb HS4;obtain⟨d0,d1,d2,d3,d4,d5,d6⟩:=HS5.o.cells;have fz:=HS5.o.frz;go_wp2_with fail;clear d0 d1 d2 d3 d4 d5 d6 fz;obtain⟨v6,hv6,HS6⟩:∃ v',v'=(v5.setCell ⟨b,off+j*7+2,none⟩ (.string (mtB (K+1+1))))/\Hd (Zfp wr b (off+j*7) (c j).1 (c j).2 m1 vv0 vv1 v' ⟨mtB (K),mtB (K+1),mtB (K+1+1),x.vs,x.en,x.hs,x.ver⟩):=⟨_,rfl,(HS5.o.s2 (mtB (K+1+1)))⟩
      rw [<- hv6];clear hv6 HS5;refine (Zg7 _ _ _ x.vs _ _ HS6.o.l0 (by omega) (by omega)).mono ?_;rintro e v7 ⟨rfl,ht,hl⟩;have HS7:Hd (Zfp wr b (off+j*7) (c j).1 (c j).2 m1 vv0 vv1 v7 ⟨mtB (K),mtB (K+1),mtB (K+1+1),Zf8 (K+1+1+1) x.vs.length,x.en,x.hs,x.ver⟩):=HS6.o.m0' ht hl;clear ht hl HS6;obtain⟨d0,d1,d2,d3,d4,d5,d6⟩:=HS7.o.cells;have fz:=HS7.o.frz;go_wp2_with fail;clear d0 d1 d2 d3 d4 d5 d6 fz;obtain⟨v8,hv8,HS8⟩:∃ v',v'=(v7.setCell ⟨b,off+j*7+4,none⟩ (.bool (((K+1+1+1+(x.vs.length:Int)) % 3 == 0))))/\Hd (Zfp wr b (off+j*7) (c j).1 (c j).2 m1 vv0 vv1 v' ⟨mtB (K),mtB (K+1),mtB (K+1+1),Zf8 (K+1+1+1) x.vs.length,((K+1+1+1+(x.vs.length:Int)) % 3 == 0),x.hs,x.ver⟩):=⟨_,rfl,(HS7.o.s4 (((K+1+1+1+(x.vs.length:Int)) % 3 == 0)))⟩
      rw [<- hv8];clear hv8 HS7;refine (Zg7 _ _ _ x.hs _ _ HS8.o.l1 (by omega) (by omega)).mono ?_;rintro e v9 ⟨rfl,ht,hl⟩;have HS9:Hd (Zfp wr b (off+j*7) (c j).1 (c j).2 m1 vv0 vv1 v9 ⟨mtB (K),mtB (K+1),mtB (K+1+1),Zf8 (K+1+1+1) x.vs.length,((K+1+1+1+(x.vs.length:Int)) % 3 == 0),Zf8 (K+1+1+1+(x.vs.length:Int)+1) x.hs.length,x.ver⟩):=HS8.o.m1' ht hl;clear ht hl HS8;obtain⟨d0,d1,d2,d3,d4,d5,d6⟩:=HS9.o.cells;have fz:=HS9.o.frz;go_wp2;clear d0 d1 d2 d3 d4 d5 d6 fz
      obtain⟨v10,hv10,HS10⟩:∃ v',v'=(v9.setCell ⟨b,off+j*7+6,none⟩ (.int .i64 (K+1+1+1+(x.vs.length:Int)+1+(x.hs.length:Int))))/\Hd (Zfp wr b (off+j*7) (c j).1 (c j).2 m1 vv0 vv1 v' ⟨mtB (K),mtB (K+1),mtB (K+1+1),Zf8 (K+1+1+1) x.vs.length,((K+1+1+1+(x.vs.length:Int)) % 3 == 0),Zf8 (K+1+1+1+(x.vs.length:Int)+1) x.hs.length,K+1+1+1+(x.vs.length:Int)+1+(x.hs.length:Int)⟩):=⟨_,rfl,(HS9.o.s6 (K+1+1+1+(x.vs.length:Int)+1+(x.hs.length:Int)))⟩
      rw [<- hv10];clear hv10 HS9;have HW:Hd (Zt7 Xl[j]=5+x.vs.length+x.hs.length):=by unfold Hd;rw [<- HXJ.o,<- HXX.o];rfl
      have HQ:Hd ((K+1+1+1+(x.vs.length:Int)+1+(x.hs.length:Int)+1:Int)=k+(ZdM Xl (j+1):Int)):=by
       have h1:=HP.o;have h2:=HW.o;have h3:=HK.o;unfold Hd
       omega
      have HRN:=Zab (HR.o.near hlt HS10.o.near (show Zgr b (off+j*7) (c j).1 (c j).2 v10 (ZtC K x) from ⟨⟨Zb4 _ (by omega),Zb4 _ (by omega),Zb4 _ (by omega)⟩,_,_,_,HS10.o.q0,HS10.o.q1,HS10.o.cells,HS10.o.l0,HS10.o.l1⟩));have HTN:=Zab (HS10.o.near.wide HR.o.lt (lo':=lo) (hi':=hi) (HR.o.seg j hlt).1 (HR.o.seg j hlt).2.1 ⟨HR.o.low,HR.o.bh⟩);go_roundw
      . 
       refine⟨j+1,by go_num,congrArg (Value.int .i64) HQ.o,by omega,HT.o.trans HTN.o,HRN.o.to (fun i hi'=>?_)⟩
       by_cases e:i=j
       . subst e
         rw [if_pos rfl,if_pos (by omega),<- HK.o,HXX.o]
       . rw [if_neg e]
         by_cases e2:i < j
         . rw [if_pos e2,if_pos (by omega)]
         . rw [if_neg e2,if_neg (by omega)]
      . simp [intOf];omega
    . have e:j=Xl.length:=by omega
      subst e;go_wp2;go_ret;refine⟨rfl,HT.o,Or.inr ⟨b,off,cap,c,fun i=>ZtC (k+(ZdM Xl i:Int)) (X i),by rw [ZdW],?_,by rw [ZdW];exact HM.o,by rw [ZdW];exact HC.o,fun i h=>?_,?_⟩⟩
      . intro e
        have:=congrArg List.length e;rw [ZdW] at this;exact HNE.o (List.length_eq_zero_iff.1 (by simpa using this))
      . have h':i < Xl.length:=by rw [ZdW] at h;exact h
        rw [Zqy _ _ _ _ h',<- HX.o i h']
      . rw [ZdW]
        exact HR.o.to (fun i hi'=>by rw [if_pos hi'])
end
open Go.ChangeShapes Go.WideShapes Go.ChangeAt Go.RowKit Go.Deep
theorem Tryz.cells26:prog.cellsOf 26=3:=by kernel_rfl
theorem Tryz.cells22:prog.cellsOf 22=1:=by kernel_rfl
theorem Tryz.cells23:prog.cellsOf 23=1:=by kernel_rfl
theorem Tryz.cells24:prog.cellsOf 24=1:=by kernel_rfl
theorem ZtL {cs:Array Value} (h:cs.size=3):∃ c0 c1 c2,cs=#[c0,c1,c2]:=by
 obtain⟨l⟩:=cs
 match l,h with
 | [c0,c1,c2],_=>exact⟨c0,c1,c2,rfl⟩
section
variable {H:Type} {enc:TypeId×Value->H} {W:World}
theorem Zr3 {r:Reach}{b0:Nat}{v:Value}{d:DataW H}{p:List MemPlace} (hv:Value.okWide prog W r b0 26 v) (h:DataW.Trod enc prog W 0 (fun _=>true) true 26 v d p) :
 ∃ (sv mv tv:Value) (Ss:List Sh) (Ms:List Md) (Ts:List Tm),v=.agg #[sv,mv,tv]/\ZbH 0 W sv mv tv Ss Ms Ts:=by
 obtain⟨cs,rfl,hsz⟩:=okWide_struct underlying26 hv;obtain⟨c0,c1,c2,rfl⟩:=ZtL (hsz.trans Tryz.cells26);obtain⟨fuel,hf⟩:=h;obtain⟨xs,n,_,_,_,hlen,hfld⟩:=DataW.trod_struct underlying26 hf;simp only [Array.size,List.length_cons,List.length_nil] at hlen;have g0:DataW.trod enc prog W 0 (fun _=>true) true n 22 ((([c0,c1,c2]:List Value).drop 0).take (prog.cellsOf 22))=xs[0]?:=hfld 0 _ rfl;have g1:DataW.trod enc prog W 0 (fun _=>true) true n 23 ((([c0,c1,c2]:List Value).drop 1).take (prog.cellsOf 23))=xs[1]?:=hfld 1 _ rfl;have g2:DataW.trod enc prog W 0 (fun _=>true) true n 24 ((([c0,c1,c2]:List Value).drop 2).take (prog.cellsOf 24))=xs[2]?:=hfld 2 _ rfl;simp only [Tryz.cells22,Tryz.cells23,Tryz.cells24,List.drop_succ_cons,List.drop_zero,List.take_succ_cons,List.take_zero] at g0 g1 g2;rw [List.getElem?_eq_getElem (by omega)] at g0 g1 g2
 obtain⟨Ss,hS⟩:=Zr6 g0;obtain⟨Ms,hM⟩:=Zr4 g1;obtain⟨Ts,hT⟩:=Zr7 g2;exact⟨c0,c1,c2,Ss,Ms,Ts,rfl,hS,hM,hT⟩
end
end Go.Proofs.YtmappejlmapboaaGreat
