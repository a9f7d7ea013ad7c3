import Derived.Test.YtmappejlmapboaaGreatG19
set_option maxHeartbeats 16000000
set_option maxRecDepth 100000
open Go.Proofs.Tryz
namespace Go.Proofs.YtmappejlmapboaaGreat
section
open Go.RowKit Go.Deep
variable {Fs:List Fd} {ro:Int}
def ZnY (ro:Int) (kd nm:Zy_) (t:Tie):Bool:=(t.2.1 == ro)&&((t.2.2.1.toList == kd.toList)&&(t.2.2.2.toList == nm.toList))
def ZdN (Fs:List Fd) (V:List Zy_) (ro:Int) (kd nm:Zy_) (k:Nat):Bool:=(ZdD Fs V k).any (ZnY ro kd nm)
def Zdx (f:Fd) (s:Zy_) (ro:Int) (kd nm:Zy_):Bool:=(f.kd == 4)&&((f.ro == ro)&&(!s.toList.isEmpty&&((f.to.toList == kd.toList)&&(s.toList == nm.toList))))
theorem ZiB {V:List Zy_}{kd nm:Zy_}{k:Nat} (hf:k < Fs.length) (hv:k < V.length):ZdN Fs V ro kd nm (k+1)=(ZdN Fs V ro kd nm k || Zdx Fs[k] V[k] ro kd nm):=by
 unfold ZdN;rw [ZhK hf hv,List.any_append]
 congr 1
 unfold Zfg Zdx
 cases h1:Fs[k].kd == 4 <;> cases h2:V[k].toList.isEmpty <;> simp [ZnY]
theorem ZiA {V:List Zy_}{kd nm:Zy_} (hl:Fs.length=V.length) {k:Nat} (hk:ZdN Fs V ro kd nm k=true):∀ m,k<=m->m<=Fs.length->ZdN Fs V ro kd nm m=true
 | 0,h1,_=>by
  have:k=0:=by omega
  rw [<- this];exact hk
 | m+1,h1,h2=>by
  by_cases e:k=m+1
  . rw [<- e];exact hk
  . rw [ZiB (by omega) (by omega),ZiA hl hk m (by omega) (by omega),Bool.true_or]
def Zdf (Ss:List Sh) (o:Ob) (ro:Int) (kd nm:Zy_):Bool:=match Zcj Ss o.kd with
 | some x=>ZdN x.fields o.vs ro kd nm x.fields.length
 | none=>false
def Zgs (Ss:List Sh) (Os:List Ob):Prop:=∀ i (h:i < Os.length),∃ x,Zcj Ss Os[i].kd=some x/\x.fields.length=Os[i].vs.length
def Zdu (Ss:List Sh) (o:Ob):List Tie:=match Zcj Ss o.kd with
 | some x=>ZdD x.fields o.vs x.fields.length
 | none=>[]
end
section
open Go.RowKit Go.Deep
variable {i:Nat} {L A B:List Bool}
section
variable (n:Nat) (So Ho:Nat->Bool) (E:Nat->Nat->Bool)
def Stays (i:Nat):Prop:=∀ P:Nat->Prop,(∀ i,i < n->(So i=false\/Ho i=true)->P i)->(∀ k i,P k->i < n->E k i=true->P i)->P i
variable {n So Ho E}
theorem Stays.base (i:Nat) (hi:i < n) (h:So i=false\/Ho i=true):Stays n So Ho E i:=fun _ b _=>b i hi h
theorem Stays.step (k i:Nat) (hk:Stays n So Ho E k) (hi:i < n) (h:E k i=true):Stays n So Ho E i:=fun P b s=>s k i (hk P b s) hi h
theorem Stays.lt (h:Stays n So Ho E i):i < n:=h (· < n) (fun _ hi _=>hi) fun _ _ _ hi _=>hi
variable (n So Ho E)
def Zfe (L:List Bool) (i:Nat):Bool:=(List.range n).any fun k=>!(L[k]?.getD false)&&E k i
def Zc8 (L:List Bool) (i:Nat):List Bool:=if L[i]?.getD false&&(Ho i || Zfe n E L i) then L.set i false else L
def Zbu (L:List Bool):Nat->List Bool
 | 0=>L
 | i+1=>Zc8 n Ho E (Zbu L i) i
def passes (L:List Bool):Nat->List Bool
 | 0=>L
 | m+1=>Zbu n Ho E (passes L m) n
def Zby:List Bool:=passes n Ho E ((List.range n).map So) (n+1)
variable {n So Ho E}
theorem Zgc (L:List Bool) (i:Nat):(Zc8 n Ho E L i).length=L.length:=by
 unfold Zc8
 split <;> simp
theorem Zgi (L:List Bool):∀ i,(Zbu n Ho E L i).length=L.length
 | 0=>rfl
 | i+1=>by unfold Zbu;rw [Zgc,Zgi L i]
theorem Zgj (L:List Bool):∀ m,(passes n Ho E L m).length=L.length
 | 0=>rfl
 | m+1=>by unfold passes;rw [Zgi,Zgj L m]
theorem Zkb:(Zby n So Ho E).length=n:=by unfold Zby;rw [Zgj];simp
def Zbw (n:Nat) (So Ho:Nat->Bool) (E:Nat->Nat->Bool) (L:List Bool):Prop:=L.length=n/\∀ i,i < n->L[i]?.getD false=false->Stays n So Ho E i
theorem Zjc {j:Nat}:(L.set i false)[j]?.getD false=if j=i then false else L[j]?.getD false:=by
 rw [List.getElem?_set]
 by_cases h:i=j
 . subst h
   simp
   by_cases h2:i < L.length <;> simp [h2]
 . rw [if_neg h,if_neg (fun e=>h e.symm)]
theorem Zir:Zfe n E L i=true↔∃ k,k < n/\L[k]?.getD false=false/\E k i=true:=by
 unfold Zfe;rw [List.any_eq_true]
 constructor
 . rintro⟨k,hk,h⟩
   rw [Bool.and_eq_true,Bool.not_eq_true'] at h;exact⟨k,List.mem_range.1 hk,h.1,h.2⟩
 . rintro⟨k,hk,h1,h2⟩
   exact⟨k,List.mem_range.2 hk,by rw [h1,h2];rfl⟩
theorem Zbw.drop (h:Zbw n So Ho E L) {i:Nat} (hi:i < n):Zbw n So Ho E (Zc8 n Ho E L i):=by
 refine⟨by rw [Zgc];exact h.1,fun j hj hf=>?_⟩;unfold Zc8 at hf
 split at hf
 . rename_i hc
   rw [Zjc] at hf
   by_cases e:j=i
   . subst e
     rw [Bool.and_eq_true,Bool.or_eq_true] at hc
     rcases hc.2 with h1 | h1
     . exact .base j hj (Or.inr h1)
     . obtain⟨k,hk,hkf,he⟩:=Zir.1 h1
       exact .step k j (h.2 k hk hkf) hj he
   . rw [if_neg e] at hf
     exact h.2 j hj hf
 . exact h.2 j hj hf
theorem Zbw.pass (h:Zbw n So Ho E L):∀ i,i<=n->Zbw n So Ho E (Zbu n Ho E L i)
 | 0,_=>h
 | i+1,hi=>(Zbw.pass h i (by omega)).drop (by omega)
theorem Zbw.passes (h:Zbw n So Ho E L):∀ m,Zbw n So Ho E (passes n Ho E L m)
 | 0=>h
 | m+1=>(Zbw.passes h m).pass n Zl_
theorem Zbw.start:Zbw n So Ho E ((List.range n).map So):=
 ⟨by simp,fun i hi hf=>.base i hi (Or.inl (by simpa [hi] using hf))⟩
def Zdn (L L':List Bool):Prop:=L.length=L'.length/\∀ i:Nat,L[i]?.getD false=true->L'[i]?.getD false=true
theorem Zdn.refl (L:List Bool):Zdn L L:=⟨rfl,fun _ h=>h⟩
theorem Zdn.trans {C:List Bool} (h:Zdn A B) (h':Zdn B C):Zdn A C:=⟨h.1.trans h'.1,fun i hi=>h'.2 i (h.2 i hi)⟩
theorem ZhO (L:List Bool) (i:Nat):Zdn (Zc8 n Ho E L i) L:=by
 refine⟨Zgc L i,fun j hj=>?_⟩;unfold Zc8 at hj
 split at hj
 . rw [Zjc] at hj
   split at hj
   . cases hj
   . exact hj
 . exact hj
theorem Zea (L:List Bool):∀ i,Zdn (Zbu n Ho E L i) L
 | 0=>Zdn.refl L
 | i+1=>(ZhO _ i).trans (Zea L i)
theorem ZfZ (L:List Bool):∀ m,Zdn (passes n Ho E L m) L
 | 0=>Zdn.refl L
 | m+1=>(Zea _ n).trans (ZfZ L m)
def ZqK (n:Nat) (Ho:Nat->Bool) (E:Nat->Nat->Bool) (L:List Bool):Prop:=∀ i,i < n->(L[i]?.getD false&&(Ho i || Zfe n E L i))=false
theorem ZcF (h:Zdn A B):A.count true<=B.count true/\(A.count true=B.count true->A=B):=by
 obtain⟨hl,hw⟩:=h
 induction A generalizing B with
 | nil=>
  cases B with
  | nil=>exact⟨Nat.le_refl _,fun _=>rfl⟩
  | cons b B=>cases hl
 | cons a A ih=>
  cases B with
  | nil=>cases hl
  | cons b B=>
   have hl':A.length=B.length:=by simpa using hl
   obtain⟨h1,h2⟩:=ih hl' fun i hi=>by simpa using hw (i+1) (by simpa using hi)
   have h0:a=true->b=true:=fun e=>by simpa using hw 0 (by simpa using e)
   rw [List.count_cons,List.count_cons]
   cases a <;> cases b <;> simp at h0 |-
   . exact⟨h1,h2⟩
   . exact⟨by omega,fun e=>by omega⟩
   . exact⟨h1,h2⟩
theorem ZpV (h:Zbu n Ho E L n=L):ZqK n Ho E L:=by
 have step:∀ i,i<=n->Zbu n Ho E L i=L:=fun i hi=>by
  have go:∀ d,d<=n->Zbu n Ho E L (n - d)=L:=fun d=>by
   induction d with
   | zero=>intro _;exact h
   | succ d ih=>
    intro hd;have h1:=ih (by omega);have h2:n - d=(n - (d+1))+1:=by omega
    rw [h2] at h1
    have w1:Zdn L (Zbu n Ho E L (n - (d+1))):=by
     have:=ZhO (n:=n) (Ho:=Ho) (E:=E) (Zbu n Ho E L (n - (d+1))) (n - (d+1));have e:Zc8 n Ho E (Zbu n Ho E L (n - (d+1))) (n - (d+1))=L:=h1;rw [e] at this;exact this
    have w2:=Zea (n:=n) (Ho:=Ho) (E:=E) L (n - (d+1));exact (ZcF w2).2 (Nat.le_antisymm (ZcF w2).1 (ZcF w1).1)
  have:=go (n - i) (by omega)
  rwa [show n - (n - i)=i by omega] at this
 intro i hi;have h1:=step i (by omega);have h2:=step (i+1) (by omega);unfold Zbu at h2;rw [h1] at h2;unfold Zc8 at h2
 split at h2
 . rename_i hc
   rw [Bool.and_eq_true] at hc;have:(L.set i false)[i]?.getD false=false:=by rw [Zjc,if_pos rfl]
   rw [h2,hc.1] at this
   cases this
 . rename_i hc
   simpa using hc
theorem ZiO (h:ZqK n Ho E L):∀ i,i<=n->Zbu n Ho E L i=L
 | 0,_=>rfl
 | i+1,hi=>by
  unfold Zbu;rw [ZiO h i (by omega)];unfold Zc8;rw [h i (by omega)]
  rfl
theorem ZgI (L:List Bool) (hl:L.length=n):∀ m,ZqK n Ho E (passes n Ho E L m)\/(passes n Ho E L m).count true+m<=n
 | 0=>Or.inr (by have:=List.count_le_length (a:=true) (l:=L);simp [passes];omega)
 | m+1=>by
  rcases ZgI L hl m with h | h
  . left
    unfold passes;rw [ZiO h n Zl_];exact h
  . by_cases e:Zbu n Ho E (passes n Ho E L m) n=passes n Ho E L m
    . left
      unfold passes;rw [e];exact ZpV e
    . right
      have w:=Zea (n:=n) (Ho:=Ho) (E:=E) (passes n Ho E L m) n;have h1:=(ZcF w).1;have h2:(Zbu n Ho E (passes n Ho E L m) n).count true≠(passes n Ho E L m).count true:=fun e'=>e ((ZcF w).2 e')
      unfold passes
      omega
theorem ZhW:ZqK n Ho E (Zby n So Ho E):=by
 rcases ZgI (n:=n) (Ho:=Ho) (E:=E) ((List.range n).map So) (by simp) (n+1) with h | h
 . exact h
 . omega
theorem Zka (hi:i < n):(Zby n So Ho E)[i]?.getD false=true↔¬ Stays n So Ho E i:=by
 have hout:Zbw n So Ho E (Zby n So Ho E):=Zbw.start.passes (n+1);have hin:Zdn (Zby n So Ho E) ((List.range n).map So):=ZfZ _ (n+1);have hst:=ZhW (n:=n) (So:=So) (Ho:=Ho) (E:=E)
 have no:∀ j:Nat,Stays n So Ho E j->j < n/\(Zby n So Ho E)[j]?.getD false=false:=fun j h=>by
  refine h (fun j=>j < n/\(Zby n So Ho E)[j]?.getD false=false) (fun j hj h=>⟨hj,?_⟩) fun k j ih hj he=>⟨hj,?_⟩
  .
   rcases h with h | h
   . cases hg:(Zby n So Ho E)[j]?.getD false with
     | false=>rfl
     | true=>
      have:=hin.2 j hg;simp [hj,h] at this
   . have:=hst j hj
     rw [h] at this
     simpa using this
  .
   have:=hst j hj;have hkb:Zfe n E (Zby n So Ho E) j=true:=Zir.2 ⟨k,ih.1,ih.2,he⟩;rw [hkb] at this
   simpa using this
 constructor
 . intro h hs
   rw [(no i hs).2] at h
   cases h
 . intro h
   cases hg:(Zby n So Ho E)[i]?.getD false with
   | true=>rfl
   | false=>exact (h (hout.2 i hi hg)).elim
end
end
section
open Go.RowKit Go.Deep Go.Shelf Go.Maps
theorem ZnZ (lo:Nat) (sv:Value) (Ss:List Sh) (o:Ob) (vv hv:Value) (x:Sh) (w0 w:World) (hS:ZaI lo w0 sv Ss) (h0:Below w0.heap.size w0 w) (hV:Zaf w vv o.vs) (hH:Zaf w hv o.hs) (hx:Zcj Ss o.kd=some x) :
 Calls prog 145 #[sv,.agg #[.string o.kd,.string o.nm,.string o.tm,vv,.bool o.en,hv,.int .i64 o.ver]] w
  fun e w'=>∃ fv B1 B2,e=.returned (.func (.func 227) #[] #[.pointer (some ⟨B1,0,none⟩),.pointer (some ⟨B2,0,none⟩)])/\Zw_ w w'/\Zau lo w0 fv x.fields/\w.heap.size<=B1/\w.heap.size<=B2/\
   Box w' B1 #[.string x.kind,fv]/\Box w' B2 #[.string o.kd,.string o.nm,.string o.tm,vv,.bool o.en,hv,.int .i64 o.ver]/\B2 < w'.heap.size:=by
 have HS:=Zab hS;have H0:=Zab h0;have HX:=Zab hx;obtain⟨sa,sc,rfl⟩:=hS.form;obtain⟨va,vc,rfl⟩:=hV.form';obtain⟨ha,hc,rfl⟩:=hH.form';clear hS h0 hV hH hx;go_enter func145,ntmps145;go_wp2_with fail;generalize hWa:w.alloc _=Wa;have HB:Hd (Zw_ w Wa):=by unfold Hd;rw [<- hWa];exact Zac _ _
 have FO:Hd (Box Wa w.heap.size #[.string o.kd,.string o.nm,.string o.tm,.slice va o.vs.length vc,.bool o.en,.slice ha o.hs.length hc,.int .i64 o.ver]):=by unfold Hd;rw [<- hWa];exact Box.new _ _ _ _ rfl
 clear hWa;refine (Zds lo _ Ss o.kd w0 _ HS.o (H0.o.trans (HB.o.mono H0.o.size))).mono ?_;rintro e w1 ⟨hb,hq⟩
 rcases hq with ⟨y,fv,hy,rfl,hF⟩ | ⟨hno,-⟩
 case inr=>rw [HX.o] at hno;cases hno
 have e1:y=x:=by have:=HX.o;rw [hy] at this;exact Option.some.inj this
 subst e1;have HF:=Zab hF;obtain⟨fa,fcap,rfl⟩:=hF.form;replace HB:Hd (Zw_ w w1):=bt HB.o hb;replace FO:=Zab (FO.o.on hb);clear hb hF hy;have g:=FO.o.cell;have gl:=FO.o.lt;have g':∀ q i,(w1.alloc q).cell? ⟨w.heap.size,i,none⟩=_:=fun q i=>(Zaj _ _ _ _ gl).trans (g i)
 go_wp2_with fail;clear g g' gl;refine (callsIn_wide (n:=5)).1 ((Zql y.kind o.kd o.nm o.tm o.en o.ver _ Fence.wide _ trivial rfl fa y.fields.length fcap va o.vs.length vc ha o.hs.length hc).mono ?_);rintro e w2 ⟨rfl,rfl⟩;go_wp2;go_ret;have hs1:w.heap.size<=w1.heap.size:=HB.o.size;refine⟨_,_,_,rfl,?_,HF.o,?_,?_,?_,?_,?_⟩
 . exact bt HB.o (((Zac _ _).trans ((Zac _ _).mono (by simp))).trans ((Zac _ _).mono (by simp;omega)))
 . omega
 . omega
 . exact (Box.new _ _ _ _ (by simp)).on (Zac _ _)
 . exact Box.new _ _ _ _ (by simp)
 . simp
end
open Go.RowKit Go.Deep
variable {Xl:List Tm} {b o c0 c1 lo hi off n lo' hi':Nat} {w w' wr:World} {x y:Tm} {v:Value}
def Zoz (_:Tm):Prop:=True
def Zdm (Xl:List Tm):Prop:=Xl.length<=1048576/\∀ i (h:i < Xl.length),Zoz Xl[i]
theorem Zdm.of (h:Xl.length<=1048576):Zdm Xl:=⟨h,fun _ _=>trivial⟩
def Zf7 (b o _c0 _c1:Nat) (w:World) (x:Tm):Prop:=Zfb x/\ZdY w b o x
theorem Zf7.near {o1 d0 d1:Nat} (h:Zf7 b o c0 c1 w x) (hn:ZbT b o1 2 d0 d1 w w') (ho:o+2<=o1\/o1+2<=o) (hi:c1<=d0\/d1<=c0) (hb:b < c0\/c1<=b):Zf7 b o c0 c1 w' x:=by
 obtain⟨hs,hc⟩:=h;obtain⟨h0,h1⟩:=hc;have e:∀ t,t < 2->w'.cell? ⟨b,o+t,none⟩=w.cell? ⟨b,o+t,none⟩:=fun t ht=>hn.cell _ (by omega)
 have e0:w'.cell? ⟨b,o,none⟩=w.cell? ⟨b,o,none⟩:=hn.cell _ (by omega);exact⟨hs,⟨e0.trans h0,(e 1 (by omega)).trans h1⟩⟩
theorem Zf7.touch (h:Zf7 b o c0 c1 w x) (ht:Zag lo hi w w') (hlt:b < w.heap.size) (hb:b < lo\/hi<=b) (_hi:c1<=lo\/hi<=c0):Zf7 b o c0 c1 w' x:=by
 obtain⟨hs,hc⟩:=h;obtain⟨h0,h1⟩:=hc;exact⟨hs,⟨(ht.cell (p:=⟨b,o,none⟩) hlt hb).trans h0,(ht.cell (p:=⟨b,o+1,none⟩) hlt hb).trans h1⟩⟩
theorem Zf7.below (h:Zf7 b o c0 c1 w x) (ht:Zw_ w w') (hlt:b < w.heap.size):Zf7 b o c0 c1 w' x:=by
 obtain⟨hs,hc⟩:=h;obtain⟨h0,h1⟩:=hc;exact⟨hs,⟨(ht.cell (p:=⟨b,o,none⟩) hlt).trans h0,(ht.cell (p:=⟨b,o+1,none⟩) hlt).trans h1⟩⟩
structure Ze4 (lo hi:Nat) (w:World) (b off n:Nat) (c:Nat->Nat) (X:Nat->Tm):Prop where
 lt:b < w.heap.size
 low:lo<=b
 bc:b < c 0
 bh:b < hi
 mono:∀ i,i < n->c i<=c (i+1)
 top:c n<=hi
 frz:∀ i,w.frozen? ⟨b,i,none⟩=false
 row:∀ i,i < n->Zf7 b (off+i*2) (c i) (c (i+1)) w (X i)
theorem Ze4.le {c:Nat->Nat}{X:Nat->Tm} (h:Ze4 lo hi w b off n c X) {i:Nat}:∀ {j:Nat},i<=j->j<=n->c i<=c j:=by
 intro j
 induction j with
 | zero=>intro hij _;have:i=0:=by omega
         subst this;exact Nat.le_refl _
 | succ j ih=>
  intro hij hjn
  by_cases e:i=j+1
  . subst e;exact Nat.le_refl _
  . exact Nat.le_trans (ih (by omega) (by omega)) (h.mono j (by omega))
theorem Ze4.near {c:Nat->Nat}{X:Nat->Tm} (h:Ze4 lo hi w b off n c X) {j:Nat} (hj:j < n) (hn:ZbT b (off+j*2) 2 (c j) (c (j+1)) w w') {x:Tm} (hx:Zf7 b (off+j*2) (c j) (c (j+1)) w' x):Ze4 lo hi w' b off n c (fun i=>if i=j then x else X i):=by
 refine⟨Zk_ h.lt hn.size,h.low,h.bc,h.bh,h.mono,h.top,fun i=>(hn.frz i).trans (h.frz i),fun i hi'=>?_⟩
 by_cases e:i=j
 . subst e;rw [if_pos rfl];exact hx
 . rw [if_neg e]
   have h0:=h.le (Nat.zero_le i) (by omega);have hbc:=h.bc;refine (h.row i hi').near hn (by omega) ?_ (by omega)
   rcases Nat.lt_or_ge i j with hij | hij
   . exact Or.inl (h.le (by omega) (by omega))
   . exact Or.inr (h.le (by omega) (by omega))
theorem Ze4.touch {c:Nat->Nat}{X:Nat->Tm} (h:Ze4 lo hi w b off n c X) (ht:Zag lo' hi' w w') (ho:hi<=lo'\/hi'<=lo):Ze4 lo hi w' b off n c X:=by
 have h1:=h.low;have h2:=h.bh;have h3:=h.top;have h4:=h.bc;refine⟨Zk_ h.lt ht.size,h.low,h.bc,h.bh,h.mono,h.top,fun i=>(ht.frozen (p:=⟨b,i,none⟩) h.lt (by simp only [];omega)).trans (h.frz i),fun i hi'=>?_⟩;have h5:=h.le (Nat.zero_le i) (by omega);have h6:=h.le (i:=i+1) (j:=n) (by omega) Zl_;exact (h.row i hi').touch ht h.lt (by omega) (by omega)
theorem Ze4.below {c:Nat->Nat}{X:Nat->Tm} (h:Ze4 lo hi w b off n c X) (ht:Zw_ w w'):Ze4 lo hi w' b off n c X:=
 ⟨Zk_ h.lt ht.size,h.low,h.bc,h.bh,h.mono,h.top,fun i=>(ht.frozen (p:=⟨b,i,none⟩) h.lt).trans (h.frz i),fun i hi'=>(h.row i hi').below ht h.lt⟩
theorem Ze4.to {c:Nat->Nat}{X Y:Nat->Tm} (h:Ze4 lo hi w b off n c X) (e:∀ i,i < n->X i=Y i):Ze4 lo hi w b off n c Y:=
 ⟨h.lt,h.low,h.bc,h.bh,h.mono,h.top,h.frz,fun i hi'=>e i hi' ▸ h.row i hi'⟩
def Zcl (lo hi:Nat) (w:World) (v:Value) (Xl:List Tm):Prop:=
 (∃ (a:Option Addr) (cap:Nat),v=.slice a 0 cap/\Xl=[])\/
 ∃ (b off cap:Nat) (c:Nat->Nat) (X:Nat->Tm),v=.slice (some ⟨b,off,none⟩) Xl.length cap/\Xl≠[]/\Xl.length<=maxLen/\Xl.length<=cap/\(∀ i (h:i < Xl.length),X i=Xl[i])/\Ze4 lo hi w b off Xl.length c X
theorem Zcl.touch (h:Zcl lo hi w v Xl) (ht:Zag lo' hi' w w') (ho:hi<=lo'\/hi'<=lo):Zcl lo hi w' v Xl:=by
 rcases h with h | ⟨b,off,cap,c,X,h1,h2,h3,h4,h5,h6⟩
 . exact Or.inl h
 . exact Or.inr ⟨b,off,cap,c,X,h1,h2,h3,h4,h5,h6.touch ht ho⟩
theorem Zcl.below (h:Zcl lo hi w v Xl) (ht:Zw_ w w'):Zcl lo hi w' v Xl:=by
 rcases h with h | ⟨b,off,cap,c,X,h1,h2,h3,h4,h5,h6⟩
 . exact Or.inl h
 . exact Or.inr ⟨b,off,cap,c,X,h1,h2,h3,h4,h5,h6.below ht⟩
theorem Zcl.form (h:Zcl lo hi w v Xl):∃ a cap,v=.slice a Xl.length cap:=by
 rcases h with ⟨a,cap,h,rfl⟩ | ⟨b,off,cap,c,X,h1,_⟩
 . exact⟨a,cap,h⟩
 . exact⟨_,cap,h1⟩
theorem Zcl.at (h:Zcl lo hi w v Xl):Zbk lo w v Xl:=by
 rcases h with h | ⟨b,off,cap,c,X,h1,h2,h3,h4,h5,h6⟩
 . exact Or.inl h
 . refine Or.inr ⟨b,off,cap,h1,h2,h3,h6.lt,h6.low,h4,fun i hi'=>?_⟩
   have hr:=h6.row i hi';rw [h5 i hi'] at hr;obtain⟨hs,hc⟩:=hr;exact⟨hs,hc⟩
def ZsS (k:Int) (_x:Tm):Tm:=⟨mtB (k),mtB (k+1)⟩
def Ztm (_x:Tm):Nat:=2
def Ze7 (Xl:List Tm) (i:Nat):Nat:=((Xl.take i).map Ztm).sum
def ZpF (k:Int) (Xl:List Tm):List Tm:=Xl.mapIdx (fun i x=>ZsS (k+(Ze7 Xl i:Int)) x)
theorem ZdM (k:Int) (Xl:List Tm):(ZpF k Xl).length=Xl.length:=by unfold ZpF;simp
theorem ZpG (k:Int) (Xl:List Tm) (i:Nat) (h:i < (ZpF k Xl).length) (h':i < Xl.length):(ZpF k Xl)[i]=ZsS (k+(Ze7 Xl i:Int)) Xl[i]:=List.getElem_mapIdx (f:=fun i x=>ZsS (k+(Ze7 Xl i:Int)) x) (h:=h)
theorem ZiK {i:Nat} (h:i < Xl.length):Ze7 Xl (i+1)=Ze7 Xl i+Ztm Xl[i]:=by
 unfold Ze7;rw [List.take_succ_eq_append_getElem h,List.map_append,List.sum_append];simp
theorem Zmv (hn:Zdm Xl):∀ {i:Nat},i<=Xl.length->Ze7 Xl i<=i*3000000:=by
 intro i
 induction i with
 | zero=>intro _;simp [Ze7]
 | succ i ih=>
  intro hi';have h1:=ih (by omega);rw [ZiK (by omega)]
  have h2:Ztm Xl[i]<=3000000:=by
   have hsm:=hn.2 i (by omega);unfold Zoz at hsm;unfold Ztm
   omega
  omega
structure Zoq (wr:World) (b o c0 c1:Nat) (v:World) (y:Tm):Prop where
 near:ZbT b o 2 c0 c1 wr v
 bc:b < c0
 cells:ZdY v b o y
 frz:∀ i,v.frozen? ⟨b,i,none⟩=false
 lt:b < v.heap.size
theorem Zoq.below {v v':World} (h:Zoq wr b o c0 c1 v y) (hb:Below v.heap.size v v'):Zoq wr b o c0 c1 v' y:=
 ⟨h.near.trans (ZbT.below hb h.lt),h.bc,h.cells.below hb h.lt,fun i=>(hb.frozen (p:=⟨b,i,none⟩) h.lt).trans (h.frz i),Zk_ h.lt hb.size⟩
theorem Zoq.s0 {v:World} (h:Zoq wr b o c0 c1 v y) (u:Zy_):Zoq wr b o c0 c1 (v.setCell ⟨b,o,none⟩ (.string u)) { y with nm:=u }:=by
 obtain⟨h0,h1⟩:=h.cells;have ht:Zag b (b+1) v (v.setCell ⟨b,o,none⟩ (.string u)):=Zag.setCell _ _ _ _ _ ⟨Nat.le_refl _,by simp only [];omega⟩;have hbc:=h.bc;exact⟨h.near.trans (ZbT.set _ _ _ _ _ _ _ _ (by omega) (by omega)),h.bc,⟨World.cell?_setCell_same' _ _ _ (by rw [h0];rfl),(cne (by omega)).trans h1⟩,fun i=>by rw [World.frozen?_setCell];exact h.frz i,by simpa [World.setCell] using h.lt⟩
theorem Zoq.s1 {v:World} (h:Zoq wr b o c0 c1 v y) (u:Zy_):Zoq wr b o c0 c1 (v.setCell ⟨b,o+1,none⟩ (.string u)) { y with ov:=u }:=by
 obtain⟨h0,h1⟩:=h.cells;have ht:Zag b (b+1) v (v.setCell ⟨b,o+1,none⟩ (.string u)):=Zag.setCell _ _ _ _ _ ⟨Nat.le_refl _,by simp only [];omega⟩;have hbc:=h.bc;exact⟨h.near.trans (ZbT.set _ _ _ _ _ _ _ _ (by omega) (by omega)),h.bc,⟨(cne (by omega)).trans h0,World.cell?_setCell_same' _ _ _ (by rw [h1];rfl)⟩,fun i=>by rw [World.frozen?_setCell];exact h.frz i,by simpa [World.setCell] using h.lt⟩
end Go.Proofs.YtmappejlmapboaaGreat
