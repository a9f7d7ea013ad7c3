import Derived.Test.YtfohnageehneoaaGreatUBB
import Derived.Laws.IdiomStrings
import Derived.Laws.Concat
import Derived.Laws.IdiomCopy
import Derived.Lib.LazyBuf
import Derived.Deep.AppendLies
import Derived.Deep.Upon
import Derived.Deep.RegionHeld3
import Derived.Deep.DeepCutAuto
set_option maxHeartbeats 16000000
set_option maxRecDepth 100000
open Go.Proofs.Tryz
namespace Go.Proofs.YtfohnageehneoaaGreat
variable {x:Sh} {k hi b lo' hi' n B off j cap b1 b2:Nat} {v v0 v1 v2:Value} {a c w' W W' wr w1 W0:World} {cs cs1 cs2:Array Value}
def Zc8 {α:Type} (N:List α) (rd:α->List α) (R:List α):Prop:=∀ i (h:i < R.length),R[i] ∈ N/\R[i] ∉ R.take i/\∀ r ∈ rd R[i],r ∈ R.take i
def ZiQ {α:Type} (N:List α) (rd:α->List α) (row:List α):Prop:=∀ x ∈ N,x ∉ row->¬ ∀ r ∈ rd x,r ∈ row
section
variable {α:Type} {N:List α} {rd:α->List α} {R R':List α}
theorem Zc8.nil:Zc8 N rd []:=fun i h=>absurd h (Nat.not_lt_zero i)
theorem Zc8.snoc {x:α} (hg:Zc8 N rd R) (hn:x ∈ N) (hx:x ∉ R) (hr:∀ r ∈ rd x,r ∈ R):Zc8 N rd (R ++ [x]):=by
 intro i h;have h':i < R.length+1:=by rw [List.length_append] at h;exact h
 by_cases hi:i < R.length
 . rw [List.getElem_append_left hi,List.take_append_of_le_length (Nat.le_of_lt hi)]
   exact hg i hi
 . have e:i=R.length:=by omega
   subst e;have e1:(R ++ [x])[R.length]=x:=by simp
   have e2:(R ++ [x]).take R.length=R:=by simp
   rw [e1,e2];exact⟨hn,hx,hr⟩
theorem Zc8.init {x:α} (h:Zc8 N rd (R ++ [x])):Zc8 N rd R/\x ∈ N/\x ∉ R/\∀ r ∈ rd x,r ∈ R:=by
 constructor
 . intro i hi
   have:=h i (by rw [List.length_append];omega);rw [List.getElem_append_left hi,List.take_append_of_le_length (Nat.le_of_lt hi)] at this;exact this
 . have:=h R.length (by simp)
   have e1:(R ++ [x])[R.length]=x:=by simp
   have e2:(R ++ [x]).take R.length=R:=by simp
   rw [e1,e2] at this;exact this
theorem Zc8.along {p:List α->Prop} (h0:p []) (hs:∀ row x,Zc8 N rd row->x ∈ N->x ∉ row->(∀ r ∈ rd x,r ∈ row)->p row->p (row ++ [x])):∀ (n:Nat) (R:List α),R.length=n->Zc8 N rd R->p R:=by
 intro n
 induction n with
 | zero=>intro R hl _;rw [List.length_eq_zero_iff.1 hl];exact h0
 | succ n ih=>
  intro R hl hg;have hne:R≠[]:=by intro e;rw [e] at hl;cases hl
  have e:R.dropLast ++ [R.getLast hne]=R:=List.dropLast_concat_getLast hne;rw [<- e] at hg |-;obtain⟨h1,h2,h3,h4⟩:=hg.init;exact hs _ _ h1 h2 h3 h4 (ih _ (by rw [List.length_dropLast,hl];rfl) h1)
theorem Zc8.nodup (h:Zc8 N rd R):R.Nodup:=by
 refine Zc8.along (p:=fun R=>R.Nodup) List.nodup_nil (fun row x _ _ hx _ ih=>?_) _ R rfl h;rw [List.nodup_append];exact⟨ih,by simp,fun a ha b hb=>by simp at hb;subst hb;exact fun e=>hx (e ▸ ha)⟩
theorem Zc8.sub (h:Zc8 N rd R):R ⊆ N:=by
 intro y hy;obtain⟨i,hi,rfl⟩:=List.getElem_of_mem hy;exact (h i hi).1
theorem Zc8.reads (h:Zc8 N rd R) {x:α} (hx:x ∈ R):∀ r ∈ rd x,r ∈ R:=by
 intro r hr;obtain⟨i,hi,rfl⟩:=List.getElem_of_mem hx;exact List.mem_of_mem_take ((h i hi).2.2 r hr)
theorem Zc8.into (h:Zc8 N rd R) (hs:ZiQ N rd R'):R ⊆ R':=by
 refine Zc8.along (p:=fun R=>R ⊆ R') (List.nil_subset _) (fun row x _ hn _ hr ih=>?_) _ R rfl h;intro z hz
 rcases List.mem_append.1 hz with h | h
 . exact ih h
 . simp at h;subst h
   exact Classical.byContradiction fun hc=>hs z hn hc fun r hrr=>ih (hr r hrr)
theorem Zc8.all (h:Zc8 N rd R) (hl:N.length<=R.length):∀ x ∈ N,x ∈ R:=by
 intro x hx;refine Classical.byContradiction fun hc=>?_
 have:(x :: R).length<=N.length:=List.Nodup.length_le_of_subset (List.nodup_cons.2 ⟨hc,h.nodup⟩) (List.cons_subset.2 ⟨hx,h.sub⟩);simp at this;omega
end
def ZpT {α:Type} [DecidableEq α] (N:List α) (rd:α->List α) (R:List α):List α:=
 match N.find? fun x=>decide (x ∉ R)&&(rd x).all fun r=>decide (r ∈ R) with
 | some x=>R ++ [x]
 | none=>R
def Zfy {α:Type} [DecidableEq α] (N:List α) (rd:α->List α):Nat->List α
 | 0=>[]
 | n+1=>ZpT N rd (Zfy N rd n)
def ZnO {α:Type} [DecidableEq α] (N:List α) (rd:α->List α):Bool:=decide (N.length<=(Zfy N rd N.length).length)
section
variable {α:Type} [DecidableEq α] {N:List α} {rd:α->List α} {R:List α}
theorem Ze6 (n:Nat):Zc8 N rd (Zfy N rd n)/\((Zfy N rd n).length=n\/ZiQ N rd (Zfy N rd n)):=by
 induction n with
 | zero=>exact⟨Zc8.nil,Or.inl rfl⟩
 | succ n ih=>
  obtain⟨hg,hc⟩:=ih
  show Zc8 N rd (ZpT N rd (Zfy N rd n))/\((ZpT N rd (Zfy N rd n)).length=n+1\/ZiQ N rd (ZpT N rd (Zfy N rd n)))
  generalize Zfy N rd n=R at*;unfold ZpT
  cases hf:N.find? fun x=>decide (x ∉ R)&&(rd x).all fun r=>decide (r ∈ R) with
  | none=>
   refine⟨hg,Or.inr fun x hx hn hr=>?_⟩;have:=List.find?_eq_none.1 hf x hx;exact this (by simp only [Bool.and_eq_true,decide_eq_true_eq,List.all_eq_true];exact⟨hn,hr⟩)
  | some x=>
   have hp:=List.find?_some hf;simp only [Bool.and_eq_true,decide_eq_true_eq,List.all_eq_true] at hp;have hx:=List.mem_of_find?_eq_some hf;refine⟨hg.snoc hx hp.1 hp.2,?_⟩
   rcases hc with hc | hc
   . exact Or.inl (by simp [hc])
   . exact absurd hp.2 (hc x hx hp.1)
theorem Zl2 (h:Zc8 N rd R) (hl:N.length<=R.length):ZnO N rd=true:=by
 unfold ZnO;refine decide_eq_true ?_
 rcases (Ze6 (N:=N) (rd:=rd) N.length).2 with hc | hc
 . omega
 . have:=List.Nodup.length_le_of_subset h.nodup (h.into hc)
   omega
theorem ZnZ (hs:ZiQ N rd R) (hl:R.length < N.length):ZnO N rd=false:=by
 unfold ZnO;refine decide_eq_false ?_;have hg:=(Ze6 (N:=N) (rd:=rd) N.length).1;have:=List.Nodup.length_le_of_subset hg.nodup (hg.into hs)
 omega
theorem Zjr (h:ZnO N rd=true):∃ R,Zc8 N rd R/\N.length<=R.length:=by
 unfold ZnO at h;exact⟨_,(Ze6 (N:=N) (rd:=rd) N.length).1,of_decide_eq_true h⟩
end
section
variable {α β:Type} (pl:α->Nat) (dec:List β->α->Option β)
def setp (V:List β) (x:α):List β:=match dec V x with
 | some v=>V.set (pl x) v
 | none=>V
def Zc5 (R:List α) (V:List β):List β:=R.foldl (setp pl dec) V
theorem Zip (R:List α) (x:α) (V:List β):Zc5 pl dec (R ++ [x]) V=setp pl dec (Zc5 pl dec R V) x:=by simp [Zc5]
theorem Zif {R:List α} (h:k < R.length) (V:List β):Zc5 pl dec (R.take (k+1)) V=setp pl dec (Zc5 pl dec (R.take k) V) R[k]:=by
 rw [List.take_succ_eq_append_getElem h,Zip]
theorem ZiY (V:List β) (x:α):(setp pl dec V x).length=V.length:=by
 unfold setp;cases dec V x <;> simp
theorem ZgW (R:List α):∀ (V:List β),(Zc5 pl dec R V).length=V.length:=by
 induction R with
 | nil=>intro V;rfl
 | cons x R ih=>intro V;show (Zc5 pl dec R (setp pl dec V x)).length=_;rw [ih,ZiY]
theorem ZpP (V:List β) (x:α) {i:Nat} (h:pl x≠i):(setp pl dec V x)[i]?=V[i]?:=by
 unfold setp;cases dec V x with
 | none=>rfl
 | some v=>exact List.getElem?_set_ne h
structure Fix (N:List α) (V F:List β):Prop where
 len:F.length=V.length
 at':∀ x ∈ N,F[pl x]?=(dec F x).or V[pl x]?
 off:∀ i,(∀ x ∈ N,pl x≠i)->F[i]?=V[i]?
def Zqr (N:List α) (rd:α->List α):Prop:=∀ x ∈ N,∀ V V':List β,V.length=V'.length->(∀ r ∈ rd x,V[pl r]?=V'[pl r]?)->dec V x=dec V' x
def Zru (N:List α):Prop:=∀ x ∈ N,∀ y ∈ N,pl x=pl y->x=y
variable {pl dec} {N:List α} {rd:α->List α}
theorem Zr9 (ha:Zru pl N) (hl:Zqr pl dec N rd) {R:List α} (h:Zc8 N rd R) (V:List β) (hp:∀ x ∈ N,pl x < V.length):Fix pl dec R V (Zc5 pl dec R V):=by
 refine Zc8.along (p:=fun R=>Fix pl dec R V (Zc5 pl dec R V)) ⟨rfl,fun x hx=>by simp at hx,fun _ _=>rfl⟩ (fun row x hg hn hx hr ih=>?_) _ R rfl h
 . rw [Zip]
   have hlen:=ZgW pl dec row V;generalize hF:Zc5 pl dec row V=F at*;have hoff:∀ y ∈ row,(setp pl dec F x)[pl y]?=F[pl y]?:=fun y hy=>ZpP _ _ _ _ fun e=>hx (by rw [ha x hn y (hg.sub hy) e];exact hy)
   have hdec:∀ y,y ∈ N->(∀ r ∈ rd y,r ∈ row)->dec (setp pl dec F x) y=dec F y:=fun y hy hry=>hl y hy _ _ (by rw [ZiY]) fun r hrr=>hoff r (hry r hrr)
   refine⟨by rw [ZiY,hlen],fun y hy=>?_,fun i hi=>?_⟩
   . rcases List.mem_append.1 hy with h | h
     . rw [hoff y h,hdec y (hg.sub h) (hg.reads h)];exact ih.at' y h
     . simp at h;subst h
       rw [hdec y hn hr];have hV:F[pl y]?=V[pl y]?:=ih.off _ fun z hz e=>hx (by rw [<- ha z (hg.sub hz) y hn e];exact hz)
       unfold setp
       cases hd:dec F y with
       | none=>simp [hV]
       | some v=>simp [List.getElem?_set_self (show pl y < F.length by rw [hlen];exact hp y hn)]
   . rw [ZpP _ _ _ _ (hi x (by simp))]
     exact ih.off i fun z hz=>hi z (by simp [hz])
theorem Fix.grow {R:List α}{V F:List β} (h:Fix pl dec R V F) (h1:R ⊆ N) (h2:∀ x ∈ N,x ∈ R):Fix pl dec N V F:=
 ⟨h.len,fun x hx=>h.at' x (h2 x hx),fun i hi=>h.off i fun x hx=>hi x (h1 hx)⟩
theorem ZqS (ha:Zru pl N) (hl:Zqr pl dec N rd) {R:List α} (h:Zc8 N rd R) (hn:N.length<=R.length) (V:List β) (hp:∀ x ∈ N,pl x < V.length):Fix pl dec N V (Zc5 pl dec R V):=
 (Zr9 ha hl h V hp).grow h.sub (h.all hn)
theorem Znl [DecidableEq α] (hl:Zqr pl dec N rd) (hr:ZnO N rd=true) {V F G:List β} (h1:Fix pl dec N V F) (h2:Fix pl dec N V G):F=G:=by
 obtain⟨R,hg,hn⟩:=Zjr hr;have hlen:F.length=G.length:=h1.len.trans h2.len.symm
 have key:∀ P,Zc8 N rd P->∀ x ∈ P,F[pl x]?=G[pl x]?:=by
  intro P hP;refine Zc8.along (p:=fun P=>∀ x ∈ P,F[pl x]?=G[pl x]?) (fun x hx=>by simp at hx) (fun row x _ hxn _ hrr ih=>?_) _ P rfl hP
  . intro y hy
    rcases List.mem_append.1 hy with h | h
    . exact ih y h
    . simp at h;subst h
      rw [h1.at' y hxn,h2.at' y hxn,hl y hxn F G hlen fun r hr'=>ih r (hrr r hr')]
 apply List.ext_getElem?;intro i
 by_cases h:∃ x ∈ N,pl x=i
 . obtain⟨x,hx,rfl⟩:=h
   exact key R hg x (hg.all hn x hx)
 . have hi:∀ x ∈ N,pl x≠i:=fun x hx e=>h ⟨x,hx,e⟩
   rw [h1.off i hi,h2.off i hi]
end
open Go.RowKit Go.Deep
theorem ZaU {x y:Zy_}:(x.toList == y.toList)=true↔x=y:=by
 rw [beq_iff_eq];refine⟨fun h=>?_,fun h=>by rw [h]⟩;rw [ByteArray.toList_eq,ByteArray.toList_eq] at h;exact ByteArray.ext (Array.toList_inj.1 h)
theorem Zdb (x:Zy_):(x.toList == x.toList)=true:=ZaU.2 rfl
theorem Zft {x y:Zy_}:(x.toList == y.toList)=false↔x≠y:=by
 rw [<- Bool.not_eq_true,Ne,ZaU]
structure Md where
 kind:Zy_
 field:Zy_
 wh:Zy_
 is:Zy_
 put:Zy_
 fr:Zy_
variable {m:Md} {Ms:List Md}
def ZaD (Fs:List Fd):List Zy_:=Fs.map Fd.nm
theorem ZcE {Fs:List Fd}{s:Zy_}:s ∈ ZaD Fs↔∃ i,∃ h:i < Fs.length,Fs[i].nm=s:=by
 unfold ZaD;rw [List.mem_map]
 constructor
 . rintro⟨f,hf,rfl⟩;obtain⟨i,hi,rfl⟩:=List.getElem_of_mem hf;exact⟨i,hi,rfl⟩
 . rintro⟨i,hi,rfl⟩;exact⟨_,List.getElem_mem hi,rfl⟩
def ZaS (Fs:List Fd) (s:Zy_):Nat:=Fs.findIdx fun f=>f.nm.toList == s.toList
theorem Zcn {Fs:List Fd}{s:Zy_}:ZaS Fs s < Fs.length↔s ∈ ZaD Fs:=by
 unfold ZaS;rw [List.findIdx_lt_length,ZcE]
 constructor
 . rintro⟨f,hf,h⟩;obtain⟨i,hi,rfl⟩:=List.getElem_of_mem hf;exact⟨i,hi,ZaU.1 h⟩
 . rintro⟨i,hi,rfl⟩;exact⟨_,List.getElem_mem hi,Zdb _⟩
theorem ZiW {Fs:List Fd}{s:Zy_} (h:ZaS Fs s < Fs.length):Fs[ZaS Fs s].nm=s:=by
 have:=List.findIdx_getElem (p:=fun f:Fd=>f.nm.toList == s.toList) (xs:=Fs) (w:=h);exact ZaU.1 this
theorem Zn8 {Fs:List Fd}{s:Zy_} (hk:k < Fs.length) (h:(Fs[k].nm.toList == s.toList)=true) (hall:∀ i (h:i < Fs.length),i < k->(Fs[i].nm.toList == s.toList)=false):ZaS Fs s=k:=by
 unfold ZaS;rw [List.findIdx_eq hk];exact⟨h,fun j hj=>hall j (by omega) hj⟩
theorem ZrE {Fs:List Fd}{s:Zy_} (hall:∀ i (h:i < Fs.length),(Fs[i].nm.toList == s.toList)=false):ZaS Fs s=Fs.length:=by
 unfold ZaS;rw [List.findIdx_eq_length];intro f hf;obtain⟨i,hi,rfl⟩:=List.getElem_of_mem hf;exact hall i hi
theorem Zmm (Fs:List Fd):Zru (ZaS Fs) (ZaD Fs):=fun x hx y hy e=>by
 rw [<- ZiW (Zcn.2 hx),<- ZiW (Zcn.2 hy)];simp only [e]
def Zbh (Fs:List Fd) (s:Zy_):Bool:=match Fs[ZaS Fs s]? with
 | some f=>!(f.kd == 4)
 | none=>false
theorem ZdQ {Fs:List Fd}{s:Zy_} (h:Zbh Fs s=true):s ∈ ZaD Fs:=by
 rw [<- Zcn];unfold Zbh at h
 by_cases hl:ZaS Fs s < Fs.length
 . exact hl
 . rw [List.getElem?_eq_none (by omega)] at h;cases h
theorem ZlU {Fs:List Fd}{s:Zy_} (h:ZaS Fs s < Fs.length):Zbh Fs s=!(Fs[ZaS Fs s].kd == 4):=by unfold Zbh;rw [List.getElem?_eq_getElem h]
theorem Zl1 {Fs:List Fd}{s:Zy_} (h:¬ ZaS Fs s < Fs.length):Zbh Fs s=false:=by unfold Zbh;rw [List.getElem?_eq_none (by omega)]
def ZnN (Fs:List Fd) (s t:Zy_):Bool:=match Fs[ZaS Fs s]? with
 | some f=>ZaP f.kd f.le f.mo f.words t
 | none=>false
theorem ZpG {Fs:List Fd}{s t:Zy_} (h:ZaS Fs s < Fs.length):ZnN Fs s t=ZaP Fs[ZaS Fs s].kd Fs[ZaS Fs s].le Fs[ZaS Fs s].mo Fs[ZaS Fs s].words t:=by unfold ZnN;rw [List.getElem?_eq_getElem h]
def Zhd (Fs:List Fd) (field s:Zy_):Bool:=s.toList.isEmpty || Zbh Fs s&&!(s.toList == field.toList)
def Zcc (m:Md):Bool:=!(m.wh.toList.isEmpty&&!m.is.toList.isEmpty)&&!(m.put.toList.isEmpty == m.fr.toList.isEmpty)
def Zee (Fs:List Fd) (m:Md):Bool:=Zbh Fs m.field&&Zhd Fs m.field m.wh&&Zhd Fs m.field m.fr&&Zcc m&&(m.put.toList.isEmpty || ZnN Fs m.field m.put)
def ZcH (Fs:List Fd) (m:Md):Bool:=
 Zbh Fs m.field&&(m.wh.toList.isEmpty || Zbh Fs m.wh)&&(m.fr.toList.isEmpty || Zbh Fs m.fr)&&!(m.wh.toList == m.field.toList)&&!(m.fr.toList == m.field.toList)&&Zcc m&&(m.put.toList.isEmpty || ZnN Fs m.field m.put)
theorem Zo2 {Fs:List Fd} (hn:∀ s ∈ ZaD Fs,s.toList.isEmpty=false):Zee Fs m=ZcH Fs m:=by
 unfold Zee ZcH Zhd
 cases hp:Zbh Fs m.field with
 | false=>simp
 | true=>
  have hf:=hn _ (ZdQ hp)
  have h1:m.wh.toList.isEmpty=true->(m.wh.toList == m.field.toList)=false:=fun h=>by
   rw [Zft];intro e;rw [e] at h;rw [h] at hf;cases hf
  have h2:m.fr.toList.isEmpty=true->(m.fr.toList == m.field.toList)=false:=fun h=>by
   rw [Zft];intro e;rw [e] at h;rw [h] at hf;cases hf
  cases ha:m.wh.toList.isEmpty with
  | true=>
   rw [h1 ha]
   cases hb:m.fr.toList.isEmpty with
   | true=>rw [h2 hb];simp
   | false=>simp
  | false=>
   cases hb:m.fr.toList.isEmpty with
   | true=>rw [h2 hb];simp
   | false=>simp;cases Zbh Fs m.wh <;> cases (m.wh.toList == m.field.toList) <;> cases Zbh Fs m.fr <;> cases (m.fr.toList == m.field.toList) <;> simp
def ZiH (m:Md):List Zy_:=(if m.wh.toList.isEmpty=true then [] else [m.wh]) ++ (if m.fr.toList.isEmpty=true then [] else [m.fr])
def Zdg (kind field:Zy_) (m:Md):Bool:=(m.kind.toList == kind.toList)&&(m.field.toList == field.toList)
def Zap (kind:Zy_) (Ms:List Md) (field:Zy_):List Zy_:=(Ms.filter (Zdg kind field)).flatMap ZiH
theorem Zll (kind field:Zy_):Zap kind [] field=[]:=rfl
theorem Zkq (kind field:Zy_) (Ms:List Md) (m:Md):Zap kind (Ms ++ [m]) field=Zap kind Ms field ++ (if Zdg kind field m=true then ZiH m else []):=by
 unfold Zap;rw [List.filter_append,List.flatMap_append]
 by_cases h:Zdg kind field m=true <;> simp [h]
theorem ZdY {kind field:Zy_}{r:Zy_}:r ∈ Zap kind Ms field↔∃ m ∈ Ms,Zdg kind field m=true/\r ∈ ZiH m:=by
 unfold Zap;simp [List.mem_flatMap,and_assoc]
theorem Zsr (h:m.wh.toList.isEmpty=false):m.wh ∈ ZiH m:=by unfold ZiH;simp [h]
theorem ZsP (h:m.fr.toList.isEmpty=false):m.fr ∈ ZiH m:=by unfold ZiH;simp [h]
def ZbM (Fs:List Fd) (V:List Zy_) (s:Zy_):Zy_:=(V[ZaS Fs s]?).getD ⟨#[]⟩
def Zgq (Fs:List Fd) (V:List Zy_) (m:Md):Bool:=(m.wh.toList.isEmpty || (ZbM Fs V m.wh).toList == m.is.toList)&&(m.fr.toList.isEmpty || !(ZbM Fs V m.fr).toList.isEmpty)
def Zct (Fs:List Fd) (V:List Zy_) (m:Md):Zy_:=if m.fr.toList.isEmpty=true then m.put else ZbM Fs V m.fr
def ZcY (Fs:List Fd) (kind:Zy_) (Ms:List Md) (V:List Zy_) (field:Zy_):Option Zy_:=(Ms.find? fun m=>Zdg kind field m&&Zgq Fs V m).map (Zct Fs V)
theorem ZhK {α β:Type}{p q:α->Bool}{f g:α->β}{L:List α} (h:∀ x ∈ L,p x=q x) (hf:∀ x ∈ L,p x=true->f x=g x):(L.find? p).map f=(L.find? q).map g:=by
 induction L with
 | nil=>rfl
 | cons a L ih=>
  have ha:=h a (by simp);rw [List.find?_cons,List.find?_cons,<- ha]
  cases hp:p a with
  | true=>simp only [Option.map_some];rw [hf a (by simp) hp]
  | false=>exact ih (fun x hx=>h x (by simp [hx])) fun x hx=>hf x (by simp [hx])
theorem ZhV (Fs:List Fd) (kind:Zy_) (Ms:List Md) (N:List Zy_):Zqr (ZaS Fs) (ZcY Fs kind Ms) N (Zap kind Ms):=by
 intro x _ V V' _ hr
 have hw:∀ m ∈ Ms,Zdg kind x m=true->m.wh.toList.isEmpty=false->ZbM Fs V m.wh=ZbM Fs V' m.wh:=fun m hm hf h=>by
  unfold ZbM;rw [hr m.wh (ZdY.2 ⟨m,hm,hf,Zsr h⟩)]
 have hg:∀ m ∈ Ms,Zdg kind x m=true->m.fr.toList.isEmpty=false->ZbM Fs V m.fr=ZbM Fs V' m.fr:=fun m hm hf h=>by
  unfold ZbM;rw [hr m.fr (ZdY.2 ⟨m,hm,hf,ZsP h⟩)]
 unfold ZcY;refine ZhK (fun m hm=>?_) fun m hm hp=>?_
 . cases hf:Zdg kind x m with
   | false=>rfl
   | true=>
    unfold Zgq
    cases h1:m.wh.toList.isEmpty with
    | true=>cases h2:m.fr.toList.isEmpty with
     | true=>rfl
     | false=>rw [hg m hm hf h2];rfl
    | false=>cases h2:m.fr.toList.isEmpty with
     | true=>rw [hw m hm hf h1];rfl
     | false=>rw [hw m hm hf h1,hg m hm hf h2]
 . have hf:Zdg kind x m=true:=by simp at hp;exact hp.1
   unfold Zct
   cases h2:m.fr.toList.isEmpty with
   | true=>rfl
   | false=>rw [hg m hm hf h2]
def Zde (Ss:List Sh) (m:Md):Bool:=match Zcz Ss m.kind with
 | some x=>ZcH x.fields m
 | none=>false
def Zbt (Ms:List Md) (x:Sh):Bool:=ZnO (ZaD x.fields) (Zap x.kind Ms)
def Zay (Ss:List Sh) (Ms:List Md):Bool:=ZaH Ss&&decide (Ms.length<=12)&&Ms.all (Zde Ss)&&Ss.all (Zbt Ms)
theorem ZbZ {Ss:List Sh} (h:ZaH Ss=true) {x:Sh} (hx:x ∈ Ss):ZaG Ss x.fields=true:=by
 unfold ZaH at h;rw [Bool.and_eq_true,List.all_eq_true] at h;obtain⟨i,hi,rfl⟩:=List.getElem_of_mem hx;have:=h.2 i (List.mem_range.2 hi)
 cases i with
 | zero=>rw [ZcM hi,Bool.and_eq_true] at this;exact this.2
 | succ j=>rw [ZbQ hi,Bool.and_eq_true] at this;exact this.2
theorem ZjJ {Ss:List Sh}{Fs:List Fd} (h:ZaG Ss Fs=true) {k:Nat} (hk:k < Fs.length):Zan Fs[k].nm=true/\ZmF (Fs.take k) Fs[k].nm=false:=by
 unfold ZaG at h;rw [Bool.and_eq_true,List.all_eq_true] at h;have:=h.2 k (List.mem_range.2 hk);rw [ZaK hk] at this;simp at this;exact⟨this.1.1,this.2⟩
theorem Zdc {Ss:List Sh}{Fs:List Fd} (h:ZaG Ss Fs=true):Fs.length<=6:=by
 unfold ZaG at h;rw [Bool.and_eq_true] at h;exact of_decide_eq_true h.1
theorem Zh9 {Ss:List Sh} (h:ZaH Ss=true):Ss.length<=6:=by
 unfold ZaH at h;rw [Bool.and_eq_true] at h;exact of_decide_eq_true h.1
theorem ZpI {s:Zy_} (h:Zan s=true):s.toList.isEmpty=false:=by
 unfold Zan inB at h;rw [Bool.and_eq_true] at h;have:=of_decide_eq_true h.1;rw [ByteArray.toList_eq]
 cases hs:s.data.toList with
 | nil=>have e:s.size=0:=by show s.data.size=0;rw [<- Array.length_toList,hs];rfl
        omega
 | cons a l=>rfl
theorem Zgd {Ss:List Sh}{Fs:List Fd} (h:ZaG Ss Fs=true):∀ s ∈ ZaD Fs,s.toList.isEmpty=false:=by
 intro s hs;obtain⟨i,hi,rfl⟩:=ZcE.1 hs;exact ZpI (ZjJ h hi).1
theorem ZjS {Ss:List Sh}{Fs:List Fd} (h:ZaG Ss Fs=true) {k:Nat} (hk:k < Fs.length):ZaS Fs Fs[k].nm=k:=by
 refine Zn8 hk (Zdb _) fun i hi hlt=>?_
 have hd:=(ZjJ h hk).2
 cases he:(Fs[i].nm.toList == Fs[k].nm.toList) with
 | false=>rfl
 | true=>rw [Zgw hi hlt he] at hd;cases hd
theorem Zcv {Ss:List Sh}{s:Zy_} (h:Zcz Ss s=some x):x ∈ Ss/\x.kind=s:=by
 unfold Zcz at h;have h2:=List.find?_some h;exact⟨List.mem_of_find?_eq_some h,ZaU.1 h2⟩
def ZpY (x:Sh) (Ms:List Md) (V F:List Zy_):Prop:=Fix (ZaS x.fields) (ZcY x.fields x.kind Ms) (ZaD x.fields) V F
def Zl9 (Ss:List Sh) (Ms:List Md) (kind:Zy_) (V F:List Zy_):Prop:=
 (∃ x,Zay Ss Ms=true/\Zcz Ss kind=some x/\x.fields.length=V.length/\ZpY x Ms V F)\/
 ((Zay Ss Ms=false\/∀ x,Zcz Ss kind=some x->x.fields.length≠V.length)/\F=V)
theorem ZeI {Ss:List Sh} (h:Zay Ss Ms=true) {x:Sh} (hx:x ∈ Ss):ZnO (ZaD x.fields) (Zap x.kind Ms)=true:=by
 unfold Zay at h;rw [Bool.and_eq_true,List.all_eq_true] at h;exact h.2 x hx
theorem Zc4 {Ss:List Sh} (h:Zay Ss Ms=true):ZaH Ss=true:=by
 unfold Zay at h;simp only [Bool.and_eq_true] at h;exact h.1.1.1
theorem Zfo {Ss:List Sh} (h:Zay Ss Ms=true):Ms.length<=12:=by
 unfold Zay at h;simp only [Bool.and_eq_true,decide_eq_true_eq] at h;exact h.1.1.2
theorem Zlq {Ss:List Sh} (h:Zay Ss Ms=true) {m:Md} (hm:m ∈ Ms):Zde Ss m=true:=by
 unfold Zay at h;simp only [Bool.and_eq_true,List.all_eq_true] at h;exact h.1.2 m hm
theorem ZpY.unique {Ss:List Sh} (h:Zay Ss Ms=true) {x:Sh} (hx:x ∈ Ss) {V F G:List Zy_} (h1:ZpY x Ms V F) (h2:ZpY x Ms V G):F=G:=
 Znl (ZhV _ _ _ _) (ZeI h hx) h1 h2
theorem Zjh {R V:List Zy_} (h:Zc8 (ZaD x.fields) (Zap x.kind Ms) R) (hl:(ZaD x.fields).length<=R.length) (hv:x.fields.length=V.length):ZpY x Ms V (Zc5 (ZaS x.fields) (ZcY x.fields x.kind Ms) R V):=
 ZqS (Zmm _) (ZhV _ _ _ _) h hl V fun s hs=>by rw [<- hv];exact Zcn.2 hs
def Ze5 (nm v:Zy_) (m:Md):Bool:=(nm.toList == m.wh.toList)&&!(v.toList == m.is.toList) || (nm.toList == m.fr.toList)&&v.toList.isEmpty
theorem ZlL {Ss:List Sh}{Fs:List Fd}{V:List Zy_} (hf:ZaG Ss Fs=true) {i:Nat} (h:i < Fs.length) (h':i < V.length):ZbM Fs V Fs[i].nm=V[i]:=by
 unfold ZbM;rw [ZjS hf h,List.getElem?_eq_getElem h'];rfl
theorem ZpW {Ss:List Sh}{Fs:List Fd}{V:List Zy_} (hf:ZaG Ss Fs=true) {i:Nat} (h:i < Fs.length) (h':i < V.length) (ht:Ze5 Fs[i].nm V[i] m=true):Zgq Fs V m=false:=by
 have hn:=Zgd hf Fs[i].nm (ZcE.2 ⟨i,h,rfl⟩);unfold Ze5 at ht;rw [Bool.or_eq_true,Bool.and_eq_true,Bool.and_eq_true,ZaU,ZaU] at ht;unfold Zgq
 rcases ht with ⟨e,hv⟩ | ⟨e,hv⟩
 . rw [<- e,hn,ZlL hf h h']
   have:(V[i].toList == m.is.toList)=false:=by simpa using hv
   rw [this];rfl
 . rw [<- e,hn,ZlL hf h h',hv];simp
theorem Zrq {Fs:List Fd}{V:List Zy_} (hl:Fs.length=V.length) (hw:m.wh.toList.isEmpty=true\/m.wh ∈ ZaD Fs) (hr:m.fr.toList.isEmpty=true\/m.fr ∈ ZaD Fs)
 (ht:∀ i (h:i < Fs.length) (h':i < V.length),Ze5 Fs[i].nm V[i] m=false):Zgq Fs V m=true:=by
 unfold Zgq;rw [Bool.and_eq_true]
 constructor
 . rcases hw with hw | hw
   . rw [hw];rfl
   . have hp:=Zcn.2 hw
     have:=ht _ hp (by omega);unfold Ze5 at this;rw [ZiW hp,Zdb] at this;simp only [Bool.true_and,Bool.or_eq_false_iff] at this;unfold ZbM;rw [List.getElem?_eq_getElem (show ZaS Fs m.wh < V.length by omega),Option.getD_some];have h2:=this.1;rw [Bool.not_eq_false'] at h2;rw [h2];simp
 . rcases hr with hw | hw
   . rw [hw];rfl
   . have hp:=Zcn.2 hw
     have:=ht _ hp (by omega);unfold Ze5 at this;rw [ZiW hp,Zdb] at this;simp only [Bool.true_and,Bool.or_eq_false_iff] at this;unfold ZbM;rw [List.getElem?_eq_getElem (show ZaS Fs m.fr < V.length by omega),Option.getD_some,this.2];simp
theorem Znp {Ss:List Sh} (h:Zay Ss Ms=true) {x:Sh} {kind:Zy_} (hx:Zcz Ss kind=some x) {m:Md} (hm:m ∈ Ms) (hk:m.kind=x.kind) :
 m.field ∈ ZaD x.fields/\(m.wh.toList.isEmpty=true\/m.wh ∈ ZaD x.fields)/\(m.fr.toList.isEmpty=true\/m.fr ∈ ZaD x.fields):=by
 have hb:=Zlq h hm;unfold Zde at hb;rw [hk,(Zcv hx).2,hx] at hb;simp only [ZcH,Bool.and_eq_true,Bool.or_eq_true] at hb;refine⟨ZdQ hb.1.1.1.1.1.1,?_,?_⟩
 . rcases hb.1.1.1.1.1.2 with h | h
   . exact Or.inl h
   . exact Or.inr (ZdQ h)
 . rcases hb.1.1.1.1.2 with h | h
   . exact Or.inl h
   . exact Or.inr (ZdQ h)
theorem Znc {α:Type}{p:α->Bool}{L:List α} (hk:k < L.length) (h:p L[k]=true) (hall:∀ i (h:i < L.length),i < k->p L[i]=false):L.find? p=some L[k]:=by
 rw [List.find?_eq_some_iff_getElem];exact⟨h,k,hk,rfl,fun j hj=>by simp [hall j (by omega) hj]⟩
theorem Zpd {α:Type}{p:α->Bool}{L:List α} (hall:∀ i (h:i < L.length),p L[i]=false):L.find? p=none:=by
 rw [List.find?_eq_none];intro x hx;obtain⟨i,hi,rfl⟩:=List.getElem_of_mem hx;simp [hall i hi]
theorem Zef {Fs:List Fd}{kind:Zy_}{V:List Zy_}{f:Zy_} (hk:k < Ms.length) (h:(Zdg kind f Ms[k]&&Zgq Fs V Ms[k])=true) (hall:∀ i (h:i < Ms.length),i < k->(Zdg kind f Ms[i]&&Zgq Fs V Ms[i])=false):ZcY Fs kind Ms V f=some (Zct Fs V Ms[k]):=by
 unfold ZcY;rw [Znc (p:=fun m=>Zdg kind f m&&Zgq Fs V m) hk h hall];rfl
theorem ZkC {Fs:List Fd}{kind:Zy_}{V:List Zy_}{f:Zy_} (hall:∀ i (h:i < Ms.length),(Zdg kind f Ms[i]&&Zgq Fs V Ms[i])=false):ZcY Fs kind Ms V f=none:=by
 unfold ZcY;rw [Zpd (p:=fun m=>Zdg kind f m&&Zgq Fs V m) hall];rfl
theorem Zo5 {Fs:List Fd}{kind:Zy_}{V:List Zy_}{f v:Zy_} (h:ZcY Fs kind Ms V f=some v):setp (ZaS Fs) (ZcY Fs kind Ms) V f=V.set (ZaS Fs f) v:=by unfold setp;rw [h]
theorem Zo4 {Fs:List Fd}{kind:Zy_}{V:List Zy_}{f:Zy_} (h:ZcY Fs kind Ms V f=none):setp (ZaS Fs) (ZcY Fs kind Ms) V f=V:=by unfold setp;rw [h]
def ZgE:Nat->Nat->List UInt8->List UInt8
 | 0,_,acc=>acc
 | f+1,k,acc=>if k=0 then acc else ZgE f (k / 10) (UInt8.ofNat (48+k % 10) :: acc)
theorem ZgL (f:Nat) (acc:List UInt8):ZgE f 0 acc=acc:=by cases f <;> simp [ZgE]
theorem Zpo (k:Nat):∀ f acc,k<=f->ZgE f k acc=ZgE k k acc:=by
 induction k using Nat.strongRecOn with
 | _ k ih=>
  intro f acc hf
  by_cases h0:k=0
  . subst h0;rw [ZgL,ZgL]
  . obtain⟨f',rfl⟩:∃ f',f=f'+1:=⟨f - 1,by omega⟩
    obtain⟨k',rfl⟩:∃ k',k=k'+1:=⟨k - 1,by omega⟩
    have h1:(k'+1) / 10 < k'+1:=by omega
    rw [show ZgE (f'+1) (k'+1) acc=ZgE f' ((k'+1) / 10) (UInt8.ofNat (48+(k'+1) % 10) :: acc) from by simp [ZgE],
     show ZgE (k'+1) (k'+1) acc=ZgE k' ((k'+1) / 10) (UInt8.ofNat (48+(k'+1) % 10) :: acc) from by simp [ZgE]]
    rw [ih _ h1 f' _ (by omega),ih _ h1 k' _ (by omega)]
theorem ZnU (k:Nat) (acc:List UInt8) (h:0 < k):ZgE k k acc=ZgE (k / 10) (k / 10) (UInt8.ofNat (48+k % 10) :: acc):=by
 obtain⟨k',rfl⟩:∃ k',k=k'+1:=⟨k - 1,by omega⟩
 rw [show ZgE (k'+1) (k'+1) acc=ZgE k' ((k'+1) / 10) (UInt8.ofNat (48+(k'+1) % 10) :: acc) from by simp [ZgE]];exact Zpo _ _ _ (by omega)
def mtB (k:Int):Zy_:=if k<=0 then ⟨#[109,48]⟩ else ⟨(109 :: ZgE k.toNat k.toNat []).toArray⟩
theorem Zah (k:Int) (w:World) (hk:k<=4000000000000000000) :
 Calls prog 121 #[.int .i64 k] w fun e w'=>e=.returned (.string (mtB k))/\Zw_ w w':=by
 by_cases h0:k<=0
 . go_enter func121,ntmps121
   go_wp2;go_ret;exact⟨by unfold mtB;rw [if_pos h0];rfl,Below.refl _ _⟩
 . obtain⟨n,rfl⟩:=Int.eq_ofNat_of_zero_le (show 0<=k by omega)
   go_enter func121,ntmps121;go_wp2
   go_loopw [0,3] (fun q o wr=>∃ (j:Nat) (l:List UInt8),q=.int .i64 j/\o=.string ⟨l.toArray⟩/\l.length+j<=n/\Zw_ w wr/\Hd (ZgE j j l=ZgE n n [])) (fun q _ _=>(intOf q).toNat)
   case atStart=>exact⟨n,[],rfl,rfl,by simp,Below.refl _ _,rfl⟩
   case round=>
    obtain⟨j,l,rfl,rfl,hl,hb,hd⟩:=hrel
    by_cases hj:0 < j
    . have hn8:(UInt8.ofNat (48+j % 10)).toNat=48+j % 10:=by rw [UInt8.toNat_ofNat'];omega
      have hcv:(convert 231 9 (.slice (some ⟨wr.heap.size,0,none⟩) 1 1)).run prog (wr.alloc (.cells #[.int .u8 (48+(j:Int) % 10)] 5))=.ok (.string ⟨#[UInt8.ofNat (48+j % 10)]⟩) (wr.alloc (.cells #[.int .u8 (48+(j:Int) % 10)] 5)):=by
       have:=run_convert_bytes_back (P:=prog) (wr.alloc (.cells #[.int .u8 (48+(j:Int) % 10)] 5)) 231 9 5 ⟨wr.heap.size,0,none⟩ 1 [UInt8.ofNat (48+j % 10)] underlying231 underlying5 underlying9 (fun i hi=>by
        have e:i=0:=by simp at hi;omega
        subst e;simp only [List.getElem_cons_zero,hn8];simp [Addr.add])
       exact this
      have had:∀ W,(Op.stringOp .add ⟨#[UInt8.ofNat (48+j % 10)]⟩ ⟨l.toArray⟩).run prog W=.ok (.string ⟨(UInt8.ofNat (48+j % 10) :: l).toArray⟩) W:=fun W=>by
       have:=run_string_add_sum (P:=prog) (w:=W) ⟨#[UInt8.ofNat (48+j % 10)]⟩ ⟨l.toArray⟩ (by simp [ByteArray.size];omega);rw [this]
       rfl
      have HD:Hd (ZgE (j / 10) (j / 10) (UInt8.ofNat (48+j % 10) :: l)=ZgE n n []):=by unfold Hd;rw [<- ZnU j l hj];exact hd
      have HB:=Zab hb;clear hn8 hd hb;generalize UInt8.ofNat (48+j % 10)=dg at*;go_wp2;go_roundw
      . exact⟨j / 10,dg :: l,by go_num,rfl,by simp;omega,HB.o.alloc HB.o.size _,HD⟩
      . simp [intOf];omega
    . have had:∀ W,(Op.stringOp .add ⟨#[109]⟩ ⟨l.toArray⟩).run prog W=.ok (.string ⟨(109 :: l).toArray⟩) W:=fun W=>by
       have:=run_string_add_sum (P:=prog) (w:=W) ⟨#[109]⟩ ⟨l.toArray⟩ (by simp [ByteArray.size];omega);rw [this]
       rfl
      have HM:Hd (mtB n=⟨(109 :: l).toArray⟩):=by
       have e:j=0:=by omega
       subst e;unfold Hd mtB;rw [if_neg (by omega),Int.toNat_natCast,<- hd,ZgL]
      clear hd;go_wp2;go_ret;exact⟨by rw [HM.o];rfl,hb⟩
theorem Zb5 (k:Int) (hk:k<=4000000000000000000):(mtB k).size<=maxLen:=by
 unfold mtB
 by_cases h:k<=0
 . rw [if_pos h];simp [ByteArray.size,maxLen]
 . rw [if_neg h]
   have:∀ (f j:Nat) (l:List UInt8),(ZgE f j l).length<=l.length+f:=by
    intro f
    induction f with
    | zero=>intro j l;simp [ZgE]
    | succ f ih=>
     intro j l;rw [ZgE]
     by_cases h0:j=0
     . rw [if_pos h0];omega
     . rw [if_neg h0]
       have:=ih (j / 10) (UInt8.ofNat (48+j % 10) :: l);simp only [List.length_cons] at this;omega
   have:=this k.toNat k.toNat [];simp [ByteArray.size,maxLen] at*
   omega
structure Zad (lo hi:Nat) (w w':World):Prop where
 os:w'.os=w.os
 tape:w'.tape=w.tape
 output:w'.output=w.output
 size:w.heap.size<=w'.heap.size
 block:∀ k,k < w.heap.size->(k < lo\/hi<=k)->w'.heap[k]?=w.heap[k]?
theorem Zad.refl (lo hi:Nat) (w:World):Zad lo hi w w:=⟨rfl,rfl,rfl,Nat.le_refl _,fun _ _ _=>rfl⟩
theorem Zad.trans {lo:Nat}{b:World} (h:Zad lo hi a b) (k:Zad lo hi b c):Zad lo hi a c:=
 ⟨k.os.trans h.os,k.tape.trans h.tape,k.output.trans h.output,Nat.le_trans h.size k.size,fun i hi' ho=>(k.block i (Zk_ hi' h.size) ho).trans (h.block i hi' ho)⟩
theorem Zad.below {lo:Nat}{b:World} (h:Below a.heap.size a b):Zad lo hi a b:=⟨h.os,h.tape,h.output,h.size,fun k hk _=>h.block k hk⟩
theorem Zad.setCell (lo hi:Nat) (w:World) (p:Addr) (u:Value) (h:lo<=p.block/\p.block < hi):Zad lo hi w (w.setCell p u):=
 ⟨rfl,rfl,rfl,by simp [World.setCell],fun k _ ho=>Below.heap_setCell _ _ _ _ (by omega)⟩
theorem Zad.cell {lo:Nat}{w:World} (h:Zad lo hi w w') {p:Addr} (hp:p.block < w.heap.size) (ho:p.block < lo\/hi<=p.block):w'.cell? p=w.cell? p:=World.cell?_of_block (w:=w) (h.block p.block hp ho)
theorem Zad.frozen {lo:Nat}{w:World} (h:Zad lo hi w w') {p:Addr} (hp:p.block < w.heap.size) (ho:p.block < lo\/hi<=p.block):w'.frozen? p=w.frozen? p:=World.frozen?_of_block (w:=w) (h.block p.block hp ho)
theorem Zad.wide {lo:Nat}{b:World} (h:Zad lo hi a b) (h1:lo'<=lo) (h2:hi<=hi'):Zad lo' hi' a b:=⟨h.os,h.tape,h.output,h.size,fun k hk ho=>h.block k hk (by omega)⟩
theorem Zad.under {lo:Nat}{b:World} (h:Zad lo hi a b) (hl:lo<=a.heap.size):Below lo a b:=⟨h.os,h.tape,h.output,h.size,fun k hk=>h.block k (by omega) (Or.inl hk)⟩
def Zae (lo hi:Nat) (w:World) (v:Value) (L:List Zy_):Prop:=
 (∃ (a:Option Addr) (cap:Nat),v=.slice a 0 cap/\L=[])\/
 ∃ (b off cap:Nat),v=.slice (some ⟨b,off,none⟩) L.length cap/\L≠[]/\L.length<=maxLen/\b < w.heap.size/\
  (∀ i (h:i < L.length),w.cell? ⟨b,off+i,none⟩=some (.string L[i]))/\(∀ s ∈ L,s.size<=maxLen)/\lo<=b/\b < hi/\∀ i,w.frozen? ⟨b,off+i,none⟩=false
theorem Zae.at {lo:Nat}{w:World}{L:List Zy_} (h:Zae lo hi w v L):Zag w v L:=by
 rcases h with h | ⟨b,off,cap,h1,h2,h3,h4,h5,h6,_⟩
 . exact Or.inl h
 . exact Or.inr ⟨b,off,cap,h1,h2,h3,h4,h5,h6⟩
theorem Zae.touch {lo:Nat}{w:World}{L:List Zy_} (h:Zae lo hi w v L) (ht:Zad lo' hi' w w') (ho:hi<=lo'\/hi'<=lo):Zae lo hi w' v L:=by
 rcases h with h | ⟨b,off,cap,h1,h2,h3,h4,h5,h6,h7,h8,h9⟩
 . exact Or.inl h
 . exact Or.inr ⟨b,off,cap,h1,h2,h3,Zk_ h4 ht.size,fun i hi'=>by rw [ht.cell (p:=⟨b,_,none⟩) h4 (by dsimp;omega)];exact h5 i hi',h6,h7,h8,fun i=>by rw [ht.frozen (p:=⟨b,_,none⟩) h4 (by dsimp;omega)];exact h9 i⟩
def Zeo (k:Int) (n:Nat):List Zy_:=(List.range n).map fun (i:Nat)=>mtB (k+(i:Int))
theorem Zci (k:Int) (n:Nat):(Zeo k n).length=n:=by simp [Zeo]
theorem ZjK (k:Int) (n i:Nat) (h:i < (Zeo k n).length):(Zeo k n)[i]=mtB (k+i):=by simp [Zeo]
theorem Zgc (lo hi:Nat) (v:Value) (L:List Zy_) (k:Int) (w:World) (hv:Zae lo hi w v L) (h0:0<=k) (hk:k+L.length<=4000000000000000000) :
 Calls prog 123 #[v,.int .i64 k] w fun e w'=>e=.returned (.int .i64 (k+L.length))/\Zad lo hi w w'/\Zae lo hi w' v (Zeo k L.length):=by
 rcases hv with ⟨a,cap,rfl,rfl⟩ | ⟨b,off,cap,rfl,hne,hm,hbw,hc,hsz,hlo,hhi,hfr⟩
 . go_enter func123,ntmps123
   go_wp2
   go_loop [5,1] (fun i q=>i=.int .i64 0/\q=.int .i64 k) (fun _ _=>0)
   case atStart=>exact⟨rfl,rfl⟩
   case round=>
    obtain⟨rfl,rfl⟩:=hrel;go_wp2;go_ret;exact⟨by simp,Zad.refl _ _ _,Or.inl ⟨_,_,rfl,rfl⟩⟩
 . unfold maxLen at hm
   go_enter func123,ntmps123;go_wp2
   go_loopw [5,1] (fun i q wr=>∃ j:Nat,i=.int .i64 j/\q=.int .i64 (k+j)/\j<=L.length/\Zad lo hi w wr/\(∀ i,i < j->wr.cell? ⟨b,off+i,none⟩=some (.string (mtB (k+i))))/\(∀ i (h:i < L.length),j<=i->wr.cell? ⟨b,off+i,none⟩=some (.string L[i]))/\∀ i,wr.frozen? ⟨b,off+i,none⟩=false) (fun i _ _=>L.length - (intOf i).toNat)
   case atStart=>exact⟨0,rfl,by simp,by omega,Zad.refl _ _ _,fun i h=>by omega,fun i h _=>hc i h,hfr⟩
   case round=>
    obtain⟨j,rfl,rfl,hj,ht,hA,hB,hF⟩:=hrel;have HT:=Zab ht;have HA:=Zab hA;have HBB:=Zab hB;have HF:=Zab hF;clear ht hA hB hF
    by_cases hlt:j < L.length
    . have hbr:b < wr.heap.size:=Zk_ hbw HT.o.size
      go_wp2_with fail;refine (Zah _ _ (by omega)).mono ?_;rintro e w1 ⟨rfl,hb1⟩;have hcj:w1.cell? ⟨b,off+j,none⟩=some (.string L[j]):=by rw [hb1.cell (p:=⟨b,_,none⟩) hbr];exact HBB.o j hlt Zl_
      have hfj:w1.frozen? ⟨b,off+j,none⟩=false:=by rw [hb1.frozen (p:=⟨b,_,none⟩) hbr];exact HF.o j
      have HB1:=Zab hb1;clear hb1;go_wp2;go_roundw
      . 
       refine⟨j+1,by go_num,by go_num,by omega,(HT.o.trans (Zad.below HB1.o)).trans (Zad.setCell _ _ _ _ _ ⟨hlo,hhi⟩),fun i hi'=>?_,fun i h hi'=>?_,fun i=>?_⟩
       . by_cases e:i=j
         . subst e;exact World.cell?_setCell_same' _ _ _ (by rw [hcj];rfl)
         . rw [show (w1.setCell ⟨b,off+j,none⟩ (.string (mtB (k+j)))).cell? ⟨b,off+i,none⟩=w1.cell? ⟨b,off+i,none⟩ from by apply World.cell?_setCell_other;simp only [ne_eq,Addr.mk.injEq,not_and];omega,HB1.o.cell (p:=⟨b,_,none⟩) hbr]
           exact HA.o i (by omega)
       . rw [show (w1.setCell ⟨b,off+j,none⟩ (.string (mtB (k+j)))).cell? ⟨b,off+i,none⟩=w1.cell? ⟨b,off+i,none⟩ from by apply World.cell?_setCell_other;simp only [ne_eq,Addr.mk.injEq,not_and];omega,HB1.o.cell (p:=⟨b,_,none⟩) hbr]
         exact HBB.o i h (by omega)
       . rw [World.frozen?_setCell,HB1.o.frozen (p:=⟨b,_,none⟩) hbr]
         exact HF.o i
      . simp [intOf];omega
    . have e:j=L.length:=by omega
      subst e;go_wp2;go_ret;refine⟨rfl,HT.o,Or.inr ⟨b,off,cap,by rw [Zci],?_,by rw [Zci];unfold maxLen;omega,Zk_ hbw HT.o.size,fun i h=>?_,fun s hs=>?_,hlo,hhi,HF.o⟩⟩
      . intro e;have:=congrArg List.length e;rw [Zci] at this;simp at this;exact hne this
      . rw [ZjK];exact HA.o i (by rw [Zci] at h;exact h)
      . obtain⟨i,hi',rfl⟩:=List.mem_map.1 hs
        exact Zb5 _ (by have:=List.mem_range.1 hi';omega)
theorem Zgo (v:Value) (n:Nat) (k:Int) (w:World) (hv:Zag w v (Zeo k n)) (h0:0<=k) (hk:k+n<=4000000000000000000) :
 Calls prog 125 #[v,.int .i64 k] w fun e w'=>e=.returned (.int .i64 (k+n))/\Zw_ w w':=by
 rcases hv with ⟨a,cap,rfl,hn⟩ | ⟨b,off,cap,rfl,hne,hm,hbw,hc,hsz⟩
 . have e:n=0:=by have:=congrArg List.length hn;rw [Zci] at this;simpa using this
   subst e;clear hn;go_enter func125,ntmps125;go_wp2
   go_loop [5,1] (fun i q=>i=.int .i64 0/\q=.int .i64 k) (fun _ _=>0)
   case atStart=>exact⟨rfl,rfl⟩
   case round=>
    obtain⟨rfl,rfl⟩:=hrel;go_wp2;go_ret;exact⟨by simp,Below.refl _ _⟩
 . rw [Zci] at hm
   rw [Zci]
   have hc':∀ i,i < n->w.cell? ⟨b,off+i,none⟩=some (.string (mtB (k+i))):=fun i h=>by
    have:=hc i (by rw [Zci];exact h)
    rwa [ZjK] at this
   clear hc hne hsz;unfold maxLen at hm;go_enter func125,ntmps125;go_wp2
   go_loopw [5,1] (fun i q wr=>∃ j:Nat,i=.int .i64 j/\q=.int .i64 (k+j)/\j<=n/\Zw_ w wr) (fun i _ _=>n - (intOf i).toNat)
   case atStart=>exact⟨0,rfl,by simp,by omega,Below.refl _ _⟩
   case round=>
    obtain⟨j,rfl,rfl,hj,hb⟩:=hrel;have HB:=Zab hb;clear hb
    by_cases hlt:j < n
    . have hcj:wr.cell? ⟨b,off+j,none⟩=some (.string (mtB (k+j))):=by rw [HB.o.cell (p:=⟨b,_,none⟩) hbw];exact hc' j hlt
      have hbr:b < wr.heap.size:=Zk_ hbw HB.o.size
      go_wp2
      go_region_with (go_at_call 121;refine (Zah _ _ (by omega)).mono ?_;rintro e w1 ⟨rfl,hb1⟩;have hcj1:w1.cell? ⟨b,off+j,none⟩=some (.string (mtB (k+j))):=(hb1.cell (p:=⟨b,off+j,none⟩) hbr).trans hcj;have HB1:Hd (Zw_ w w1):=(HB.o.drew).trans (hb1.mono HB.o.size);clear hb1)
      all_goals
       go_wp2;go_roundw
       . exact⟨j+1,by go_num,by go_num,by omega,HB1.o⟩
       . simp [intOf];omega
    . have e:j=n:=by omega
      subst e;go_wp2;go_ret;exact⟨rfl,HB.o⟩
structure ZbU (lo hi:Nat) (w w':World):Prop where
 touch:Zad lo hi w w'
 there:∀ p:Addr,p.block < w.heap.size->(w.cell? p).isSome=true->(w'.cell? p).isSome=true
 frz:∀ p:Addr,p.block < w.heap.size->w'.frozen? p=w.frozen? p
theorem ZbU.refl (lo hi:Nat) (w:World):ZbU lo hi w w:=⟨Zad.refl _ _ _,fun _ _ h=>h,fun _ _=>rfl⟩
theorem ZbU.trans {lo:Nat}{b:World} (h:ZbU lo hi a b) (k:ZbU lo hi b c):ZbU lo hi a c:=
 ⟨h.touch.trans k.touch,fun p hp hs=>k.there p (Zk_ hp h.touch.size) (h.there p hp hs),fun p hp=>(k.frz p (Zk_ hp h.touch.size)).trans (h.frz p hp)⟩
theorem ZbU.below {lo:Nat}{b:World} (h:Below a.heap.size a b):ZbU lo hi a b:=
 ⟨Zad.below h,fun p hp hs=>by rw [h.cell hp];exact hs,fun p hp=>h.frozen hp⟩
theorem ZbU.setCell (lo hi:Nat) (w:World) (p:Addr) (u:Value) (h:lo<=p.block/\p.block < hi) (hs:(w.cell? p).isSome=true):ZbU lo hi w (w.setCell p u):=by
 refine⟨Zad.setCell _ _ _ _ _ h,fun q _ hq=>?_,fun q _=>World.frozen?_setCell ..⟩
 by_cases e:p=q
 . subst e;rw [World.cell?_setCell_same' _ _ _ hs];rfl
 . rw [show (w.setCell p u).cell? q=w.cell? q from by apply World.cell?_setCell_other;exact e];exact hq
theorem ZbU.wide {lo:Nat}{b:World} (h:ZbU lo hi a b) (h1:lo'<=lo) (h2:hi<=hi'):ZbU lo' hi' a b:=⟨h.touch.wide h1 h2,h.there,h.frz⟩
def Zjl (lo hi:Nat) (w:World) (v:Value) (n:Nat):Prop:=
 (∃ (a:Option Addr) (cap:Nat),v=.slice a 0 cap/\n=0)\/
 ∃ (b off cap:Nat),v=.slice (some ⟨b,off,none⟩) n cap/\0 < n/\n<=maxLen/\b < w.heap.size/\
  (∀ i,i < n->(w.cell? ⟨b,off+i,none⟩).isSome=true)/\lo<=b/\b < hi/\∀ i,w.frozen? ⟨b,off+i,none⟩=false
theorem Zae.writ {lo:Nat}{w:World}{L:List Zy_} (h:Zae lo hi w v L):Zjl lo hi w v L.length:=by
 rcases h with ⟨a,cap,h1,rfl⟩ | ⟨b,off,cap,h1,h2,h3,h4,h5,h6,h7,h8,h9⟩
 . exact Or.inl ⟨a,cap,h1,rfl⟩
 . exact Or.inr ⟨b,off,cap,h1,List.length_pos_iff.2 h2,h3,h4,fun i hi'=>by rw [h5 i hi'];rfl,h7,h8,h9⟩
theorem Zjl.kept {lo:Nat}{w:World} (h:Zjl lo hi w v n) (k:ZbU lo' hi' w w'):Zjl lo hi w' v n:=by
 rcases h with h | ⟨b,off,cap,h1,h2,h3,h4,h5,h6,h7,h8⟩
 . exact Or.inl h
 . exact Or.inr ⟨b,off,cap,h1,h2,h3,Zk_ h4 k.touch.size,fun i hi'=>k.there _ h4 (h5 i hi'),h6,h7,fun i=>(k.frz _ h4).trans (h8 i)⟩
theorem Zjl.wide {lo:Nat}{w:World} (h:Zjl lo hi w v n) (h1:lo'<=lo) (h2:hi<=hi'):Zjl lo' hi' w v n:=by
 rcases h with h | ⟨b,off,cap,q1,q2,q3,q4,q5,q6,q7,q8⟩
 . exact Or.inl h
 . exact Or.inr ⟨b,off,cap,q1,q2,q3,q4,q5,by omega,by omega,q8⟩
theorem Zjl.form {lo:Nat}{w:World} (h:Zjl lo hi w v n):∃ a cap,v=.slice a n cap:=by
 rcases h with ⟨a,cap,h,rfl⟩ | ⟨b,off,cap,h,_⟩
 . exact⟨a,cap,h⟩
 . exact⟨_,cap,h⟩
theorem Zi3 (lo hi:Nat) (v:Value) (n:Nat) (k:Int) (w:World) (hv:Zjl lo hi w v n) (h0:0<=k) (hk:k+n<=4000000000000000000) :
 Calls prog 123 #[v,.int .i64 k] w fun e w'=>e=.returned (.int .i64 (k+n))/\ZbU lo hi w w':=by
 rcases hv with ⟨a,cap,rfl,rfl⟩ | ⟨b,off,cap,rfl,hne,hm,hbw,hc,hlo,hhi,hfr⟩
 . go_enter func123,ntmps123
   go_wp2
   go_loop [5,1] (fun i q=>i=.int .i64 0/\q=.int .i64 k) (fun _ _=>0)
   case atStart=>exact⟨rfl,rfl⟩
   case round=>
    obtain⟨rfl,rfl⟩:=hrel;go_wp2;go_ret;exact⟨by simp,ZbU.refl _ _ _⟩
 . unfold maxLen at hm
   go_enter func123,ntmps123;go_wp2
   go_loopw [5,1] (fun i q wr=>∃ j:Nat,i=.int .i64 j/\q=.int .i64 (k+j)/\j<=n/\ZbU lo hi w wr) (fun i _ _=>n - (intOf i).toNat)
   case atStart=>exact⟨0,rfl,by simp,by omega,ZbU.refl _ _ _⟩
   case round=>
    obtain⟨j,rfl,rfl,hj,ht⟩:=hrel;have HT:=Zab ht;clear ht
    by_cases hlt:j < n
    . have hbr:b < wr.heap.size:=Zk_ hbw HT.o.touch.size
      go_wp2_with fail;refine (Zah _ _ (by omega)).mono ?_;rintro e w1 ⟨rfl,hb1⟩;obtain⟨u,hcj⟩:∃ u,w1.cell? ⟨b,off+j,none⟩=some u:=by rw [hb1.cell (p:=⟨b,_,none⟩) hbr];exact Option.isSome_iff_exists.1 (HT.o.there _ hbw (hc j hlt))
      have hfj:w1.frozen? ⟨b,off+j,none⟩=false:=by rw [hb1.frozen (p:=⟨b,_,none⟩) hbr];exact (HT.o.frz _ hbw).trans (hfr j)
      have HB1:=Zab hb1;clear hb1;go_wp2;go_roundw
      . 
       exact⟨j+1,by go_num,by go_num,by omega,(HT.o.trans (ZbU.below HB1.o)).trans (ZbU.setCell _ _ _ _ _ ⟨hlo,hhi⟩ (by rw [hcj];rfl))⟩
      . simp [intOf];omega
    . have e:j=n:=by omega
      subst e;go_wp2;go_ret;exact⟨rfl,HT.o⟩
section
variable (kind nm team:Zy_) (vv hv:Value) (en:Bool) (ver:Int) (V Ho:List Zy_) (w:World)
def Zs9 (V Ho:List Zy_) (left r:Int):Prop:= -1<=r/\r<=left/\(0<=r->(V.length:Int)<=left/\(Ho.length:Int)<=left)
theorem ZpR (left:Int) (hV:Zag w vv V) (hH:Zag w hv Ho) (h0:0<=left) (h1:left<=1048576) (s1:kind.size<=maxLen) (s2:nm.size<=maxLen) (s3:team.size<=maxLen) :
 Calls prog 89 #[.agg #[.string kind,.string nm,.string team,vv,.bool en,hv,.int .i64 ver],.int .i64 left] w
  fun e w'=>∃ r:Int,e=.returned (.int .i64 r)/\Zw_ w w'/\Zs9 V Ho left r:=by
 have HV:=Zab hV;have HH:=Zab hH;obtain⟨a,n,cap,rfl⟩:=hV.form;obtain⟨a',n',cap',rfl⟩:=hH.form;clear hV hH;unfold maxLen at s1 s2 s3;have HW:∀ o,Hd (Zw_ w (w.alloc o)):=fun o=>Zb_.alloc Zl_ _
 by_cases c1:(kind.size:Int)<=left
 . by_cases c2:(kind.size:Int)+nm.size<=left
   . by_cases c3:(kind.size:Int)+nm.size+team.size<=left
     . go_enter func89,ntmps89
       go_wp2_with fail;refine (ZfQ _ V _ _ (by omega) (by omega) (HV.o.below (HW _).o)).mono ?_;rintro e w1 ⟨r,rfl,rfl,q0,q1,q2⟩
       by_cases hr:r < 0
       . go_wp2
         go_ret;exact⟨-1,rfl,(HW _).o,by omega,by omega,fun h=>by omega⟩
       . go_wp2_with fail
         refine (ZfQ _ Ho _ _ (by omega) (by omega) (HH.o.below (HW _).o)).mono ?_;rintro e w1 ⟨r2,rfl,rfl,p0,p1,p2⟩;go_wp2
         all_goals go_ret
         all_goals first
          | exact⟨_,rfl,(HW _).o,by omega,by omega,fun h=>⟨by have:=q2 (by omega);omega,by have:=p2 (by omega);omega⟩⟩
          | exact⟨-1,rfl,(HW _).o,by omega,by omega,fun h=>by omega⟩
     . go_enter func89,ntmps89
       go_wp2;go_ret;exact⟨-1,rfl,(HW _).o,by omega,by omega,fun h=>by omega⟩
   . go_enter func89,ntmps89
     go_wp2;go_ret;exact⟨-1,rfl,(HW _).o,by omega,by omega,fun h=>by omega⟩
 . go_enter func89,ntmps89
   go_wp2;go_ret;exact⟨-1,rfl,(HW _).o,by omega,by omega,fun h=>by omega⟩
theorem Zov (hV:Zag w vv V) (hH:Zag w hv Ho) (n1:V.length<=1048576) (n2:Ho.length<=1048576) :
 Calls prog 103 #[.agg #[.string kind,.string nm,.string team,vv,.bool en,hv,.int .i64 ver]] w
  fun e w'=>∃ v' h',e=.returned (.agg #[.string kind,.string nm,.string team,v',.bool en,h',.int .i64 ver])/\Zw_ w w'/\Zaq w.heap.size w' v' V/\Zaq w.heap.size w' h' Ho:=by
 have HV:=Zab hV;have HH:=Zab hH;obtain⟨a,n,cap,rfl⟩:=hV.form;obtain⟨a',n',cap',rfl⟩:=hH.form;clear hV hH;have HW:∀ o o' o'',Hd (Zw_ w (((w.alloc o).alloc o').alloc o'')):=fun o o' o''=>((Zb_.alloc Zl_ _).alloc (by simp) _).alloc (by simp;omega) _
 go_enter func103,ntmps103;go_wp2_with fail;refine (Zf6 _ V _ (HV.o.below (HW _ _ _).o) n1).mono ?_;rintro e w1 ⟨v1,rfl,hb,hs⟩;obtain⟨a1,m1,cap1,rfl⟩:=hs.form;have HS:Hd (Zaq (w.heap.size+3) w1 (.slice a1 m1 cap1) V):=hs.mono (by simp);have hz:w.heap.size+2 < w1.heap.size:=by have:=hb.size;simp at this;omega
 obtain⟨hc,hf⟩:=ZfL hb;have HB:Hd (Zw_ w w1):=(HW _ _ _).o.trans (hb.mono (by simp;omega));clear hb hs;go_wp2_with fail;have hX:Hd (Zw_ w ((w1.setCell ⟨w.heap.size+1+1,3,none⟩ (.slice a1 m1 cap1)).setCell ⟨w.heap.size+1+1,4,none⟩ (.bool en))):=(HB.o.setCell (by dsimp;omega) _).setCell (by dsimp;omega) _;have hXs:((w1.setCell ⟨w.heap.size+1+1,3,none⟩ (.slice a1 m1 cap1)).setCell ⟨w.heap.size+1+1,4,none⟩ (.bool en)).heap.size=w1.heap.size:=by simp [World.setCell]
 have HS':=Zab ((HS.o.setCell (p:=⟨w.heap.size+1+1,3,none⟩) (by dsimp;omega) (.slice a1 m1 cap1)).setCell (p:=⟨w.heap.size+1+1,4,none⟩) (by dsimp;omega) (.bool en));refine (Zf6 _ Ho _ (HH.o.below hX.o) n2).mono ?_;rintro e w2 ⟨v2,rfl,hb2,hs2⟩;obtain⟨a2,m2,cap2,rfl⟩:=hs2.form;have HS2:Hd (Zaq (w.heap.size+3) w2 (.slice a1 m1 cap1) V):=HS'.o.below hb2;have HH2:Hd (Zaq (w.heap.size+3) w2 (.slice a2 m2 cap2) Ho):=hs2.mono (by rw [hXs];omega);have hz2:w.heap.size+2 < w2.heap.size:=by have:=hb2.size;rw [hXs] at this;omega
 have HB2:Hd (Zw_ w w2):=hX.o.trans (hb2.mono hX.o.size);have hc2:∀ b o,b < w1.heap.size->w2.cell? ⟨b,o,none⟩=((w1.setCell ⟨w.heap.size+1+1,3,none⟩ (.slice a1 m1 cap1)).setCell ⟨w.heap.size+1+1,4,none⟩ (.bool en)).cell? ⟨b,o,none⟩:=fun b o h=>hb2.cell (p:=⟨b,o,none⟩) (by rw [hXs];exact h)
 have hf2:∀ b o,b < w1.heap.size->w2.frozen? ⟨b,o,none⟩=((w1.setCell ⟨w.heap.size+1+1,3,none⟩ (.slice a1 m1 cap1)).setCell ⟨w.heap.size+1+1,4,none⟩ (.bool en)).frozen? ⟨b,o,none⟩:=fun b o h=>hb2.frozen (p:=⟨b,o,none⟩) (by rw [hXs];exact h)
 clear hb2 hs2 hXs;have hz0:w.heap.size < w1.heap.size:=by omega
 have hz1:w.heap.size+1 < w1.heap.size:=by omega
 have hz1':w.heap.size+1+1 < w1.heap.size:=by omega
 go_wp2;refine bodyPost_ret (v:=.agg #[.string kind,.string nm,.string team,.slice a1 m1 cap1,.bool en,.slice a2 m2 cap2,.int .i64 ver]) (by simp [results,results103,go_sem,hc,hc2,hz1]) rfl ⟨_,_,rfl,?_,?_,?_⟩
 . repeat (refine Below.setCell ?_ (by dsimp;omega) _)
   exact HB2.o
 . refine Zaq.mono (lo:=w.heap.size+3) ?_ (by omega)
   repeat (refine Zaq.setCell ?_ (by dsimp;omega) _)
   exact HS2.o
 . refine Zaq.mono (lo:=w.heap.size+3) ?_ (by omega)
   repeat (refine Zaq.setCell ?_ (by dsimp;omega) _)
   exact HH2.o
theorem Znq (vv' hv':Value) (hV:Zag w vv V) (hH:Zag w hv Ho) (hV':Zag w vv' V) (hH':Zag w hv' Ho) :
 Calls prog 114 #[.agg #[.string kind,.string nm,.string team,vv,.bool en,hv,.int .i64 ver],.agg #[.string kind,.string nm,.string team,vv',.bool en,hv',.int .i64 ver]] w
  fun e w'=>e=.returned (.bool true)/\Zw_ w w':=by
 have HV:=Zab hV;have HH:=Zab hH;have HV':=Zab hV';have HH':=Zab hH';obtain⟨a,n,cap,rfl⟩:=hV.form;obtain⟨a1,n1,cap1,rfl⟩:=hH.form;obtain⟨a2,n2,cap2,rfl⟩:=hV'.form;obtain⟨a3,n3,cap3,rfl⟩:=hH'.form;clear hV hH hV' hH';have HW:∀ o o',Hd (Zw_ w ((w.alloc o).alloc o')):=fun o o'=>(Zb_.alloc Zl_ _).alloc (by simp) _
 go_enter func114,ntmps114;go_wp2_with fail;refine (Ze9 _ _ V _ (HV.o.below (HW _ _).o) (HV'.o.below (HW _ _).o)).mono ?_;rintro e w1 ⟨rfl,hb⟩;have hz:w.heap.size+1 < w1.heap.size:=by have:=hb.size;simp at this;omega
 have HB:Hd (Zw_ w w1):=(HW _ _).o.trans (hb.mono (by simp;omega));obtain⟨hc,hf⟩:=ZfL hb;clear hb;go_wp2_with fail;refine (Ze9 _ _ Ho _ (HH.o.below HB.o) (HH'.o.below HB.o)).mono ?_;rintro e w2 ⟨rfl,hb2⟩;have HB2:Hd (Zw_ w w2):=HB.o.trans (hb2.mono HB.o.size);have hz2:w.heap.size < w1.heap.size:=by omega
 obtain⟨hc2,hf2⟩:=ZfL hb2;clear hb2;go_wp2;go_ret;exact⟨rfl,HB2.o⟩
end
theorem Tryz.size9:(prog.info? 9).map (·.size)=some 1:=by kernel_rfl
theorem Ze0 (b:Nat) (hb:B<=b):∀ (vs:List Value) (o:Nat) (w:World),Below B a w->Below B a (w.setCells b o vs)
 | [],_,_,h=>h
 | v :: r,o,w,h=>by
  rw [World.setCells];exact Ze0 b hb r (o+1) _ (h.setCell hb v)
theorem ZdX (b:Nat):∀ (vs:List Value) (o:Nat) (w:World),(w.setCells b o vs).heap.size=w.heap.size
 | [],_,_=>rfl
 | v :: r,o,w=>by rw [World.setCells,ZdX b r];simp [World.setCell]
theorem Zfv (v:Value) (L:List Zy_) (w:World) (hv:Zag w v L) (hn:L.length<=1048576) :
 Calls prog 209 #[v] w fun e w'=>∃ v',e=.returned v'/\Zw_ w w'/\Zae w.heap.size w'.heap.size w' v' L:=by
 have hnil:=fun W a n c=>Lib.run_eql_slice_nil (P:=prog) W 59 9 a n c 0 0 underlying59
 rcases hv with ⟨a,cap,rfl,rfl⟩ | ⟨b,off,cap,rfl,hne,hm,hbw,hc,hsz⟩
 . have hmk:∀ u:World,(Instr.makeSlice 59 (.int .i64 0) (.int .i64 0)).run prog u=.ok (.slice (some ⟨u.heap.size,0,none⟩) 0 0) (u.alloc (.cells (madeCells #[.string ⟨#[]⟩] 0) 9)):=
    fun u=>run_make_row' 59 9 (.string ⟨#[]⟩) 16 underlying59 Tryz.info9 rfl .i64 .i64 0 (by omega) (by omega) u
   have hcp:=fun (W:World) ty (d:Option Addr) dl dc=>run_copy_none (P:=prog) W 59 59 ty 9 d a dl dc 0 cap underlying59 Tryz.size9 (by simp)
   cases a with
   | none=>
    go_enter func209,ntmps209;go_wp2;go_ret;exact⟨_,rfl,Below.refl _ _,Or.inl ⟨_,_,rfl,rfl⟩⟩
   | some ad=>
    go_enter func209,ntmps209;go_wp2;go_ret;exact⟨_,rfl,Zb_.alloc Zl_ _,Or.inl ⟨_,_,rfl,rfl⟩⟩
 . have HM:Hd (L.length<=maxLen):=hm
   unfold maxLen at hm
   have hmk:∀ u:World,(Instr.makeSlice 59 (.int .i64 (L.length:Int)) (.int .i64 (L.length:Int))).run prog u=.ok (.slice (some ⟨u.heap.size,0,none⟩) L.length L.length) (u.alloc (.cells (madeCells #[.string ⟨#[]⟩] L.length) 9)):=
    fun u=>run_make_row' 59 9 (.string ⟨#[]⟩) 16 underlying59 Tryz.info9 rfl .i64 .i64 L.length (by omega) (by omega) u
   have hrow:=World.rowIs_made w (.string ⟨#[]⟩) L.length 9;have hcl:(L.map Value.string).length=L.length:=by simp
   have hcp:∀ ty,(Builtin.copy_ #[59,59] ty #[.slice (some ⟨w.heap.size,0,none⟩) L.length L.length,.slice (some ⟨b,off,none⟩) L.length cap]).run prog (w.alloc (.cells (madeCells #[.string ⟨#[]⟩] L.length) 9))=.ok (goInt L.length) ((w.alloc (.cells (madeCells #[.string ⟨#[]⟩] L.length) 9)).setCells w.heap.size 0 (L.map Value.string)):=fun ty=>by
    have:=run_copy_cells (P:=prog) (w.alloc (.cells (madeCells #[.string ⟨#[]⟩] L.length) 9)) 59 59 ty 9 w.heap.size 0 L.length L.length ⟨b,off,none⟩ L.length cap (L.map Value.string) underlying59 Tryz.size9 (by simp) (fun j u hj=>by
     obtain⟨hj1,hj2⟩:=List.getElem?_eq_some_iff.1 hj;rw [hcl] at hj1;rw [Go.WideShapes.add_plain,((Below.refl w.heap.size w).alloc Zl_ _).cell (p:=⟨b,off+j,none⟩) hbw,hc j hj1,<- hj2];simp) (fun j hj=>by rw [hcl] at hj;rw [Nat.zero_add,hrow.cell hj];rfl) (fun j _=>by rw [Nat.zero_add];exact hrow.frozen j) (fun u hu=>by
     obtain⟨s,_,rfl⟩:=List.mem_map.1 hu;rfl)
    rw [hcl] at this;exact this
   have HOWN:Hd (Zae w.heap.size ((w.alloc (.cells (madeCells #[.string ⟨#[]⟩] L.length) 9)).setCells w.heap.size 0 (L.map Value.string)).heap.size ((w.alloc (.cells (madeCells #[.string ⟨#[]⟩] L.length) 9)).setCells w.heap.size 0 (L.map Value.string)) (.slice (some ⟨w.heap.size,0,none⟩) L.length L.length) L):=by
    refine Or.inr ⟨w.heap.size,0,L.length,rfl,hne,HM.o,by rw [ZdX];simp,fun i hi=>?_,hsz,Nat.le_refl _,by rw [ZdX];simp,fun i=>?_⟩
    . have:=World.cell?_setCells_in w.heap.size (L.map Value.string) 0 (w.alloc (.cells (madeCells #[.string ⟨#[]⟩] L.length) 9)) (fun j hj=>by rw [hcl] at hj;rw [Nat.zero_add,hrow.cell hj];rfl) i (by rw [hcl];exact hi)
      rw [this];simp
    . rw [World.frozen?_setCells,Nat.zero_add];exact hrow.frozen i
   have HB:Hd (Zw_ w ((w.alloc (.cells (madeCells #[.string ⟨#[]⟩] L.length) 9)).setCells w.heap.size 0 (L.map Value.string))):=Ze0 _ Zl_ _ _ _ (Zb_.alloc Zl_ _);clear hrow hcl hc;generalize hW:(w.alloc (.cells (madeCells #[.string ⟨#[]⟩] L.length) 9)).setCells w.heap.size 0 (L.map Value.string)=W2 at*;clear hW;go_enter func209,ntmps209;go_wp2;go_ret;exact⟨_,rfl,HB.o,HOWN.o⟩
theorem Zae.form {lo:Nat}{w:World}{L:List Zy_} (h:Zae lo hi w v L):∃ a cap,v=.slice a L.length cap:=by
 rcases h with ⟨a,cap,h,rfl⟩ | ⟨b,off,cap,h,_⟩
 . exact⟨a,cap,h⟩
 . exact⟨_,cap,h⟩
theorem Zae.below {lo:Nat}{w:World}{L:List Zy_} (h:Zae lo hi w v L) (hb:Zw_ w w'):Zae lo hi w' v L:=by
 rcases h with h | ⟨b,off,cap,h1,h2,h3,h4,h5,h6,h7,h8,h9⟩
 . exact Or.inl h
 . exact Or.inr ⟨b,off,cap,h1,h2,h3,Zk_ h4 hb.size,fun i hi'=>by rw [hb.cell (p:=⟨b,_,none⟩) h4];exact h5 i hi',h6,h7,h8,fun i=>by rw [hb.frozen (p:=⟨b,_,none⟩) h4];exact h9 i⟩
theorem Zae.wide {lo:Nat}{w:World}{L:List Zy_} (h:Zae lo hi w v L) (h1:lo'<=lo) (h2:hi<=hi'):Zae lo' hi' w v L:=by
 rcases h with h | ⟨b,off,cap,q1,q2,q3,q4,q5,q6,q7,q8,q9⟩
 . exact Or.inl h
 . exact Or.inr ⟨b,off,cap,q1,q2,q3,q4,q5,q6,by omega,by omega,q9⟩
theorem Zae.setCell {lo:Nat}{w:World}{L:List Zy_} (h:Zae lo hi w v L) {p:Addr} (hp:p.block < lo) (u:Value):Zae lo hi (w.setCell p u) v L:=by
 rcases h with h | ⟨b,off,cap,h1,h2,h3,h4,h5,h6,h7,h8,h9⟩
 . exact Or.inl h
 . exact Or.inr ⟨b,off,cap,h1,h2,h3,by simpa [World.setCell] using h4,fun i hi'=>by rw [Zas _ _ _ _ (by show b≠p.block;omega)];exact h5 i hi',h6,h7,h8,fun i=>by rw [World.frozen?_setCell];exact h9 i⟩
section
variable (kind nm team:Zy_) (vv hv:Value) (en:Bool) (ver:Int) (V Ho:List Zy_) (w:World)
def Zep (lo:Nat) (w:World) (v h:Value) (V Ho:List Zy_):Prop:=
 ∃ mid,lo<=mid/\mid<=w.heap.size/\Zae lo mid w v V/\Zae mid w.heap.size w h Ho
theorem Zfa (hV:Zag w vv V) (hH:Zag w hv Ho) (n1:V.length<=1048576) (n2:Ho.length<=1048576) :
 Calls prog 163 #[.agg #[.string kind,.string nm,.string team,vv,.bool en,hv,.int .i64 ver]] w
  fun e w'=>∃ v' h',e=.returned (.agg #[.string kind,.string nm,.string team,v',.bool en,h',.int .i64 ver])/\Zw_ w w'/\Zep w.heap.size w' v' h' V Ho:=by
 have HV:=Zab hV;have HH:=Zab hH;obtain⟨a,n,cap,rfl⟩:=hV.form;obtain⟨a',n',cap',rfl⟩:=hH.form;clear hV hH;have HW:∀ o o',Hd (Zw_ w ((w.alloc o).alloc o')):=fun o o'=>(Zb_.alloc Zl_ _).alloc (by simp) _
 go_enter func163,ntmps163;go_wp2_with fail;refine (Zfv _ V _ (HV.o.below (HW _ _).o) n1).mono ?_;rintro e w1 ⟨v1,rfl,hb,hs⟩;obtain⟨a1,cap1,rfl⟩:=hs.form;have HS:Hd (Zae (w.heap.size+2) w1.heap.size w1 (.slice a1 V.length cap1) V):=hs.wide (by simp) Zl_;have hz:w.heap.size+1 < w1.heap.size:=by have:=hb.size;simp at this;omega
 obtain⟨hc,hf⟩:=ZfL hb;have HB:Hd (Zw_ w w1):=(HW _ _).o.trans (hb.mono (by simp;omega));clear hb hs;have hz0:w.heap.size < w1.heap.size:=by omega
 have g0:∀ i,w1.cell? ⟨w.heap.size,i,none⟩=(#[.string kind,.string nm,.string team,.slice a n cap,.bool en,.slice a' n' cap',.int .i64 ver]:Array Value)[i]?:=fun i=>by
  rw [hc _ _ (by simp;omega),((Below.refl (w.alloc (.cells #[.string kind,.string nm,.string team,.slice a n cap,.bool en,.slice a' n' cap',.int .i64 ver] 155)).heap.size _).alloc Zl_ _).cell (p:=⟨w.heap.size,i,none⟩) (by simp)];simp
 have g1:∀ i,w1.cell? ⟨w.heap.size+1,i,none⟩=(#[.string ⟨#[]⟩,.string ⟨#[]⟩,.string ⟨#[]⟩,.slice none 0 0,.bool false,.slice none 0 0,.int .i64 0]:Array Value)[i]?:=fun i=>by
  rw [hc _ _ (by simp)];simp
 go_wp2_with fail;have hX:Hd (Zw_ w (w1.setCell ⟨w.heap.size,3,none⟩ (.slice a1 V.length cap1))):=HB.o.setCell Zl_ _;have hXs:(w1.setCell ⟨w.heap.size,3,none⟩ (.slice a1 V.length cap1)).heap.size=w1.heap.size:=by simp [World.setCell]
 have HS':=Zab (HS.o.setCell (p:=⟨w.heap.size,3,none⟩) (by dsimp;omega) (.slice a1 V.length cap1));refine (Zfv _ Ho _ (HH.o.below hX.o) n2).mono ?_;rintro e w2 ⟨v2,rfl,hb2,hs2⟩;obtain⟨a2,cap2,rfl⟩:=hs2.form;have HS2:Hd (Zae (w.heap.size+2) w1.heap.size w2 (.slice a1 V.length cap1) V):=HS'.o.below hb2;have HH2:Hd (Zae w1.heap.size w2.heap.size w2 (.slice a2 Ho.length cap2) Ho):=by unfold Hd;rw [<- hXs];exact hs2
 have hz2:w.heap.size+1 < w2.heap.size:=by have:=hb2.size;rw [hXs] at this;omega
 have hz3:w1.heap.size<=w2.heap.size:=by have:=hb2.size;rw [hXs] at this;exact this
 have HB2:Hd (Zw_ w w2):=hX.o.trans (hb2.mono hX.o.size);have hc2:∀ b o,b < w1.heap.size->w2.cell? ⟨b,o,none⟩=(w1.setCell ⟨w.heap.size,3,none⟩ (.slice a1 V.length cap1)).cell? ⟨b,o,none⟩:=fun b o h=>hb2.cell (p:=⟨b,o,none⟩) (by rw [hXs];exact h)
 have hf2:∀ b o,b < w1.heap.size->w2.frozen? ⟨b,o,none⟩=(w1.setCell ⟨w.heap.size,3,none⟩ (.slice a1 V.length cap1)).frozen? ⟨b,o,none⟩:=fun b o h=>hb2.frozen (p:=⟨b,o,none⟩) (by rw [hXs];exact h)
 clear hb2 hs2 hXs;have k0:w2.cell? ⟨w.heap.size,0,none⟩=some (.string kind):=by rw [hc2 _ _ hz0];rw [show (w1.setCell ⟨w.heap.size,3,none⟩ (.slice a1 V.length cap1)).cell? ⟨w.heap.size,0,none⟩=w1.cell? ⟨w.heap.size,0,none⟩ from by apply World.cell?_setCell_other;simp,g0];rfl
 have k1:w2.cell? ⟨w.heap.size,1,none⟩=some (.string nm):=by rw [hc2 _ _ hz0];rw [show (w1.setCell ⟨w.heap.size,3,none⟩ (.slice a1 V.length cap1)).cell? ⟨w.heap.size,1,none⟩=w1.cell? ⟨w.heap.size,1,none⟩ from by apply World.cell?_setCell_other;simp,g0];rfl
 have k2:w2.cell? ⟨w.heap.size,2,none⟩=some (.string team):=by rw [hc2 _ _ hz0];rw [show (w1.setCell ⟨w.heap.size,3,none⟩ (.slice a1 V.length cap1)).cell? ⟨w.heap.size,2,none⟩=w1.cell? ⟨w.heap.size,2,none⟩ from by apply World.cell?_setCell_other;simp,g0];rfl
 have k3:w2.cell? ⟨w.heap.size,3,none⟩=some (.slice a1 V.length cap1):=by rw [hc2 _ _ hz0];exact World.cell?_setCell_same' _ _ _ (by rw [g0];rfl)
 have k4:w2.cell? ⟨w.heap.size,4,none⟩=some (.bool en):=by rw [hc2 _ _ hz0];rw [show (w1.setCell ⟨w.heap.size,3,none⟩ (.slice a1 V.length cap1)).cell? ⟨w.heap.size,4,none⟩=w1.cell? ⟨w.heap.size,4,none⟩ from by apply World.cell?_setCell_other;simp,g0];rfl
 have k5:w2.cell? ⟨w.heap.size,5,none⟩=some (.slice a' n' cap'):=by rw [hc2 _ _ hz0];rw [show (w1.setCell ⟨w.heap.size,3,none⟩ (.slice a1 V.length cap1)).cell? ⟨w.heap.size,5,none⟩=w1.cell? ⟨w.heap.size,5,none⟩ from by apply World.cell?_setCell_other;simp,g0];rfl
 have k6:w2.cell? ⟨w.heap.size,6,none⟩=some (.int .i64 ver):=by rw [hc2 _ _ hz0];rw [show (w1.setCell ⟨w.heap.size,3,none⟩ (.slice a1 V.length cap1)).cell? ⟨w.heap.size,6,none⟩=w1.cell? ⟨w.heap.size,6,none⟩ from by apply World.cell?_setCell_other;simp,g0];rfl
 have j0:w2.cell? ⟨w.heap.size+1,0,none⟩=some (.string ⟨#[]⟩):=by rw [hc2 _ _ hz,show (w1.setCell ⟨w.heap.size,3,none⟩ (.slice a1 V.length cap1)).cell? ⟨w.heap.size+1,0,none⟩=w1.cell? ⟨w.heap.size+1,0,none⟩ from by apply World.cell?_setCell_other;simp,g1];rfl
 have j1:w2.cell? ⟨w.heap.size+1,1,none⟩=some (.string ⟨#[]⟩):=by rw [hc2 _ _ hz,show (w1.setCell ⟨w.heap.size,3,none⟩ (.slice a1 V.length cap1)).cell? ⟨w.heap.size+1,1,none⟩=w1.cell? ⟨w.heap.size+1,1,none⟩ from by apply World.cell?_setCell_other;simp,g1];rfl
 have j2:w2.cell? ⟨w.heap.size+1,2,none⟩=some (.string ⟨#[]⟩):=by rw [hc2 _ _ hz,show (w1.setCell ⟨w.heap.size,3,none⟩ (.slice a1 V.length cap1)).cell? ⟨w.heap.size+1,2,none⟩=w1.cell? ⟨w.heap.size+1,2,none⟩ from by apply World.cell?_setCell_other;simp,g1];rfl
 have j3:w2.cell? ⟨w.heap.size+1,3,none⟩=some (.slice none 0 0):=by rw [hc2 _ _ hz,show (w1.setCell ⟨w.heap.size,3,none⟩ (.slice a1 V.length cap1)).cell? ⟨w.heap.size+1,3,none⟩=w1.cell? ⟨w.heap.size+1,3,none⟩ from by apply World.cell?_setCell_other;simp,g1];rfl
 have j4:w2.cell? ⟨w.heap.size+1,4,none⟩=some (.bool false):=by rw [hc2 _ _ hz,show (w1.setCell ⟨w.heap.size,3,none⟩ (.slice a1 V.length cap1)).cell? ⟨w.heap.size+1,4,none⟩=w1.cell? ⟨w.heap.size+1,4,none⟩ from by apply World.cell?_setCell_other;simp,g1];rfl
 have j5:w2.cell? ⟨w.heap.size+1,5,none⟩=some (.slice none 0 0):=by rw [hc2 _ _ hz,show (w1.setCell ⟨w.heap.size,3,none⟩ (.slice a1 V.length cap1)).cell? ⟨w.heap.size+1,5,none⟩=w1.cell? ⟨w.heap.size+1,5,none⟩ from by apply World.cell?_setCell_other;simp,g1];rfl
 have j6:w2.cell? ⟨w.heap.size+1,6,none⟩=some (.int .i64 0):=by rw [hc2 _ _ hz,show (w1.setCell ⟨w.heap.size,3,none⟩ (.slice a1 V.length cap1)).cell? ⟨w.heap.size+1,6,none⟩=w1.cell? ⟨w.heap.size+1,6,none⟩ from by apply World.cell?_setCell_other;simp,g1];rfl
 have fz0:∀ o,w2.frozen? ⟨w.heap.size,o,none⟩=false:=fun o=>by rw [hf2 _ _ hz0,World.frozen?_setCell,hf _ _ (by simp;omega)];simp
 have fz1:∀ o,w2.frozen? ⟨w.heap.size+1,o,none⟩=false:=fun o=>by rw [hf2 _ _ hz,World.frozen?_setCell,hf _ _ (by simp)];simp
 clear hc2 hf2 hc hf g0 g1;go_wp2;refine bodyPost_ret (v:=.agg #[.string kind,.string nm,.string team,.slice a1 V.length cap1,.bool en,.slice a2 Ho.length cap2,.int .i64 ver]) (by simp [results,results163,go_sem,j0,j1,j2,j3,j4,j5,j6]) rfl ⟨_,_,rfl,?_,w1.heap.size,by omega,by simp only [World.setCell,Array.size_modify];exact hz3,?_,?_⟩
 . repeat (refine Below.setCell ?_ (by dsimp;omega) _)
   exact HB2.o
 . refine Zae.wide (lo:=w.heap.size+2) (hi:=w1.heap.size) ?_ (by omega) Zl_
   repeat (refine Zae.setCell ?_ (by dsimp;omega) _)
   exact HS2.o
 . refine Zae.wide (lo:=w1.heap.size) (hi:=w2.heap.size) ?_ Zl_ (by simp [World.setCell])
   repeat (refine Zae.setCell ?_ (by dsimp;omega) _)
   exact HH2.o
end
structure Ztc (w:World) (b o:Nat) (wv:Value):Prop where
 lt:b < w.heap.size
 c0:(w.cell? ⟨b,o,none⟩).isSome=true
 cj:∀ j,j < 11->(w.cell? ⟨b,o+j,none⟩).isSome=true
 four:w.cell? ⟨b,o+4,none⟩=some wv
 fr:∀ i,w.frozen? ⟨b,i,none⟩=false
def Zq2 (hi b off n:Nat) (w:World):Prop:=∀ i,i < n->∃ wv m,Ztc w b (off+i*11) wv/\Zjl (b+1) hi w wv m/\m<=1048576
structure Mk (lo hi b off n:Nat) (w W:World):Prop where
 kept:ZbU lo hi w W
 inv:Zq2 hi b off n W
theorem Mk.setp {lo:Nat}{w:World} (h:Mk lo hi b off n w W) (hl:lo<=b) (hh:b < hi) (o:Nat) (ho:(W.cell? ⟨b,o,none⟩).isSome=true) (h4:∀ i,o≠off+i*11+4) (u:Value):Mk lo hi b off n w (W.setCell ⟨b,o,none⟩ u):=by
 have hk:=ZbU.setCell lo hi W ⟨b,o,none⟩ u ⟨hl,hh⟩ ho;refine⟨h.kept.trans hk,fun i hi'=>?_⟩;obtain⟨wv,m,hs,hw,hm⟩:=h.inv i hi';refine⟨wv,m,⟨Zk_ hs.lt hk.touch.size,hk.there _ hs.lt hs.c0,fun j hj=>hk.there _ hs.lt (hs.cj j hj),?_,fun i=>(hk.frz _ hs.lt).trans (hs.fr i)⟩,hw.kept hk,hm⟩;rw [show (W.setCell ⟨b,o,none⟩ u).cell? ⟨b,off+i*11+4,none⟩=W.cell? ⟨b,off+i*11+4,none⟩ from by apply World.cell?_setCell_other;simp only [ne_eq,Addr.mk.injEq,not_and];intro _ e;exact absurd e (h4 i)];exact hs.four
theorem Mk.set {lo:Nat}{w:World} (h:Mk lo hi b off n w W) (hl:lo<=b) (hh:b < hi) (j c:Nat) (hj:j < n) (hc:c < 11) (h4:c≠4) (u:Value):Mk lo hi b off n w (W.setCell ⟨b,off+j*11+c,none⟩ u):=by
 obtain⟨wv,m,hs,_,_⟩:=h.inv j hj;exact h.setp hl hh _ (hs.cj c hc) (fun i=>by omega) u
theorem Mk.set0 {lo:Nat}{w:World} (h:Mk lo hi b off n w W) (hl:lo<=b) (hh:b < hi) (j:Nat) (hj:j < n) (u:Value):Mk lo hi b off n w (W.setCell ⟨b,off+j*11,none⟩ u):=by
 obtain⟨wv,m,hs,_,_⟩:=h.inv j hj;exact h.setp hl hh _ hs.c0 (fun i=>by omega) u
theorem Mk.words {lo:Nat}{w:World} (h:Mk lo hi b off n w W) (hl:lo<=b) (k:ZbU (b+1) hi W W'):Mk lo hi b off n w W':=by
 refine⟨h.kept.trans (k.wide (by omega) Zl_),fun i hi'=>?_⟩;obtain⟨wv,m,hs,hw,hm⟩:=h.inv i hi';exact⟨wv,m,⟨Zk_ hs.lt k.touch.size,k.there _ hs.lt hs.c0,fun j hj=>k.there _ hs.lt (hs.cj j hj),by rw [k.touch.cell (p:=⟨b,_,none⟩) hs.lt (Or.inl (by simp))];exact hs.four,fun i=>(k.frz _ hs.lt).trans (hs.fr i)⟩,hw.kept k,hm⟩
theorem Mk.below {lo:Nat}{w:World} (h:Mk lo hi b off n w W) (hl:lo<=b) (k:Below W.heap.size W W'):Mk lo hi b off n w W':=h.words hl (ZbU.below k)
def ZhA (lo hi:Nat) (w:World) (v:Value) (n:Nat):Prop:=
 (∃ (a:Option Addr) (cap:Nat),v=.slice a 0 cap/\n=0)\/
 ∃ (b off cap:Nat),v=.slice (some ⟨b,off,none⟩) n cap/\0 < n/\n<=maxLen/\lo<=b/\b < hi/\Zq2 hi b off n w
theorem Zai (w:World) (b o o':Nat) (u:Value) (h:o≠o'):(w.setCell ⟨b,o,none⟩ u).cell? ⟨b,o',none⟩=w.cell? ⟨b,o',none⟩:=by
 rw [Zdd _ _ _ _ (by simp only [ne_eq,Addr.mk.injEq,not_and];intro _ e;exact absurd e h)]
theorem ZkQ (lo hi:Nat) (v:Value) (n:Nat) (k:Int) (w:World) (hv:ZhA lo hi w v n) (h0:0<=k) (hn:n<=1048576) (hk:k+n*1048586<=3000000000000000000) :
 Calls prog 122 #[v,.int .i64 k] w fun e w'=>∃ r:Int,e=.returned (.int .i64 r)/\k<=r/\r<=k+n*1048586/\ZbU lo hi w w':=by
 rcases hv with ⟨a,cap,rfl,rfl⟩ | ⟨b,off,cap,rfl,hne,hm,hlo,hhi,hinv⟩
 . go_enter func122,ntmps122
   go_wp2
   go_loop [5,1] (fun i q=>i=.int .i64 0/\q=.int .i64 k) (fun _ _=>0)
   case atStart=>exact⟨rfl,rfl⟩
   case round=>
    obtain⟨rfl,rfl⟩:=hrel;go_wp2;go_ret;exact⟨k,rfl,by omega,by omega,ZbU.refl _ _ _⟩
 . unfold maxLen at hm
   have HI:Hd (Mk lo hi b off n w w):=⟨ZbU.refl _ _ _,hinv⟩;clear hinv;go_enter func122,ntmps122;go_wp2
   go_loopw [5,1] (fun i q wr=>∃ (j:Nat) (r:Int),i=.int .i64 j/\q=.int .i64 r/\k<=r/\r<=k+j*1048586/\j<=n/\Mk lo hi b off n w wr) (fun i _ _=>n - (intOf i).toNat)
   case atStart=>exact⟨0,k,rfl,rfl,by omega,by omega,by omega,HI.o⟩
   case round=>
    obtain⟨j,r,rfl,rfl,hr0,hr1,hj,hmk⟩:=hrel;have HM:=Zab hmk;clear hmk HI
    by_cases hlt:j < n
    . go_wp2_with fail
      refine (Zah _ _ (by omega)).mono ?_;rintro e w1 ⟨rfl,hb1⟩;have HM1:=Zab (HM.o.below hlo hb1);clear hb1 HM;obtain⟨wv,m,hs,hw,hmm⟩:=HM1.o.inv j hlt;obtain⟨a4,cap4,rfl⟩:=hw.form;obtain⟨u0,g0⟩:=Option.isSome_iff_exists.1 hs.c0;obtain⟨u1,g1⟩:=Option.isSome_iff_exists.1 (hs.cj 1 (by omega));obtain⟨u2,g2⟩:=Option.isSome_iff_exists.1 (hs.cj 2 (by omega));obtain⟨u3,g3⟩:=Option.isSome_iff_exists.1 (hs.cj 3 (by omega));have g4:=hs.four;have gf:=hs.fr;have HW:=Zab hw;clear hs hw;go_wp2_with fail;have HX:=Zab ((((HM1.o.set0 hlo hhi j hlt (.string (mtB r))).set hlo hhi j 1 hlt (by omega) (by omega) (.int .i64 (r+1))).set hlo hhi j 2 hlt (by omega) (by omega) (.int .i64 (r+1+1))).set hlo hhi j 3 hlt (by omega) (by omega) (.int .i64 (r+1+1+1)))
      have HK:=Zab (((((ZbU.refl lo hi w1).trans (ZbU.setCell lo hi _ ⟨b,off+j*11,none⟩ (.string (mtB r)) ⟨hlo,hhi⟩ (by rw [g0];rfl))).trans (ZbU.setCell lo hi _ ⟨b,off+j*11+1,none⟩ (.int .i64 (r+1)) ⟨hlo,hhi⟩ (by rw [Zai _ _ _ _ _ (by omega),g1];rfl))).trans (ZbU.setCell lo hi _ ⟨b,off+j*11+2,none⟩ (.int .i64 (r+1+1)) ⟨hlo,hhi⟩ (by rw [Zai _ _ _ _ _ (by omega),Zai _ _ _ _ _ (by omega),g2];rfl))).trans (ZbU.setCell lo hi _ ⟨b,off+j*11+3,none⟩ (.int .i64 (r+1+1+1)) ⟨hlo,hhi⟩ (by rw [Zai _ _ _ _ _ (by omega),Zai _ _ _ _ _ (by omega),Zai _ _ _ _ _ (by omega),g3];rfl)));refine (Zi3 (b+1) hi _ m _ _ (HW.o.kept HK.o) (by omega) (by omega)).mono ?_;rintro e w2 ⟨rfl,hk2⟩;have HM2:=Zab (HX.o.words hlo hk2);clear hk2 HX HK HW HM1 g0 g1 g2 g3 g4 gf u0 u1 u2 u3;go_wp2_with fail
      refine (Zah _ _ (by omega)).mono ?_;rintro e w3 ⟨rfl,hb3⟩;have HM3:=Zab (HM2.o.below hlo hb3);clear hb3 HM2;obtain⟨wv',m',hs,_,_⟩:=HM3.o.inv j hlt;obtain⟨u5,g5⟩:=Option.isSome_iff_exists.1 (hs.cj 5 (by omega));obtain⟨u6,g6⟩:=Option.isSome_iff_exists.1 (hs.cj 6 (by omega));obtain⟨u7,g7⟩:=Option.isSome_iff_exists.1 (hs.cj 7 (by omega));obtain⟨u8,g8⟩:=Option.isSome_iff_exists.1 (hs.cj 8 (by omega));have gf:=hs.fr;clear hs;go_wp2_with fail;refine (Zah _ _ (by omega)).mono ?_;rintro e w4 ⟨rfl,hb4⟩;have HM4:=Zab (((((HM3.o.set hlo hhi j 5 hlt (by omega) (by omega) _).set hlo hhi j 6 hlt (by omega) (by omega) _).set hlo hhi j 7 hlt (by omega) (by omega) _).set hlo hhi j 8 hlt (by omega) (by omega) _).below hlo hb4);clear hb4 HM3 g5 g6 g7 g8 gf u5 u6 u7 u8;obtain⟨wv5,m5,hs,_,_⟩:=HM4.o.inv j hlt
      obtain⟨u9,g9⟩:=Option.isSome_iff_exists.1 (hs.cj 9 (by omega));have gf:=hs.fr;clear hs;go_wp2_with fail;refine (Zah _ _ (by omega)).mono ?_;rintro e w5 ⟨rfl,hb5⟩;have HM5:=Zab ((HM4.o.set hlo hhi j 9 hlt (by omega) (by omega) _).below hlo hb5);clear hb5 HM4 g9 gf u9;obtain⟨wv6,m6,hs,_,_⟩:=HM5.o.inv j hlt;obtain⟨u10,g10⟩:=Option.isSome_iff_exists.1 (hs.cj 10 (by omega));have gf:=hs.fr;clear hs;go_wp2;go_roundw
      . 
       exact⟨j+1,_,by go_num,rfl,by omega,by omega,by omega,HM5.o.set hlo hhi j 10 hlt (by omega) (by omega) _⟩
      . simp [intOf];omega
    . have e:j=n:=by omega
      subst e;go_wp2;go_ret;exact⟨r,rfl,by omega,by omega,HM.o.kept⟩
theorem ZhA.kept {lo:Nat}{w:World} (h:ZhA lo hi w v n) (k:ZbU lo' hi' w w') (ho:hi<=lo'\/hi'<=lo):ZhA lo hi w' v n:=by
 rcases h with h | ⟨b,off,cap,h1,h2,h3,h4,h5,h6⟩
 . exact Or.inl h
 . refine Or.inr ⟨b,off,cap,h1,h2,h3,h4,h5,fun i hi'=>?_⟩
   obtain⟨wv,m,hs,hw,hm⟩:=h6 i hi';exact⟨wv,m,⟨Zk_ hs.lt k.touch.size,k.there _ hs.lt hs.c0,fun j hj=>k.there _ hs.lt (hs.cj j hj),by rw [k.touch.cell (p:=⟨b,_,none⟩) hs.lt (by dsimp;omega)];exact hs.four,fun i=>(k.frz _ hs.lt).trans (hs.fr i)⟩,hw.kept k,hm⟩
theorem ZhA.form {lo:Nat}{w:World} (h:ZhA lo hi w v n):∃ a cap,v=.slice a n cap:=by
 rcases h with ⟨a,cap,h,rfl⟩ | ⟨b,off,cap,h,_⟩
 . exact⟨a,cap,h⟩
 . exact⟨_,cap,h⟩
structure Zri (w:World) (b o:Nat) (fv:Value):Prop where
 lt:b < w.heap.size
 c0:(w.cell? ⟨b,o,none⟩).isSome=true
 one:w.cell? ⟨b,o+1,none⟩=some fv
 fr:∀ i,w.frozen? ⟨b,i,none⟩=false
def Zed (b off n:Nat) (m:Nat->Nat) (j:Nat) (w:World):Prop:=∀ i,i < n->j<=i->∃ fv nf,Zri w b (off+i*2) fv/\ZhA (m i) (m (i+1)) w fv nf/\nf<=1048576
theorem Zed.kept {m:Nat->Nat}{j':Nat}{w:World} (h:Zed b off n m j w) (k:ZbU lo' hi' w w') (hm:∀ i j,i<=j->m i<=m j) (hjj:j<=j') (hb:b < lo') (hh:hi'<=m j'):Zed b off n m j' w':=by
 intro i hi hj;obtain⟨fv,nf,hs,hf,hn⟩:=h i hi (by omega);refine⟨fv,nf,⟨Zk_ hs.lt k.touch.size,k.there _ hs.lt hs.c0,by rw [k.touch.cell (p:=⟨b,_,none⟩) hs.lt (Or.inl hb)];exact hs.one,fun i=>(k.frz _ hs.lt).trans (hs.fr i)⟩,hf.kept k (Or.inr ?_),hn⟩;have:=hm j' i hj
 omega
theorem Zed.below {m:Nat->Nat}{w:World} (h:Zed b off n m j w) (hb:Zw_ w w'):Zed b off n m j w':=by
 intro i hi hj;obtain⟨fv,nf,hs,hf,hn⟩:=h i hi hj;have k:ZbU (m (i+1)) (m (i+1)) w w':=ZbU.below hb;exact⟨fv,nf,⟨Zk_ hs.lt hb.size,k.there _ hs.lt hs.c0,by rw [hb.cell (p:=⟨b,_,none⟩) hs.lt];exact hs.one,fun i=>(k.frz _ hs.lt).trans (hs.fr i)⟩,hf.kept k (Or.inl Zl_),hn⟩
theorem Zed.set {m:Nat->Nat}{w:World} (h:Zed b off n m j w) (hb:b < m 0) (hm:∀ i j,i<=j->m i<=m j) (l:Nat) (hl:l < n) (hlj:j<=l) (u:Value):Zed b off n m j (w.setCell ⟨b,off+l*2,none⟩ u)/\∀ lo hi,lo<=b->b < hi->ZbU lo hi w (w.setCell ⟨b,off+l*2,none⟩ u):=by
 obtain⟨_,_,hs0,_,_⟩:=h l hl hlj;have hk:=fun lo hi (h1:lo<=b) (h2:b < hi)=>ZbU.setCell lo hi w ⟨b,off+l*2,none⟩ u ⟨h1,h2⟩ hs0.c0
 refine⟨fun i hi hj=>?_,hk⟩;obtain⟨fv,nf,hs,hf,hn⟩:=h i hi hj;have k:=hk b (b+1) Zl_ (by omega);refine⟨fv,nf,⟨Zk_ hs.lt k.touch.size,k.there _ hs.lt hs.c0,by rw [Zai _ _ _ _ _ (by omega)];exact hs.one,fun i=>(k.frz _ hs.lt).trans (hs.fr i)⟩,hf.kept k (Or.inr ?_),hn⟩;have:=hm 0 i (by omega)
 omega
def ZpZ (lo hi:Nat) (w:World) (v:Value) (n:Nat):Prop:=
 (∃ (a:Option Addr) (cap:Nat),v=.slice a 0 cap/\n=0)\/
 ∃ (b off cap:Nat) (m:Nat->Nat),v=.slice (some ⟨b,off,none⟩) n cap/\0 < n/\n<=maxLen/\lo<=b/\b < hi/\b < m 0/\(∀ i j,i<=j->m i<=m j)/\m n<=hi/\Zed b off n m 0 w
theorem Zk3 (lo hi:Nat) (v:Value) (n:Nat) (k:Int) (w:World) (hv:ZpZ lo hi w v n) (h0:0<=k) (hn:n<=1048576) (hk:k<=1000) :
 Calls prog 58 #[v,.int .i64 k] w fun e w'=>∃ r:Int,e=.returned (.int .i64 r)/\k<=r/\r<=1500000000000000000/\ZbU lo hi w w':=by
 rcases hv with ⟨a,cap,rfl,rfl⟩ | ⟨b,off,cap,m,rfl,hne,hm,hlo,hhi,hb0,hmono,hmn,hinv⟩
 . go_enter func58,ntmps58
   go_wp2
   go_loop [5,1] (fun i q=>i=.int .i64 0/\q=.int .i64 k) (fun _ _=>0)
   case atStart=>exact⟨rfl,rfl⟩
   case round=>
    obtain⟨rfl,rfl⟩:=hrel;go_wp2;go_ret;exact⟨k,rfl,by omega,by omega,ZbU.refl _ _ _⟩
 . unfold maxLen at hm
   have HI:Hd (Zed b off n m 0 w):=hinv;have HMO:=Zab hmono;clear hinv hmono;go_enter func58,ntmps58;go_wp2
   go_loopw [5,1] (fun i q wr=>∃ (j:Nat) (r:Int),i=.int .i64 j/\q=.int .i64 r/\k<=r/\r<=k+j*1099522113537/\j<=n/\ZbU lo hi w wr/\Zed b off n m j wr) (fun i _ _=>n - (intOf i).toNat)
   case atStart=>exact⟨0,k,rfl,rfl,by omega,by omega,by omega,ZbU.refl _ _ _,HI.o⟩
   case round=>
    obtain⟨j,r,rfl,rfl,hr0,hr1,hj,hkp,hsi⟩:=hrel;have HK:=Zab hkp;have HS:=Zab hsi;clear hkp hsi HI
    by_cases hlt:j < n
    . go_wp2_with fail
      refine (Zah _ _ (by omega)).mono ?_;rintro e w1 ⟨rfl,hb1⟩;have HK1:=Zab (HK.o.trans (ZbU.below hb1));have HS1:=Zab (HS.o.below hb1);clear hb1 HK HS;obtain⟨hset,hkset⟩:=HS1.o.set hb0 HMO.o j hlt Zl_ (.string (mtB r));have HSS:=Zab hset;have HKS:=Zab (HK1.o.trans (hkset lo hi hlo hhi));clear hset hkset;obtain⟨fv,nf,hs,hf,hnf⟩:=HS1.o j hlt Zl_;obtain⟨fv',nf',hs',hf',hnf'⟩:=HSS.o j hlt Zl_;obtain⟨u0,g0⟩:=Option.isSome_iff_exists.1 hs.c0;have g1:=hs.one;have gf:=hs.fr
      have efv:fv'=fv:=by
       have:=hs'.one;rw [Zai _ _ _ _ _ (by omega),g1] at this;exact (Option.some.inj this).symm
      subst efv;obtain⟨a4,cap4,rfl⟩:=hf'.form;have HF:=Zab hf';clear hs hs' hf hf' HK1;go_wp2_with fail;refine (ZkQ (m j) (m (j+1)) _ nf' _ _ HF.o (by omega) (by omega) (by omega)).mono ?_;rintro e w2 ⟨r2,rfl,hr2,hr3,hk2⟩;have h1:=HMO.o 0 j (by omega);have h2:=HMO.o (j+1) n (by omega);have HK2:=Zab (HKS.o.trans (hk2.wide (by omega) (by omega)));have HS2:=Zab (HSS.o.kept hk2 HMO.o (j':=j+1) (by omega) (by omega) Zl_);clear hk2 HKS HSS HS1 HF g0 g1 gf u0;go_wp2;go_roundw
      . 
       exact⟨j+1,_,by go_num,rfl,by omega,by omega,by omega,HK2.o,HS2.o⟩
      . simp [intOf];omega
    . have e:j=n:=by omega
      subst e;go_wp2;go_ret;exact⟨r,rfl,by omega,by omega,HK.o⟩
theorem Zcg.own {L:List Zy_} (h:Zcg wr B L k) (hk:L.length<=k) (hne:L≠[]) (hm:L.length<=maxLen) (hs:∀ s ∈ L,s.size<=maxLen):Zae B wr.heap.size wr (.slice (some ⟨B,0,none⟩) L.length L.length) L:=by
 refine Or.inr ⟨B,0,L.length,rfl,hne,hm,World.rowIs.lt h,fun i hi=>?_,hs,Nat.le_refl _,World.rowIs.lt h,fun i=>World.rowIs.frozen h _⟩;rw [Nat.zero_add,World.rowIs.cell h hi];unfold ZqH;rw [if_pos (by omega),List.getD_eq_getElem?_getD,List.getElem?_eq_getElem hi];rfl
theorem Zfb (v:Value) (L:List Zy_) (w:World) (hv:Zag w v L) (hn:L.length<=1048576) :
 Calls prog 142 #[v] w fun e w'=>∃ v',e=.returned v'/\Zw_ w w'/\Zae w.heap.size w'.heap.size w' v' L:=by
 rcases hv with ⟨a,cap,rfl,rfl⟩ | ⟨b,off,cap,rfl,hne,hm,hbw,hc,hsz⟩
 . have hmk:∀ u:World,(Instr.makeSlice 59 (.int .i64 0) (.int .i64 0)).run prog u=.ok (.slice (some ⟨u.heap.size,0,none⟩) 0 0) (u.alloc (.cells (madeCells #[.string ⟨#[]⟩] 0) 9)):=
    fun u=>run_make_row' 59 9 (.string ⟨#[]⟩) 16 underlying59 Tryz.info9 rfl .i64 .i64 0 (by omega) (by omega) u
   go_enter func142,ntmps142;go_wp2
   go_loop [4] (fun i=>i=.int .i64 0) (fun _=>0)
   case atStart=>rfl
   case round=>
    subst hrel;go_wp2;go_ret;exact⟨_,rfl,Zb_.alloc Zl_ _,Or.inl ⟨_,_,rfl,rfl⟩⟩
 . have HM:Hd (L.length<=maxLen):=hm
   unfold maxLen at hm
   have hmk:∀ u:World,(Instr.makeSlice 59 (.int .i64 (L.length:Int)) (.int .i64 (L.length:Int))).run prog u=.ok (.slice (some ⟨u.heap.size,0,none⟩) L.length L.length) (u.alloc (.cells (madeCells #[.string ⟨#[]⟩] L.length) 9)):=
    fun u=>run_make_row' 59 9 (.string ⟨#[]⟩) 16 underlying59 Tryz.info9 rfl .i64 .i64 L.length (by omega) (by omega) u
   go_enter func142,ntmps142;go_wp2;clear hmk
   go_loopw [4] (fun i wr=>∃ k:Nat,i=.int .i64 k/\k<=L.length/\Zw_ w wr/\Zcg wr w.heap.size L k) (fun i _=>L.length - (intOf i).toNat)
   case atStart=>exact⟨0,rfl,by omega,Zb_.alloc Zl_ _,World.rowIs_made w (.string ⟨#[]⟩) L.length 9⟩
   case round=>
    obtain⟨k,rfl,hk,hb,hf⟩:=hrel
    by_cases hlt:k < L.length
    . have hck:wr.cell? ⟨b,off+k,none⟩=some (.string L[k]):=by rw [hb.cell (p:=⟨b,off+k,none⟩) hbw];exact hc k hlt
      obtain⟨old,hold⟩:=hf.old hlt;have hfz:=hf.frozen k;go_wp2;go_roundw
      . exact⟨k+1,by go_num,by omega,hb.setCell Zl_ _,hf.step hlt⟩
      . simp [intOf];omega
    . go_wp2
      go_ret;exact⟨_,rfl,hb,hf.own (by omega) hne HM.o hsz⟩
theorem Zj2 (nm tz df we:Zy_) (kd le mo ro:Int) (mu fx:Bool) (wv:Value) (L:List Zy_) (w:World) (hv:Zag w wv L) (hn:L.length<=1048576) :
 Calls prog 202 #[.agg #[.string nm,.int .i64 kd,.int .i64 le,.int .i64 mo,wv,.string tz,.int .i64 ro,.bool mu,.bool fx,.string df,.string we]] w
  fun e w'=>∃ wv',e=.returned (.agg #[.string nm,.int .i64 kd,.int .i64 le,.int .i64 mo,wv',.string tz,.int .i64 ro,.bool mu,.bool fx,.string df,.string we])/\Zw_ w w'/\Zae w.heap.size w'.heap.size w' wv' L:=by
 have HV:Hd (Zag w wv L):=hv;obtain⟨a,n,cap,rfl⟩:=hv.form;clear hv;go_enter func202,ntmps202;go_wp2_with fail;refine (Zfb _ L _ (HV.o.below ?_) hn).mono ?_
 . exact ((Zb_.alloc Zl_ _).alloc (by simp) _).alloc (by simp;omega) _
 rintro e w1 ⟨wv',rfl,hb,hs⟩;obtain⟨a',cap',rfl⟩:=hs.form;have HS:Hd (Zae (w.heap.size+3) w1.heap.size w1 (.slice a' L.length cap') L):=hs.wide (by simp) Zl_;clear hs;have hz:w.heap.size+2 < w1.heap.size:=by have:=hb.size;simp at this;omega
 obtain⟨hc,hf⟩:=ZfL hb;have HB:Hd (Zw_ w w1):=(((Zb_.alloc Zl_ _).alloc (by simp) _).alloc (by simp;omega) _).trans (hb.mono (by simp;omega));clear hb;go_wp2;refine bodyPost_ret (v:=.agg #[.string nm,.int .i64 kd,.int .i64 le,.int .i64 mo,.slice a' L.length cap',.string tz,.int .i64 ro,.bool mu,.bool fx,.string df,.string we]) (by simp [results,results202,go_sem,hc]) rfl ⟨_,rfl,?_,?_⟩
 . repeat (refine Below.setCell ?_ (by dsimp;omega) _)
   exact HB.o
 . refine Zae.wide (lo:=w.heap.size+3) (hi:=w1.heap.size) ?_ (by omega) (by simp [World.setCell])
   repeat (refine Zae.setCell ?_ (by dsimp;omega) _)
   exact HS.o
theorem Zjl.setCell {lo:Nat}{w:World} (h:Zjl lo hi w v n) {p:Addr} (hp:p.block < lo) (u:Value):Zjl lo hi (w.setCell p u) v n:=by
 rcases h with h | ⟨b,off,cap,h1,h2,h3,h4,h5,h6,h7,h8⟩
 . exact Or.inl h
 . exact Or.inr ⟨b,off,cap,h1,h2,h3,by simpa [World.setCell] using h4,fun i hi'=>by rw [Zas _ _ _ _ (by show b≠p.block;omega)];exact h5 i hi',h6,h7,fun i=>by rw [World.frozen?_setCell];exact h8 i⟩
def Zfs (wr:World) (B:Nat) (Fs:List Fd) (k:Nat):Prop:=
 ∀ i (h:i < Fs.length),i < k->∃ wv,wr.cell? ⟨B,i*11+4,none⟩=some wv/\Zjl (B+1) wr.heap.size wr wv Fs[i].words.length
theorem Zfs.below {Fs:List Fd} (h:Zfs wr B Fs k) (hb:Below wr.heap.size wr w1) (hB:B < wr.heap.size):Zfs w1 B Fs k:=fun i hi hik=>by
 obtain⟨wv,h1,h2⟩:=h i hi hik;exact⟨wv,by rw [hb.cell (p:=⟨B,_,none⟩) hB];exact h1,(h2.kept (ZbU.below (lo:=0) (hi:=0) hb)).wide Zl_ hb.size⟩
theorem Zfs.step {Fs:List Fd}{wv v3 v5 v6 v7 v8 v9 v10 o4:Value} (h:Zfs w1 B Fs k) (hk:k < Fs.length) (ho:w1.cell? ⟨B,k*11+4,none⟩=some o4) (hs:Zjl (B+1) w1.heap.size w1 wv Fs[k].words.length) :
 Zfs (((((((((((w1.setCell ⟨B,k*11,none⟩ v0).setCell ⟨B,k*11+1,none⟩ v1).setCell ⟨B,k*11+2,none⟩ v2).setCell ⟨B,k*11+3,none⟩ v3).setCell ⟨B,k*11+4,none⟩ wv).setCell ⟨B,k*11+5,none⟩ v5).setCell ⟨B,k*11+6,none⟩ v6).setCell ⟨B,k*11+7,none⟩ v7).setCell ⟨B,k*11+8,none⟩ v8).setCell ⟨B,k*11+9,none⟩ v9).setCell ⟨B,k*11+10,none⟩ v10) B Fs (k+1):=by
 have hz:(((((((((((w1.setCell ⟨B,k*11,none⟩ v0).setCell ⟨B,k*11+1,none⟩ v1).setCell ⟨B,k*11+2,none⟩ v2).setCell ⟨B,k*11+3,none⟩ v3).setCell ⟨B,k*11+4,none⟩ wv).setCell ⟨B,k*11+5,none⟩ v5).setCell ⟨B,k*11+6,none⟩ v6).setCell ⟨B,k*11+7,none⟩ v7).setCell ⟨B,k*11+8,none⟩ v8).setCell ⟨B,k*11+9,none⟩ v9).setCell ⟨B,k*11+10,none⟩ v10).heap.size=w1.heap.size:=by simp [World.setCell]
 intro i hi hik
 by_cases e:i=k
 . subst e
   refine⟨wv,?_,?_⟩
   . rw [Zai _ _ _ _ _ (by omega),Zai _ _ _ _ _ (by omega),Zai _ _ _ _ _ (by omega),Zai _ _ _ _ _ (by omega),Zai _ _ _ _ _ (by omega),Zai _ _ _ _ _ (by omega),Zcm _ _ _ _ (by rw [Zai _ _ _ _ _ (by omega),Zai _ _ _ _ _ (by omega),Zai _ _ _ _ _ (by omega),Zai _ _ _ _ _ (by omega)];exact ho)]
   . rw [hz]
     repeat (refine Zjl.setCell ?_ (by dsimp;omega) _)
     exact hs
 . obtain⟨wv',h1,h2⟩:=h i hi (by omega)
   refine⟨wv',?_,?_⟩
   . rw [Zai _ _ _ _ _ (by omega),Zai _ _ _ _ _ (by omega),Zai _ _ _ _ _ (by omega),Zai _ _ _ _ _ (by omega),Zai _ _ _ _ _ (by omega),Zai _ _ _ _ _ (by omega),Zai _ _ _ _ _ (by omega),Zai _ _ _ _ _ (by omega),Zai _ _ _ _ _ (by omega),Zai _ _ _ _ _ (by omega),Zai _ _ _ _ _ (by omega)];exact h1
   . rw [hz]
     repeat (refine Zjl.setCell ?_ (by dsimp;omega) _)
     exact h2
theorem Zfs.done {Fs:List Fd} (h:Zfs wr B Fs k) (hf:Zbo wr B Fs k) (hk:Fs.length<=k) (hne:Fs≠[]) (hm:Fs.length<=maxLen) (hn:Zdv Fs):ZhA B wr.heap.size wr (.slice (some ⟨B,0,none⟩) Fs.length Fs.length) Fs.length:=by
 refine Or.inr ⟨B,0,Fs.length,rfl,List.length_pos_iff.2 hne,hm,Nat.le_refl _,hf.lt,fun i hi=>?_⟩;obtain⟨wv,h1,h2⟩:=h i hi (by omega);refine⟨wv,_,⟨hf.lt,?_,fun j hj=>?_,by rw [Nat.zero_add];exact h1,hf.free⟩,h2,hn.2 i hi⟩
 . obtain⟨v,hv⟩:=hf.there (i*11) (by omega);rw [Nat.zero_add,hv];rfl
 . obtain⟨v,hv⟩:=hf.there (i*11+j) (by omega);rw [Nat.zero_add,hv];rfl
theorem Zae.in {lo:Nat}{w:World}{L:List Zy_} (h:Zae lo hi w v L):Zaq lo w v L:=by
 rcases h with h | ⟨b,off,cap,h1,h2,h3,h4,h5,h6,h7,_⟩
 . exact Or.inl h
 . exact Or.inr ⟨b,off,cap,h1,h2,h3,h4,h5,h6,h7⟩
theorem ZmI (lo:Nat) (v:Value) (Fs:List Fd) (w:World) (hv:Zav lo w v Fs) (hn:Zdv Fs) :
 Calls prog 160 #[v] w fun e w'=>∃ v',e=.returned v'/\Zw_ w w'/\Zav w.heap.size w' v' Fs/\ZhA w.heap.size w'.heap.size w' v' Fs.length:=by
 obtain⟨i0,hi,hz0,hz1,hz2⟩:=info_parts Tryz.info218
 by_cases hL:Fs=[]
 . subst hL
   obtain⟨a,cap,rfl⟩:=Zdt hv;clear hv
   have hmk:∀ u:World,(Instr.makeSlice 162 (.int .i64 0) (.int .i64 0)).run prog u=.ok (.slice (some ⟨u.heap.size,0,none⟩) 0 0) (u.alloc (.cells (madeCells (Value.cells (.agg #[.string ⟨#[]⟩,.int .i64 0,.int .i64 0,.int .i64 0,.slice none 0 0,.string ⟨#[]⟩,.int .i64 0,.bool false,.bool false,.string ⟨#[]⟩,.string ⟨#[]⟩])) 0) 218)):=fun u=>by
    have h:=run_make (P:=prog) u 162 218 i0 _ underlying162 hi hz0 .i64 .i64 0 0 (by omega) (by omega) (by omega) (by omega)
    simpa [hz1] using h
   go_enter func160,ntmps160;go_wp2
   go_loop [4] (fun i=>i=.int .i64 0) (fun _=>0)
   case atStart=>rfl
   case round=>
    subst hrel;go_wp2;go_ret;exact⟨_,rfl,Zb_.alloc Zl_ _,Or.inl ⟨_,_,rfl,rfl⟩,Or.inl ⟨_,_,rfl,rfl⟩⟩
 . obtain⟨b,off,cap,rfl,hm,hbw,_,hc⟩:=hv.full hL
   clear hv;have HN:=Zab hn;obtain⟨hn1,hn2⟩:=hn;have HM:Hd (Fs.length<=maxLen):=hm;unfold maxLen at hm
   have hmk:∀ u:World,(Instr.makeSlice 162 (.int .i64 (Fs.length:Int)) (.int .i64 (Fs.length:Int))).run prog u=.ok (.slice (some ⟨u.heap.size,0,none⟩) Fs.length Fs.length) (u.alloc (.cells (madeCells (Value.cells (.agg #[.string ⟨#[]⟩,.int .i64 0,.int .i64 0,.int .i64 0,.slice none 0 0,.string ⟨#[]⟩,.int .i64 0,.bool false,.bool false,.string ⟨#[]⟩,.string ⟨#[]⟩])) (Fs.length*11)) 218)):=fun u=>by
    have h:=run_make (P:=prog) u 162 218 i0 _ underlying162 hi hz0 .i64 .i64 Fs.length Fs.length (by omega) (by omega) (by rw [hz2];omega) (by omega);rw [hz1] at h
    simpa using h
   clear hi hz0 hz1 hz2;go_enter func160,ntmps160;go_wp2;clear hmk
   go_loopw [4] (fun i wr=>∃ k:Nat,i=.int .i64 k/\k<=Fs.length/\Zw_ w wr/\Zbo wr w.heap.size Fs k/\Zfs wr w.heap.size Fs k) (fun i _=>Fs.length - (intOf i).toNat)
   case atStart=>exact⟨0,rfl,by omega,Zb_.alloc Zl_ _,Zbo.new w Fs _,fun i _ h=>by omega⟩
   case round=>
    obtain⟨k,rfl,hk,hb,hf,how⟩:=hrel;have HOW:=Zab how;clear how
    by_cases hlt:k < Fs.length
    . obtain⟨hsz,wv,hcell,hst⟩:=hc k hlt
      obtain⟨c0,c1,c2,c3,c4,c5,c6,c7,c8,c9,c10⟩:=hcell.below hb hbw;clear hcell;go_wp2_with fail;refine (Zj2 _ _ _ _ _ _ _ _ _ _ _ Fs[k].words _ (hst.at.below hb) (hn2 k hlt)).mono ?_;rintro e w1 ⟨wv1,rfl,hb1,hs1⟩;have hf1:=hf.below hb1;have hs1':Zaq (w.heap.size+1) w1 wv1 Fs[k].words:=(hs1.wide hf.lt Zl_).in;have HOWN:=Zab ((hs1.wide hf.lt Zl_).writ);have HOW1:=Zab (HOW.o.below hb1 hf.lt);have HST:=Zab (hf1.step hlt hsz hs1');have hB:Hd (Zw_ w w1):=hb.trans (hb1.mono hb.size);have hfr:=hf1.free;obtain⟨a1,cap1,rfl⟩:=hs1.form;obtain⟨o0,ho0⟩:=hf1.there (k*11) (by omega);obtain⟨o1,ho1⟩:=hf1.there (k*11+1) (by omega);obtain⟨o2,ho2⟩:=hf1.there (k*11+2) (by omega);obtain⟨o3,ho3⟩:=hf1.there (k*11+3) (by omega);obtain⟨o4,ho4⟩:=hf1.there (k*11+4) (by omega);obtain⟨o5,ho5⟩:=hf1.there (k*11+5) (by omega)
      obtain⟨o6,ho6⟩:=hf1.there (k*11+6) (by omega);obtain⟨o7,ho7⟩:=hf1.there (k*11+7) (by omega);obtain⟨o8,ho8⟩:=hf1.there (k*11+8) (by omega);obtain⟨o9,ho9⟩:=hf1.there (k*11+9) (by omega);obtain⟨o10,ho10⟩:=hf1.there (k*11+10) (by omega);have HSTO:=fun x0 x1 x2 x3 x5 x6 x7 x8 x9 x10=>Zab (HOW1.o.step (v0:=x0) (v1:=x1) (v2:=x2) (v3:=x3) (v5:=x5) (v6:=x6) (v7:=x7) (v8:=x8) (v9:=x9) (v10:=x10) hlt ho4 HOWN.o)
      clear HOW HOW1 HOWN;clear hf hf1 hs1 hs1' hb1 hb hst c0 c1 c2 c3 c4 c5 c6 c7 c8 c9 c10;go_wp2;go_roundw
      . 
       exact⟨k+1,by go_num,by omega,(((((((((((hB.o.setCell Zl_ _).setCell Zl_ _).setCell Zl_ _).setCell Zl_ _).setCell Zl_ _).setCell Zl_ _).setCell Zl_ _).setCell Zl_ _).setCell Zl_ _).setCell Zl_ _).setCell Zl_ _),HST.o,(HSTO _ _ _ _ _ _ _ _ _ _).o⟩
      . simp [intOf];omega
    . go_wp2
      go_ret;exact⟨_,rfl,hb,hf.done (by omega) hL HM.o,HOW.o.done hf (by omega) hL HM.o HN.o⟩
theorem ZhA.wide {lo:Nat}{w:World} (h:ZhA lo hi w v n) (h1:lo'<=lo) (h2:hi<=hi'):ZhA lo' hi' w v n:=by
 rcases h with h | ⟨b,off,cap,q1,q2,q3,q4,q5,q6⟩
 . exact Or.inl h
 . refine Or.inr ⟨b,off,cap,q1,q2,q3,by omega,by omega,fun i hi'=>?_⟩
   obtain⟨wv,m,hs,hw,hm⟩:=q6 i hi';exact⟨wv,m,hs,hw.wide Zl_ h2,hm⟩
theorem ZhA.setCell {lo:Nat}{w:World} (h:ZhA lo hi w v n) {p:Addr} (hp:p.block < lo) (u:Value):ZhA lo hi (w.setCell p u) v n:=by
 rcases h with h | ⟨b,off,cap,q1,q2,q3,q4,q5,q6⟩
 . exact Or.inl h
 . refine Or.inr ⟨b,off,cap,q1,q2,q3,q4,q5,fun i hi'=>?_⟩
   obtain⟨wv,m,hs,hw,hm⟩:=q6 i hi';have e:∀ o,(w.setCell p u).cell? ⟨b,o,none⟩=w.cell? ⟨b,o,none⟩:=fun o=>Zas _ _ _ _ (by show b≠p.block;omega)
   exact⟨wv,m,⟨by simpa [World.setCell] using hs.lt,by rw [e];exact hs.c0,fun j hj=>by rw [e];exact hs.cj j hj,by rw [e];exact hs.four,fun i=>by rw [World.frozen?_setCell];exact hs.fr i⟩,hw.setCell (by omega) u,hm⟩
theorem Zj4 (lo:Nat) (kind:Zy_) (v:Value) (Fs:List Fd) (w:World) (hv:Zav lo w v Fs) (hn:Zdv Fs) :
 Calls prog 100 #[.agg #[.string kind,v]] w fun e w'=>∃ v',e=.returned (.agg #[.string kind,v'])/\Zw_ w w'/\Zav w.heap.size w' v' Fs/\ZhA w.heap.size w'.heap.size w' v' Fs.length:=by
 have HV:=Zab hv;obtain⟨a,cap,rfl⟩:=hv.form;clear hv;go_enter func100,ntmps100;go_wp2_with fail;refine (ZmI lo _ Fs _ (HV.o.below ?_) hn).mono ?_
 . exact ((Zb_.alloc Zl_ _).alloc (by simp) _).alloc (by simp;omega) _
 rintro e w1 ⟨v1,rfl,hb,hs,hq⟩;obtain⟨a',cap',rfl⟩:=hs.form;have HS:Hd (Zav (w.heap.size+3) w1 (.slice a' Fs.length cap') Fs):=hs.mono (by simp);have HQ:Hd (ZhA (w.heap.size+3) w1.heap.size w1 (.slice a' Fs.length cap') Fs.length):=hq.wide (by simp) Zl_;clear hs hq;have hz:w.heap.size+2 < w1.heap.size:=by have:=hb.size;simp at this;omega
 obtain⟨hc,hf⟩:=ZfL hb;have HB:Hd (Zw_ w w1):=(((Zb_.alloc Zl_ _).alloc (by simp) _).alloc (by simp;omega) _).trans (hb.mono (by simp;omega));clear hb;go_wp2;refine bodyPost_ret (v:=.agg #[.string kind,.slice a' Fs.length cap']) (by simp [results,results100,go_sem,hc]) rfl ⟨_,rfl,?_,?_,?_⟩
 . repeat (refine Below.setCell ?_ (by dsimp;omega) _)
   exact HB.o
 . refine Zav.mono (lo:=w.heap.size+3) ?_ (by omega)
   repeat (refine Zav.setCell ?_ (by dsimp;omega) _)
   exact HS.o
 . refine ZhA.wide (lo:=w.heap.size+3) (hi:=w1.heap.size) ?_ (by omega) (by simp [World.setCell])
   repeat (refine ZhA.setCell ?_ (by dsimp;omega) _)
   exact HQ.o
def Zib (wr:World) (B:Nat) (Ss:List Sh) (k:Nat):Prop:=
 ∃ m:Nat->Nat,B < m 0/\(∀ i j,i<=j->m i<=m j)/\(∀ i,m i<=wr.heap.size)/\∀ i (h:i < Ss.length),i < k->∃ fv,wr.cell? ⟨B,i*2+1,none⟩=some fv/\ZhA (m i) (m (i+1)) wr fv Ss[i].fields.length
theorem Zib.step {Ss:List Sh}{fv o1:Value} (h:Zib wr B Ss k) (hb:Below wr.heap.size wr w1) (hB:B < wr.heap.size) (hk:k < Ss.length) (ho:w1.cell? ⟨B,k*2+1,none⟩=some o1) (hs:ZhA wr.heap.size w1.heap.size w1 fv Ss[k].fields.length) :
 Zib ((w1.setCell ⟨B,k*2,none⟩ v0).setCell ⟨B,k*2+1,none⟩ fv) B Ss (k+1):=by
 obtain⟨m,h1,h2,h3,h4⟩:=h;have hz:((w1.setCell ⟨B,k*2,none⟩ v0).setCell ⟨B,k*2+1,none⟩ fv).heap.size=w1.heap.size:=by simp [World.setCell]
 refine⟨fun i=>if i<=k then m i else w1.heap.size,by simpa using h1,fun i j hij=>?_,fun i=>?_,fun i hi hik=>?_⟩
 . simp only []
   by_cases a1:i<=k
   . rw [if_pos a1]
     by_cases a2:j<=k
     . rw [if_pos a2];exact h2 i j hij
     . rw [if_neg a2];exact Nat.le_trans (h3 i) hb.size
   . rw [if_neg a1,if_neg (by omega)];exact Nat.le_refl _
 . simp only []
   rw [hz]
   by_cases a1:i<=k
   . rw [if_pos a1];exact Nat.le_trans (h3 i) hb.size
   . rw [if_neg a1];exact Nat.le_refl _
 . simp only []
   have hm0:∀ i,m 0<=m i:=fun i=>h2 0 i Zz_
   by_cases e:i=k
   . subst e
     refine⟨fv,?_,?_⟩
     . rw [Zcm _ _ _ _ (by rw [Zai _ _ _ _ _ (by omega)];exact ho)]
     . rw [if_pos Zl_,if_neg (by omega)]
       exact ((hs.wide (h3 i) Zl_).setCell (by have:=hm0 i;simp only [];omega) _).setCell (by have:=hm0 i;simp only [];omega) _
   . obtain⟨fv',q1,q2⟩:=h4 i hi (by omega)
     refine⟨fv',?_,?_⟩
     . rw [Zai _ _ _ _ _ (by omega),Zai _ _ _ _ _ (by omega),hb.cell (p:=⟨B,_,none⟩) hB];exact q1
     . rw [if_pos (by omega),if_pos (by omega)]
       exact ((q2.kept (ZbU.below (lo:=m (i+1)) (hi:=0) hb) (Or.inl Zl_)).setCell (by have:=hm0 i;simp only [];omega) _).setCell (by have:=hm0 i;simp only [];omega) _
theorem Zib.done {Ss:List Sh} (h:Zib wr B Ss k) (hf:Zbm wr B Ss k) (hk:Ss.length<=k) (hne:Ss≠[]) (hm:Ss.length<=maxLen) (hn:Zfq Ss):ZpZ B wr.heap.size wr (.slice (some ⟨B,0,none⟩) Ss.length Ss.length) Ss.length:=by
 obtain⟨m,h1,h2,h3,h4⟩:=h;refine Or.inr ⟨B,0,Ss.length,m,rfl,List.length_pos_iff.2 hne,hm,Nat.le_refl _,hf.lt,h1,h2,h3 _,fun i hi _=>?_⟩;obtain⟨fv,q1,q2⟩:=h4 i hi (by omega);refine⟨fv,_,⟨hf.lt,?_,by rw [Nat.zero_add];exact q1,hf.free⟩,q2,(hn.2 i hi).1⟩;obtain⟨v,hv⟩:=hf.there (i*2) (by omega);rw [Nat.zero_add,hv];rfl
theorem Znt (lo:Nat) (v:Value) (Ss:List Sh) (w:World) (hv:ZaR lo w v Ss) (hn:Zfq Ss) :
 Calls prog 41 #[v] w fun e w'=>∃ v',e=.returned v'/\Zw_ w w'/\ZaR w.heap.size w' v' Ss/\ZpZ w.heap.size w'.heap.size w' v' Ss.length:=by
 obtain⟨i0,hi,hz0,hz1,hz2⟩:=info_parts Tryz.info164
 by_cases hL:Ss=[]
 . subst hL
   obtain⟨a,cap,rfl⟩:=hv.form;clear hv
   have hmk:∀ u:World,(Instr.makeSlice 43 (.int .i64 0) (.int .i64 0)).run prog u=.ok (.slice (some ⟨u.heap.size,0,none⟩) 0 0) (u.alloc (.cells (madeCells (Value.cells (.agg #[.string ⟨#[]⟩,.slice none 0 0])) 0) 164)):=fun u=>by
    have h:=run_make (P:=prog) u 43 164 i0 _ underlying43 hi hz0 .i64 .i64 0 0 (by omega) (by omega) (by omega) (by omega)
    simpa [hz1] using h
   go_enter func41,ntmps41;go_wp2
   go_loop [4] (fun i=>i=.int .i64 0) (fun _=>0)
   case atStart=>rfl
   case round=>
    subst hrel;go_wp2;go_ret;exact⟨_,rfl,Zb_.alloc Zl_ _,Or.inl ⟨_,_,rfl,rfl⟩,Or.inl ⟨_,_,rfl,rfl⟩⟩
 . obtain⟨b,off,cap,rfl,hm,hbw,hc⟩:=hv.full hL
   clear hv;have HN:=Zab hn;obtain⟨hn1,hn2⟩:=hn;have HM:Hd (Ss.length<=maxLen):=hm;unfold maxLen at hm
   have hmk:∀ u:World,(Instr.makeSlice 43 (.int .i64 (Ss.length:Int)) (.int .i64 (Ss.length:Int))).run prog u=.ok (.slice (some ⟨u.heap.size,0,none⟩) Ss.length Ss.length) (u.alloc (.cells (madeCells (Value.cells (.agg #[.string ⟨#[]⟩,.slice none 0 0])) (Ss.length*2)) 164)):=fun u=>by
    have h:=run_make (P:=prog) u 43 164 i0 _ underlying43 hi hz0 .i64 .i64 Ss.length Ss.length (by omega) (by omega) (by rw [hz2];omega) (by omega);rw [hz1] at h
    simpa using h
   clear hi hz0 hz1 hz2;go_enter func41,ntmps41;go_wp2;clear hmk
   go_loopw [4] (fun i wr=>∃ k:Nat,i=.int .i64 k/\k<=Ss.length/\Zw_ w wr/\Zbm wr w.heap.size Ss k/\Zib wr w.heap.size Ss k) (fun i _=>Ss.length - (intOf i).toNat)
   case atStart=>exact⟨0,rfl,by omega,Zb_.alloc Zl_ _,Zbm.new w Ss _,fun _=>w.heap.size+1,Nat.lt_succ_self _,fun _ _ _=>Nat.le_refl _,fun _=>by simp,fun i _ h=>by omega⟩
   case round=>
    obtain⟨k,rfl,hk,hb,hf,how⟩:=hrel;have HOW:=Zab how;clear how
    by_cases hlt:k < Ss.length
    . obtain⟨hsz,fv,d0,d1,hst⟩:=hc k hlt
      have c0:wr.cell? ⟨b,off+k*2,none⟩=some (.string Ss[k].kind):=by rw [hb.cell (p:=⟨b,_,none⟩) hbw];exact d0
      have c1:wr.cell? ⟨b,off+k*2+1,none⟩=some fv:=by rw [hb.cell (p:=⟨b,_,none⟩) hbw];exact d1
      clear d0 d1;go_wp2_with fail;refine (Zj4 lo _ _ Ss[k].fields _ (hst.below hb) (hn2 k hlt)).mono ?_;rintro e w1 ⟨wv1,rfl,hb1,hs1,hq1⟩;have hlt0:=hf.lt;have hf1:=hf.below hb1;have hs1':Zav (w.heap.size+1) w1 wv1 Ss[k].fields:=hs1.mono hf.lt;have HST:=Zab (hf1.step hlt hsz hs1');have hB:Hd (Zw_ w w1):=hb.trans (hb1.mono hb.size);have hfr:=hf1.free;obtain⟨a1,cap1,rfl⟩:=hs1.form;obtain⟨o0,ho0⟩:=hf1.there (k*2) (by omega);obtain⟨o1,ho1⟩:=hf1.there (k*2+1) (by omega);have HSTO:=fun x0=>Zab (HOW.o.step (v0:=x0) hb1 hlt0 hlt ho1 hq1)
      clear HOW hq1 hlt0;clear hf hf1 hs1 hs1' hb1 hb hst c0 c1;go_wp2;go_roundw
      . 
       exact⟨k+1,by go_num,by omega,((hB.o.setCell Zl_ _).setCell Zl_ _),HST.o,(HSTO _).o⟩
      . simp [intOf];omega
    . go_wp2
      go_ret;exact⟨_,rfl,hb,hf.done (by omega) hL HM.o,HOW.o.done hf (by omega) hL HM.o HN.o⟩
section
variable (kind nm team:Zy_) (vv hv:Value) (en:Bool) (ver:Int) (V Ho:List Zy_) (w:World)
theorem ZnF (hV:Zag w vv V) (hH:Zag w hv Ho) (n1:V.length<=1048576) (n2:Ho.length<=1048576) :
 Calls prog 103 #[.agg #[.string kind,.string nm,.string team,vv,.bool en,hv,.int .i64 ver]] w
  fun e w'=>∃ v' h',e=.returned (.agg #[.string kind,.string nm,.string team,v',.bool en,h',.int .i64 ver])/\Zw_ w w'/\Zep w.heap.size w' v' h' V Ho:=by
 have HV:=Zab hV;have HH:=Zab hH;obtain⟨a,n,cap,rfl⟩:=hV.form;obtain⟨a',n',cap',rfl⟩:=hH.form;clear hV hH;have HW:∀ o o' o'',Hd (Zw_ w (((w.alloc o).alloc o').alloc o'')):=fun o o' o''=>((Zb_.alloc Zl_ _).alloc (by simp) _).alloc (by simp;omega) _
 go_enter func103,ntmps103;go_wp2_with fail;refine (Zfb _ V _ (HV.o.below (HW _ _ _).o) n1).mono ?_;rintro e w1 ⟨v1,rfl,hb,hs⟩;obtain⟨a1,cap1,rfl⟩:=hs.form;have HS:Hd (Zae (w.heap.size+3) w1.heap.size w1 (.slice a1 V.length cap1) V):=hs.wide (by simp) Zl_;have hz:w.heap.size+2 < w1.heap.size:=by have:=hb.size;simp at this;omega
 obtain⟨hc,hf⟩:=ZfL hb;have HB:Hd (Zw_ w w1):=(HW _ _ _).o.trans (hb.mono (by simp;omega));clear hb hs;go_wp2_with fail;have hX:Hd (Zw_ w ((w1.setCell ⟨w.heap.size+1+1,3,none⟩ (.slice a1 V.length cap1)).setCell ⟨w.heap.size+1+1,4,none⟩ (.bool en))):=(HB.o.setCell (by dsimp;omega) _).setCell (by dsimp;omega) _;have hXs:((w1.setCell ⟨w.heap.size+1+1,3,none⟩ (.slice a1 V.length cap1)).setCell ⟨w.heap.size+1+1,4,none⟩ (.bool en)).heap.size=w1.heap.size:=by simp [World.setCell]
 have HS':=Zab ((HS.o.setCell (p:=⟨w.heap.size+1+1,3,none⟩) (by dsimp;omega) (.slice a1 V.length cap1)).setCell (p:=⟨w.heap.size+1+1,4,none⟩) (by dsimp;omega) (.bool en));refine (Zfb _ Ho _ (HH.o.below hX.o) n2).mono ?_;rintro e w2 ⟨v2,rfl,hb2,hs2⟩;obtain⟨a2,cap2,rfl⟩:=hs2.form;have HS2:Hd (Zae (w.heap.size+3) w1.heap.size w2 (.slice a1 V.length cap1) V):=HS'.o.below hb2;have HH2:Hd (Zae w1.heap.size w2.heap.size w2 (.slice a2 Ho.length cap2) Ho):=by unfold Hd;rw [<- hXs];exact hs2
 have hz2:w.heap.size+2 < w2.heap.size:=by have:=hb2.size;rw [hXs] at this;omega
 have hz3:w1.heap.size<=w2.heap.size:=by have:=hb2.size;rw [hXs] at this;exact this
 have HB2:Hd (Zw_ w w2):=hX.o.trans (hb2.mono hX.o.size);have hc2:∀ b o,b < w1.heap.size->w2.cell? ⟨b,o,none⟩=((w1.setCell ⟨w.heap.size+1+1,3,none⟩ (.slice a1 V.length cap1)).setCell ⟨w.heap.size+1+1,4,none⟩ (.bool en)).cell? ⟨b,o,none⟩:=fun b o h=>hb2.cell (p:=⟨b,o,none⟩) (by rw [hXs];exact h)
 have hf2:∀ b o,b < w1.heap.size->w2.frozen? ⟨b,o,none⟩=((w1.setCell ⟨w.heap.size+1+1,3,none⟩ (.slice a1 V.length cap1)).setCell ⟨w.heap.size+1+1,4,none⟩ (.bool en)).frozen? ⟨b,o,none⟩:=fun b o h=>hb2.frozen (p:=⟨b,o,none⟩) (by rw [hXs];exact h)
 clear hb2 hs2 hXs;have hz0:w.heap.size < w1.heap.size:=by omega
 have hz1:w.heap.size+1 < w1.heap.size:=by omega
 have hz1':w.heap.size+1+1 < w1.heap.size:=by omega
 go_wp2;refine bodyPost_ret (v:=.agg #[.string kind,.string nm,.string team,.slice a1 V.length cap1,.bool en,.slice a2 Ho.length cap2,.int .i64 ver]) (by simp [results,results103,go_sem,hc,hc2,hz1]) rfl ⟨_,_,rfl,?_,w1.heap.size,by omega,by simp only [World.setCell,Array.size_modify];exact hz3,?_,?_⟩
 . repeat (refine Below.setCell ?_ (by dsimp;omega) _)
   exact HB2.o
 . refine Zae.wide (lo:=w.heap.size+3) (hi:=w1.heap.size) ?_ (by omega) Zl_
   repeat (refine Zae.setCell ?_ (by dsimp;omega) _)
   exact HS2.o
 . refine Zae.wide (lo:=w1.heap.size) (hi:=w2.heap.size) ?_ Zl_ (by simp [World.setCell])
   repeat (refine Zae.setCell ?_ (by dsimp;omega) _)
   exact HH2.o
end
theorem Zel (lo:Nat) (v:Value) (Ss:List Sh) (s:Zy_) (w0 w:World) (hv:ZaR lo w0 v Ss) (h0:Below w0.heap.size w0 w) :
 Calls prog 226 #[v,.string s] w fun e w'=>Zw_ w w'/\Zn7 lo Ss s e w0:=by
 by_cases hL:Ss=[]
 . subst hL
   obtain⟨a,cap,rfl⟩:=hv.form;clear hv;go_enter func226,ntmps226;go_wp2
   go_loop [10] (fun i=>i=.int .i64 0) (fun _=>0)
   case atStart=>rfl
   case round=>
    subst hrel;go_wp2;refine bodyPost_ret (v:=.tuple #[.agg #[.string ⟨#[]⟩,.slice none 0 0],.bool false]) (by simp [results,results226,go_sem]) rfl ⟨?_,Or.inr ⟨rfl,rfl⟩⟩;exact Zb_.alloc Zl_ _
 . obtain⟨b,off,cap,rfl,hm,hbw,hc⟩:=hv.full hL
   clear hv;have H0:=Zab h0;clear h0;unfold maxLen at hm;have hA:∀ (o:Obj) (wr:World),Below (w.heap.size+1) (w.alloc o) wr->Zw_ w wr:=fun o wr h=>(Zb_.alloc Zl_ o).trans (h.mono (by omega))
   go_enter func226,ntmps226;go_wp2
   go_loopw [10] (fun i wr=>∃ k:Nat,i=.int .i64 k/\k<=Ss.length/\Below (w.heap.size+1) (w.alloc (.cells #[.string ⟨#[]⟩,.slice none 0 0] 164)) wr/\∀ i (h:i < Ss.length),i < k->(Ss[i].kind.toList == s.toList)=false) (fun i _=>Ss.length - (intOf i).toNat)
   case atStart=>exact⟨0,rfl,by omega,Below.refl _ _,fun i _ h=>by omega⟩
   case round=>
    obtain⟨k,rfl,hk,hb,hall⟩:=hrel;have HA:=Zab hall;clear hall;have hz:w.heap.size < wr.heap.size:=by have:=hb.size;simp at this;omega
    have hB:Hd (Zw_ w wr):=hA _ _ hb;have hB0:Hd (Below w0.heap.size w0 wr):=H0.o.trans (hB.o.mono H0.o.size);have q0:wr.cell? ⟨w.heap.size,0,none⟩=some (.string ⟨#[]⟩):=by rw [hb.cell (p:=⟨w.heap.size,_,none⟩) (by simp)];simp
    have q1:wr.cell? ⟨w.heap.size,1,none⟩=some (.slice none 0 0):=by rw [hb.cell (p:=⟨w.heap.size,_,none⟩) (by simp)];simp
    have qf:∀ o,wr.frozen? ⟨w.heap.size,o,none⟩=false:=fun o=>by rw [hb.frozen (p:=⟨w.heap.size,_,none⟩) (by simp)];simp
    have HBB:=Zab hb;clear hb
    by_cases hlt:k < Ss.length
    . obtain⟨_,fv,c0,c1,hst⟩:=hc k hlt
      have e0:wr.cell? ⟨b,off+k*2,none⟩=some (.string Ss[k].kind):=by rw [hB0.o.cell (p:=⟨b,_,none⟩) hbw];exact c0
      have e1:wr.cell? ⟨b,off+k*2+1,none⟩=some fv:=by rw [hB0.o.cell (p:=⟨b,_,none⟩) hbw];exact c1
      obtain⟨a1,cap1,rfl⟩:=hst.form;have HST:=Zab hst;clear c0 c1 hst
      by_cases he:(Ss[k].kind.toList == s.toList)=true
      . go_wp2
        have HF:Zw_ w (((wr.setCell ⟨w.heap.size,0,none⟩ (.string Ss[k].kind)).setCell ⟨w.heap.size,1,none⟩ (.slice a1 Ss[k].fields.length cap1)).alloc (.cells #[.string Ss[k].kind,.slice a1 Ss[k].fields.length cap1] 164)):=
         ((hB.o.setCell Zl_ _).setCell Zl_ _).alloc (by simp [World.setCell];omega) _
        have hold:∀ (X:World) (o:Obj) (j:Nat),w.heap.size < X.heap.size->(X.alloc o).cell? ⟨w.heap.size,j,none⟩=X.cell? ⟨w.heap.size,j,none⟩:=fun X o j h=>((Below.refl X.heap.size X).alloc Zl_ o).cell (p:=⟨w.heap.size,j,none⟩) h
        have f0:(((wr.setCell ⟨w.heap.size,0,none⟩ (.string Ss[k].kind)).setCell ⟨w.heap.size,1,none⟩ (.slice a1 Ss[k].fields.length cap1)).alloc (.cells #[.string Ss[k].kind,.slice a1 Ss[k].fields.length cap1] 164)).cell? ⟨w.heap.size,0,none⟩=some (.string Ss[k].kind):=by
         rw [hold _ _ _ (by simpa [World.setCell] using hz),Zdd _ _ _ _ (by simp),Zcm _ _ _ _ q0]
        have f1:(((wr.setCell ⟨w.heap.size,0,none⟩ (.string Ss[k].kind)).setCell ⟨w.heap.size,1,none⟩ (.slice a1 Ss[k].fields.length cap1)).alloc (.cells #[.string Ss[k].kind,.slice a1 Ss[k].fields.length cap1] 164)).cell? ⟨w.heap.size,1,none⟩=some (.slice a1 Ss[k].fields.length cap1):=by
         rw [hold _ _ _ (by simpa [World.setCell] using hz),Zcm _ _ _ _ (by rw [Zdd _ _ _ _ (by simp)];exact q1)]
        exact bodyPost_ret (v:=.tuple #[.agg #[.string Ss[k].kind,.slice a1 Ss[k].fields.length cap1],.bool true]) (by simp [results,results226,go_sem,f0,f1]) rfl ⟨HF,Or.inl ⟨Ss[k],_,ZfH hlt he HA.o,rfl,HST.o⟩⟩
      . have he':(Ss[k].kind.toList == s.toList)=false:=by simpa using he
        clear he;go_wp2;go_roundw
        case rel=>exact⟨k+1,by go_num,by omega,HBB.o.alloc (by omega) _,fun i h h'=>by
                   by_cases e:i=k
                   . subst e;exact he'
                   . exact HA.o i h (by omega)⟩
        . simp [intOf];omega
    . go_wp2
      refine bodyPost_ret (v:=.tuple #[.agg #[.string ⟨#[]⟩,.slice none 0 0],.bool false]) (by simp [results,results226,go_sem,q0,q1]) rfl ⟨?_,Or.inr ⟨Zfz fun i h=>HA.o i h (by omega),rfl⟩⟩;exact (hB.o.setCell Zl_ _).setCell Zl_ _
theorem ZgT (W:World) (g:Nat) (src:Value) (L:List Zy_) (ty:TypeId) (hs:Zag W src L) (hn:L.length<=1048576) (hg:W.heap.size=g) :
 ∃ v' w',(Builtin.append_ #[59,59] ty #[.slice (some ⟨g,0,none⟩) 0 0,src]).run prog (W.alloc (.cells #[] 9))=.ok v' w'/\Below W.heap.size W w'/\Zae W.heap.size w'.heap.size w' v' L:=by
 subst hg;obtain⟨i0,hi,hz0,hz1,hz2⟩:=info_parts Tryz.info9;have hA:Below W.heap.size W (W.alloc (.cells #[] 9)):=Zb_.alloc Zl_ _
 rcases hs with ⟨a,cap,rfl,rfl⟩ | ⟨b,off,cap,rfl,hne,hm,hbw,hc,hsz⟩
 . refine⟨.slice (some ⟨W.heap.size,0,none⟩) 0 0,_,run_append_nothing _ 59 59 ty 9 i0 underlying59 hi _ 0 0 Zl_ _ ?_,hA,Or.inl ⟨_,_,rfl,rfl⟩⟩
   cases a with
   | none=>exact Src.ofNil _ underlying59 _
   | some ad=>exact Src.ofSlice _ underlying59 ad 0 cap [] (by simp) (fun j u h=>by simp at h) (fun u h=>by simp at h)
 . have hown:=World.ownsRow_made (base:=W.heap.size) (e:=9) (size:=1) W #[] 0 Zl_ Zz_ (by simp)
   obtain⟨g,cap',w',hr,h2,h3,h4,h5⟩:=run_append_lies (P:=prog) (W.alloc (.cells #[] 9)) 59 ty W.heap.size 9 i0 (.string ⟨#[]⟩) 1 16 underlying59 hi hz0 hz1 hz2 rfl (by omega) _ 0 [] hown ⟨b,off,none⟩ L.length cap (L.map Value.string) (by simp) (fun j u hj=>by
    obtain⟨hj1,hj2⟩:=List.getElem?_eq_some_iff.1 hj;simp only [List.length_map] at hj1;rw [Go.WideShapes.add_plain,hA.cell (p:=⟨b,off+j,none⟩) hbw,hc j hj1,<- hj2];simp) (fun u hu=>by obtain⟨s,_,rfl⟩:=List.mem_map.1 hu;rfl) (List.length_pos_iff.2 hne) (by rw [Nat.zero_add];exact hm) (by omega) (by simp) (W.heap.size+1) (by simp)
   rw [Nat.zero_add] at hr h2;have hob:(Value.slice (some (⟨W.heap.size,0,none⟩:Addr)) 0 0).ownBlock=some W.heap.size:=rfl;rw [hob] at h3 h4;have hB:Below W.heap.size W w':=hA.trans ⟨h3.os,h3.tape,h3.output,h3.size,fun k hk=>h3.block k (by simp;omega) (by simp;omega)⟩;refine⟨_,w',hr,hB,Or.inr ⟨g,0,cap',rfl,hne,hm,h5,fun i hi=>?_,hsz,?_,h5,fun i=>?_⟩⟩
   . have:=h2.cells (g:=g) rfl i (.string L[i]) (by simp [hi])
     rw [Go.WideShapes.add_plain] at this;exact this
   . rcases h4 with h4 | h4
     . have:W.heap.size=g:=by simpa using h4
       omega
     . omega
   . rcases h2.2 with ⟨h,_⟩ | ⟨g',cap2,cur,hv,_,hh,_⟩
     . cases h
     . have e:g=g':=by injection hv with e1 _ _;injection e1 with e2;injection e2
       subst e;simp [World.frozen?,hh]
theorem wpList_append_run {P:Program}{w:World}{ops:Array Oper}{rest:List Oper}{o:Oper}{a:Act}{Q:Exit->Act->World->Prop} (hgd:o.guard=none) (s x:Operand) (t:TypeId)
 (ho:o.op=.call { callee:=.builtin .append,args:=#[s,x],argTypes:=#[t,t] }) (hs:a.eval s=v1) (hx:a.eval x=v2) (hr:(Builtin.append_ #[t,t] o.type #[v1,v2]).run P w=.ok v w')
 (h:wpList P ops Q rest (a.put o.dst v) w'):wpList P ops Q (o :: rest) a w:=by
 refine wpList_plain hgd fun K hK=>?_
 unfold Oper.wp execOp;simp only [ho,resolve,invoke,builtin,Sem.run_bind,Sem.run_pure,Result.andThen_ok,List.map_toArray,List.map_cons,List.map_nil,hs,hx,hr];exact hK _ _ h
section
variable (kind nm team:Zy_) (vv hv:Value) (en:Bool) (ver:Int) (V Ho:List Zy_) (w:World)
theorem ZfZ (hV:Zag w vv V) (hH:Zag w hv Ho) (n1:V.length<=1048576) (n2:Ho.length<=1048576) :
 Calls prog 96 #[.agg #[.string kind,.string nm,.string team,vv,.bool en,hv,.int .i64 ver]] w
  fun e w'=>∃ v' h',e=.returned (.agg #[.string kind,.string nm,.string team,v',.bool en,h',.int .i64 ver])/\Zw_ w w'/\Zep w.heap.size w' v' h' V Ho:=by
 have HV:=Zab hV;have HH:=Zab hH;obtain⟨a,n,cap,rfl⟩:=hV.form;obtain⟨a',n',cap',rfl⟩:=hH.form;clear hV hH;have HW:∀ o o',Hd (Zw_ w ((w.alloc o).alloc o')):=fun o o'=>(Zb_.alloc Zl_ _).alloc (by simp) _
 obtain⟨v1,w1,hap,hb,hs⟩:=ZgT ((w.alloc (.cells #[.string kind,.string nm,.string team,.slice a n cap,.bool en,.slice a' n' cap',.int .i64 ver] 155)).alloc (.cells #[.string ⟨#[]⟩,.string ⟨#[]⟩,.string ⟨#[]⟩,.slice none 0 0,.bool false,.slice none 0 0,.int .i64 0] 155)) (w.heap.size+1+1) (.slice a n cap) V 59 (HV.o.below (HW _ _).o) n1 (by simp);obtain⟨a1,cap1,rfl⟩:=hs.form;have HS:Hd (Zae (w.heap.size+2) w1.heap.size w1 (.slice a1 V.length cap1) V):=hs.wide (by simp) Zl_;have hz:w.heap.size+1 < w1.heap.size:=by have:=hb.size;simp at this;omega
 obtain⟨hc,hf⟩:=ZfL hb;have HB:Hd (Zw_ w w1):=(HW _ _).o.trans (hb.mono (by simp;omega));clear hb hs;have hz0:w.heap.size < w1.heap.size:=by omega
 have g0:∀ i,w1.cell? ⟨w.heap.size,i,none⟩=(#[.string kind,.string nm,.string team,.slice a n cap,.bool en,.slice a' n' cap',.int .i64 ver]:Array Value)[i]?:=fun i=>by
  rw [hc _ _ (by simp;omega),((Below.refl (w.alloc (.cells #[.string kind,.string nm,.string team,.slice a n cap,.bool en,.slice a' n' cap',.int .i64 ver] 155)).heap.size _).alloc Zl_ _).cell (p:=⟨w.heap.size,i,none⟩) (by simp)];simp
 have g1:∀ i,w1.cell? ⟨w.heap.size+1,i,none⟩=(#[.string ⟨#[]⟩,.string ⟨#[]⟩,.string ⟨#[]⟩,.slice none 0 0,.bool false,.slice none 0 0,.int .i64 0]:Array Value)[i]?:=fun i=>by
  rw [hc _ _ (by simp)];simp
 have gf0:∀ i,w1.frozen? ⟨w.heap.size,i,none⟩=false:=fun i=>by rw [hf _ _ (by simp;omega)];simp
 have gf1:∀ i,w1.frozen? ⟨w.heap.size+1,i,none⟩=false:=fun i=>by rw [hf _ _ (by simp)];simp
 clear hc hf;have hX:Hd (Zw_ w (w1.setCell ⟨w.heap.size,3,none⟩ (.slice a1 V.length cap1))):=HB.o.setCell Zl_ _;have hXs:(w1.setCell ⟨w.heap.size,3,none⟩ (.slice a1 V.length cap1)).heap.size=w1.heap.size:=by simp [World.setCell]
 have HS':=Zab (HS.o.setCell (p:=⟨w.heap.size,3,none⟩) (by dsimp;omega) (.slice a1 V.length cap1));obtain⟨v2,w2,hap2,hb2,hs2⟩:=ZgT (w1.setCell ⟨w.heap.size,3,none⟩ (.slice a1 V.length cap1)) w1.heap.size (.slice a' n' cap') Ho 59 (HH.o.below hX.o) n2 hXs;obtain⟨a2,cap2,rfl⟩:=hs2.form;have HS2:Hd (Zae (w.heap.size+2) w1.heap.size w2 (.slice a1 V.length cap1) V):=HS'.o.below hb2;have HH2:Hd (Zae w1.heap.size w2.heap.size w2 (.slice a2 Ho.length cap2) Ho):=by unfold Hd;rw [<- hXs];exact hs2
 have hz2:w.heap.size+1 < w2.heap.size:=by have:=hb2.size;rw [hXs] at this;omega
 have hz3:w1.heap.size<=w2.heap.size:=by have:=hb2.size;rw [hXs] at this;exact this
 have HB2:Hd (Zw_ w w2):=hX.o.trans (hb2.mono hX.o.size);have hc2:∀ b o,b < w1.heap.size->w2.cell? ⟨b,o,none⟩=(w1.setCell ⟨w.heap.size,3,none⟩ (.slice a1 V.length cap1)).cell? ⟨b,o,none⟩:=fun b o h=>hb2.cell (p:=⟨b,o,none⟩) (by rw [hXs];exact h)
 have hf2:∀ b o,b < w1.heap.size->w2.frozen? ⟨b,o,none⟩=(w1.setCell ⟨w.heap.size,3,none⟩ (.slice a1 V.length cap1)).frozen? ⟨b,o,none⟩:=fun b o h=>hb2.frozen (p:=⟨b,o,none⟩) (by rw [hXs];exact h)
 clear hb2 hs2 hXs;have k3:w2.cell? ⟨w.heap.size,3,none⟩=some (.slice a1 V.length cap1):=by rw [hc2 _ _ hz0];exact World.cell?_setCell_same' _ _ _ (by rw [g0];rfl)
 have k':∀ i,i≠3->w2.cell? ⟨w.heap.size,i,none⟩=(#[.string kind,.string nm,.string team,.slice a n cap,.bool en,.slice a' n' cap',.int .i64 ver]:Array Value)[i]?:=fun i hi=>by rw [hc2 _ _ hz0,Zai _ _ _ _ _ (fun e=>hi e.symm),g0]
 have k0:w2.cell? ⟨w.heap.size,0,none⟩=some (.string kind):=k' 0 (by omega);have k1:w2.cell? ⟨w.heap.size,1,none⟩=some (.string nm):=k' 1 (by omega);have k2:w2.cell? ⟨w.heap.size,2,none⟩=some (.string team):=k' 2 (by omega);have k4:w2.cell? ⟨w.heap.size,4,none⟩=some (.bool en):=k' 4 (by omega);have k5:w2.cell? ⟨w.heap.size,5,none⟩=some (.slice a' n' cap'):=k' 5 (by omega);have k6:w2.cell? ⟨w.heap.size,6,none⟩=some (.int .i64 ver):=k' 6 (by omega);have j':∀ i,w2.cell? ⟨w.heap.size+1,i,none⟩=(#[.string ⟨#[]⟩,.string ⟨#[]⟩,.string ⟨#[]⟩,.slice none 0 0,.bool false,.slice none 0 0,.int .i64 0]:Array Value)[i]?:=fun i=>by rw [hc2 _ _ hz,show (w1.setCell ⟨w.heap.size,3,none⟩ (.slice a1 V.length cap1)).cell? ⟨w.heap.size+1,i,none⟩=w1.cell? ⟨w.heap.size+1,i,none⟩ from by apply World.cell?_setCell_other;simp,g1]
 have j0:w2.cell? ⟨w.heap.size+1,0,none⟩=some (.string ⟨#[]⟩):=j' 0;have j1:w2.cell? ⟨w.heap.size+1,1,none⟩=some (.string ⟨#[]⟩):=j' 1;have j2:w2.cell? ⟨w.heap.size+1,2,none⟩=some (.string ⟨#[]⟩):=j' 2;have j3:w2.cell? ⟨w.heap.size+1,3,none⟩=some (.slice none 0 0):=j' 3;have j4:w2.cell? ⟨w.heap.size+1,4,none⟩=some (.bool false):=j' 4;have j5:w2.cell? ⟨w.heap.size+1,5,none⟩=some (.slice none 0 0):=j' 5;have j6:w2.cell? ⟨w.heap.size+1,6,none⟩=some (.int .i64 0):=j' 6;have fz0:∀ o,w2.frozen? ⟨w.heap.size,o,none⟩=false:=fun o=>by rw [hf2 _ _ hz0,World.frozen?_setCell];exact gf0 o
 have fz1:∀ o,w2.frozen? ⟨w.heap.size+1,o,none⟩=false:=fun o=>by rw [hf2 _ _ hz,World.frozen?_setCell];exact gf1 o
 clear hc2 hf2 k' j';go_enter func96,ntmps96;go_wp2_with (first|(at_builtin;refine wpList_append_run rfl (.tmp 3) (.tmp 5) 59 rfl rfl rfl hap ?_)|(at_builtin;refine wpList_append_run rfl (.tmp 8) (.tmp 10) 59 rfl rfl rfl hap2 ?_));refine bodyPost_ret (v:=.agg #[.string kind,.string nm,.string team,.slice a1 V.length cap1,.bool en,.slice a2 Ho.length cap2,.int .i64 ver]) (by simp [results,results96,go_sem,j0,j1,j2,j3,j4,j5,j6]) rfl ⟨_,_,rfl,?_,w1.heap.size,by omega,by simp only [World.setCell,Array.size_modify];exact hz3,?_,?_⟩
 . repeat (refine Below.setCell ?_ (by dsimp;omega) _)
   exact HB2.o
 . refine Zae.wide (lo:=w.heap.size+2) (hi:=w1.heap.size) ?_ (by omega) Zl_
   repeat (refine Zae.setCell ?_ (by dsimp;omega) _)
   exact HS2.o
 . refine Zae.wide (lo:=w1.heap.size) (hi:=w2.heap.size) ?_ Zl_ (by simp [World.setCell])
   repeat (refine Zae.setCell ?_ (by dsimp;omega) _)
   exact HH2.o
end
def ZeL (V:List Zy_) (Fs:List Fd):List Zy_:=List.zipWith (fun v (f:Fd)=>if v.toList.isEmpty=true then f.df else v) V Fs
theorem Zeu {V:List Zy_}{Fs:List Fd} (h:Fs.length=V.length):(ZeL V Fs).length=V.length:=by simp [ZeL,h]
theorem ZkA {V:List Zy_}{Fs:List Fd}{i:Nat} (hv:i < V.length) (hf:i < Fs.length):(ZeL V Fs)[i]?=some (if V[i].toList.isEmpty=true then Fs[i].df else V[i]):=by
 simp [ZeL,List.getElem?_zipWith,hv,hf]
def Zc2 (V:List Zy_) (Fs:List Fd) (k:Nat) (L:List Zy_):Prop:=
 L.length=V.length/\(∀ i,i < k->L[i]?=(ZeL V Fs)[i]?)/\∀ i,k<=i->L[i]?=V[i]?
theorem Zc2.zero (V:List Zy_) (Fs:List Fd):Zc2 V Fs 0 V:=⟨rfl,fun i h=>by omega,fun _ _=>rfl⟩
theorem Zc2.at {V:List Zy_}{Fs:List Fd}{L:List Zy_} (h:Zc2 V Fs k L) (hk:k < V.length) (hk':k < L.length):L[k]=V[k]:=by
 have:=h.2.2 k Zl_;rw [List.getElem?_eq_getElem hk',List.getElem?_eq_getElem hk] at this;exact Option.some.inj this
theorem Zc2.same {V:List Zy_}{Fs:List Fd}{L:List Zy_} (h:Zc2 V Fs k L) (hk:k < V.length) (hf:k < Fs.length) (he:V[k].toList.isEmpty=false):Zc2 V Fs (k+1) L:=by
 refine⟨h.1,fun i hi=>?_,fun i hi=>h.2.2 i (by omega)⟩
 by_cases e:i=k
 . subst e;rw [h.2.2 i Zl_,ZkA hk hf,List.getElem?_eq_getElem hk];simp [he]
 . exact h.2.1 i (by omega)
theorem Zc2.put {V:List Zy_}{Fs:List Fd}{L:List Zy_} (h:Zc2 V Fs k L) (hk:k < V.length) (hf:k < Fs.length) (he:V[k].toList.isEmpty=true):Zc2 V Fs (k+1) (L.set k Fs[k].df):=by
 refine⟨by rw [List.length_set];exact h.1,fun i hi=>?_,fun i hi=>?_⟩
 . by_cases e:i=k
   . subst e;rw [ZkA hk hf,List.getElem?_set_self (by rw [h.1];exact hk)];simp [he]
   . rw [List.getElem?_set_ne (by omega)];exact h.2.1 i (by omega)
 . rw [List.getElem?_set_ne (by omega)];exact h.2.2 i (by omega)
theorem Zc2.done {V:List Zy_}{Fs:List Fd}{L:List Zy_} (h:Zc2 V Fs k L) (hl:Fs.length=V.length) (hk:Fs.length<=k):L=ZeL V Fs:=by
 apply List.ext_getElem?;intro i
 by_cases e:i < k
 . exact h.2.1 i e
 . rw [List.getElem?_eq_none (by rw [h.1];omega),List.getElem?_eq_none (by rw [Zeu hl];omega)]
theorem Zae.put {lo:Nat}{w:World}{L:List Zy_} (h:Zae lo hi w (.slice (some ⟨b,off,none⟩) n cap) L) {k:Nat} (hk:k < L.length) {s:Zy_} (hs:s.size<=maxLen) :
 Zae lo hi (w.setCell ⟨b,off+k,none⟩ (.string s)) (.slice (some ⟨b,off,none⟩) n cap) (L.set k s):=by
 rcases h with ⟨a,cap',h,rfl⟩ | ⟨b',off',cap',h1,h2,h3,h4,h5,h6,h7,h8,h9⟩
 . simp at hk
 . injection h1 with e1 e2 e3
   injection e1 with e1
   injection e1 with q1 q2 q3
   subst q1 q2 e2 e3;refine Or.inr ⟨b,off,cap,by rw [List.length_set],?_,by rw [List.length_set];exact h3,by simpa [World.setCell] using h4,fun i hi'=>?_,fun t ht=>?_,h7,h8,fun i=>by rw [World.frozen?_setCell];exact h9 i⟩
   . intro e;have:=congrArg List.length e;rw [List.length_set] at this;simp at this;exact h2 this
   . have hi2:i < L.length:=by rw [List.length_set] at hi';exact hi'
     by_cases e:i=k
     . subst e;rw [Zcm _ _ _ _ (h5 i hi2)];simp
     . rw [Zai _ _ _ _ _ (by omega),h5 i hi2,List.getElem_set_ne (by omega)]
   . rcases List.mem_or_eq_of_mem_set ht with ht | rfl
     . exact h6 t ht
     . exact hs
theorem Zae.full {lo:Nat}{w:World}{a:Option Addr}{L:List Zy_} (h:Zae lo hi w (.slice a n cap) L) (hL:0 < L.length) :
 ∃ b off,a=some ⟨b,off,none⟩/\n=L.length/\b < w.heap.size/\lo<=b/\b < hi/\(∀ i (h:i < L.length),w.cell? ⟨b,off+i,none⟩=some (.string L[i]))/\∀ i,w.frozen? ⟨b,off+i,none⟩=false:=by
 rcases h with ⟨a',cap',h,rfl⟩ | ⟨b',off',cap',h1,h2,h3,h4,h5,h6,h7,h8,h9⟩
 . simp at hL
 . injection h1 with e1 e2 e3
   exact⟨b',off',e1,e2,h4,h7,h8,h5,h9⟩
theorem Zav.full' {lo:Nat}{w:World}{a:Option Addr}{Fs:List Fd} (h:Zav lo w (.slice a n cap) Fs) (hL:0 < Fs.length) :
 ∃ b off,a=some ⟨b,off,none⟩/\b < w.heap.size/\∀ i (h:i < Fs.length),ZeY Fs[i]/\∃ wv,ZcZ w b (off+i*11) Fs[i] wv/\Zaq lo w wv Fs[i].words:=by
 rcases h with ⟨a',cap',h,rfl⟩ | ⟨b',off',cap',h1,h2,h3,h4,h5,h6,h7⟩
 . simp at hL
 . injection h1 with e1 e2 e3
   exact⟨b',off',e1,h4,h7⟩
theorem ZbH (X:World) (cs:Array Value) (t:TypeId) (g i:Nat) (hg:X.heap.size=g):(X.alloc (.cells cs t)).cell? ⟨g,i,none⟩=cs[i]?:=by subst hg;simp
theorem Zit (X:World) (cs:Array Value) (t:TypeId) (g i:Nat) (hg:X.heap.size=g):(X.alloc (.cells cs t)).frozen? ⟨g,i,none⟩=false:=by subst hg;simp
section
variable (kd kind nm team:Zy_) (vv hv fv:Value) (en:Bool) (ver:Int) (V Ho:List Zy_) (Fs:List Fd) (w:World) (lo:Nat)
theorem ZkH (hV:Zag w vv V) (hH:Zag w hv Ho) (hF:Zav lo w fv Fs) (n1:V.length<=1048576) (n2:Ho.length<=1048576) (hl:Fs.length=V.length) :
 Calls prog 279 #[.agg #[.string kd,fv],.agg #[.string kind,.string nm,.string team,vv,.bool en,hv,.int .i64 ver]] w
  fun e w'=>∃ v' h',e=.returned (.agg #[.string kind,.string nm,.string team,v',.bool en,h',.int .i64 ver])/\Zw_ w w'/\Zep w.heap.size w' v' h' (ZeL V Fs) Ho:=by
 have HV:=Zab hV;have HH:=Zab hH;have HF:=Zab hF;obtain⟨a,n,cap,rfl⟩:=hV.form;obtain⟨a',n',cap',rfl⟩:=hH.form;obtain⟨a1,cap1,rfl⟩:=hF.form;have HL:=Zab hl;have hfn:Fs.length<=1048576:=by omega
 clear hV hH hF hl;have HW:∀ o o' o'',Hd (Zw_ w (((w.alloc o).alloc o').alloc o'')):=fun o o' o''=>((Zb_.alloc Zl_ _).alloc (by simp) _).alloc (by simp;omega) _
 go_enter func279,ntmps279;go_wp2_with fail;refine (Zfa _ _ _ _ _ _ _ V Ho _ (HV.o.below (HW _ _ _).o) (HH.o.below (HW _ _ _).o) n1 n2).mono ?_;rintro e w1 ⟨v1,h1,rfl,hb,hs⟩;obtain⟨mid,hlo,hmid,hs1,hs2⟩:=hs;obtain⟨a2,cap2,rfl⟩:=hs1.form;obtain⟨a3,cap3,rfl⟩:=hs2.form;have hz:w.heap.size+2 < w1.heap.size:=by have:=hb.size;simp at this;omega
 have hlo':w.heap.size+3<=mid:=by simpa using hlo
 obtain⟨hc,hf⟩:=ZfL hb;have HB:Hd (Zw_ w w1):=(HW _ _ _).o.trans (hb.mono (by simp;omega));have HS1:Hd (Zae (w.heap.size+3) mid w1 (.slice a2 V.length cap2) V):=hs1.wide (by simp) Zl_;have HS2:=Zab hs2
 have g0:∀ i,w1.cell? ⟨w.heap.size,i,none⟩=(#[.string kd,.slice a1 Fs.length cap1]:Array Value)[i]?:=fun i=>by
  rw [hc _ _ (by simp;omega),(((Below.refl (w.alloc (.cells #[.string kd,.slice a1 Fs.length cap1] 164)).heap.size _).alloc Zl_ _).alloc (by simp) _).cell (p:=⟨w.heap.size,i,none⟩) (by simp)];simp
 have g2:∀ i,w1.cell? ⟨w.heap.size+1+1,i,none⟩=(#[.string ⟨#[]⟩,.string ⟨#[]⟩,.string ⟨#[]⟩,.slice none 0 0,.bool false,.slice none 0 0,.int .i64 0]:Array Value)[i]?:=fun i=>by
  rw [hc _ _ (by simp)];exact ZbH _ _ _ _ _ (by simp)
 have gf2:∀ i,w1.frozen? ⟨w.heap.size+1+1,i,none⟩=false:=fun i=>by rw [hf _ _ (by simp)];exact Zit _ _ _ _ _ (by simp)
 have G2:=Zab g2;have GF2:=Zab gf2;have hz0:w.heap.size < w1.heap.size:=by omega
 clear hb hs1 hs2 hc hf g2 gf2 hlo;go_wp2;have hA:Below w1.heap.size w1 (w1.alloc (.cells #[.string kind,.string nm,.string team,.slice a2 V.length cap2,.bool en,.slice a3 Ho.length cap3,.int .i64 ver] 155)):=Zb_.alloc Zl_ _;have hN:∀ i,(w1.alloc (.cells #[.string kind,.string nm,.string team,.slice a2 V.length cap2,.bool en,.slice a3 Ho.length cap3,.int .i64 ver] 155)).cell? ⟨w1.heap.size,i,none⟩=(#[.string kind,.string nm,.string team,.slice a2 V.length cap2,.bool en,.slice a3 Ho.length cap3,.int .i64 ver]:Array Value)[i]?:=fun i=>ZbH _ _ _ _ _ rfl
 have hNs:(w1.alloc (.cells #[.string kind,.string nm,.string team,.slice a2 V.length cap2,.bool en,.slice a3 Ho.length cap3,.int .i64 ver] 155)).heap.size=w1.heap.size+1:=by simp
 generalize hW1:w1.alloc (.cells #[.string kind,.string nm,.string team,.slice a2 V.length cap2,.bool en,.slice a3 Ho.length cap3,.int .i64 ver] 155)=W1 at hA hN hNs |-;clear hW1;have HA:=Zab hA;have HN:=Zab hN;clear hA hN g0
 go_loopw [13] (fun i wr=>∃ (k:Nat) (L:List Zy_),i=.int .i64 k/\k<=Fs.length/\Zc2 V Fs k L/\Zae (w.heap.size+3) mid wr (.slice a2 V.length cap2) L/\Zad (w.heap.size+3) mid W1 wr) (fun i _=>Fs.length - (intOf i).toNat)
 case atStart=>exact⟨0,V,rfl,by omega,Zc2.zero _ _,HS1.o.below HA.o,Zad.refl _ _ _⟩
 case round=>
  obtain⟨k,L,rfl,hk,hfill,hso,htc⟩:=hrel;have HFT:=Zab hfill;have HSO:=Zab hso;have HT:=Zab htc;clear hfill hso htc;have hszr:w1.heap.size < wr.heap.size:=by have:=HT.o.size;omega
  have HBr:Hd (Zw_ w wr):=HB.o.trans ((HA.o.mono (by omega)).trans ((HT.o.under (by omega)).mono (by omega)))
  have hO:∀ i,wr.cell? ⟨w1.heap.size,i,none⟩=(#[.string kind,.string nm,.string team,.slice a2 V.length cap2,.bool en,.slice a3 Ho.length cap3,.int .i64 ver]:Array Value)[i]?:=fun i=>by
   rw [HT.o.cell (p:=⟨w1.heap.size,i,none⟩) (by dsimp;omega) (by dsimp;omega)];exact HN.o i
  by_cases hlt:k < Fs.length
  . have hlv:k < V.length:=by have:=HL.o;omega
    have hlL:k < L.length:=by rw [HFT.o.1];exact hlv
    obtain⟨fb,foff,rfl,hfb,hfc⟩:=HF.o.full' (by omega);obtain⟨hsz,wv,hcell,hst⟩:=hfc k hlt;obtain⟨c0,c1,c2,c3,c4,c5,c6,c7,c8,c9,c10⟩:=hcell.below HBr.o hfb;obtain⟨wa,wn,wcap,rfl⟩:=hst.form;obtain⟨vb,voff,rfl,_,hvb,hv1,hv2,hvc,hvf⟩:=HSO.o.full (by omega);have hvk:=hvc k hlL;rw [HFT.o.at hlv hlL] at hvk;have hvfk:=hvf k;clear hcell hst hvc hvf hfc
    cases he:V[k].toList.isEmpty with
    | true=>
     have HFT2:=Zab (HFT.o.put hlv hlt he);have HP:∀ o,Hd (Zae (w.heap.size+3) mid ((wr.setCell ⟨vb,voff+k,none⟩ (.string Fs[k].df)).alloc o) (.slice (some ⟨vb,voff,none⟩) V.length cap2) (L.set k Fs[k].df)):=fun o=>(HSO.o.put hlL hsz.s9).below (Zb_.alloc Zl_ o)
     have HTT:∀ o,Hd (Zad (w.heap.size+3) mid W1 ((wr.setCell ⟨vb,voff+k,none⟩ (.string Fs[k].df)).alloc o)):=fun o=>(HT.o.trans (Zad.setCell _ _ _ _ _ ⟨hv1,hv2⟩)).trans (Zad.below (Zb_.alloc Zl_ o))
     clear hsz;go_wp2;go_roundw
     . exact⟨k+1,_,by go_num,by omega,HFT2.o,(HP _).o,(HTT _).o⟩
     . simp [intOf];omega
    | false=>
     have HFT2:=Zab (HFT.o.same hlv hlt he);have HP:∀ o,Hd (Zae (w.heap.size+3) mid (wr.alloc o) (.slice (some ⟨vb,voff,none⟩) V.length cap2) L):=fun o=>(HSO.o.below (Zb_.alloc Zl_ o))
     have HTT:∀ o,Hd (Zad (w.heap.size+3) mid W1 (wr.alloc o)):=fun o=>(HT.o.trans (Zad.below (Zb_.alloc Zl_ o)))
     clear hsz;go_wp2;go_roundw
     . exact⟨k+1,_,by go_num,by omega,HFT2.o,(HP _).o,(HTT _).o⟩
     . simp [intOf];omega
  . have HE:Hd (L=ZeL V Fs):=HFT.o.done HL.o (by omega)
    have hR:∀ i,wr.cell? ⟨w.heap.size+1+1,i,none⟩=(#[.string ⟨#[]⟩,.string ⟨#[]⟩,.string ⟨#[]⟩,.slice none 0 0,.bool false,.slice none 0 0,.int .i64 0]:Array Value)[i]?:=fun i=>by
     rw [HT.o.cell (p:=⟨w.heap.size+1+1,i,none⟩) (by dsimp;omega) (by dsimp;omega),HA.o.cell (p:=⟨w.heap.size+1+1,i,none⟩) (by dsimp;omega)];exact G2.o i
    have hRf:∀ i,wr.frozen? ⟨w.heap.size+1+1,i,none⟩=false:=fun i=>by
     rw [HT.o.frozen (p:=⟨w.heap.size+1+1,i,none⟩) (by dsimp;omega) (by dsimp;omega),HA.o.frozen (p:=⟨w.heap.size+1+1,i,none⟩) (by dsimp;omega)];exact GF2.o i
    have HH2:Hd (Zae mid w1.heap.size wr (.slice a3 Ho.length cap3) Ho):=(HS2.o.below HA.o).touch HT.o (Or.inr Zl_);have r0:wr.cell? ⟨w.heap.size+1+1,0,none⟩=some (.string ⟨#[]⟩):=hR 0;have r1:wr.cell? ⟨w.heap.size+1+1,1,none⟩=some (.string ⟨#[]⟩):=hR 1;have r2:wr.cell? ⟨w.heap.size+1+1,2,none⟩=some (.string ⟨#[]⟩):=hR 2;have r3:wr.cell? ⟨w.heap.size+1+1,3,none⟩=some (.slice none 0 0):=hR 3;have r4:wr.cell? ⟨w.heap.size+1+1,4,none⟩=some (.bool false):=hR 4;have r5:wr.cell? ⟨w.heap.size+1+1,5,none⟩=some (.slice none 0 0):=hR 5;have r6:wr.cell? ⟨w.heap.size+1+1,6,none⟩=some (.int .i64 0):=hR 6;clear hR;go_wp2
    refine bodyPost_ret (v:=.agg #[.string kind,.string nm,.string team,.slice a2 V.length cap2,.bool en,.slice a3 Ho.length cap3,.int .i64 ver]) (by simp [results,results279,go_sem,r0,r1,r2,r3,r4,r5,r6]) rfl ⟨_,_,rfl,?_,mid,by omega,by simp only [World.setCell,Array.size_modify];omega,?_,?_⟩
    . repeat (refine Below.setCell ?_ (by dsimp;omega) _)
      exact HBr.o
    . rw [<- HE.o]
      refine Zae.wide (lo:=w.heap.size+3) (hi:=mid) ?_ (by omega) Zl_
      repeat (refine Zae.setCell ?_ (by dsimp;omega) _)
      exact HSO.o
    . refine Zae.wide (lo:=mid) (hi:=w1.heap.size) ?_ Zl_ (by simp only [World.setCell,Array.size_modify];omega)
      repeat (refine Zae.setCell ?_ (by dsimp;omega) _)
      exact HH2.o
end
theorem Zag.form' {w:World}{L:List Zy_} (h:Zag w v L):∃ a cap,v=.slice a L.length cap:=by
 rcases h with ⟨a,cap,h,rfl⟩ | ⟨b,off,cap,h,_⟩
 . exact⟨a,cap,h⟩
 . exact⟨_,cap,h⟩
theorem Zak (X:World) (o:Obj) (b i:Nat) (h:b < X.heap.size):(X.alloc o).cell? ⟨b,i,none⟩=X.cell? ⟨b,i,none⟩:=((Below.refl X.heap.size X).alloc Zl_ o).cell (p:=⟨b,i,none⟩) h
theorem Zjg (X:World) (o:Obj) (b i:Nat) (h:b < X.heap.size):(X.alloc o).frozen? ⟨b,i,none⟩=X.frozen? ⟨b,i,none⟩:=((Below.refl X.heap.size X).alloc Zl_ o).frozen (p:=⟨b,i,none⟩) h
theorem Zey (lo:Nat) (v:Value) (Ss:List Sh) (s:Zy_) (w:World) (hv:ZaR lo w v Ss) :
 Calls prog 189 #[v,.string s] w fun e w'=>w'=w/\((∃ k:Nat,k < Ss.length/\e=.returned (.int .i64 k)/\Zcz Ss s=Ss[k]?)\/(e=.returned (.int .i64 (-1))/\Zcz Ss s=none)):=by
 by_cases hL:Ss=[]
 . subst hL
   obtain⟨a,cap,rfl⟩:=hv.form;clear hv;go_enter func189,ntmps189;go_wp2
   go_loop [5] (fun i=>i=.int .i64 0) (fun _=>0)
   case atStart=>rfl
   case round=>
    subst hrel;go_wp2;go_ret;exact⟨rfl,rfl,rfl⟩
 . obtain⟨b,off,cap,rfl,hm,hbw,hc⟩:=hv.full hL
   clear hv;unfold maxLen at hm;go_enter func189,ntmps189;go_wp2
   go_loop [5] (fun i=>∃ k:Nat,i=.int .i64 k/\k<=Ss.length/\∀ i (h:i < Ss.length),i < k->(Ss[i].kind.toList == s.toList)=false) (fun i=>Ss.length - (intOf i).toNat)
   case atStart=>exact⟨0,rfl,by omega,fun i _ h=>by omega⟩
   case round=>
    obtain⟨k,rfl,hk,hall⟩:=hrel;have HA:=Zab hall;clear hall
    by_cases hlt:k < Ss.length
    . obtain⟨_,fv,hck,_,_⟩:=hc k hlt
      by_cases he:(Ss[k].kind.toList == s.toList)=true
      . go_wp2
        go_ret;exact⟨rfl,Or.inl ⟨k,hlt,rfl,by rw [ZfH hlt he HA.o,List.getElem?_eq_getElem hlt]⟩⟩
      . have he':(Ss[k].kind.toList == s.toList)=false:=by simpa using he
        clear he;go_wp2
        go_round
        case rel=>exact⟨k+1,by go_num,by omega,fun i h h'=>by
                   by_cases e:i=k
                   . subst e;exact he'
                   . exact HA.o i h (by omega)⟩
        . simp [intOf];omega
    . go_wp2
      go_ret;exact⟨rfl,Or.inr ⟨rfl,Zfz fun i h=>HA.o i h (by omega)⟩⟩
theorem ZaR.full' {lo:Nat}{w:World}{a:Option Addr}{Ss:List Sh} (h:ZaR lo w (.slice a n cap) Ss) (hL:0 < Ss.length) :
 ∃ b off,a=some ⟨b,off,none⟩/\b < w.heap.size/\∀ i (h:i < Ss.length),Ss[i].kind.size<=maxLen/\∃ fv,w.cell? ⟨b,off+i*2,none⟩=some (.string Ss[i].kind)/\w.cell? ⟨b,off+i*2+1,none⟩=some fv/\Zav lo w fv Ss[i].fields:=by
 rcases h with ⟨a',cap',h,rfl⟩ | ⟨b',off',cap',h1,h2,h3,h4,h5,h7⟩
 . simp at hL
 . injection h1 with e1 e2 e3
   exact⟨b',off',e1,h4,h7⟩
section
variable (kind nm team:Zy_) (vv hv sv:Value) (en:Bool) (ver:Int) (V Ho:List Zy_) (Ss:List Sh) (w:World) (lo:Nat)
def L2F (lo:Nat) (Ss:List Sh) (kind:Zy_) (n:Nat) (e:Ending) (w:World):Prop:=
 (∃ x fv,Zcz Ss kind=some x/\x.fields.length=n/\e=.returned (.tuple #[fv,.bool true])/\Zav lo w fv x.fields)\/
 ((∀ x,Zcz Ss kind=some x->x.fields.length≠n)/\∃ a cap,e=.returned (.tuple #[.slice a 0 cap,.bool false]))
theorem ZcK (w0:World) (hS:ZaR lo w0 sv Ss) (h0:Below w0.heap.size w0 w) (hV:Zag w vv V) (hH:Zag w hv Ho) :
 Calls prog 156 #[sv,.agg #[.string kind,.string nm,.string team,vv,.bool en,hv,.int .i64 ver]] w
  fun e w'=>Zw_ w w'/\L2F lo Ss kind V.length e w0:=by
 have HV:=Zab hV;have HH:=Zab hH;have HS:=Zab hS;obtain⟨a,cap,rfl⟩:=hV.form';obtain⟨a',cap',rfl⟩:=hH.form';obtain⟨a1,cap1,rfl⟩:=hS.form;have H0:=Zab h0;clear hV hH hS h0;have HW:∀ o,Hd (Zw_ w (w.alloc o)):=fun o=>Zb_.alloc Zl_ _
 go_enter func156,ntmps156;go_wp2_with fail;refine (Zey lo _ Ss kind _ (HS.o.below (H0.o.trans ((HW _).o.mono H0.o.size)))).mono ?_;rintro e w1 ⟨rfl,⟨k,hk,rfl,hsh⟩ | ⟨rfl,hsh⟩⟩
 . have HSH:=Zab hsh
   clear hsh;obtain⟨b,off,rfl,hbw0,hc⟩:=HS.o.full' (by omega);have hbw:b < w.heap.size:=Zk_ hbw0 H0.o.size
   obtain⟨_,fv,d0,d1,hst⟩:=hc k hk;obtain⟨fa,fcap,rfl⟩:=hst.form;have HST:=Zab hst;have d1':∀ o,(w.alloc o).cell? ⟨b,off+k*2+1,none⟩=some (.slice fa Ss[k].fields.length fcap):=fun o=>by rw [Zak _ _ _ _ hbw,H0.o.cell (p:=⟨b,_,none⟩) hbw0];exact d1
   clear d0 d1 hst hc;have hxk:Ss[k]?=some Ss[k]:=List.getElem?_eq_getElem hk
   by_cases hl:Ss[k].fields.length=V.length
   . have HL:=Zab hl
     have hne:((Ss[k].fields.length:Int) != (V.length:Int))=false:=by rw [hl];simp
     have HQ:Hd (Zcz Ss kind=some Ss[k]):=HSH.o.trans hxk;clear hl hxk HSH;go_wp2
     go_quiet (fail)
     go_wp2;refine bodyPost_ret (v:=.tuple #[.slice fa Ss[k].fields.length fcap,.bool true]) (by simp [results,results156,go_sem]) rfl ⟨below_drewN (HW _).o _,Or.inl ⟨Ss[k],_,HQ.o,HL.o,rfl,HST.o⟩⟩
   . have hne:((Ss[k].fields.length:Int) != (V.length:Int))=true:=by simp;omega
     have HQ:Hd (∀ x,Zcz Ss kind=some x->x.fields.length≠V.length):=fun x hx=>by
      rw [HSH.o,hxk] at hx;rw [<- Option.some.inj hx];exact hl
     clear hl hxk HSH;go_wp2
     go_quiet (fail)
     go_wp2;refine bodyPost_ret (v:=.tuple #[.slice (some ⟨w.heap.size+1,0,none⟩) 0 0,.bool false]) (by simp [results,results156,go_sem]) rfl ⟨?_,Or.inr ⟨HQ.o,_,_,rfl⟩⟩;exact (below_drewN (HW _).o _).alloc (by simp) _
 . have HQ:Hd (∀ x,Zcz Ss kind=some x->x.fields.length≠V.length):=fun x hx=>by rw [hsh] at hx;cases hx
   clear hsh;go_wp2
   go_quiet (fail)
   go_wp2;refine bodyPost_ret (v:=.tuple #[.slice (some ⟨w.heap.size+1,0,none⟩) 0 0,.bool false]) (by simp [results,results156,go_sem]) rfl ⟨?_,Or.inr ⟨HQ.o,_,_,rfl⟩⟩;exact (below_drewN (HW _).o _).alloc (by simp) _
end
def ZgO (Ss:List Sh) (kind:Zy_) (V:List Zy_):List Zy_:=
 match Zcz Ss kind with
 | some x=>if x.fields.length=V.length then ZeL V x.fields else V
 | none=>V
theorem ZiL {Ss:List Sh}{kind:Zy_}{V:List Zy_} (h:∀ x,Zcz Ss kind=some x->x.fields.length≠V.length):ZgO Ss kind V=V:=by
 unfold ZgO
 cases hx:Zcz Ss kind with
 | none=>rfl
 | some x=>exact if_neg (h x hx)
theorem ZgS {Ss:List Sh}{kind:Zy_}{V:List Zy_} (h:Zcz Ss kind=some x) (hl:x.fields.length=V.length):ZgO Ss kind V=ZeL V x.fields:=by unfold ZgO;rw [h];exact if_pos hl
section
variable (kind nm team:Zy_) (vv hv sv:Value) (en:Bool) (ver:Int) (V Ho:List Zy_) (Ss:List Sh) (w:World) (lo:Nat)
theorem Zng (hS:ZaR lo w sv Ss) (hV:Zag w vv V) (hH:Zag w hv Ho) (n1:V.length<=1048576) (n2:Ho.length<=1048576) :
 Calls prog 201 #[sv,.agg #[.string kind,.string nm,.string team,vv,.bool en,hv,.int .i64 ver]] w
  fun e w'=>∃ v' h',e=.returned (.agg #[.string kind,.string nm,.string team,v',.bool en,h',.int .i64 ver])/\Zw_ w w'/\Zep w.heap.size w' v' h' (ZgO Ss kind V) Ho:=by
 have HV:=Zab hV;have HH:=Zab hH;have HS:=Zab hS;obtain⟨a,cap,rfl⟩:=hV.form';obtain⟨a',cap',rfl⟩:=hH.form';obtain⟨a1,cap1,rfl⟩:=hS.form;clear hV hH hS;have HW:∀ o o',Hd (Zw_ w ((w.alloc o).alloc o')):=fun o o'=>(Zb_.alloc Zl_ _).alloc (by simp) _
 go_enter func201,ntmps201;go_wp2_with fail;refine (ZfZ _ _ _ _ _ _ _ V Ho _ (HV.o.below (HW _ _).o) (HH.o.below (HW _ _).o) n1 n2).mono ?_;rintro e w1 ⟨v1,h1,rfl,hb,mid,hlo,hmid,hs1,hs2⟩;obtain⟨a2,cap2,rfl⟩:=hs1.form;obtain⟨a3,cap3,rfl⟩:=hs2.form;have hz:w.heap.size+1 < w1.heap.size:=by have:=hb.size;simp at this;omega
 have hz0:w.heap.size < w1.heap.size:=by omega
 have hlo':w.heap.size+2<=mid:=by simpa using hlo
 obtain⟨hc,hf⟩:=ZfL hb;have HB:Hd (Zw_ w w1):=(HW _ _).o.trans (hb.mono (by simp;omega));have HS1:Hd (Zae (w.heap.size+2) mid w1 (.slice a2 V.length cap2) V):=hs1.wide (by simp) Zl_;have HS2:=Zab hs2
 have g0:∀ i,w1.cell? ⟨w.heap.size,i,none⟩=(#[.string kind,.string nm,.string team,.slice a V.length cap,.bool en,.slice a' Ho.length cap',.int .i64 ver]:Array Value)[i]?:=fun i=>by
  rw [hc _ _ (by simp;omega),Zak _ _ _ _ (by simp)];exact ZbH _ _ _ _ _ rfl
 have G1:Hd (∀ i,w1.cell? ⟨w.heap.size+1,i,none⟩=(#[.string ⟨#[]⟩,.string ⟨#[]⟩,.string ⟨#[]⟩,.slice none 0 0,.bool false,.slice none 0 0,.int .i64 0]:Array Value)[i]?):=fun i=>by
  rw [hc _ _ (by simp)];exact ZbH _ _ _ _ _ (by simp)
 have GF1:Hd (∀ i,w1.frozen? ⟨w.heap.size+1,i,none⟩=false):=fun i=>by rw [hf _ _ (by simp)];exact Zit _ _ _ _ _ (by simp)
 clear hb hs1 hs2 hc hf hlo;go_wp2_with fail;have HX:∀ o,Hd (Zw_ w (w1.alloc o)):=fun o=>HB.o.alloc (by omega) _
 refine (ZcK _ _ _ _ _ _ _ _ V Ho Ss _ lo w HS.o (HX _).o (HV.o.below (HX _).o) (HH.o.below (HX _).o)).mono ?_;rintro e w2 ⟨hb2,hl2⟩;have hz2:w1.heap.size < w2.heap.size:=by have:=hb2.size;simp at this;omega
 have HB2:Hd (Zw_ w w2):=(HX _).o.trans (hb2.mono (HX _).o.size)
 have hO:∀ i,w2.cell? ⟨w1.heap.size,i,none⟩=(#[.string kind,.string nm,.string team,.slice a2 V.length cap2,.bool en,.slice a3 Ho.length cap3,.int .i64 ver]:Array Value)[i]?:=fun i=>by
  rw [hb2.cell (p:=⟨w1.heap.size,i,none⟩) (by simp)];exact ZbH _ _ _ _ _ rfl
 have G2:Hd (∀ i,w2.cell? ⟨w.heap.size+1,i,none⟩=(#[.string ⟨#[]⟩,.string ⟨#[]⟩,.string ⟨#[]⟩,.slice none 0 0,.bool false,.slice none 0 0,.int .i64 0]:Array Value)[i]?):=fun i=>by
  rw [hb2.cell (p:=⟨w.heap.size+1,i,none⟩) (by simp;omega),Zak _ _ _ _ hz];exact G1.o i
 have GF2:Hd (∀ i,w2.frozen? ⟨w.heap.size+1,i,none⟩=false):=fun i=>by
  rw [hb2.frozen (p:=⟨w.heap.size+1,i,none⟩) (by simp;omega),Zjg _ _ _ _ hz];exact GF1.o i
 have HA:∀ o,Hd (Below w1.heap.size w1 (w1.alloc o)):=fun o=>Zb_.alloc Zl_ _
 have HV2:Hd (Zae (w.heap.size+2) mid w2 (.slice a2 V.length cap2) V):=(HS1.o.below (HA _).o).below hb2;have HH2:Hd (Zae mid w1.heap.size w2 (.slice a3 Ho.length cap3) Ho):=(HS2.o.below (HA _).o).below hb2;clear hb2 g0 G1 GF1 HS1 HS2
 rcases hl2 with ⟨x,fv,hx,hl,rfl,hfd⟩ | ⟨hno,fa,fcap,rfl⟩
 . obtain⟨fa,fcap,rfl⟩:=hfd.form
   have HFD:=Zab hfd;have HG:Hd (ZgO Ss kind V=ZeL V x.fields):=ZgS hx hl;have HL:=Zab hl;have hfn:x.fields.length<=1048576:=by omega
   have HO:=Zab hO;clear hfd hx hl hO;go_wp2
   go_loopw [8] (fun i wr=>∃ (k:Nat) (L:List Zy_),i=.int .i64 k/\k<=x.fields.length/\Zc2 V x.fields k L/\Zae (w.heap.size+2) mid wr (.slice a2 V.length cap2) L/\Zad (w.heap.size+2) mid w2 wr) (fun i _=>x.fields.length - (intOf i).toNat)
   case atStart=>exact⟨0,V,rfl,by omega,Zc2.zero _ _,HV2.o,Zad.refl _ _ _⟩
   case round=>
    obtain⟨k,L,rfl,hk,hfill,hso,htc⟩:=hrel;have HFT:=Zab hfill;have HSO:=Zab hso;have HT:=Zab htc;clear hfill hso htc;have hszr:w1.heap.size < wr.heap.size:=by have:=HT.o.size;omega
    have HBr:Hd (Zw_ w wr):=HB2.o.trans ((HT.o.under (by omega)).mono (by omega))
    have hO:∀ i,wr.cell? ⟨w1.heap.size,i,none⟩=(#[.string kind,.string nm,.string team,.slice a2 V.length cap2,.bool en,.slice a3 Ho.length cap3,.int .i64 ver]:Array Value)[i]?:=fun i=>by
     rw [HT.o.cell (p:=⟨w1.heap.size,i,none⟩) (by dsimp;omega) (by dsimp;omega)];exact HO.o i
    by_cases hlt:k < x.fields.length
    . have hlv:k < V.length:=by have:=HL.o;omega
      have hlL:k < L.length:=by rw [HFT.o.1];exact hlv
      obtain⟨fb,foff,rfl,hfb,hfc⟩:=HFD.o.full' (by omega);obtain⟨hsz,wv,hcell,hst⟩:=hfc k hlt;have c9:=(hcell.below HBr.o hfb).c9;obtain⟨vb,voff,rfl,_,hvb,hv1,hv2,hvc,hvf⟩:=HSO.o.full (by omega);have hvk:=hvc k hlL;rw [HFT.o.at hlv hlL] at hvk;have hvfk:=hvf k;clear hcell hst hvc hvf hfc
      cases he:V[k].toList.isEmpty with
      | true=>
       have HFT2:=Zab (HFT.o.put hlv hlt he);go_wp2
       go_region
       go_wp2;go_roundw
       . exact⟨k+1,_,by go_num,by omega,HFT2.o,(HSO.o.put hlL hsz.s9).below Zb_.drew,(HT.o.trans (Zad.setCell _ _ _ _ _ ⟨hv1,hv2⟩)).trans (Zad.below Zb_.drew)⟩
       . simp [intOf];omega
      | false=>
       have HFT2:=Zab (HFT.o.same hlv hlt he);go_wp2;go_roundw
       . exact⟨k+1,_,by go_num,by omega,HFT2.o,HSO.o,HT.o⟩
       . simp [intOf];omega
    . have HE:Hd (L=ZeL V x.fields):=HFT.o.done HL.o (by omega)
      have hR:∀ i,wr.cell? ⟨w.heap.size+1,i,none⟩=(#[.string ⟨#[]⟩,.string ⟨#[]⟩,.string ⟨#[]⟩,.slice none 0 0,.bool false,.slice none 0 0,.int .i64 0]:Array Value)[i]?:=fun i=>by
       rw [HT.o.cell (p:=⟨w.heap.size+1,i,none⟩) (by dsimp;omega) (by dsimp;omega)];exact G2.o i
      have hRf:∀ i,wr.frozen? ⟨w.heap.size+1,i,none⟩=false:=fun i=>by
       rw [HT.o.frozen (p:=⟨w.heap.size+1,i,none⟩) (by dsimp;omega) (by dsimp;omega)];exact GF2.o i
      have HH3:Hd (Zae mid w1.heap.size wr (.slice a3 Ho.length cap3) Ho):=HH2.o.touch HT.o (Or.inr Zl_);have r0:wr.cell? ⟨w.heap.size+1,0,none⟩=some (.string ⟨#[]⟩):=hR 0;have r1:wr.cell? ⟨w.heap.size+1,1,none⟩=some (.string ⟨#[]⟩):=hR 1;have r2:wr.cell? ⟨w.heap.size+1,2,none⟩=some (.string ⟨#[]⟩):=hR 2;have r3:wr.cell? ⟨w.heap.size+1,3,none⟩=some (.slice none 0 0):=hR 3;have r4:wr.cell? ⟨w.heap.size+1,4,none⟩=some (.bool false):=hR 4;have r5:wr.cell? ⟨w.heap.size+1,5,none⟩=some (.slice none 0 0):=hR 5;have r6:wr.cell? ⟨w.heap.size+1,6,none⟩=some (.int .i64 0):=hR 6;clear hR;go_wp2
      refine bodyPost_ret (v:=.agg #[.string kind,.string nm,.string team,.slice a2 V.length cap2,.bool en,.slice a3 Ho.length cap3,.int .i64 ver]) (by simp [results,results201,go_sem,r0,r1,r2,r3,r4,r5,r6]) rfl ⟨_,_,rfl,?_,mid,by omega,by simp only [World.setCell,Array.size_modify];omega,?_,?_⟩
      . repeat (refine Below.setCell ?_ (by dsimp;omega) _)
        exact HBr.o
      . rw [HG.o,<- HE.o]
        refine Zae.wide (lo:=w.heap.size+2) (hi:=mid) ?_ (by omega) Zl_
        repeat (refine Zae.setCell ?_ (by dsimp;omega) _)
        exact HSO.o
      . refine Zae.wide (lo:=mid) (hi:=w1.heap.size) ?_ Zl_ (by simp only [World.setCell,Array.size_modify];omega)
        repeat (refine Zae.setCell ?_ (by dsimp;omega) _)
        exact HH3.o
 . have HG:Hd (ZgO Ss kind V=V):=ZiL hno
   have hR:=G2.o;have hRf:=GF2.o;have r0:w2.cell? ⟨w.heap.size+1,0,none⟩=some (.string ⟨#[]⟩):=hR 0;have r1:w2.cell? ⟨w.heap.size+1,1,none⟩=some (.string ⟨#[]⟩):=hR 1;have r2:w2.cell? ⟨w.heap.size+1,2,none⟩=some (.string ⟨#[]⟩):=hR 2;have r3:w2.cell? ⟨w.heap.size+1,3,none⟩=some (.slice none 0 0):=hR 3;have r4:w2.cell? ⟨w.heap.size+1,4,none⟩=some (.bool false):=hR 4;have r5:w2.cell? ⟨w.heap.size+1,5,none⟩=some (.slice none 0 0):=hR 5;have r6:w2.cell? ⟨w.heap.size+1,6,none⟩=some (.int .i64 0):=hR 6;clear hR;go_wp2;refine bodyPost_ret (v:=.agg #[.string kind,.string nm,.string team,.slice a2 V.length cap2,.bool en,.slice a3 Ho.length cap3,.int .i64 ver]) (by simp [results,results201,go_sem,r0,r1,r2,r3,r4,r5,r6]) rfl ⟨_,_,rfl,?_,mid,by omega,by simp only [World.setCell,Array.size_modify];omega,?_,?_⟩
   . repeat (refine Below.setCell ?_ (by dsimp;omega) _)
     exact HB2.o
   . rw [HG.o]
     refine Zae.wide (lo:=w.heap.size+2) (hi:=mid) ?_ (by omega) Zl_
     repeat (refine Zae.setCell ?_ (by dsimp;omega) _)
     exact HV2.o
   . refine Zae.wide (lo:=mid) (hi:=w1.heap.size) ?_ Zl_ (by simp only [World.setCell,Array.size_modify];omega)
     repeat (refine Zae.setCell ?_ (by dsimp;omega) _)
     exact HH2.o
end
structure Box (w:World) (β:Nat) (cs:Array Value):Prop where
 lt:β < w.heap.size
 cell:∀ i,w.cell? ⟨β,i,none⟩=cs[i]?
 free:∀ i,w.frozen? ⟨β,i,none⟩=false
theorem Box.new (X:World) (cs:Array Value) (t:TypeId) (β:Nat) (h:X.heap.size=β):Box (X.alloc (.cells cs t)) β cs:=⟨by subst h;simp,fun i=>ZbH _ _ _ _ _ h,fun i=>Zit _ _ _ _ _ h⟩
theorem Box.below {w:World}{β:Nat} (h:Box w β cs) (hb:Below B w w') (hB:β < B):Box w' β cs:=
 ⟨Zk_ h.lt hb.size,fun i=>by rw [hb.cell (p:=⟨β,i,none⟩) hB];exact h.cell i,fun i=>by rw [hb.frozen (p:=⟨β,i,none⟩) hB];exact h.free i⟩
theorem Box.on {w:World}{β:Nat} (h:Box w β cs) (hb:Zw_ w w'):Box w' β cs:=h.below hb h.lt
theorem Box.drew {w:World}{β:Nat} (h:Box w β cs):Box w.drew β cs:=⟨h.lt,h.cell,h.free⟩
theorem Box.touch {w:World}{β lo:Nat} (h:Box w β cs) (hb:Zad lo hi w w') (ho:β < lo\/hi<=β):Box w' β cs:=
 ⟨Zk_ h.lt hb.size,fun i=>by rw [hb.cell (p:=⟨β,i,none⟩) h.lt ho];exact h.cell i,fun i=>by rw [hb.frozen (p:=⟨β,i,none⟩) h.lt ho];exact h.free i⟩
theorem Box.set {w:World}{β:Nat} (h:Box w β cs) (u:Value) (hk:k < cs.size):Box (w.setCell ⟨β,k,none⟩ u) β (cs.set k u):=by
 refine⟨by simpa [World.setCell] using h.lt,fun i=>?_,fun i=>by rw [World.frozen?_setCell];exact h.free i⟩;rw [Array.getElem?_set]
 by_cases hi:k=i
 . subst hi
   rw [if_pos rfl];have:(w.cell? ⟨β,k,none⟩)=some cs[k]:=by rw [h.cell];simp
   exact World.cell?_setCell_same' _ _ _ (by rw [this];rfl)
 . rw [if_neg hi,Zai _ _ _ _ _ hi];exact h.cell i
theorem Box.setFar {w:World}{β:Nat} (h:Box w β cs) {p:Addr} (hp:p.block≠β) (u:Value):Box (w.setCell p u) β cs:=
 ⟨by simpa [World.setCell] using h.lt,fun i=>by rw [World.cell?_setCell_far _ _ _ _ hp];exact h.cell i,fun i=>by rw [World.frozen?_setCell];exact h.free i⟩
abbrev Zrb (w:World) (cs:Array Value) (W:World):Prop:=(∀ i,W.cell? ⟨w.heap.size,i,none⟩=cs[i]?)/\w.heap.size < W.heap.size/\Hd (Zw_ w W/\∀ i,W.frozen? ⟨w.heap.size,i,none⟩=false)
theorem Zrb.box {w:World} (h:Zrb w cs W):Box W w.heap.size cs:=⟨h.2.1,h.1,h.2.2.o.2⟩
theorem Zrb.mk' {w:World} (h:Box W w.heap.size cs) (hb:Zw_ w W):Zrb w cs W:=⟨h.cell,h.lt,hb,h.free⟩
theorem Zrb.set {w:World}{p:Addr} (h:Zrb w cs W) (hp:w.heap.size < p.block) (u:Value):Zrb w cs (W.setCell p u):=Zrb.mk' (h.box.setFar (by omega) _) (h.2.2.o.1.setCell (by omega) _)
theorem Zac (X:World) (o:Obj):Below X.heap.size X (X.alloc o):=Zb_.alloc Zl_ _
theorem bt {b:World} (h:Below a.heap.size a b) (k:Below b.heap.size b c):Below a.heap.size a c:=h.trans (k.mono h.size)
theorem ZlI {X Y:World} (h:Below X.drew.heap.size X.drew Y):Below X.heap.size X Y:=((Below.refl X.heap.size X).drew).trans (h.mono Zl_)
theorem ZpZ.below {lo:Nat}{w:World} (h:ZpZ lo hi w v n) (hb:Zw_ w w'):ZpZ lo hi w' v n:=by
 rcases h with h | ⟨b,off,cap,m,h1,h2,h3,h4,h5,h6,h7,h8,h9⟩
 . exact Or.inl h
 . exact Or.inr ⟨b,off,cap,m,h1,h2,h3,h4,h5,h6,h7,h8,h9.below hb⟩
abbrev ZaB (W0:World) (b1:Nat) (cs1:Array Value) (b2:Nat) (cs2:Array Value) (W:World):Prop:=
 (∀ i,W.cell? ⟨b1,i,none⟩=cs1[i]?)/\(∀ i,W.cell? ⟨b2,i,none⟩=cs2[i]?)/\Hd (Below W0.heap.size W0 W/\b1 < W0.heap.size/\b2 < W0.heap.size)
theorem ZaB.drew (h1:Box W0 b1 cs1) (h2:Box W0 b2 cs2):ZaB W0 b1 cs1 b2 cs2 W0.drew:=⟨h1.cell,h2.cell,Zb_.drew,h1.lt,h2.lt⟩
theorem ZaB.on (h:ZaB W0 b1 cs1 b2 cs2 W) (hb:Below W.heap.size W W'):ZaB W0 b1 cs1 b2 cs2 W':=by
 obtain⟨h1,h2,h3,h4,h5⟩:=h;have:=h3.size;exact⟨fun i=>(hb.cell (p:=⟨b1,i,none⟩) (by dsimp;omega)).trans (h1 i),fun i=>(hb.cell (p:=⟨b2,i,none⟩) (by dsimp;omega)).trans (h2 i),bt h3 hb,h4,h5⟩
end Go.Proofs.YtfohnageehneoaaGreat
