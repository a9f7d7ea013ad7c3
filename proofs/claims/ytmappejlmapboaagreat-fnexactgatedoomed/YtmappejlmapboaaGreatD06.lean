import Derived.Test.YtmappejlmapboaaGreatD03
import Derived.Test.YtmappejlmapboaaGreatD05
import Derived.Deep.AppendLies
import Derived.ProofKit
import Derived.Deep.Strs
import Derived.Deep.RegionHeld
set_option maxHeartbeats 16000000
set_option maxRecDepth 100000
open Go.Proofs.Tryz
namespace Go.Proofs.YtmappejlmapboaaGreat
section
variable {k:Nat} {Fs:List Fd} {Ss:List Sh}
def Zc4 {α:Type} (N:List α) (rd:α->List α) (R:List α):Prop:=∀ i (h:i < R.length),R[i] ∈ N/\R[i] ∉ R.take i/\∀ r ∈ rd R[i],r ∈ R.take i
def Zjy {α:Type} (N:List α) (rd:α->List α) (row:List α):Prop:=∀ x ∈ N,x ∉ row->¬ ∀ r ∈ rd x,r ∈ row
section
variable {α:Type} {N:List α} {rd:α->List α} {R R':List α}
theorem Zc4.nil:Zc4 N rd []:=fun i h=>absurd h (Nat.not_lt_zero i)
theorem Zc4.snoc {x:α} (hg:Zc4 N rd R) (hn:x ∈ N) (hx:x ∉ R) (hr:∀ r ∈ rd x,r ∈ R):Zc4 N rd (R ++ [x]):=by
 intro i h;have h':i < R.length+1:=by rw [List.length_append] at h;exact h
 by_cases hi:i < R.length
 . rw [List.getElem_append_left hi,List.take_append_of_le_length (Nat.le_of_lt hi)]
   exact hg i hi
 . have e:i=R.length:=by omega
   subst e;have e1:(R ++ [x])[R.length]=x:=by simp
   have e2:(R ++ [x]).take R.length=R:=by simp
   rw [e1,e2];exact⟨hn,hx,hr⟩
theorem Zc4.init {x:α} (h:Zc4 N rd (R ++ [x])):Zc4 N rd R/\x ∈ N/\x ∉ R/\∀ r ∈ rd x,r ∈ R:=by
 constructor
 . intro i hi
   have:=h i (by rw [List.length_append];omega);rw [List.getElem_append_left hi,List.take_append_of_le_length (Nat.le_of_lt hi)] at this;exact this
 . have:=h R.length (by simp)
   have e1:(R ++ [x])[R.length]=x:=by simp
   have e2:(R ++ [x]).take R.length=R:=by simp
   rw [e1,e2] at this;exact this
theorem Zc4.along {p:List α->Prop} (h0:p []) (hs:∀ row x,Zc4 N rd row->x ∈ N->x ∉ row->(∀ r ∈ rd x,r ∈ row)->p row->p (row ++ [x])):∀ (n:Nat) (R:List α),R.length=n->Zc4 N rd R->p R:=by
 intro n
 induction n with
 | zero=>intro R hl _;rw [List.length_eq_zero_iff.1 hl];exact h0
 | succ n ih=>
  intro R hl hg;have hne:R≠[]:=by intro e;rw [e] at hl;cases hl
  have e:R.dropLast ++ [R.getLast hne]=R:=List.dropLast_concat_getLast hne;rw [<- e] at hg |-;obtain⟨h1,h2,h3,h4⟩:=hg.init;exact hs _ _ h1 h2 h3 h4 (ih _ (by rw [List.length_dropLast,hl];rfl) h1)
theorem Zc4.nodup (h:Zc4 N rd R):R.Nodup:=by
 refine Zc4.along (p:=fun R=>R.Nodup) List.nodup_nil (fun row x _ _ hx _ ih=>?_) _ R rfl h;rw [List.nodup_append];exact⟨ih,by simp,fun a ha b hb=>by simp at hb;subst hb;exact fun e=>hx (e ▸ ha)⟩
theorem Zc4.sub (h:Zc4 N rd R):R ⊆ N:=by
 intro y hy;obtain⟨i,hi,rfl⟩:=List.getElem_of_mem hy;exact (h i hi).1
theorem Zc4.reads (h:Zc4 N rd R) {x:α} (hx:x ∈ R):∀ r ∈ rd x,r ∈ R:=by
 intro r hr;obtain⟨i,hi,rfl⟩:=List.getElem_of_mem hx;exact List.mem_of_mem_take ((h i hi).2.2 r hr)
theorem Zc4.into (h:Zc4 N rd R) (hs:Zjy N rd R'):R ⊆ R':=by
 refine Zc4.along (p:=fun R=>R ⊆ R') (List.nil_subset _) (fun row x _ hn _ hr ih=>?_) _ R rfl h;intro z hz
 rcases List.mem_append.1 hz with h | h
 . exact ih h
 . simp at h;subst h
   exact Classical.byContradiction fun hc=>hs z hn hc fun r hrr=>ih (hr r hrr)
theorem Zc4.all (h:Zc4 N rd R) (hl:N.length<=R.length):∀ x ∈ N,x ∈ R:=by
 intro x hx;refine Classical.byContradiction fun hc=>?_
 have:(x :: R).length<=N.length:=List.Nodup.length_le_of_subset (List.nodup_cons.2 ⟨hc,h.nodup⟩) (List.cons_subset.2 ⟨hx,h.sub⟩);simp at this;omega
end
def Zq3 {α:Type} [DecidableEq α] (N:List α) (rd:α->List α) (R:List α):List α:=
 match N.find? fun x=>decide (x ∉ R)&&(rd x).all fun r=>decide (r ∈ R) with
 | some x=>R ++ [x]
 | none=>R
def Zf5 {α:Type} [DecidableEq α] (N:List α) (rd:α->List α):Nat->List α
 | 0=>[]
 | n+1=>Zq3 N rd (Zf5 N rd n)
def Zpy {α:Type} [DecidableEq α] (N:List α) (rd:α->List α):Bool:=decide (N.length<=(Zf5 N rd N.length).length)
section
variable {α:Type} [DecidableEq α] {N:List α} {rd:α->List α} {R:List α}
theorem ZfG (n:Nat):Zc4 N rd (Zf5 N rd n)/\((Zf5 N rd n).length=n\/Zjy N rd (Zf5 N rd n)):=by
 induction n with
 | zero=>exact⟨Zc4.nil,Or.inl rfl⟩
 | succ n ih=>
  obtain⟨hg,hc⟩:=ih
  show Zc4 N rd (Zq3 N rd (Zf5 N rd n))/\((Zq3 N rd (Zf5 N rd n)).length=n+1\/Zjy N rd (Zq3 N rd (Zf5 N rd n)))
  generalize Zf5 N rd n=R at*;unfold Zq3
  cases hf:N.find? fun x=>decide (x ∉ R)&&(rd x).all fun r=>decide (r ∈ R) with
  | none=>
   refine⟨hg,Or.inr fun x hx hn hr=>?_⟩;have:=List.find?_eq_none.1 hf x hx;exact this (by simp only [Bool.and_eq_true,decide_eq_true_eq,List.all_eq_true];exact⟨hn,hr⟩)
  | some x=>
   have hp:=List.find?_some hf;simp only [Bool.and_eq_true,decide_eq_true_eq,List.all_eq_true] at hp;have hx:=List.mem_of_find?_eq_some hf;refine⟨hg.snoc hx hp.1 hp.2,?_⟩
   rcases hc with hc | hc
   . exact Or.inl (by simp [hc])
   . exact absurd hp.2 (hc x hx hp.1)
theorem Znh (h:Zc4 N rd R) (hl:N.length<=R.length):Zpy N rd=true:=by
 unfold Zpy;refine decide_eq_true ?_
 rcases (ZfG (N:=N) (rd:=rd) N.length).2 with hc | hc
 . omega
 . have:=List.Nodup.length_le_of_subset h.nodup (h.into hc)
   omega
theorem ZqR (hs:Zjy N rd R) (hl:R.length < N.length):Zpy N rd=false:=by
 unfold Zpy;refine decide_eq_false ?_;have hg:=(ZfG (N:=N) (rd:=rd) N.length).1;have:=List.Nodup.length_le_of_subset hg.nodup (hg.into hs)
 omega
theorem Zll (h:Zpy N rd=true):∃ R,Zc4 N rd R/\N.length<=R.length:=by
 unfold Zpy at h;exact⟨_,(ZfG (N:=N) (rd:=rd) N.length).1,of_decide_eq_true h⟩
end
section
variable {α β:Type} (pl:α->Nat) (dec:List β->α->Option β)
def setp (V:List β) (x:α):List β:=match dec V x with
 | some v=>V.set (pl x) v
 | none=>V
def Zc8 (R:List α) (V:List β):List β:=R.foldl (setp pl dec) V
theorem Zi6 (R:List α) (x:α) (V:List β):Zc8 pl dec (R ++ [x]) V=setp pl dec (Zc8 pl dec R V) x:=by simp [Zc8]
theorem Zi7 {R:List α} (h:k < R.length) (V:List β):Zc8 pl dec (R.take (k+1)) V=setp pl dec (Zc8 pl dec (R.take k) V) R[k]:=by
 rw [List.take_succ_eq_append_getElem h,Zi6]
theorem Zkg (V:List β) (x:α):(setp pl dec V x).length=V.length:=by
 unfold setp;cases dec V x <;> simp
theorem Zh1 (R:List α):∀ (V:List β),(Zc8 pl dec R V).length=V.length:=by
 induction R with
 | nil=>intro V;rfl
 | cons x R ih=>intro V;show (Zc8 pl dec R (setp pl dec V x)).length=_;rw [ih,Zkg]
theorem ZqU (V:List β) (x:α) {i:Nat} (h:pl x≠i):(setp pl dec V x)[i]?=V[i]?:=by
 unfold setp;cases dec V x with
 | none=>rfl
 | some v=>exact List.getElem?_set_ne h
structure Fix (N:List α) (V F:List β):Prop where
 len:F.length=V.length
 at':∀ x ∈ N,F[pl x]?=(dec F x).or V[pl x]?
 off:∀ i,(∀ x ∈ N,pl x≠i)->F[i]?=V[i]?
def ZrC (N:List α) (rd:α->List α):Prop:=∀ x ∈ N,∀ V V':List β,V.length=V'.length->(∀ r ∈ rd x,V[pl r]?=V'[pl r]?)->dec V x=dec V' x
def ZsB (N:List α):Prop:=∀ x ∈ N,∀ y ∈ N,pl x=pl y->x=y
variable {pl dec} {N:List α} {rd:α->List α}
theorem ZsV (ha:ZsB pl N) (hl:ZrC pl dec N rd) {R:List α} (h:Zc4 N rd R) (V:List β) (hp:∀ x ∈ N,pl x < V.length):Fix pl dec R V (Zc8 pl dec R V):=by
 refine Zc4.along (p:=fun R=>Fix pl dec R V (Zc8 pl dec R V)) ⟨rfl,fun x hx=>by simp at hx,fun _ _=>rfl⟩ (fun row x hg hn hx hr ih=>?_) _ R rfl h
 . rw [Zi6]
   have hlen:=Zh1 pl dec row V;generalize hF:Zc8 pl dec row V=F at*;have hoff:∀ y ∈ row,(setp pl dec F x)[pl y]?=F[pl y]?:=fun y hy=>ZqU _ _ _ _ fun e=>hx (by rw [ha x hn y (hg.sub hy) e];exact hy)
   have hdec:∀ y,y ∈ N->(∀ r ∈ rd y,r ∈ row)->dec (setp pl dec F x) y=dec F y:=fun y hy hry=>hl y hy _ _ (by rw [Zkg]) fun r hrr=>hoff r (hry r hrr)
   refine⟨by rw [Zkg,hlen],fun y hy=>?_,fun i hi=>?_⟩
   . rcases List.mem_append.1 hy with h | h
     . rw [hoff y h,hdec y (hg.sub h) (hg.reads h)];exact ih.at' y h
     . simp at h;subst h
       rw [hdec y hn hr];have hV:F[pl y]?=V[pl y]?:=ih.off _ fun z hz e=>hx (by rw [<- ha z (hg.sub hz) y hn e];exact hz)
       unfold setp
       cases hd:dec F y with
       | none=>simp [hV]
       | some v=>simp [List.getElem?_set_self (show pl y < F.length by rw [hlen];exact hp y hn)]
   . rw [ZqU _ _ _ _ (hi x (by simp))]
     exact ih.off i fun z hz=>hi z (by simp [hz])
theorem Fix.grow {R:List α}{V F:List β} (h:Fix pl dec R V F) (h1:R ⊆ N) (h2:∀ x ∈ N,x ∈ R):Fix pl dec N V F:=
 ⟨h.len,fun x hx=>h.at' x (h2 x hx),fun i hi=>h.off i fun x hx=>hi x (h1 hx)⟩
theorem ZrP (ha:ZsB pl N) (hl:ZrC pl dec N rd) {R:List α} (h:Zc4 N rd R) (hn:N.length<=R.length) (V:List β) (hp:∀ x ∈ N,pl x < V.length):Fix pl dec N V (Zc8 pl dec R V):=
 (ZsV ha hl h V hp).grow h.sub (h.all hn)
theorem Zof [DecidableEq α] (hl:ZrC pl dec N rd) (hr:Zpy N rd=true) {V F G:List β} (h1:Fix pl dec N V F) (h2:Fix pl dec N V G):F=G:=by
 obtain⟨R,hg,hn⟩:=Zll hr;have hlen:F.length=G.length:=h1.len.trans h2.len.symm
 have key:∀ P,Zc4 N rd P->∀ x ∈ P,F[pl x]?=G[pl x]?:=by
  intro P hP;refine Zc4.along (p:=fun P=>∀ x ∈ P,F[pl x]?=G[pl x]?) (fun x hx=>by simp at hx) (fun row x _ hxn _ hrr ih=>?_) _ P rfl hP
  . intro y hy
    rcases List.mem_append.1 hy with h | h
    . exact ih y h
    . simp at h;subst h
      rw [h1.at' y hxn,h2.at' y hxn,hl y hxn F G hlen fun r hr'=>ih r (hrr r hr')]
 apply List.ext_getElem?;intro i
 by_cases h:∃ x ∈ N,pl x=i
 . obtain⟨x,hx,rfl⟩:=h
   exact key R hg x (hg.all hn x hx)
 . have hi:∀ x ∈ N,pl x≠i:=fun x hx e=>h ⟨x,hx,e⟩
   rw [h1.off i hi,h2.off i hi]
end
open Go.RowKit Go.Deep
theorem Zaz {x y:Zy_}:(x.toList == y.toList)=true↔x=y:=by
 rw [beq_iff_eq];refine⟨fun h=>?_,fun h=>by rw [h]⟩;rw [ByteArray.toList_eq,ByteArray.toList_eq] at h;exact ByteArray.ext (Array.toList_inj.1 h)
theorem Zda (x:Zy_):(x.toList == x.toList)=true:=Zaz.2 rfl
theorem Zf2 {x y:Zy_}:(x.toList == y.toList)=false↔x≠y:=by
 rw [<- Bool.not_eq_true,Ne,Zaz]
structure Md where
 kind:Zy_
 field:Zy_
 wh:Zy_
 is:Zy_
 put:Zy_
 fr:Zy_
variable {m:Md} {Ms:List Md}
def ZaD (Fs:List Fd):List Zy_:=Fs.map Fd.nm
theorem ZcG {s:Zy_}:s ∈ ZaD Fs↔∃ i,∃ h:i < Fs.length,Fs[i].nm=s:=by
 unfold ZaD;rw [List.mem_map]
 constructor
 . rintro⟨f,hf,rfl⟩;obtain⟨i,hi,rfl⟩:=List.getElem_of_mem hf;exact⟨i,hi,rfl⟩
 . rintro⟨i,hi,rfl⟩;exact⟨_,List.getElem_mem hi,rfl⟩
def ZaP (Fs:List Fd) (s:Zy_):Nat:=Fs.findIdx fun f=>f.nm.toList == s.toList
theorem Zcm {s:Zy_}:ZaP Fs s < Fs.length↔s ∈ ZaD Fs:=by
 unfold ZaP;rw [List.findIdx_lt_length,ZcG]
 constructor
 . rintro⟨f,hf,h⟩;obtain⟨i,hi,rfl⟩:=List.getElem_of_mem hf;exact⟨i,hi,Zaz.1 h⟩
 . rintro⟨i,hi,rfl⟩;exact⟨_,List.getElem_mem hi,Zda _⟩
theorem Zj7 {s:Zy_} (h:ZaP Fs s < Fs.length):Fs[ZaP Fs s].nm=s:=by
 have:=List.findIdx_getElem (p:=fun f:Fd=>f.nm.toList == s.toList) (xs:=Fs) (w:=h);exact Zaz.1 this
theorem ZqN {s:Zy_} (hk:k < Fs.length) (h:(Fs[k].nm.toList == s.toList)=true) (hall:∀ i (h:i < Fs.length),i < k->(Fs[i].nm.toList == s.toList)=false):ZaP Fs s=k:=by
 unfold ZaP;rw [List.findIdx_eq hk];exact⟨h,fun j hj=>hall j (by omega) hj⟩
theorem Ztm {s:Zy_} (hall:∀ i (h:i < Fs.length),(Fs[i].nm.toList == s.toList)=false):ZaP Fs s=Fs.length:=by
 unfold ZaP;rw [List.findIdx_eq_length];intro f hf;obtain⟨i,hi,rfl⟩:=List.getElem_of_mem hf;exact hall i hi
theorem ZoD (Fs:List Fd):ZsB (ZaP Fs) (ZaD Fs):=fun x hx y hy e=>by
 rw [<- Zj7 (Zcm.2 hx),<- Zj7 (Zcm.2 hy)];simp only [e]
def Zbj (Fs:List Fd) (s:Zy_):Bool:=match Fs[ZaP Fs s]? with
 | some f=>!(f.kd == 4)
 | none=>false
theorem Zd1 {s:Zy_} (h:Zbj Fs s=true):s ∈ ZaD Fs:=by
 rw [<- Zcm];unfold Zbj at h
 by_cases hl:ZaP Fs s < Fs.length
 . exact hl
 . rw [List.getElem?_eq_none (by omega)] at h;cases h
theorem Zm8 {s:Zy_} (h:ZaP Fs s < Fs.length):Zbj Fs s=!(Fs[ZaP Fs s].kd == 4):=by unfold Zbj;rw [List.getElem?_eq_getElem h]
theorem Zm9 {s:Zy_} (h:¬ ZaP Fs s < Fs.length):Zbj Fs s=false:=by unfold Zbj;rw [List.getElem?_eq_none (by omega)]
def Zpx (Fs:List Fd) (s t:Zy_):Bool:=match Fs[ZaP Fs s]? with
 | some f=>ZaM f.kd f.le f.mo f.words t
 | none=>false
theorem Zqg {s t:Zy_} (h:ZaP Fs s < Fs.length):Zpx Fs s t=ZaM Fs[ZaP Fs s].kd Fs[ZaP Fs s].le Fs[ZaP Fs s].mo Fs[ZaP Fs s].words t:=by unfold Zpx;rw [List.getElem?_eq_getElem h]
def Zib (Fs:List Fd) (field s:Zy_):Bool:=s.toList.isEmpty || Zbj Fs s&&!(s.toList == field.toList)
def Zb3 (m:Md):Bool:=!(m.wh.toList.isEmpty&&!m.is.toList.isEmpty)&&!(m.put.toList.isEmpty == m.fr.toList.isEmpty)
def Zez (Fs:List Fd) (m:Md):Bool:=Zbj Fs m.field&&Zib Fs m.field m.wh&&Zib Fs m.field m.fr&&Zb3 m&&(m.put.toList.isEmpty || Zpx Fs m.field m.put)
def ZcH (Fs:List Fd) (m:Md):Bool:=
 Zbj Fs m.field&&(m.wh.toList.isEmpty || Zbj Fs m.wh)&&(m.fr.toList.isEmpty || Zbj Fs m.fr)&&!(m.wh.toList == m.field.toList)&&!(m.fr.toList == m.field.toList)&&Zb3 m&&(m.put.toList.isEmpty || Zpx Fs m.field m.put)
theorem Zqv (hn:∀ s ∈ ZaD Fs,s.toList.isEmpty=false):Zez Fs m=ZcH Fs m:=by
 unfold Zez ZcH Zib
 cases hp:Zbj Fs m.field with
 | false=>simp
 | true=>
  have hf:=hn _ (Zd1 hp)
  have h1:m.wh.toList.isEmpty=true->(m.wh.toList == m.field.toList)=false:=fun h=>by
   rw [Zf2];intro e;rw [e] at h;rw [h] at hf;cases hf
  have h2:m.fr.toList.isEmpty=true->(m.fr.toList == m.field.toList)=false:=fun h=>by
   rw [Zf2];intro e;rw [e] at h;rw [h] at hf;cases hf
  cases ha:m.wh.toList.isEmpty with
  | true=>
   rw [h1 ha]
   cases hb:m.fr.toList.isEmpty with
   | true=>rw [h2 hb];simp
   | false=>simp
  | false=>
   cases hb:m.fr.toList.isEmpty with
   | true=>rw [h2 hb];simp
   | false=>simp;cases Zbj Fs m.wh <;> cases (m.wh.toList == m.field.toList) <;> cases Zbj Fs m.fr <;> cases (m.fr.toList == m.field.toList) <;> simp
def Zj9 (m:Md):List Zy_:=(if m.wh.toList.isEmpty=true then [] else [m.wh]) ++ (if m.fr.toList.isEmpty=true then [] else [m.fr])
def Zdk (kind field:Zy_) (m:Md):Bool:=(m.kind.toList == kind.toList)&&(m.field.toList == field.toList)
def Zam (kind:Zy_) (Ms:List Md) (field:Zy_):List Zy_:=(Ms.filter (Zdk kind field)).flatMap Zj9
theorem ZuC (kind field:Zy_):Zam kind [] field=[]:=rfl
theorem Zlj (kind field:Zy_) (Ms:List Md) (m:Md):Zam kind (Ms ++ [m]) field=Zam kind Ms field ++ (if Zdk kind field m=true then Zj9 m else []):=by
 unfold Zam;rw [List.filter_append,List.flatMap_append]
 by_cases h:Zdk kind field m=true <;> simp [h]
theorem Zeg {kind field:Zy_}{r:Zy_}:r ∈ Zam kind Ms field↔∃ m ∈ Ms,Zdk kind field m=true/\r ∈ Zj9 m:=by
 unfold Zam;simp [List.mem_flatMap,and_assoc]
theorem Zt4 (h:m.wh.toList.isEmpty=false):m.wh ∈ Zj9 m:=by unfold Zj9;simp [h]
theorem Zt3 (h:m.fr.toList.isEmpty=false):m.fr ∈ Zj9 m:=by unfold Zj9;simp [h]
def ZbQ (Fs:List Fd) (V:List Zy_) (s:Zy_):Zy_:=(V[ZaP Fs s]?).getD ⟨#[]⟩
def Zhg (Fs:List Fd) (V:List Zy_) (m:Md):Bool:=(m.wh.toList.isEmpty || (ZbQ Fs V m.wh).toList == m.is.toList)&&(m.fr.toList.isEmpty || !(ZbQ Fs V m.fr).toList.isEmpty)
def Zcy (Fs:List Fd) (V:List Zy_) (m:Md):Zy_:=if m.fr.toList.isEmpty=true then m.put else ZbQ Fs V m.fr
def ZcX (Fs:List Fd) (kind:Zy_) (Ms:List Md) (V:List Zy_) (field:Zy_):Option Zy_:=(Ms.find? fun m=>Zdk kind field m&&Zhg Fs V m).map (Zcy Fs V)
theorem Zis {α β:Type}{p q:α->Bool}{f g:α->β}{L:List α} (h:∀ x ∈ L,p x=q x) (hf:∀ x ∈ L,p x=true->f x=g x):(L.find? p).map f=(L.find? q).map g:=by
 induction L with
 | nil=>rfl
 | cons a L ih=>
  have ha:=h a (by simp);rw [List.find?_cons,List.find?_cons,<- ha]
  cases hp:p a with
  | true=>simp only [Option.map_some];rw [hf a (by simp) hp]
  | false=>exact ih (fun x hx=>h x (by simp [hx])) fun x hx=>hf x (by simp [hx])
theorem ZiV (Fs:List Fd) (kind:Zy_) (Ms:List Md) (N:List Zy_):ZrC (ZaP Fs) (ZcX Fs kind Ms) N (Zam kind Ms):=by
 intro x _ V V' _ hr
 have hw:∀ m ∈ Ms,Zdk kind x m=true->m.wh.toList.isEmpty=false->ZbQ Fs V m.wh=ZbQ Fs V' m.wh:=fun m hm hf h=>by
  unfold ZbQ;rw [hr m.wh (Zeg.2 ⟨m,hm,hf,Zt4 h⟩)]
 have hg:∀ m ∈ Ms,Zdk kind x m=true->m.fr.toList.isEmpty=false->ZbQ Fs V m.fr=ZbQ Fs V' m.fr:=fun m hm hf h=>by
  unfold ZbQ;rw [hr m.fr (Zeg.2 ⟨m,hm,hf,Zt3 h⟩)]
 unfold ZcX;refine Zis (fun m hm=>?_) fun m hm hp=>?_
 . cases hf:Zdk kind x m with
   | false=>rfl
   | true=>
    unfold Zhg
    cases h1:m.wh.toList.isEmpty with
    | true=>cases h2:m.fr.toList.isEmpty with
     | true=>rfl
     | false=>rw [hg m hm hf h2];rfl
    | false=>cases h2:m.fr.toList.isEmpty with
     | true=>rw [hw m hm hf h1];rfl
     | false=>rw [hw m hm hf h1,hg m hm hf h2]
 . have hf:Zdk kind x m=true:=by simp at hp;exact hp.1
   unfold Zcy
   cases h2:m.fr.toList.isEmpty with
   | true=>rfl
   | false=>rw [hg m hm hf h2]
def Zdp (Ss:List Sh) (m:Md):Bool:=match Zcn Ss m.kind with
 | some x=>ZcH x.fields m
 | none=>false
def Zbr (Ms:List Md) (x:Sh):Bool:=Zpy (ZaD x.fields) (Zam x.kind Ms)
def Zax (Ss:List Sh) (Ms:List Md):Bool:=ZaH Ss&&decide (Ms.length<=12)&&Ms.all (Zdp Ss)&&Ss.all (Zbr Ms)
theorem Zbz (h:ZaH Ss=true) {x:Sh} (hx:x ∈ Ss):ZaA Ss x.fields=true:=by
 unfold ZaH at h;rw [Bool.and_eq_true,List.all_eq_true] at h;obtain⟨i,hi,rfl⟩:=List.getElem_of_mem hx;have:=h.2 i (List.mem_range.2 hi)
 cases i with
 | zero=>rw [ZcQ hi,Bool.and_eq_true] at this;exact this.2
 | succ j=>rw [ZbP hi,Bool.and_eq_true] at this;exact this.2
theorem ZkF (h:ZaA Ss Fs=true) {k:Nat} (hk:k < Fs.length):Zap Fs[k].nm=true/\ZnZ (Fs.take k) Fs[k].nm=false:=by
 unfold ZaA at h;rw [Bool.and_eq_true,List.all_eq_true] at h;have:=h.2 k (List.mem_range.2 hk);rw [ZaG hk] at this;simp at this;exact⟨this.1.1,this.2⟩
theorem Zdb (h:ZaA Ss Fs=true):Fs.length<=6:=by
 unfold ZaA at h;rw [Bool.and_eq_true] at h;exact of_decide_eq_true h.1
theorem Zjl (h:ZaH Ss=true):Ss.length<=6:=by
 unfold ZaH at h;rw [Bool.and_eq_true] at h;exact of_decide_eq_true h.1
theorem ZqC {s:Zy_} (h:Zap s=true):s.toList.isEmpty=false:=by
 unfold Zap inB at h;rw [Bool.and_eq_true] at h;have:=of_decide_eq_true h.1;rw [ByteArray.toList_eq]
 cases hs:s.data.toList with
 | nil=>have e:s.size=0:=by show s.data.size=0;rw [<- Array.length_toList,hs];rfl
        omega
 | cons a l=>rfl
theorem ZgX (h:ZaA Ss Fs=true):∀ s ∈ ZaD Fs,s.toList.isEmpty=false:=by
 intro s hs;obtain⟨i,hi,rfl⟩:=ZcG.1 hs;exact ZqC (ZkF h hi).1
theorem ZkE (h:ZaA Ss Fs=true) {k:Nat} (hk:k < Fs.length):ZaP Fs Fs[k].nm=k:=by
 refine ZqN hk (Zda _) fun i hi hlt=>?_
 have hd:=(ZkF h hk).2
 cases he:(Fs[i].nm.toList == Fs[k].nm.toList) with
 | false=>rfl
 | true=>rw [Zho hi hlt he] at hd;cases hd
theorem Zcg {s:Zy_}{x:Sh} (h:Zcn Ss s=some x):x ∈ Ss/\x.kind=s:=by
 unfold Zcn at h;have h2:=List.find?_some h;exact⟨List.mem_of_find?_eq_some h,Zaz.1 h2⟩
def ZpA (x:Sh) (Ms:List Md) (V F:List Zy_):Prop:=Fix (ZaP x.fields) (ZcX x.fields x.kind Ms) (ZaD x.fields) V F
def ZmS (Ss:List Sh) (Ms:List Md) (kind:Zy_) (V F:List Zy_):Prop:=
 (∃ x,Zax Ss Ms=true/\Zcn Ss kind=some x/\x.fields.length=V.length/\ZpA x Ms V F)\/
 ((Zax Ss Ms=false\/∀ x,Zcn Ss kind=some x->x.fields.length≠V.length)/\F=V)
theorem Zfa (h:Zax Ss Ms=true) {x:Sh} (hx:x ∈ Ss):Zpy (ZaD x.fields) (Zam x.kind Ms)=true:=by
 unfold Zax at h;rw [Bool.and_eq_true,List.all_eq_true] at h;exact h.2 x hx
theorem Zc9 (h:Zax Ss Ms=true):ZaH Ss=true:=by
 unfold Zax at h;simp only [Bool.and_eq_true] at h;exact h.1.1.1
theorem Zga (h:Zax Ss Ms=true):Ms.length<=12:=by
 unfold Zax at h;simp only [Bool.and_eq_true,decide_eq_true_eq] at h;exact h.1.1.2
theorem Zmp (h:Zax Ss Ms=true) {m:Md} (hm:m ∈ Ms):Zdp Ss m=true:=by
 unfold Zax at h;simp only [Bool.and_eq_true,List.all_eq_true] at h;exact h.1.2 m hm
theorem ZpA.unique (h:Zax Ss Ms=true) {x:Sh} (hx:x ∈ Ss) {V F G:List Zy_} (h1:ZpA x Ms V F) (h2:ZpA x Ms V G):F=G:=
 Zof (ZiV _ _ _ _) (Zfa h hx) h1 h2
theorem Zj2 {x:Sh}{R V:List Zy_} (h:Zc4 (ZaD x.fields) (Zam x.kind Ms) R) (hl:(ZaD x.fields).length<=R.length) (hv:x.fields.length=V.length):ZpA x Ms V (Zc8 (ZaP x.fields) (ZcX x.fields x.kind Ms) R V):=
 ZrP (ZoD _) (ZiV _ _ _ _) h hl V fun s hs=>by rw [<- hv];exact Zcm.2 hs
def ZfM (nm v:Zy_) (m:Md):Bool:=(nm.toList == m.wh.toList)&&!(v.toList == m.is.toList) || (nm.toList == m.fr.toList)&&v.toList.isEmpty
theorem Znp {V:List Zy_} (hf:ZaA Ss Fs=true) {i:Nat} (h:i < Fs.length) (h':i < V.length):ZbQ Fs V Fs[i].nm=V[i]:=by
 unfold ZbQ;rw [ZkE hf h,List.getElem?_eq_getElem h'];rfl
theorem ZpK {V:List Zy_} (hf:ZaA Ss Fs=true) {i:Nat} (h:i < Fs.length) (h':i < V.length) (ht:ZfM Fs[i].nm V[i] m=true):Zhg Fs V m=false:=by
 have hn:=ZgX hf Fs[i].nm (ZcG.2 ⟨i,h,rfl⟩);unfold ZfM at ht;rw [Bool.or_eq_true,Bool.and_eq_true,Bool.and_eq_true,Zaz,Zaz] at ht;unfold Zhg
 rcases ht with ⟨e,hv⟩ | ⟨e,hv⟩
 . rw [<- e,hn,Znp hf h h']
   have:(V[i].toList == m.is.toList)=false:=by simpa using hv
   rw [this];rfl
 . rw [<- e,hn,Znp hf h h',hv];simp
theorem ZsE {V:List Zy_} (hl:Fs.length=V.length) (hw:m.wh.toList.isEmpty=true\/m.wh ∈ ZaD Fs) (hr:m.fr.toList.isEmpty=true\/m.fr ∈ ZaD Fs)
 (ht:∀ i (h:i < Fs.length) (h':i < V.length),ZfM Fs[i].nm V[i] m=false):Zhg Fs V m=true:=by
 unfold Zhg;rw [Bool.and_eq_true]
 constructor
 . rcases hw with hw | hw
   . rw [hw];rfl
   . have hp:=Zcm.2 hw
     have:=ht _ hp (by omega);unfold ZfM at this;rw [Zj7 hp,Zda] at this;simp only [Bool.true_and,Bool.or_eq_false_iff] at this;unfold ZbQ;rw [List.getElem?_eq_getElem (show ZaP Fs m.wh < V.length by omega),Option.getD_some];have h2:=this.1;rw [Bool.not_eq_false'] at h2;rw [h2];simp
 . rcases hr with hw | hw
   . rw [hw];rfl
   . have hp:=Zcm.2 hw
     have:=ht _ hp (by omega);unfold ZfM at this;rw [Zj7 hp,Zda] at this;simp only [Bool.true_and,Bool.or_eq_false_iff] at this;unfold ZbQ;rw [List.getElem?_eq_getElem (show ZaP Fs m.fr < V.length by omega),Option.getD_some,this.2];simp
theorem Zoy (h:Zax Ss Ms=true) {x:Sh} {kind:Zy_} (hx:Zcn Ss kind=some x) {m:Md} (hm:m ∈ Ms) (hk:m.kind=x.kind) :
 m.field ∈ ZaD x.fields/\(m.wh.toList.isEmpty=true\/m.wh ∈ ZaD x.fields)/\(m.fr.toList.isEmpty=true\/m.fr ∈ ZaD x.fields):=by
 have hb:=Zmp h hm;unfold Zdp at hb;rw [hk,(Zcg hx).2,hx] at hb;simp only [ZcH,Bool.and_eq_true,Bool.or_eq_true] at hb;refine⟨Zd1 hb.1.1.1.1.1.1,?_,?_⟩
 . rcases hb.1.1.1.1.1.2 with h | h
   . exact Or.inl h
   . exact Or.inr (Zd1 h)
 . rcases hb.1.1.1.1.2 with h | h
   . exact Or.inl h
   . exact Or.inr (Zd1 h)
theorem Zoe {α:Type}{p:α->Bool}{L:List α} (hk:k < L.length) (h:p L[k]=true) (hall:∀ i (h:i < L.length),i < k->p L[i]=false):L.find? p=some L[k]:=by
 rw [List.find?_eq_some_iff_getElem];exact⟨h,k,hk,rfl,fun j hj=>by simp [hall j (by omega) hj]⟩
theorem Zqf {α:Type}{p:α->Bool}{L:List α} (hall:∀ i (h:i < L.length),p L[i]=false):L.find? p=none:=by
 rw [List.find?_eq_none];intro x hx;obtain⟨i,hi,rfl⟩:=List.getElem_of_mem hx;simp [hall i hi]
theorem ZeQ {kind:Zy_}{V:List Zy_}{f:Zy_} (hk:k < Ms.length) (h:(Zdk kind f Ms[k]&&Zhg Fs V Ms[k])=true) (hall:∀ i (h:i < Ms.length),i < k->(Zdk kind f Ms[i]&&Zhg Fs V Ms[i])=false):ZcX Fs kind Ms V f=some (Zcy Fs V Ms[k]):=by
 unfold ZcX;rw [Zoe (p:=fun m=>Zdk kind f m&&Zhg Fs V m) hk h hall];rfl
theorem Zkx {kind:Zy_}{V:List Zy_}{f:Zy_} (hall:∀ i (h:i < Ms.length),(Zdk kind f Ms[i]&&Zhg Fs V Ms[i])=false):ZcX Fs kind Ms V f=none:=by
 unfold ZcX;rw [Zqf (p:=fun m=>Zdk kind f m&&Zhg Fs V m) hall];rfl
theorem ZqW {kind:Zy_}{V:List Zy_}{f v:Zy_} (h:ZcX Fs kind Ms V f=some v):setp (ZaP Fs) (ZcX Fs kind Ms) V f=V.set (ZaP Fs f) v:=by unfold setp;rw [h]
theorem ZqV {kind:Zy_}{V:List Zy_}{f:Zy_} (h:ZcX Fs kind Ms V f=none):setp (ZaP Fs) (ZcX Fs kind Ms) V f=V:=by unfold setp;rw [h]
end
section
open Go.RowKit Go.Deep
variable {w w' W:World} {lo n k base:Nat} {v:Value} {Ms:List Md} {Fs:List Fd}
structure ZfA (w:World) (b o:Nat) (m:Md):Prop where
 c0:w.cell? ⟨b,o,none⟩=some (.string m.kind)
 c1:w.cell? ⟨b,o+1,none⟩=some (.string m.field)
 c2:w.cell? ⟨b,o+2,none⟩=some (.string m.wh)
 c3:w.cell? ⟨b,o+3,none⟩=some (.string m.is)
 c4:w.cell? ⟨b,o+4,none⟩=some (.string m.put)
 c5:w.cell? ⟨b,o+5,none⟩=some (.string m.fr)
structure Zeq (m:Md):Prop where
 s0:m.kind.size<=maxLen
 s1:m.field.size<=maxLen
 s2:m.wh.size<=maxLen
 s3:m.is.size<=maxLen
 s4:m.put.size<=maxLen
 s5:m.fr.size<=maxLen
theorem ZfA.below {b o:Nat}{m:Md} (h:ZfA w b o m) (hb:Zw_ w w') (hlt:b < w.heap.size):ZfA w' b o m:=by
 have e:∀ o,w'.cell? ⟨b,o,none⟩=w.cell? ⟨b,o,none⟩:=fun o=>hb.cell (p:=⟨b,o,none⟩) hlt
 exact⟨by rw [e];exact h.c0,by rw [e];exact h.c1,by rw [e];exact h.c2,by rw [e];exact h.c3,by rw [e];exact h.c4,by rw [e];exact h.c5⟩
def Zbe (lo:Nat) (w:World) (v:Value) (Ms:List Md):Prop:=
 (∃ (a:Option Addr) (cap:Nat),v=.slice a 0 cap/\Ms=[])\/
 ∃ (b off cap:Nat),v=.slice (some ⟨b,off,none⟩) Ms.length cap/\Ms≠[]/\Ms.length<=maxLen/\b < w.heap.size/\lo<=b/\Ms.length<=cap/\
  ∀ i (h:i < Ms.length),Zeq Ms[i]/\ZfA w b (off+i*6) Ms[i]
theorem Zbe.below (h:Zbe lo w v Ms) (hb:Zw_ w w'):Zbe lo w' v Ms:=by
 rcases h with h | ⟨b,off,cap,h1,h2,h3,h4,h5,h6,h7⟩
 . exact Or.inl h
 . refine Or.inr ⟨b,off,cap,h1,h2,h3,Zk_ h4 hb.size,h5,h6,fun i hi=>?_⟩
   obtain⟨hs,hc⟩:=h7 i hi;exact⟨hs,hc.below hb h4⟩
theorem Zbe.mono {lo':Nat} (h:Zbe lo w v Ms) (hl:lo'<=lo):Zbe lo' w v Ms:=by
 rcases h with h | ⟨b,off,cap,h1,h2,h3,h4,h5,h6,h7⟩
 . exact Or.inl h
 . exact Or.inr ⟨b,off,cap,h1,h2,h3,h4,Nat.le_trans hl h5,h6,h7⟩
theorem Zbe.form (h:Zbe lo w v Ms):∃ a cap,v=.slice a Ms.length cap:=by
 rcases h with ⟨a,cap,h,rfl⟩ | ⟨b,off,cap,h,_⟩
 . exact⟨a,cap,h⟩
 . exact⟨_,cap,h⟩
theorem Zbe.full (h:Zbe lo w v Ms) (hne:Ms≠[]):∃ (b off cap:Nat),v=.slice (some ⟨b,off,none⟩) Ms.length cap/\Ms.length<=maxLen/\b < w.heap.size/\Ms.length<=cap/\
 ∀ i (h:i < Ms.length),Zeq Ms[i]/\ZfA w b (off+i*6) Ms[i]:=by
 rcases h with ⟨_,_,_,h⟩ | ⟨b,off,cap,h1,_,h3,h4,_,h6,h7⟩
 . exact absurd h hne
 . exact⟨b,off,cap,h1,h3,h4,h6,h7⟩
theorem Zbe.full' {a:Option Addr}{cap:Nat} (h:Zbe lo w (.slice a n cap) Ms) (hL:0 < Ms.length) :
 ∃ b off,a=some ⟨b,off,none⟩/\b < w.heap.size/\∀ i (h:i < Ms.length),Zeq Ms[i]/\ZfA w b (off+i*6) Ms[i]:=by
 rcases h with ⟨a',cap',h,rfl⟩ | ⟨b',off',cap',h1,h2,h3,h4,h5,h6,h7⟩
 . simp at hL
 . injection h1 with e1 e2 e3
   exact⟨b',off',e1,h4,h7⟩
theorem Zo1 (k f h i p r:Zy_) (left:Int) (w:World) (h0:0<=left) (h1:left<=1048576)
 (s0:k.size<=maxLen) (s1:f.size<=maxLen) (s2:h.size<=maxLen) (s3:i.size<=maxLen) (s4:p.size<=maxLen) (s5:r.size<=maxLen) :
 Calls prog 75 #[.agg #[.string k,.string f,.string h,.string i,.string p,.string r],.int .i64 left] w
  fun e w'=>∃ r:Int,e=.returned (.int .i64 r)/\Zw_ w w'/\-1<=r/\r<=left:=by
 unfold maxLen at s0 s1 s2 s3 s4 s5;have HW:∀ o,Hd (Zw_ w (w.alloc o)):=fun o=>Zb_.alloc Zl_ _
 go_enter func75,ntmps75;go_wp2
 all_goals go_ret
 all_goals exact⟨_,rfl,(HW _).o,by omega,by omega⟩
theorem Zq8 (lo:Nat) (v:Value) (Ms:List Md) (left:Int) (w:World) (h0:0<=left) (h1:left<=1048576) (hv:Zbe lo w v Ms) :
 Calls prog 28 #[v,.int .i64 left] w fun e w'=>∃ r:Int,e=.returned (.int .i64 r)/\Zw_ w w'/\Ztz Ms.length left r:=by
 rcases hv with ⟨a,cap,rfl,rfl⟩ | ⟨b,off,cap,rfl,hne,hm,hbw,_,_,hc⟩
 . go_enter func28,ntmps28
   go_wp2
   go_loop [1,5] (fun l i=>∃ r:Int,l=.int .i64 r/\0<=r/\r<=left/\i=.int .i64 0) (fun _ _=>0)
   case atStart=>exact⟨_,rfl,by omega,by omega,rfl⟩
   case round=>
    obtain⟨r,rfl,hr0,hr1,rfl⟩:=hrel;go_wp2;go_ret;exact⟨r,rfl,Below.refl _ _,by omega,by omega,fun _=>by simp;omega⟩
 . unfold maxLen at hm
   by_cases hle:(Ms.length:Int)<=left
   . go_enter func28,ntmps28
     go_wp2
     go_loopw [1,5] (fun l i wr=>∃ (r:Int) (k:Nat),l=.int .i64 r/\0<=r/\r<=left/\i=.int .i64 k/\k<=Ms.length/\Zw_ w wr) (fun _ i _=>Ms.length - (intOf i).toNat)
     case atStart=>exact⟨_,0,rfl,by omega,by omega,rfl,by omega,Below.refl _ _⟩
     case round=>
      obtain⟨r,k,rfl,hr0,hr1,rfl,hk,hb⟩:=hrel
      by_cases hlt:k < Ms.length
      . obtain⟨hsz,hcell⟩:=hc k hlt
        obtain⟨c0,c1,c2,c3,c4,c5⟩:=hcell.below hb hbw;go_wp2_with fail;refine (Zo1 _ _ _ _ _ _ _ _ hr0 (by omega) hsz.s0 hsz.s1 hsz.s2 hsz.s3 hsz.s4 hsz.s5).mono ?_;rintro e w1 ⟨r1,rfl,hb1,q0,q1⟩;have hB:Hd (Zw_ w w1):=hb.trans (hb1.mono hb.size);clear hb1 c0 c1 c2 c3 c4 c5 hb;go_wp2
        all_goals first
         | (go_roundw
            . exact⟨_,k+1,rfl,by omega,by omega,by go_num,by omega,hB.o⟩
            . simp [intOf];omega)
         | (go_ret
            exact⟨-1,rfl,hB.o,by omega,by omega,fun h=>by omega⟩)
      . go_wp2
        go_ret;exact⟨r,rfl,hb,by omega,by omega,fun _=>hle⟩
   . go_enter func28,ntmps28
     go_wp2;go_ret;exact⟨-1,rfl,Below.refl _ _,by omega,by omega,fun h=>by omega⟩
theorem Zo9 (k f h i p r:Zy_) (w:World) :
 Calls prog 87 #[.agg #[.string k,.string f,.string h,.string i,.string p,.string r]] w
  fun e w'=>e=.returned (.agg #[.string k,.string f,.string h,.string i,.string p,.string r])/\Zw_ w w':=by
 go_enter func87,ntmps87;go_wp2;refine bodyPost_ret (v:=.agg #[.string k,.string f,.string h,.string i,.string p,.string r]) (by simp [results,results87,go_sem]) rfl ⟨rfl,?_⟩
 repeat (refine Below.setCell ?_ (by simp only [];omega) _)
 exact ((Zb_.alloc Zl_ _).alloc (by simp) _).alloc (by simp;omega) _
theorem ZlR (k f h i p r:Zy_) (w:World) :
 Calls prog 98 #[.agg #[.string k,.string f,.string h,.string i,.string p,.string r],.agg #[.string k,.string f,.string h,.string i,.string p,.string r]] w
  fun e w'=>e=.returned (.bool true)/\Zw_ w w':=by
 go_enter func98,ntmps98;go_wp2;go_ret;exact⟨rfl,(Zb_.alloc Zl_ _).alloc (by simp) _⟩
theorem Zn5 (lo lo':Nat) (v v':Value) (Ms:List Md) (w:World) (hv:Zbe lo w v Ms) (hv':Zbe lo' w v' Ms) :
 Calls prog 46 #[v,v'] w fun e w'=>e=.returned (.bool true)/\Zw_ w w':=by
 by_cases hL:Ms=[]
 . subst hL
   obtain⟨a,cap,rfl⟩:=hv.form;obtain⟨a',cap',rfl⟩:=hv'.form;clear hv hv';go_enter func46,ntmps46;go_wp2
   go_loop [5] (fun i=>i=.int .i64 0) (fun _=>0)
   case atStart=>rfl
   case round=>
    subst hrel;go_wp2;go_ret;exact⟨rfl,Below.refl _ _⟩
 . obtain⟨b,off,cap,rfl,hm,hbw,_,hc⟩:=hv.full hL
   obtain⟨b',off',cap',rfl,_,hbw',_,hc'⟩:=hv'.full hL;clear hv hv';unfold maxLen at hm;go_enter func46,ntmps46;go_wp2
   go_loopw [5] (fun i wr=>∃ k:Nat,i=.int .i64 k/\k<=Ms.length/\Zw_ w wr) (fun i _=>Ms.length - (intOf i).toNat)
   case atStart=>exact⟨0,rfl,by omega,Below.refl _ _⟩
   case round=>
    obtain⟨k,rfl,hk,hb⟩:=hrel
    by_cases hlt:k < Ms.length
    . obtain⟨_,hcell⟩:=hc k hlt
      obtain⟨_,hcell'⟩:=hc' k hlt;obtain⟨c0,c1,c2,c3,c4,c5⟩:=hcell.below hb hbw;obtain⟨d0,d1,d2,d3,d4,d5⟩:=hcell'.below hb hbw';clear hcell hcell';have HB:=Zab hb;clear hb;go_wp2
      go_region_with (go_at_call 98;refine (ZlR _ _ _ _ _ _ _).mono ?_;rintro e w1 ⟨rfl,hb1⟩;have hB:Hd (Zw_ w w1):=(HB.o.drew).trans (hb1.mono HB.o.size);clear hb1)
      all_goals go_wp2
      all_goals go_roundw
      all_goals first
       | (case rel=>exact⟨k+1,by go_num,by omega,hB.o⟩)
       | (case measure=>simp [intOf];omega)
    . go_wp2
      go_ret;exact⟨rfl,hb⟩
def Zcc (Fs:List Fd) (s:Zy_):Int:=if ZaP Fs s < Fs.length then (ZaP Fs s:Int) else -1
theorem Zjd {s:Zy_} (hk:k < Fs.length) (h:(Fs[k].nm.toList == s.toList)=true) (hall:∀ i (h:i < Fs.length),i < k->(Fs[i].nm.toList == s.toList)=false):Zcc Fs s=k:=by
 unfold Zcc;rw [ZqN hk h hall,if_pos hk]
theorem Zlg {s:Zy_} (hall:∀ i (h:i < Fs.length),(Fs[i].nm.toList == s.toList)=false):Zcc Fs s= -1:=by
 unfold Zcc;rw [Ztm hall,if_neg (Nat.lt_irrefl _)]
theorem ZbO {s:Zy_} (h:ZaP Fs s < Fs.length):Zcc Fs s=ZaP Fs s:=if_pos h
theorem Zlf {s:Zy_} (h:¬ ZaP Fs s < Fs.length):Zcc Fs s= -1:=if_neg h
theorem Zbm (lo:Nat) (v:Value) (Fs:List Fd) (s:Zy_) (w:World) (hv:Zau lo w v Fs) :
 Calls prog 200 #[v,.string s] w fun e w'=>e=.returned (.int .i64 (Zcc Fs s))/\w'=w:=by
 by_cases hL:Fs=[]
 . subst hL
   obtain⟨a,cap,rfl⟩:=Zdz hv;clear hv;go_enter func200,ntmps200;go_wp2
   go_loop [5] (fun i=>i=.int .i64 0) (fun _=>0)
   case atStart=>rfl
   case round=>
    subst hrel;go_wp2;go_ret;exact⟨rfl,rfl⟩
 . obtain⟨b,off,cap,rfl,hm,hbw,_,hc⟩:=hv.full hL
   clear hv;unfold maxLen at hm;go_enter func200,ntmps200;go_wp2
   go_loop [5] (fun i=>∃ k:Nat,i=.int .i64 k/\k<=Fs.length/\∀ i (h:i < Fs.length),i < k->(Fs[i].nm.toList == s.toList)=false) (fun i=>Fs.length - (intOf i).toNat)
   case atStart=>exact⟨0,rfl,by omega,fun i _ h=>by omega⟩
   case round=>
    obtain⟨k,rfl,hk,hall⟩:=hrel;have HA:=Zab hall;clear hall
    by_cases hlt:k < Fs.length
    . obtain⟨_,wv,hcell,_⟩:=hc k hlt
      have c0:=hcell.c0;clear hcell
      by_cases he:(Fs[k].nm.toList == s.toList)=true
      . go_wp2
        go_ret;exact⟨by rw [Zjd hlt he HA.o];rfl,rfl⟩
      . have he':(Fs[k].nm.toList == s.toList)=false:=by simpa using he
        clear he;go_wp2
        go_round
        case rel=>exact⟨k+1,by go_num,by omega,fun i h h'=>by
                   by_cases e:i=k
                   . subst e;exact he'
                   . exact HA.o i h (by omega)⟩
        . simp [intOf];omega
    . go_wp2
      go_ret;exact⟨by rw [Zlg fun i h=>HA.o i h (by omega)];rfl,rfl⟩
theorem Zee (lo:Nat) (v:Value) (Fs:List Fd) (s:Zy_) (w:World) (hv:Zau lo w v Fs) :
 Calls prog 199 #[v,.string s] w fun e w'=>e=.returned (.bool (Zbj Fs s))/\w'=w:=by
 have HV:=Zab hv
 by_cases hp:ZaP Fs s < Fs.length
 . obtain⟨b,off,cap,rfl,hm,hbw,_,hc⟩:=hv.full (by intro e;rw [e] at hp;simp at hp)
   clear hv;unfold maxLen at hm;obtain⟨_,wv,hcell,_⟩:=hc _ hp;have c1:=hcell.c1;have HQ:Hd (Zbj Fs s=!(Fs[ZaP Fs s].kd == 4)):=Zm8 hp;have HP:Hd (Zcc Fs s=ZaP Fs s):=ZbO hp;clear hcell hc;go_enter func199,ntmps199;go_wp2_with fail;refine (Zbm lo _ Fs s _ HV.o).mono ?_;rintro e w1 ⟨rfl,rfl⟩;rw [HP.o]
   cases hk:(Fs[ZaP Fs s].kd == 4) with
   | true=>
    have HQ2:Hd (Zbj Fs s=false):=by unfold Hd;rw [HQ.o,hk];rfl
    have e4:Fs[ZaP Fs s].kd=4:=by simpa using hk
    rw [e4] at c1;clear e4 hk HQ HP;go_wp2;go_ret;exact⟨Zaa HQ2.o.symm,rfl⟩
   | false=>
    have HQ2:Hd (Zbj Fs s=true):=by unfold Hd;rw [HQ.o,hk];rfl
    have e4:¬ Fs[ZaP Fs s].kd=4:=by simpa using hk
    clear hk HQ HP;go_wp2;go_ret;exact⟨Zaa (by rw [HQ2.o];simp [e4]),rfl⟩
 . obtain⟨a,cap,rfl⟩:=hv.form
   clear hv;have HQ:Hd (Zbj Fs s=false):=Zm9 hp;have HP:Hd (Zcc Fs s= -1):=Zlf hp;go_enter func199,ntmps199;go_wp2_with fail;refine (Zbm lo _ Fs s _ HV.o).mono ?_;rintro e w1 ⟨rfl,rfl⟩;rw [HP.o];clear HP hp;go_wp2;go_ret;exact⟨Zaa HQ.o.symm,rfl⟩
theorem Zdy {L:List Zy_}{s:Zy_}:Ze8 L s=true↔s ∈ L:=by
 unfold Ze8;rw [List.any_eq_true]
 constructor
 . rintro⟨x,hx,h⟩;rw [Zaz] at h;subst h;exact hx
 . exact fun h=>⟨s,h,Zda _⟩
theorem ZjR {L:List Zy_}{s:Zy_} (h:Ze8 L s=false):s ∉ L:=fun hm=>by rw [Zdy.2 hm] at h;cases h
def Zgc (Ms:List Md) (kind field:Zy_) (row:List Zy_):Bool:=(Zam kind Ms field).all (Ze8 row)
theorem Zdq {kind field:Zy_}{row:List Zy_}:Zgc Ms kind field row=true↔∀ r ∈ Zam kind Ms field,r ∈ row:=by
 unfold Zgc;rw [List.all_eq_true];exact⟨fun h r hr=>Zdy.1 (h r hr),fun h r hr=>Zdy.2 (h r hr)⟩
def Zkr (kind field:Zy_) (row:List Zy_) (m:Md):Bool:=!Zdk kind field m || ((m.wh.toList.isEmpty || Ze8 row m.wh)&&(m.fr.toList.isEmpty || Ze8 row m.fr))
theorem Zsf {kind field:Zy_}{row:List Zy_} (h:∀ i (h:i < Ms.length),Zkr kind field row Ms[i]=true):Zgc Ms kind field row=true:=by
 rw [Zdq];intro r hr;obtain⟨m,hm,hf,hrd⟩:=Zeg.1 hr;obtain⟨i,hi,rfl⟩:=List.getElem_of_mem hm;have:=h i hi;unfold Zkr at this;rw [hf] at this;simp only [Bool.not_true,Bool.false_or,Bool.and_eq_true,Bool.or_eq_true] at this;unfold Zj9 at hrd
 rcases List.mem_append.1 hrd with h1 | h1
 . by_cases he:Ms[i].wh.toList.isEmpty=true
   . rw [if_pos he] at h1;cases h1
   . rw [if_neg he] at h1
     rw [List.mem_singleton.1 h1]
     rcases this.1 with h2 | h2
     . exact absurd h2 he
     . exact Zdy.1 h2
 . by_cases he:Ms[i].fr.toList.isEmpty=true
   . rw [if_pos he] at h1;cases h1
   . rw [if_neg he] at h1
     rw [List.mem_singleton.1 h1]
     rcases this.2 with h2 | h2
     . exact absurd h2 he
     . exact Zdy.1 h2
theorem Zic {kind field:Zy_}{row:List Zy_}{i:Nat} (hi:i < Ms.length) (h:Zkr kind field row Ms[i]=false):Zgc Ms kind field row=false:=by
 cases hr:Zgc Ms kind field row with
 | false=>rfl
 | true=>
  rw [Zdq] at hr
  have hf:Zdk kind field Ms[i]=true:=by
   cases hf:Zdk kind field Ms[i] with
   | true=>rfl
   | false=>unfold Zkr at h;rw [hf] at h;cases h
  have key:∀ r ∈ Zj9 Ms[i],Ze8 row r=true:=fun r hrr=>Zdy.2 (hr r (Zeg.2 ⟨Ms[i],List.getElem_mem hi,hf,hrr⟩))
  have hx:Zkr kind field row Ms[i]=true:=by
   unfold Zkr;simp only [hf,Bool.not_true,Bool.false_or,Bool.and_eq_true,Bool.or_eq_true];refine⟨?_,?_⟩
   . cases hw:Ms[i].wh.toList.isEmpty with
     | true=>exact Or.inl rfl
     | false=>exact Or.inr (key _ (Zt4 hw))
   . cases hw:Ms[i].fr.toList.isEmpty with
     | true=>exact Or.inl rfl
     | false=>exact Or.inr (key _ (Zt3 hw))
  rw [hx] at h;cases h
theorem Zl6 (lo:Nat) (v rv:Value) (Ms:List Md) (kind field:Zy_) (row:List Zy_) (w:World) (hv:Zbe lo w v Ms) (hr:Zaf w rv row) :
 Calls prog 202 #[v,.string kind,.string field,rv] w fun e w'=>e=.returned (.bool (Zgc Ms kind field row))/\Zw_ w w':=by
 have HR:=Zab hr;obtain⟨ra,rn,rcap,rfl⟩:=hr.form;clear hr
 by_cases hL:Ms=[]
 . subst hL
   obtain⟨a,cap,rfl⟩:=hv.form;clear hv;have HQ:Hd (Zgc [] kind field row=true):=rfl;go_enter func202,ntmps202;go_wp2
   go_loop [9] (fun i=>i=.int .i64 0) (fun _=>0)
   case atStart=>rfl
   case round=>
    subst hrel;go_wp2;go_ret;exact⟨Zaa HQ.o.symm,Below.refl _ _⟩
 obtain⟨b,off,cap,rfl,hm,hbw,_,hc⟩:=hv.full hL;clear hv;unfold maxLen at hm;go_enter func202,ntmps202;go_wp2
 go_loopw [9] (fun i wr=>∃ k:Nat,i=.int .i64 k/\k<=Ms.length/\Zw_ w wr/\∀ i (h:i < Ms.length),i < k->Zkr kind field row Ms[i]=true) (fun i _=>Ms.length - (intOf i).toNat)
 case atStart=>exact⟨0,rfl,by omega,Below.refl _ _,fun i _ h=>by omega⟩
 case round=>
  obtain⟨k,rfl,hk,hb,hall⟩:=hrel;have HA:=Zab hall;have HB:=Zab hb;clear hall hb
  by_cases hlt:k < Ms.length
  . obtain⟨_,hcell⟩:=hc k hlt
    obtain⟨c0,c1,c2,c3,c4,c5⟩:=hcell.below HB.o hbw;clear hcell;have HB1:∀ o,Hd (Zw_ w (wr.alloc o)):=fun o=>HB.o.alloc HB.o.size _
    have HNX:Hd (Zkr kind field row Ms[k]=true->∀ i (h:i < Ms.length),i < k+1->Zkr kind field row Ms[i]=true):=fun h i hi hik=>by
     by_cases e:i=k
     . subst e;exact h
     . exact HA.o i hi (by omega)
    cases hk1:(Ms[k].kind.toList == kind.toList) with
    | false=>
     go_wp2;go_roundw
     . exact⟨k+1,by go_num,by omega,(HB1 _).o,HNX.o (by unfold Zkr Zdk;simp [hk1])⟩
     . simp [intOf];omega
    | true=>
     cases hf1:(Ms[k].field.toList == field.toList) with
     | false=>
      go_wp2;go_roundw
      . exact⟨k+1,by go_num,by omega,(HB1 _).o,HNX.o (by unfold Zkr Zdk;simp [hk1,hf1])⟩
      . simp [intOf];omega
     | true=>
      cases hwe:Ms[k].wh.toList.isEmpty with
      | true=>
       cases hfe:Ms[k].fr.toList.isEmpty with
       | true=>
        go_wp2;go_roundw
        . exact⟨k+1,by go_num,by omega,(HB1 _).o,HNX.o (by unfold Zkr Zdk;simp [hk1,hf1,hwe,hfe])⟩
        . simp [intOf];omega
       | false=>
        go_wp2_with fail;refine (ZeX _ row Ms[k].fr _ (HR.o.below (HB1 _).o)).mono ?_;rintro e w1 ⟨rfl,rfl⟩
        cases hfh:Ze8 row Ms[k].fr with
        | true=>
         go_wp2;go_roundw
         . exact⟨k+1,by go_num,by omega,(HB1 _).o,HNX.o (by unfold Zkr Zdk;simp [hk1,hf1,hwe,hfe,hfh])⟩
         . simp [intOf];omega
        | false=>
         go_wp2;go_ret;exact⟨Zaa (Zic hlt (by unfold Zkr Zdk;simp [hk1,hf1,hwe,hfe,hfh])).symm,(HB1 _).o⟩
      | false=>
       go_wp2_with fail;refine (ZeX _ row Ms[k].wh _ (HR.o.below (HB1 _).o)).mono ?_;rintro e w1 ⟨rfl,rfl⟩
       cases hwh:Ze8 row Ms[k].wh with
       | false=>
        go_wp2;go_ret;exact⟨Zaa (Zic hlt (by unfold Zkr Zdk;simp [hk1,hf1,hwe,hwh])).symm,(HB1 _).o⟩
       | true=>
        cases hfe:Ms[k].fr.toList.isEmpty with
        | true=>
         go_wp2;go_roundw
         . exact⟨k+1,by go_num,by omega,(HB1 _).o,HNX.o (by unfold Zkr Zdk;simp [hk1,hf1,hwe,hwh,hfe])⟩
         . simp [intOf];omega
        | false=>
         go_wp2_with fail;refine (ZeX _ row Ms[k].fr _ (HR.o.below (HB1 _).o)).mono ?_;rintro e w1 ⟨rfl,rfl⟩
         cases hfh:Ze8 row Ms[k].fr with
         | true=>
          go_wp2;go_roundw
          . exact⟨k+1,by go_num,by omega,(HB1 _).o,HNX.o (by unfold Zkr Zdk;simp [hk1,hf1,hwe,hwh,hfe,hfh])⟩
          . simp [intOf];omega
         | false=>
          go_wp2;go_ret;exact⟨Zaa (Zic hlt (by unfold Zkr Zdk;simp [hk1,hf1,hwe,hwh,hfe,hfh])).symm,(HB1 _).o⟩
  . go_wp2
    go_ret;exact⟨Zaa (Zsf fun i h=>HA.o i h (by omega)).symm,HB.o⟩
structure Zd7 (base:Nat) (W:World) (v:Value) (R:List Zy_):Prop where
 row:W.ownsRow base 9 1 v R.length (R.map Value.string)
 sz:∀ s ∈ R,s.size<=maxLen
theorem Zd7.form {R:List Zy_} (h:Zd7 base W v R):∃ a cap,v=.slice a R.length cap:=by
 rcases h.row.2 with ⟨hv,hn⟩ | ⟨g,cap,cur,hv,_⟩
 . rw [hn];exact⟨_,_,hv⟩
 . exact⟨_,_,hv⟩
theorem Zd7.below {W':World}{R:List Zy_} (h:Zd7 base W v R) (hb:Below W.heap.size W W'):Zd7 base W' v R:=by
 refine⟨⟨h.row.1,?_⟩,h.sz⟩
 rcases h.row.2 with hv | ⟨g,cap,cur,hv,h1,h2,h3⟩
 . exact Or.inl hv
 . have hg:g < W.heap.size:=by
    rcases Nat.lt_or_ge g W.heap.size with h | h
    . exact h
    . rw [Array.getElem?_eq_none h] at h2;cases h2
   exact Or.inr ⟨g,cap,cur,hv,h1,by rw [hb.block g hg];exact h2,h3⟩
theorem Zd7.strs {R:List Zy_} (h:Zd7 base W v R):Zaf W v R:=by
 rcases h.row.2 with ⟨hv,hn⟩ | ⟨g,cap,cur,hv,h1,h2,h3,h4,h5,h6⟩
 . exact Or.inl ⟨none,0,hv,List.length_eq_zero_iff.1 hn⟩
 . by_cases hR:R=[]
   . subst hR;exact Or.inl ⟨_,_,hv,rfl⟩
   . have hg:g < W.heap.size:=by
      rcases Nat.lt_or_ge g W.heap.size with h | h
      . exact h
      . rw [Array.getElem?_eq_none h] at h2;cases h2
     refine Or.inr ⟨g,0,cap,hv,hR,Nat.le_trans h3 h4,hg,fun i hi=>?_,h.sz⟩;rw [Nat.zero_add,cell_of_row W g i cur 9 (0,0) h2];have:(cur.toList.take (R.length*1))[i]?=(R.map Value.string)[i]?:=by rw [h6]
     rw [List.getElem?_take_of_lt (by omega)] at this
     simpa [hi] using this
theorem Zd7.mono {base':Nat}{R:List Zy_} (h:Zd7 base W v R) (hb:base'<=base):Zd7 base' W v R:=by
 refine⟨⟨h.row.1,?_⟩,h.sz⟩
 rcases h.row.2 with hv | ⟨g,cap,cur,hv,h1,h2⟩
 . exact Or.inl hv
 . exact Or.inr ⟨g,cap,cur,hv,Nat.le_trans hb h1,h2⟩
theorem Zd7.nil (base:Nat) (W:World):Zd7 base W (.slice none 0 0) []:=⟨World.ownsRow_nil _ _ _ _,fun s h=>by simp at h⟩
theorem Zd7.made (W:World) (g:Nat) (hg:W.heap.size=g) (hb:base<=g):Zd7 base (W.alloc (.cells #[] 9)) (.slice (some ⟨g,0,none⟩) 0 0) []:=by
 subst hg;exact⟨World.ownsRow_made (base:=base) (e:=9) (size:=1) W #[] 0 hb Zz_ (by simp),fun s h=>by simp at h⟩
theorem Zd7.grown {R:List Zy_} (h:Zd7 base W v R) (hg:W.grownBy w' v.ownBlock) (hb:base<=W.heap.size):Below base W w':=by
 refine⟨hg.os,hg.tape,hg.output,hg.size,fun k hk=>hg.block k (by omega) ?_⟩
 rcases h.row.2 with ⟨hv,_⟩ | ⟨g,cap,cur,hv,h1,_⟩
 . rw [hv];intro e;cases e
 . rw [hv];intro e
   have:k=g:=by simpa [Value.ownBlock] using e
   omega
theorem Zd7.snoc {v':Value}{R:List Zy_}{s:Zy_} (h:Zd7 base W v R) (hown:w'.ownsRow base 9 1 v' (R.length+1) (R.map Value.string ++ [.string s])) (hs:s.size<=maxLen):Zd7 base w' v' (R ++ [s]):=by
 refine⟨by rw [List.length_append,List.map_append];exact hown,fun t ht=>?_⟩
 rcases List.mem_append.1 ht with h1 | h1
 . exact h.sz t h1
 . rw [List.mem_singleton.1 h1];exact hs
theorem Zf3 (X:World) (g:Nat) (u:Value) (t:TypeId) (hg:X.heap.size=g):∀ j x,[u][j]?=some x->(X.alloc (.cells #[u] t)).cell? ((⟨g,0,none⟩:Addr).add j)=some x:=by
 subst hg;intro j x hj;rw [Go.WideShapes.add_plain,Nat.zero_add]
 cases j with
 | zero=>simp at hj;subst hj;simp
 | succ j=>simp at hj
theorem Zeh (s:Zy_):∀ u ∈ [Value.string s],u.oneCell'=true:=fun u hu=>by rw [List.mem_singleton.1 hu];rfl
def ZeH (Fs:List Fd) (rd:Zy_->List Zy_) (R:List Zy_) (k:Nat):Prop:=∀ i (h:i < Fs.length),i < k->Fs[i].nm ∈ R\/¬ ∀ r ∈ rd Fs[i].nm,r ∈ R
theorem ZeH.stuck {rd:Zy_->List Zy_}{R:List Zy_} (h:ZeH Fs rd R k) (hk:Fs.length<=k):Zjy (ZaD Fs) rd R:=by
 intro x hx hn;obtain⟨i,hi,rfl⟩:=ZcG.1 hx
 rcases h i hi (by omega) with h1 | h1
 . exact absurd h1 hn
 . exact h1
theorem ZeH.succ {rd:Zy_->List Zy_}{R:List Zy_} (h:ZeH Fs rd R k) (hk:k < Fs.length) (hx:Fs[k].nm ∈ R\/¬ ∀ r ∈ rd Fs[k].nm,r ∈ R):ZeH Fs rd R (k+1):=by
 intro i hi hik
 by_cases e:i=k
 . subst e;exact hx
 . exact h i hi (by omega)
theorem ZeZ (Fs:List Fd):(ZaD Fs).length=Fs.length:=by simp [ZaD]
theorem ZjQ {rd:Zy_->List Zy_}{R:List Zy_} (h:Zc4 (ZaD Fs) rd R):R.length<=Fs.length:=by
 have:=List.Nodup.length_le_of_subset h.nodup h.sub
 rwa [ZeZ] at this
def ZrF (x:Sh) (Ms:List Md) (R:List Zy_):Prop:=
 Zc4 (ZaD x.fields) (Zam x.kind Ms) R/\R.length<=x.fields.length/\(R.length=x.fields.length↔Zbr Ms x=true)
theorem ZrF.mk' {x:Sh}{R:List Zy_} (hg:Zc4 (ZaD x.fields) (Zam x.kind Ms) R) (hn:x.fields.length<=n) (h:R.length=n\/Zjy (ZaD x.fields) (Zam x.kind Ms) R):ZrF x Ms R:=by
 have hl:=ZjQ hg;refine⟨hg,hl,fun e=>Znh hg (by rw [ZeZ];omega),fun hb=>?_⟩
 rcases h with h | h
 . omega
 . rcases Nat.lt_or_ge R.length x.fields.length with hlt | hge
   . unfold Zbr at hb
     rw [ZqR h (by rw [ZeZ];exact hlt)] at hb;cases hb
   . omega
end
section
open Go.RowKit Go.Deep
variable {k lo B:Nat} {w w' wr w1:World} {v:Value}
structure Tm where
 nm:Zy_
 ov:Zy_
variable {Ts:List Tm}
def plT (Ts:List Tm) (s:Zy_):Nat:=Ts.findIdx fun t=>t.nm.toList == s.toList
theorem Zsx {s:Zy_} (hk:k < Ts.length) (h:(Ts[k].nm.toList == s.toList)=true) (hall:∀ i (h:i < Ts.length),i < k->(Ts[i].nm.toList == s.toList)=false):plT Ts s=k:=by
 unfold plT;rw [List.findIdx_eq hk];exact⟨h,fun j hj=>hall j (by omega) hj⟩
theorem Zsy {s:Zy_} (hall:∀ i (h:i < Ts.length),(Ts[i].nm.toList == s.toList)=false):plT Ts s=Ts.length:=by
 unfold plT;rw [List.findIdx_eq_length];intro x hx;obtain⟨i,hi,rfl⟩:=List.getElem_of_mem hx;exact hall i hi
theorem Ztn {s:Zy_} (h:plT Ts s < Ts.length):(Ts[plT Ts s].nm.toList == s.toList)=true:=by
 unfold plT at h |-;exact List.findIdx_getElem (w:=h)
def ZdB (Ts:List Tm) (s:Zy_):Int:=if plT Ts s < Ts.length then (plT Ts s:Int) else -1
theorem ZoE {s:Zy_} (hk:k < Ts.length) (h:(Ts[k].nm.toList == s.toList)=true) (hall:∀ i (h:i < Ts.length),i < k->(Ts[i].nm.toList == s.toList)=false):ZdB Ts s=k:=by
 unfold ZdB;rw [Zsx hk h hall,if_pos hk]
theorem ZqO {s:Zy_} (hall:∀ i (h:i < Ts.length),(Ts[i].nm.toList == s.toList)=false):ZdB Ts s= -1:=by
 unfold ZdB;rw [Zsy hall,if_neg (Nat.lt_irrefl _)]
theorem Zh8 {s:Zy_} (h:plT Ts s < Ts.length):ZdB Ts s=plT Ts s:=if_pos h
theorem Zh7 {s:Zy_} (h:¬ plT Ts s < Ts.length):ZdB Ts s= -1:=if_neg h
def ovB (Ts:List Tm) (s:Zy_):Zy_:=match Ts[plT Ts s]? with
 | some t=>t.ov
 | none=>⟨#[]⟩
theorem Zt1 {s:Zy_} (h:plT Ts s < Ts.length):ovB Ts s=Ts[plT Ts s].ov:=by
 unfold ovB;rw [List.getElem?_eq_getElem h]
theorem Zsw {s:Zy_} (h:¬ plT Ts s < Ts.length):ovB Ts s=⟨#[]⟩:=by
 unfold ovB;rw [List.getElem?_eq_none (by omega)]
theorem Zt0 {s:Zy_} (hk:k < Ts.length) (h:(Ts[k].nm.toList == s.toList)=true) (hall:∀ i (h:i < Ts.length),i < k->(Ts[i].nm.toList == s.toList)=false):ovB Ts s=Ts[k].ov:=by
 have e:=Zsx hk h hall;unfold ovB;rw [e,List.getElem?_eq_getElem hk]
theorem Zt2 {s:Zy_} (hall:∀ i (h:i < Ts.length),(Ts[i].nm.toList == s.toList)=false):ovB Ts s=⟨#[]⟩:=Zsw (by rw [Zsy hall];omega)
def Zfx (Ts:List Tm) (b:Zy_):Nat->Zy_->Bool
 | 0,_=>false
 | n+1,a=>if (ovB Ts a).toList.isEmpty then false else if (ovB Ts a).toList == b.toList then true else Zfx Ts b n (ovB Ts a)
def Zbd (Ts:List Tm) (a b:Zy_):Bool:=(a.toList == b.toList) || Zfx Ts b 4 a
def ZaS (Ts:List Tm):Nat->Zy_->Bool
 | 0,_=>true
 | n+1,a=>if (ovB Ts a).toList.isEmpty then false else ZaS Ts n (ovB Ts a)
def ZgB (Ts:List Tm) (s:Zy_):Bool:=Ts.any fun t=>t.nm.toList == s.toList
theorem ZkO {s:Zy_} (h:k < Ts.length) (hp:(Ts[k].nm.toList == s.toList)=true):ZgB Ts s=true:=by
 unfold ZgB;rw [List.any_eq_true];exact⟨Ts[k],List.getElem_mem h,hp⟩
theorem Zqj {s:Zy_} (hall:∀ i (h:i < Ts.length),(Ts[i].nm.toList == s.toList)=false):ZgB Ts s=false:=by
 unfold ZgB;rw [List.any_eq_false];intro x hx;obtain⟨i,hi,rfl⟩:=List.getElem_of_mem hx;simp [hall i hi]
theorem ZhP (Ts:List Tm) (s:Zy_):ZgB Ts s=decide (plT Ts s < Ts.length):=by
 by_cases h:plT Ts s < Ts.length
 . rw [decide_eq_true h]
   exact ZkO h (Ztn h)
 . rw [decide_eq_false h]
   refine Zqj fun i hi=>?_
   have:=List.not_of_lt_findIdx (p:=fun t:Tm=>t.nm.toList == s.toList) (xs:=Ts) (i:=i) (by show i < plT Ts s;omega)
   simpa using this
def Zds (Ts:List Tm) (i:Nat):Bool:=match Ts[i]? with
 | none=>false
 | some t=>Zap t.nm&&(i == 0 || Op.bytesLess ((Ts[i - 1]?.map Tm.nm).getD ⟨#[]⟩).toList t.nm.toList)&&(t.ov.toList.isEmpty || ZgB Ts t.ov)&&!ZaS Ts 5 t.nm
def Zbs (Ts:List Tm):Bool:=decide (Ts.length<=12)&&(List.range Ts.length).all (Zds Ts)
theorem ZaB {i:Nat} (h:i < Ts.length):Zds Ts i=(Zap Ts[i].nm&&(i == 0 || Op.bytesLess ((Ts[i - 1]?.map Tm.nm).getD ⟨#[]⟩).toList Ts[i].nm.toList)&&(Ts[i].ov.toList.isEmpty || ZgB Ts Ts[i].ov)&&!ZaS Ts 5 Ts[i].nm):=by
 unfold Zds;rw [List.getElem?_eq_getElem h]
theorem Zku {j:Nat} (h:j+1 < Ts.length):((Ts[j+1 - 1]?.map Tm.nm).getD ⟨#[]⟩)=Ts[j].nm:=by
 rw [Nat.add_sub_cancel,List.getElem?_eq_getElem (by omega)];rfl
theorem Zls (h:¬ Ts.length<=12):Zbs Ts=false:=by unfold Zbs;simp [h]
theorem Zbo (hk:k < Ts.length) (h:Zds Ts k=false):Zbs Ts=false:=by
 unfold Zbs;rw [ZaZ hk h];simp
theorem Zlt (h:Ts.length<=12) (hk:Ts.length<=k) (hall:∀ i,i < k->Zds Ts i=true):Zbs Ts=true:=by
 unfold Zbs;rw [Za1 (fun i hi=>hall i (by omega))];simp [h]
structure Zea (w:World) (b o:Nat) (t:Tm):Prop where
 c0:w.cell? ⟨b,o,none⟩=some (.string t.nm)
 c1:w.cell? ⟨b,o+1,none⟩=some (.string t.ov)
structure Zfq (t:Tm):Prop where
 s0:t.nm.size<=maxLen
 s1:t.ov.size<=maxLen
theorem Zea.below {b o:Nat}{t:Tm} (h:Zea w b o t) (hb:Zw_ w w') (hlt:b < w.heap.size):Zea w' b o t:=by
 have e:∀ o,w'.cell? ⟨b,o,none⟩=w.cell? ⟨b,o,none⟩:=fun o=>hb.cell (p:=⟨b,o,none⟩) hlt
 exact⟨by rw [e];exact h.c0,by rw [e];exact h.c1⟩
def Zbn (lo:Nat) (w:World) (v:Value) (Ts:List Tm):Prop:=
 (∃ (a:Option Addr) (cap:Nat),v=.slice a 0 cap/\Ts=[])\/
 ∃ (b off cap:Nat),v=.slice (some ⟨b,off,none⟩) Ts.length cap/\Ts≠[]/\Ts.length<=maxLen/\b < w.heap.size/\lo<=b/\Ts.length<=cap/\
  ∀ i (h:i < Ts.length),Zfq Ts[i]/\Zea w b (off+i*2) Ts[i]
theorem Zbn.below (h:Zbn lo w v Ts) (hb:Zw_ w w'):Zbn lo w' v Ts:=by
 rcases h with h | ⟨b,off,cap,h1,h2,h3,h4,h5,h6,h7⟩
 . exact Or.inl h
 . refine Or.inr ⟨b,off,cap,h1,h2,h3,Zk_ h4 hb.size,h5,h6,fun i hi=>?_⟩
   obtain⟨hs,hc⟩:=h7 i hi;exact⟨hs,hc.below hb h4⟩
theorem Zbn.mono {lo':Nat} (h:Zbn lo w v Ts) (hl:lo'<=lo):Zbn lo' w v Ts:=by
 rcases h with h | ⟨b,off,cap,h1,h2,h3,h4,h5,h6,h7⟩
 . exact Or.inl h
 . exact Or.inr ⟨b,off,cap,h1,h2,h3,h4,Nat.le_trans hl h5,h6,h7⟩
theorem Zbn.form (h:Zbn lo w v Ts):∃ a cap,v=.slice a Ts.length cap:=by
 rcases h with ⟨a,cap,h,rfl⟩ | ⟨b,off,cap,h,_⟩
 . exact⟨a,cap,h⟩
 . exact⟨_,cap,h⟩
theorem Zbn.max (h:Zbn lo w v Ts):Ts.length<=maxLen:=by
 rcases h with ⟨a,cap,h,rfl⟩ | ⟨b,off,cap,h,_,h3,_⟩
 . exact Nat.zero_le _
 . exact h3
theorem Zbn.full (h:Zbn lo w v Ts) (hne:Ts≠[]):∃ (b off cap:Nat),v=.slice (some ⟨b,off,none⟩) Ts.length cap/\Ts.length<=maxLen/\b < w.heap.size/\Ts.length<=cap/\
 ∀ i (h:i < Ts.length),Zfq Ts[i]/\Zea w b (off+i*2) Ts[i]:=by
 rcases h with ⟨_,_,_,h⟩ | ⟨b,off,cap,h1,_,h3,h4,_,h6,h7⟩
 . exact absurd h hne
 . exact⟨b,off,cap,h1,h3,h4,h6,h7⟩
theorem Zbn.full' {a:Option Addr}{n cap:Nat} (h:Zbn lo w (.slice a n cap) Ts) (hL:0 < Ts.length) :
 ∃ b off,a=some ⟨b,off,none⟩/\b < w.heap.size/\∀ i (h:i < Ts.length),Zfq Ts[i]/\Zea w b (off+i*2) Ts[i]:=by
 rcases h with ⟨a',cap',h,rfl⟩ | ⟨b',off',cap',h1,h2,h3,h4,h5,h6,h7⟩
 . simp at hL
 . injection h1 with e1 e2 e3
   exact⟨b',off',e1,h4,h7⟩
theorem Zbn.setCell (h:Zbn lo w v Ts) {p:Addr} (hp:p.block < lo) (u:Value):Zbn lo (w.setCell p u) v Ts:=by
 rcases h with h | ⟨b,off,cap,h1,h2,h3,h4,h5,h6,h7⟩
 . exact Or.inl h
 . refine Or.inr ⟨b,off,cap,h1,h2,h3,by simpa [World.setCell] using h4,h5,h6,fun i hi=>?_⟩
   obtain⟨hs,hc⟩:=h7 i hi;have e:∀ o,(w.setCell p u).cell? ⟨b,o,none⟩=w.cell? ⟨b,o,none⟩:=fun o=>Zar _ _ _ _ (by show b≠p.block;omega)
   exact⟨hs,by rw [e];exact hc.c0,by rw [e];exact hc.c1⟩
theorem Zo3 (k f:Zy_) (left:Int) (w:World) (h0:0<=left) (h1:left<=1048576)
 (s0:k.size<=maxLen) (s1:f.size<=maxLen) :
 Calls prog 76 #[.agg #[.string k,.string f],.int .i64 left] w
  fun e w'=>∃ r:Int,e=.returned (.int .i64 r)/\Zw_ w w'/\-1<=r/\r<=left:=by
 unfold maxLen at s0 s1;have HW:∀ o,Hd (Zw_ w (w.alloc o)):=fun o=>Zb_.alloc Zl_ _
 go_enter func76,ntmps76;go_wp2
 all_goals go_ret
 all_goals exact⟨_,rfl,(HW _).o,by omega,by omega⟩
theorem Zrd (lo:Nat) (v:Value) (Ts:List Tm) (left:Int) (w:World) (h0:0<=left) (h1:left<=1048576) (hv:Zbn lo w v Ts) :
 Calls prog 29 #[v,.int .i64 left] w fun e w'=>∃ r:Int,e=.returned (.int .i64 r)/\Zw_ w w'/\Ztz Ts.length left r:=by
 rcases hv with ⟨a,cap,rfl,rfl⟩ | ⟨b,off,cap,rfl,hne,hm,hbw,_,_,hc⟩
 . go_enter func29,ntmps29
   go_wp2
   go_loop [1,5] (fun l i=>∃ r:Int,l=.int .i64 r/\0<=r/\r<=left/\i=.int .i64 0) (fun _ _=>0)
   case atStart=>exact⟨_,rfl,by omega,by omega,rfl⟩
   case round=>
    obtain⟨r,rfl,hr0,hr1,rfl⟩:=hrel;go_wp2;go_ret;exact⟨r,rfl,Below.refl _ _,by omega,by omega,fun _=>by simp;omega⟩
 . unfold maxLen at hm
   by_cases hle:(Ts.length:Int)<=left
   . go_enter func29,ntmps29
     go_wp2
     go_loopw [1,5] (fun l i wr=>∃ (r:Int) (k:Nat),l=.int .i64 r/\0<=r/\r<=left/\i=.int .i64 k/\k<=Ts.length/\Zw_ w wr) (fun _ i _=>Ts.length - (intOf i).toNat)
     case atStart=>exact⟨_,0,rfl,by omega,by omega,rfl,by omega,Below.refl _ _⟩
     case round=>
      obtain⟨r,k,rfl,hr0,hr1,rfl,hk,hb⟩:=hrel
      by_cases hlt:k < Ts.length
      . obtain⟨hsz,hcell⟩:=hc k hlt
        obtain⟨c0,c1⟩:=hcell.below hb hbw;go_wp2_with fail;refine (Zo3 _ _ _ _ hr0 (by omega) hsz.s0 hsz.s1).mono ?_;rintro e w1 ⟨r1,rfl,hb1,q0,q1⟩;have hB:Hd (Zw_ w w1):=hb.trans (hb1.mono hb.size);clear hb1 c0 c1 hb;go_wp2
        all_goals first
         | (go_roundw
            . exact⟨_,k+1,rfl,by omega,by omega,by go_num,by omega,hB.o⟩
            . simp [intOf];omega)
         | (go_ret
            exact⟨-1,rfl,hB.o,by omega,by omega,fun h=>by omega⟩)
      . go_wp2
        go_ret;exact⟨r,rfl,hb,by omega,by omega,fun _=>hle⟩
   . go_enter func29,ntmps29
     go_wp2;go_ret;exact⟨-1,rfl,Below.refl _ _,by omega,by omega,fun h=>by omega⟩
theorem Zjr (k f:Zy_) (w:World) :
 Calls prog 88 #[.agg #[.string k,.string f]] w
  fun e w'=>e=.returned (.agg #[.string k,.string f])/\Zw_ w w':=by
 go_enter func88,ntmps88;go_wp2;refine bodyPost_ret (v:=.agg #[.string k,.string f]) (by simp [results,results88,go_sem]) rfl ⟨rfl,?_⟩
 repeat (refine Below.setCell ?_ (by simp only [];omega) _)
 exact ((Zb_.alloc Zl_ _).alloc (by simp) _).alloc (by simp;omega) _
theorem ZlT (k f:Zy_) (w:World) :
 Calls prog 99 #[.agg #[.string k,.string f],.agg #[.string k,.string f]] w
  fun e w'=>e=.returned (.bool true)/\Zw_ w w':=by
 go_enter func99,ntmps99;go_wp2;go_ret;exact⟨rfl,(Zb_.alloc Zl_ _).alloc (by simp) _⟩
theorem Zoa (lo lo':Nat) (v v':Value) (Ts:List Tm) (w:World) (hv:Zbn lo w v Ts) (hv':Zbn lo' w v' Ts) :
 Calls prog 47 #[v,v'] w fun e w'=>e=.returned (.bool true)/\Zw_ w w':=by
 by_cases hL:Ts=[]
 . subst hL
   obtain⟨a,cap,rfl⟩:=hv.form;obtain⟨a',cap',rfl⟩:=hv'.form;clear hv hv';go_enter func47,ntmps47;go_wp2
   go_loop [5] (fun i=>i=.int .i64 0) (fun _=>0)
   case atStart=>rfl
   case round=>
    subst hrel;go_wp2;go_ret;exact⟨rfl,Below.refl _ _⟩
 . obtain⟨b,off,cap,rfl,hm,hbw,_,hc⟩:=hv.full hL
   obtain⟨b',off',cap',rfl,_,hbw',_,hc'⟩:=hv'.full hL;clear hv hv';unfold maxLen at hm;go_enter func47,ntmps47;go_wp2
   go_loopw [5] (fun i wr=>∃ k:Nat,i=.int .i64 k/\k<=Ts.length/\Zw_ w wr) (fun i _=>Ts.length - (intOf i).toNat)
   case atStart=>exact⟨0,rfl,by omega,Below.refl _ _⟩
   case round=>
    obtain⟨k,rfl,hk,hb⟩:=hrel
    by_cases hlt:k < Ts.length
    . obtain⟨_,hcell⟩:=hc k hlt
      obtain⟨_,hcell'⟩:=hc' k hlt;obtain⟨c0,c1⟩:=hcell.below hb hbw;obtain⟨d0,d1⟩:=hcell'.below hb hbw';clear hcell hcell';have HB:=Zab hb;clear hb;go_wp2
      go_region_with (go_at_call 99;refine (ZlT _ _ _).mono ?_;rintro e w1 ⟨rfl,hb1⟩;have hB:Hd (Zw_ w w1):=(HB.o.drew).trans (hb1.mono HB.o.size);clear hb1)
      all_goals go_wp2
      all_goals go_roundw
      all_goals first
       | (case rel=>exact⟨k+1,by go_num,by omega,hB.o⟩)
       | (case measure=>simp [intOf];omega)
    . go_wp2
      go_ret;exact⟨rfl,hb⟩
theorem Tryz.info135:(prog.info? 135).map (fun i=>(i.zero,i.size,i.bytes))=some (some (.agg #[.string ⟨#[]⟩,.string ⟨#[]⟩]),2,32):=by kernel_rfl
def Zb2 (wr:World) (B:Nat) (Ts:List Tm) (k:Nat):Prop:=
 ∃ f,wr.rowIs B 135 (Ts.length*2) f/\∀ i (h:i < Ts.length),i < k->Zfq Ts[i]/\f (i*2)=.string Ts[i].nm/\f (i*2+1)=.string Ts[i].ov
theorem Zb2.below (h:Zb2 wr B Ts k) (hb:Below wr.heap.size wr w1):Zb2 w1 B Ts k:=by
 obtain⟨f,hr,hall⟩:=h;exact⟨f,hr.of_block (hb.block B hr.lt),hall⟩
theorem Zb2.free (h:Zb2 wr B Ts k) (i:Nat):wr.frozen? ⟨B,i,none⟩=false:=by
 obtain⟨f,hr,_⟩:=h;exact hr.frozen i
theorem Zb2.there (h:Zb2 wr B Ts k) (i:Nat) (hi:i < Ts.length*2):∃ v,wr.cell? ⟨B,i,none⟩=some v:=by
 obtain⟨f,hr,_⟩:=h;exact⟨_,hr.cell hi⟩
theorem Zb2.step (h:Zb2 w1 B Ts k) (hk:k < Ts.length) (hz:Zfq Ts[k]) :
 Zb2 ((w1.setCell ⟨B,k*2,none⟩ (.string Ts[k].nm)).setCell ⟨B,k*2+1,none⟩ (.string Ts[k].ov)) B Ts (k+1):=by
 obtain⟨f,hr,hall⟩:=h;refine⟨_,((hr.set _ _).set _ _),fun i hi hik=>?_⟩
 by_cases e:i=k
 . subst e
   exact⟨hz,by simp,by simp⟩
 . obtain⟨hz',h0,h1⟩:=hall i hi (by omega)
   refine⟨hz',?_,?_⟩
   . rw [if_neg (by omega),if_neg (by omega)];exact h0
   . rw [if_neg (by omega),if_neg (by omega)];exact h1
theorem Zb2.done (h:Zb2 wr B Ts k) (hk:Ts.length<=k) (hne:Ts≠[]) (hm:Ts.length<=maxLen):Zbn B wr (.slice (some ⟨B,0,none⟩) Ts.length Ts.length) Ts:=by
 obtain⟨f,hr,hall⟩:=h;refine Or.inr ⟨B,0,Ts.length,rfl,hne,hm,hr.lt,Nat.le_refl _,Nat.le_refl _,fun i hi=>?_⟩;obtain⟨hz,h0,h1⟩:=hall i hi (by omega);rw [Nat.zero_add];exact⟨hz,by rw [hr.cell (by omega),h0],by rw [hr.cell (by omega),h1]⟩
theorem Zb2.new (w:World) (Ts:List Tm) (z:Array Value):Zb2 (w.alloc (.cells (madeCells z (Ts.length*2)) 135)) w.heap.size Ts 0:=by
 refine⟨fun i=>(madeCells z (Ts.length*2)).getD i default,?_,fun i _ h=>by omega⟩;have:=World.rowIs_alloc w (madeCells z (Ts.length*2)) 135 (fun i=>(madeCells z (Ts.length*2)).getD i default) (fun i hi=>by simp [Array.getD,hi])
 rwa [size_madeCells] at this
theorem Zrr (lo:Nat) (v:Value) (Ts:List Tm) (w:World) (hv:Zbn lo w v Ts) (hn:Ts.length<=1048576) :
 Calls prog 38 #[v] w fun e w'=>∃ v',e=.returned v'/\Zw_ w w'/\Zbn w.heap.size w' v' Ts:=by
 obtain⟨i0,hi,hz0,hz1,hz2⟩:=info_parts Tryz.info135
 by_cases hL:Ts=[]
 . subst hL
   obtain⟨a,cap,rfl⟩:=hv.form;clear hv
   have hmk:∀ u:World,(Instr.makeSlice 39 (.int .i64 0) (.int .i64 0)).run prog u=.ok (.slice (some ⟨u.heap.size,0,none⟩) 0 0) (u.alloc (.cells (madeCells (Value.cells (.agg #[.string ⟨#[]⟩,.string ⟨#[]⟩])) 0) 135)):=fun u=>by
    have h:=run_make (P:=prog) u 39 135 i0 _ underlying39 hi hz0 .i64 .i64 0 0 (by omega) (by omega) (by omega) (by omega)
    simpa [hz1] using h
   go_enter func38,ntmps38;go_wp2
   go_loop [4] (fun i=>i=.int .i64 0) (fun _=>0)
   case atStart=>rfl
   case round=>
    subst hrel;go_wp2;go_ret;exact⟨_,rfl,Zb_.alloc Zl_ _,Or.inl ⟨_,_,rfl,rfl⟩⟩
 . obtain⟨b,off,cap,rfl,hm,hbw,_,hc⟩:=hv.full hL
   clear hv;have HM:Hd (Ts.length<=maxLen):=hm;unfold maxLen at hm
   have hmk:∀ u:World,(Instr.makeSlice 39 (.int .i64 (Ts.length:Int)) (.int .i64 (Ts.length:Int))).run prog u=.ok (.slice (some ⟨u.heap.size,0,none⟩) Ts.length Ts.length) (u.alloc (.cells (madeCells (Value.cells (.agg #[.string ⟨#[]⟩,.string ⟨#[]⟩])) (Ts.length*2)) 135)):=fun u=>by
    have h:=run_make (P:=prog) u 39 135 i0 _ underlying39 hi hz0 .i64 .i64 Ts.length Ts.length (by omega) (by omega) (by rw [hz2];omega) (by omega);rw [hz1] at h
    simpa using h
   clear hi hz0 hz1 hz2;go_enter func38,ntmps38;go_wp2;clear hmk
   go_loopw [4] (fun i wr=>∃ k:Nat,i=.int .i64 k/\k<=Ts.length/\Zw_ w wr/\Zb2 wr w.heap.size Ts k) (fun i _=>Ts.length - (intOf i).toNat)
   case atStart=>exact⟨0,rfl,by omega,Zb_.alloc Zl_ _,Zb2.new w Ts _⟩
   case round=>
    obtain⟨k,rfl,hk,hb,hf⟩:=hrel
    by_cases hlt:k < Ts.length
    . obtain⟨hsz,hcell⟩:=hc k hlt
      obtain⟨c0,c1⟩:=hcell.below hb hbw;clear hcell;go_wp2_with fail;refine (Zjr _ _ _).mono ?_;rintro e w1 ⟨rfl,hb1⟩;have hf1:=hf.below hb1;have HST:=Zab (hf1.step hlt hsz);have hB:Hd (Zw_ w w1):=hb.trans (hb1.mono hb.size);have hfr:=hf1.free;obtain⟨o0,ho0⟩:=hf1.there (k*2) (by omega);obtain⟨o1,ho1⟩:=hf1.there (k*2+1) (by omega);clear hf hf1 hb1 hb c0 c1;go_wp2;go_roundw
      . 
       exact⟨k+1,by go_num,by omega,(hB.o.setCell Zl_ _).setCell Zl_ _,HST.o⟩
      . simp [intOf];omega
    . go_wp2
      go_ret;exact⟨_,rfl,hb,hf.done (by omega) hL HM.o⟩
end
open Go.ChangeShapes Go.WideShapes Go.ChangeAt Go.RowKit Go.Deep
open Go.ChangeMaps (open_string shut_string)
variable {fuel:Nat} {c:Value} {l cs:List Value}
theorem Tryz.own:ownKnob prog.godebug=none:=by kernel_rfl
theorem Tryz.cells9:prog.cellsOf 9=1:=by kernel_rfl
theorem Tryz.cells3:prog.cellsOf 3=1:=by kernel_rfl
theorem Tryz.cells4:prog.cellsOf 4=1:=by kernel_rfl
theorem Tryz.cells111:prog.cellsOf 111=1:=by kernel_rfl
theorem Tryz.cells226:prog.cellsOf 226=11:=by kernel_rfl
section
variable {H:Type} {enc:TypeId×Value->H} {W:World}
theorem ZgF {x:DataW H×List MemPlace} (h:DataW.trod enc prog W 0 (fun _=>true) true fuel 111 [c]=some x):∃ L,Zaf W c L:=by
 rcases open_strs underlying111 underlying9 Tryz.cells9 h with ⟨hcs,_⟩ | ⟨a,len,cap,m,Sx,hcs,_,hl,hm,hmm,_,hcell⟩
 . simp only [List.cons.injEq,and_true] at hcs
   exact⟨[],Or.inl ⟨_,_,hcs,rfl⟩⟩
 . simp only [List.cons.injEq,and_true] at hcs
   simp only [if_true] at hmm;subst hmm
   by_cases h0:len=0
   . subst h0
     exact⟨[],Or.inl ⟨_,_,hcs,rfl⟩⟩
   . obtain⟨b,off,spot⟩:=a
     have hspot:spot=none:=by simpa [Addr.add] using World.cell?_spot (hcell 0 (by omega)).1
     subst hspot;refine⟨(List.range len).map Sx,Or.inr ⟨b,off,m,?_,?_,?_,?_,?_,?_⟩⟩
     . rw [hcs];simp
     . intro e;simp at e;exact h0 e
     . simp;omega
     . exact World.block_lt_of_cell? W _ (hcell 0 (by omega)).1
     . intro i hi
       simp at hi;have:=(hcell i (by omega)).1;rw [add_plain] at this
       simpa using this
     . intro s hs
       obtain⟨i,hi,rfl⟩:=List.mem_map.1 hs;exact (hcell i (by have:=List.mem_range.1 hi;omega)).2
end
theorem Tryz.cells101:prog.cellsOf 101=1:=by kernel_rfl
theorem Tryz.cells103:prog.cellsOf 103=2:=by kernel_rfl
theorem ZbK {α:Type}{p:Nat->α->Prop} (n:Nat):(∀ i,i < n->∃ x,p i x)->∃ L:List α,L.length=n/\∀ i (h:i < L.length),p i L[i]:=by
 induction n with
 | zero=>intro _;exact⟨[],rfl,fun i h=>absurd h (by simp)⟩
 | succ n ih=>
  intro h;obtain⟨L,hl,hL⟩:=ih (fun i hi=>h i (by omega));obtain⟨x,hx⟩:=h n (by omega);refine⟨L ++ [x],by simp [hl],fun i hi=>?_⟩
  by_cases e:i < L.length
  . rw [List.getElem_append_left e];exact hL i e
  . have e2:i=n:=by simp at hi;omega
    subst e2;have:(L ++ [x])[i]=x:=by rw [List.getElem_append_right (by omega)];simp [hl]
    rw [this];exact hx
theorem ZtT (h:l.length=11):∃ c0 c1 c2 c3 c4 c5 c6 c7 c8 c9 c10,l=[c0,c1,c2,c3,c4,c5,c6,c7,c8,c9,c10]:=by
 match l,h with
 | [c0,c1,c2,c3,c4,c5,c6,c7,c8,c9,c10],_=>exact⟨c0,c1,c2,c3,c4,c5,c6,c7,c8,c9,c10,rfl⟩
theorem ZtU (h:l.length=2):∃ c0 c1,l=[c0,c1]:=by
 match l,h with
 | [c0,c1],_=>exact⟨c0,c1,rfl⟩
theorem Zaf.in0 {w:World}{v:Value}{L:List Zy_} (h:Zaf w v L):Zaq 0 w v L:=by
 rcases h with h | ⟨b,off,cap,h1,h2,h3,h4,h5,h6⟩
 . exact Or.inl h
 . exact Or.inr ⟨b,off,cap,h1,h2,h3,h4,h5,h6,Nat.zero_le _⟩
section
variable {H:Type} {enc:TypeId×Value->H} {W:World}
theorem Zth {x:DataW H×List MemPlace} (h:DataW.trod enc prog W 0 (fun _=>true) true fuel 226 cs=some x) :
 ∃ (f:Fd) (wv:Value),cs=[.string f.nm,.int .i64 f.kd,.int .i64 f.le,.int .i64 f.mo,wv,.string f.to,.int .i64 f.ro,.bool f.mu,.bool f.fx,.string f.df,.string f.we]/\Zaf W wv f.words/\Zfn f:=by
 obtain⟨xs,n,_,_,hl,hlen,hfld⟩:=DataW.trod_struct underlying226 h;obtain⟨c0,c1,c2,c3,c4,c5,c6,c7,c8,c9,c10,rfl⟩:=ZtT (hl.trans Tryz.cells226);simp only [Array.size,List.length_cons,List.length_nil] at hlen;have g0:DataW.trod enc prog W 0 (fun _=>true) true n 9 ((([c0,c1,c2,c3,c4,c5,c6,c7,c8,c9,c10]:List Value).drop 0).take (prog.cellsOf 9))=xs[0]?:=hfld 0 _ rfl;have g1:DataW.trod enc prog W 0 (fun _=>true) true n 3 ((([c0,c1,c2,c3,c4,c5,c6,c7,c8,c9,c10]:List Value).drop 1).take (prog.cellsOf 3))=xs[1]?:=hfld 1 _ rfl;have g2:DataW.trod enc prog W 0 (fun _=>true) true n 3 ((([c0,c1,c2,c3,c4,c5,c6,c7,c8,c9,c10]:List Value).drop 2).take (prog.cellsOf 3))=xs[2]?:=hfld 2 _ rfl;have g3:DataW.trod enc prog W 0 (fun _=>true) true n 3 ((([c0,c1,c2,c3,c4,c5,c6,c7,c8,c9,c10]:List Value).drop 3).take (prog.cellsOf 3))=xs[3]?:=hfld 3 _ rfl
 have g4:DataW.trod enc prog W 0 (fun _=>true) true n 111 ((([c0,c1,c2,c3,c4,c5,c6,c7,c8,c9,c10]:List Value).drop 4).take (prog.cellsOf 111))=xs[4]?:=hfld 4 _ rfl;have g5:DataW.trod enc prog W 0 (fun _=>true) true n 9 ((([c0,c1,c2,c3,c4,c5,c6,c7,c8,c9,c10]:List Value).drop 5).take (prog.cellsOf 9))=xs[5]?:=hfld 5 _ rfl;have g6:DataW.trod enc prog W 0 (fun _=>true) true n 3 ((([c0,c1,c2,c3,c4,c5,c6,c7,c8,c9,c10]:List Value).drop 6).take (prog.cellsOf 3))=xs[6]?:=hfld 6 _ rfl;have g7:DataW.trod enc prog W 0 (fun _=>true) true n 4 ((([c0,c1,c2,c3,c4,c5,c6,c7,c8,c9,c10]:List Value).drop 7).take (prog.cellsOf 4))=xs[7]?:=hfld 7 _ rfl;have g8:DataW.trod enc prog W 0 (fun _=>true) true n 4 ((([c0,c1,c2,c3,c4,c5,c6,c7,c8,c9,c10]:List Value).drop 8).take (prog.cellsOf 4))=xs[8]?:=hfld 8 _ rfl
 have g9:DataW.trod enc prog W 0 (fun _=>true) true n 9 ((([c0,c1,c2,c3,c4,c5,c6,c7,c8,c9,c10]:List Value).drop 9).take (prog.cellsOf 9))=xs[9]?:=hfld 9 _ rfl;have g10:DataW.trod enc prog W 0 (fun _=>true) true n 9 ((([c0,c1,c2,c3,c4,c5,c6,c7,c8,c9,c10]:List Value).drop 10).take (prog.cellsOf 9))=xs[10]?:=hfld 10 _ rfl;simp only [Tryz.cells9,Tryz.cells3,Tryz.cells4,Tryz.cells111,List.drop_succ_cons,List.drop_zero,List.take_succ_cons,List.take_zero] at g0 g1 g2 g3 g4 g5 g6 g7 g8 g9 g10;rw [List.getElem?_eq_getElem (by omega)] at g0 g1 g2 g3 g4 g5 g6 g7 g8 g9 g10;obtain⟨nm,e0,_,s0⟩:=DataW.trod_string underlying9 g0;obtain⟨kd,e1,_,_⟩:=DataW.trod_int underlying3 g1;obtain⟨le,e2,_,_⟩:=DataW.trod_int underlying3 g2;obtain⟨mo,e3,_,_⟩:=DataW.trod_int underlying3 g3;obtain⟨L,hL⟩:=ZgF g4;obtain⟨tq,e5,_,s5⟩:=DataW.trod_string underlying9 g5
 obtain⟨ro,e6,_,_⟩:=DataW.trod_int underlying3 g6;obtain⟨mu,e7,_⟩:=DataW.trod_bool underlying4 g7;obtain⟨fx,e8,_⟩:=DataW.trod_bool underlying4 g8;obtain⟨df,e9,_,s9⟩:=DataW.trod_string underlying9 g9;obtain⟨we,e10,_,s10⟩:=DataW.trod_string underlying9 g10;simp only [List.cons.injEq,and_true] at e0 e1 e2 e3 e5 e6 e7 e8 e9 e10;subst e0 e1 e2 e3 e5 e6 e7 e8 e9 e10;exact⟨⟨nm,kd,le,mo,L,tq,ro,mu,fx,df,we⟩,c4,rfl,hL,⟨s0,s5,s9,s10⟩⟩
theorem Zr2 {x:DataW H×List MemPlace} (h:DataW.trod enc prog W 0 (fun _=>true) true fuel 101 [c]=some x):∃ Fs,Zau 0 W c Fs:=by
 rcases open_slice underlying101 h with ⟨hcs,_⟩ | ⟨a,len,cap,m,n,D,Pl,hcs,_,hl,hm,hmm,_,hx⟩
 . simp only [List.cons.injEq,and_true] at hcs
   exact⟨[],Or.inl ⟨_,_,hcs,rfl⟩⟩
 . simp only [List.cons.injEq,and_true] at hcs
   simp only [if_true] at hmm;subst hmm;rw [Tryz.cells226] at hx
   by_cases h0:len=0
   . subst h0
     exact⟨[],Or.inl ⟨_,_,hcs,rfl⟩⟩
   . obtain⟨Fs,hF,hall⟩:=ZbK (p:=fun i (f:Fd)=>Zfn f/\∃ wv,Zaf W wv f.words/\W.cells? 0 (a.add (i*11)) 11=some [.string f.nm,.int .i64 f.kd,.int .i64 f.le,.int .i64 f.mo,wv,.string f.to,.int .i64 f.ro,.bool f.mu,.bool f.fx,.string f.df,.string f.we]) len (fun i hi=>by
      obtain⟨cs',h1,h2⟩:=hx i (by omega);obtain⟨f,wv,e,hw,hz⟩:=Zth h2;rw [e] at h1;exact⟨f,hz,wv,hw,h1⟩)
     obtain⟨b,off,spot⟩:=a
     have hspot:spot=none:=by
      obtain⟨_,wv,_,h1⟩:=hall 0 (by omega);have:=(World.cells?_some h1).2.2 0 (by omega);rw [Nat.zero_mul] at this;have e0:((⟨b,off,spot⟩:Addr).add 0).add 0=⟨b,off,spot⟩:=by simp [Addr.add]
      rw [e0] at this
      simpa using World.cell?_spot (by simpa using this)
     subst hspot
     have hcell:∀ i (hi:i < Fs.length) wv,W.cells? 0 ((⟨b,off,none⟩:Addr).add (i*11)) 11=some [.string Fs[i].nm,.int .i64 Fs[i].kd,.int .i64 Fs[i].le,.int .i64 Fs[i].mo,wv,.string Fs[i].to,.int .i64 Fs[i].ro,.bool Fs[i].mu,.bool Fs[i].fx,.string Fs[i].df,.string Fs[i].we]->ZcR W b (off+i*11) Fs[i] wv:=fun i hi wv h1=>by
      obtain⟨_,_,hc⟩:=World.cells?_some h1;rw [add_plain] at hc;have q:=fun j (hj:j < 11)=>(add_plain b (off+i*11) j) ▸ hc j hj
      exact⟨by simpa using q 0 (by omega),by simpa using q 1 (by omega),by simpa using q 2 (by omega),by simpa using q 3 (by omega),by simpa using q 4 (by omega),by simpa using q 5 (by omega),by simpa using q 6 (by omega),by simpa using q 7 (by omega),by simpa using q 8 (by omega),by simpa using q 9 (by omega),by simpa using q 10 (by omega)⟩
     have hbw:b < W.heap.size:=by
      obtain⟨_,wv,_,h1⟩:=hall 0 (by omega);exact World.block_lt_of_cell? W _ (hcell 0 (by omega) wv h1).c0
     refine⟨Fs,Or.inr ⟨b,off,m,by rw [hcs,hF],?_,by omega,hbw,Nat.zero_le _,by omega,fun i hi=>?_⟩⟩
     . intro e;rw [e] at hF;simp at hF;omega
     . obtain⟨hz,wv,hw,h1⟩:=hall i hi
       exact⟨hz,wv,hcell i hi wv h1,hw.in0⟩
theorem Ztj {x:DataW H×List MemPlace} (h:DataW.trod enc prog W 0 (fun _=>true) true fuel 103 cs=some x) :
 ∃ (s:Sh) (fv:Value),cs=[.string s.kind,fv]/\Zau 0 W fv s.fields/\s.kind.size<=maxLen:=by
 obtain⟨xs,n,_,_,hl,hlen,hfld⟩:=DataW.trod_struct underlying103 h;obtain⟨c0,c1,rfl⟩:=ZtU (hl.trans Tryz.cells103);simp only [Array.size,List.length_cons,List.length_nil] at hlen;have g0:DataW.trod enc prog W 0 (fun _=>true) true n 9 ((([c0,c1]:List Value).drop 0).take (prog.cellsOf 9))=xs[0]?:=hfld 0 _ rfl;have g1:DataW.trod enc prog W 0 (fun _=>true) true n 101 ((([c0,c1]:List Value).drop 1).take (prog.cellsOf 101))=xs[1]?:=hfld 1 _ rfl;simp only [Tryz.cells9,Tryz.cells101,List.drop_succ_cons,List.drop_zero,List.take_succ_cons,List.take_zero] at g0 g1;rw [List.getElem?_eq_getElem (by omega)] at g0 g1;obtain⟨kd,e0,_,s0⟩:=DataW.trod_string underlying9 g0;obtain⟨Fs,hF⟩:=Zr2 g1;simp only [List.cons.injEq,and_true] at e0;subst e0;exact⟨⟨kd,Fs⟩,c1,rfl,hF,s0⟩
theorem Zr6 {x:DataW H×List MemPlace} (h:DataW.trod enc prog W 0 (fun _=>true) true fuel 22 [c]=some x):∃ Ss,ZaI 0 W c Ss:=by
 rcases open_slice underlying22 h with ⟨hcs,_⟩ | ⟨a,len,cap,m,n,D,Pl,hcs,_,hl,hm,hmm,_,hx⟩
 . simp only [List.cons.injEq,and_true] at hcs
   exact⟨[],Or.inl ⟨_,_,hcs,rfl⟩⟩
 . simp only [List.cons.injEq,and_true] at hcs
   simp only [if_true] at hmm;subst hmm;rw [Tryz.cells103] at hx
   by_cases h0:len=0
   . subst h0
     exact⟨[],Or.inl ⟨_,_,hcs,rfl⟩⟩
   . obtain⟨Ss,hF,hall⟩:=ZbK (p:=fun i (s:Sh)=>s.kind.size<=maxLen/\∃ fv,Zau 0 W fv s.fields/\W.cells? 0 (a.add (i*2)) 2=some [.string s.kind,fv]) len (fun i hi=>by
      obtain⟨cs',h1,h2⟩:=hx i (by omega);obtain⟨s,fv,e,hw,hz⟩:=Ztj h2;rw [e] at h1;exact⟨s,hz,fv,hw,h1⟩)
     obtain⟨b,off,spot⟩:=a
     have hspot:spot=none:=by
      obtain⟨_,fv,_,h1⟩:=hall 0 (by omega);have:=(World.cells?_some h1).2.2 0 (by omega);rw [Nat.zero_mul] at this;have e0:((⟨b,off,spot⟩:Addr).add 0).add 0=⟨b,off,spot⟩:=by simp [Addr.add]
      rw [e0] at this
      simpa using World.cell?_spot (by simpa using this)
     subst hspot
     have hcell:∀ i (hi:i < Ss.length) fv,W.cells? 0 ((⟨b,off,none⟩:Addr).add (i*2)) 2=some [.string Ss[i].kind,fv]->W.cell? ⟨b,off+i*2,none⟩=some (.string Ss[i].kind)/\W.cell? ⟨b,off+i*2+1,none⟩=some fv:=fun i hi fv h1=>by
      obtain⟨_,_,hc⟩:=World.cells?_some h1;rw [add_plain] at hc;have q:=fun j (hj:j < 2)=>(add_plain b (off+i*2) j) ▸ hc j hj
      exact⟨by simpa using q 0 (by omega),by simpa using q 1 (by omega)⟩
     have hbw:b < W.heap.size:=by
      obtain⟨_,fv,_,h1⟩:=hall 0 (by omega);exact World.block_lt_of_cell? W _ (hcell 0 (by omega) fv h1).1
     refine⟨Ss,Or.inr ⟨b,off,m,by rw [hcs,hF],?_,by omega,hbw,Nat.zero_le _,fun i hi=>?_⟩⟩
     . intro e;rw [e] at hF;simp at hF;omega
     . obtain⟨hz,fv,hw,h1⟩:=hall i hi
       exact⟨hz,fv,(hcell i hi fv h1).1,(hcell i hi fv h1).2,hw⟩
end
theorem Tryz.cells113:prog.cellsOf 113=7:=by kernel_rfl
theorem ZtM {cs:Array Value} (h:cs.size=7):∃ c0 c1 c2 c3 c4 c5 c6,cs=#[c0,c1,c2,c3,c4,c5,c6]:=by
 obtain⟨l⟩:=cs
 match l,h with
 | [c0,c1,c2,c3,c4,c5,c6],_=>exact⟨c0,c1,c2,c3,c4,c5,c6,rfl⟩
theorem Tryz.cells106:prog.cellsOf 106=6:=by kernel_rfl
theorem Zuq (h:l.length=6):∃ c0 c1 c2 c3 c4 c5,l=[c0,c1,c2,c3,c4,c5]:=by
 match l,h with
 | [c0,c1,c2,c3,c4,c5],_=>exact⟨c0,c1,c2,c3,c4,c5,rfl⟩
section
variable {H:Type} {enc:TypeId×Value->H} {W:World}
theorem Zti {x:DataW H×List MemPlace} (h:DataW.trod enc prog W 0 (fun _=>true) true fuel 106 cs=some x) :
 ∃ (m:Md),cs=[.string m.kind,.string m.field,.string m.wh,.string m.is,.string m.put,.string m.fr]/\Zeq m:=by
 obtain⟨xs,n,_,_,hl,hlen,hfld⟩:=DataW.trod_struct underlying106 h;obtain⟨c0,c1,c2,c3,c4,c5,rfl⟩:=Zuq (hl.trans Tryz.cells106);simp only [Array.size,List.length_cons,List.length_nil] at hlen;have g0:DataW.trod enc prog W 0 (fun _=>true) true n 9 ((([c0,c1,c2,c3,c4,c5]:List Value).drop 0).take (prog.cellsOf 9))=xs[0]?:=hfld 0 _ rfl;have g1:DataW.trod enc prog W 0 (fun _=>true) true n 9 ((([c0,c1,c2,c3,c4,c5]:List Value).drop 1).take (prog.cellsOf 9))=xs[1]?:=hfld 1 _ rfl;have g2:DataW.trod enc prog W 0 (fun _=>true) true n 9 ((([c0,c1,c2,c3,c4,c5]:List Value).drop 2).take (prog.cellsOf 9))=xs[2]?:=hfld 2 _ rfl;have g3:DataW.trod enc prog W 0 (fun _=>true) true n 9 ((([c0,c1,c2,c3,c4,c5]:List Value).drop 3).take (prog.cellsOf 9))=xs[3]?:=hfld 3 _ rfl
 have g4:DataW.trod enc prog W 0 (fun _=>true) true n 9 ((([c0,c1,c2,c3,c4,c5]:List Value).drop 4).take (prog.cellsOf 9))=xs[4]?:=hfld 4 _ rfl;have g5:DataW.trod enc prog W 0 (fun _=>true) true n 9 ((([c0,c1,c2,c3,c4,c5]:List Value).drop 5).take (prog.cellsOf 9))=xs[5]?:=hfld 5 _ rfl;simp only [Tryz.cells9,List.drop_succ_cons,List.drop_zero,List.take_succ_cons,List.take_zero] at g0 g1 g2 g3 g4 g5;rw [List.getElem?_eq_getElem (by omega)] at g0 g1 g2 g3 g4 g5;obtain⟨k,e0,_,s0⟩:=DataW.trod_string underlying9 g0;obtain⟨f,e1,_,s1⟩:=DataW.trod_string underlying9 g1;obtain⟨wh,e2,_,s2⟩:=DataW.trod_string underlying9 g2;obtain⟨is,e3,_,s3⟩:=DataW.trod_string underlying9 g3;obtain⟨pu,e4,_,s4⟩:=DataW.trod_string underlying9 g4;obtain⟨fr,e5,_,s5⟩:=DataW.trod_string underlying9 g5;simp only [List.cons.injEq,and_true] at e0 e1 e2 e3 e4 e5
 subst e0 e1 e2 e3 e4 e5;exact⟨⟨k,f,wh,is,pu,fr⟩,rfl,⟨s0,s1,s2,s3,s4,s5⟩⟩
theorem Zr4 {x:DataW H×List MemPlace} (h:DataW.trod enc prog W 0 (fun _=>true) true fuel 23 [c]=some x):∃ Ms,Zbe 0 W c Ms:=by
 rcases open_slice underlying23 h with ⟨hcs,_⟩ | ⟨a,len,cap,m,n,D,Pl,hcs,_,hl,hm,hmm,_,hx⟩
 . simp only [List.cons.injEq,and_true] at hcs
   exact⟨[],Or.inl ⟨_,_,hcs,rfl⟩⟩
 . simp only [List.cons.injEq,and_true] at hcs
   simp only [if_true] at hmm;subst hmm;rw [Tryz.cells106] at hx
   by_cases h0:len=0
   . subst h0
     exact⟨[],Or.inl ⟨_,_,hcs,rfl⟩⟩
   . obtain⟨Ms,hF,hall⟩:=ZbK (p:=fun i (m:Md)=>Zeq m/\W.cells? 0 (a.add (i*6)) 6=some [.string m.kind,.string m.field,.string m.wh,.string m.is,.string m.put,.string m.fr]) len (fun i hi=>by
      obtain⟨cs',h1,h2⟩:=hx i (by omega);obtain⟨md,e,hz⟩:=Zti h2;rw [e] at h1;exact⟨md,hz,h1⟩)
     obtain⟨b,off,spot⟩:=a
     have hspot:spot=none:=by
      obtain⟨_,h1⟩:=hall 0 (by omega);have:=(World.cells?_some h1).2.2 0 (by omega);rw [Nat.zero_mul] at this;have e0:((⟨b,off,spot⟩:Addr).add 0).add 0=⟨b,off,spot⟩:=by simp [Addr.add]
      rw [e0] at this
      simpa using World.cell?_spot (by simpa using this)
     subst hspot
     have hcell:∀ i (hi:i < Ms.length),W.cells? 0 ((⟨b,off,none⟩:Addr).add (i*6)) 6=some [.string Ms[i].kind,.string Ms[i].field,.string Ms[i].wh,.string Ms[i].is,.string Ms[i].put,.string Ms[i].fr]->ZfA W b (off+i*6) Ms[i]:=fun i hi h1=>by
      obtain⟨_,_,hc⟩:=World.cells?_some h1;rw [add_plain] at hc;have q:=fun j (hj:j < 6)=>(add_plain b (off+i*6) j) ▸ hc j hj
      exact⟨by simpa using q 0 (by omega),by simpa using q 1 (by omega),by simpa using q 2 (by omega),by simpa using q 3 (by omega),by simpa using q 4 (by omega),by simpa using q 5 (by omega)⟩
     have hbw:b < W.heap.size:=by
      obtain⟨_,h1⟩:=hall 0 (by omega);exact World.block_lt_of_cell? W _ (hcell 0 (by omega) h1).c0
     refine⟨Ms,Or.inr ⟨b,off,m,by rw [hcs,hF],?_,by omega,hbw,Nat.zero_le _,by omega,fun i hi=>?_⟩⟩
     . intro e;rw [e] at hF;simp at hF;omega
     . obtain⟨hz,h1⟩:=hall i hi
       exact⟨hz,hcell i hi h1⟩
end
end Go.Proofs.YtmappejlmapboaaGreat
