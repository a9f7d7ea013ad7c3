import Derived.Test.YtlmippkhpjcfcaaGreatVB4
open Go.Proofs.Tryz
namespace Go.Proofs.YtlmippkhpjcfcaaGreat
def Zc8 {α:Type} (N:List α) (rd:α→List α) (R:List α):Prop:=∀ i (h:i < R.length),R[i] ∈ N∧R[i] ∉ R.take i∧∀ r ∈ rd R[i],r ∈ R.take i
def ZiT {α:Type} (N:List α) (rd:α→List α) (row:List α):Prop:=∀ x ∈ N,x ∉ row→¬ ∀ r ∈ rd x,r ∈ row
section
variable {α:Type} {N:List α} {rd:α→List α} {R R':List α}
theorem Zc8.nil:Zc8 N rd []:=fun i h=>absurd h (Nat.not_lt_zero i)
theorem Zc8.snoc {x:α} (hg:Zc8 N rd R) (hn:x ∈ N) (hx:x ∉ R) (hr:∀ r ∈ rd x,r ∈ R):Zc8 N rd (R ++ [x]):=by
 intro i h;have h':i < R.length+1:=by rw [List.length_append] at h;exact h
 by_cases hi:i < R.length
 · rw [List.getElem_append_left hi,List.take_append_of_le_length (Nat.le_of_lt hi)]
   exact hg i hi
 · have e:i=R.length:=by omega
   subst e;have e1:(R ++ [x])[R.length]=x:=by simp
   have e2:(R ++ [x]).take R.length=R:=by simp
   rw [e1,e2];exact⟨hn,hx,hr⟩
theorem Zc8.init {x:α} (h:Zc8 N rd (R ++ [x])):Zc8 N rd R∧x ∈ N∧x ∉ R∧∀ r ∈ rd x,r ∈ R:=by
 constructor
 · intro i hi
   have:=h i (by rw [List.length_append];omega);rw [List.getElem_append_left hi,List.take_append_of_le_length (Nat.le_of_lt hi)] at this;exact this
 · have:=h R.length (by simp)
   have e1:(R ++ [x])[R.length]=x:=by simp
   have e2:(R ++ [x]).take R.length=R:=by simp
   rw [e1,e2] at this;exact this
theorem Zc8.along {p:List α→Prop} (h0:p []) (hs:∀ row x,Zc8 N rd row→x ∈ N→x ∉ row→(∀ r ∈ rd x,r ∈ row)→p row→p (row ++ [x])):∀ (n:Nat) (R:List α),R.length=n→Zc8 N rd R→p R:=by
 intro n
 induction n with
 | zero=>intro R hl _;rw [List.length_eq_zero_iff.1 hl];exact h0
 | succ n ih=>
  intro R hl hg;have hne:R≠[]:=by intro e;rw [e] at hl;cases hl
  have e:R.dropLast ++ [R.getLast hne]=R:=List.dropLast_concat_getLast hne;rw [← e] at hg ⊢;obtain⟨h1,h2,h3,h4⟩:=hg.init;exact hs _ _ h1 h2 h3 h4 (ih _ (by rw [List.length_dropLast,hl];rfl) h1)
theorem Zc8.nodup (h:Zc8 N rd R):R.Nodup:=by
 refine Zc8.along (p:=fun R=>R.Nodup) List.nodup_nil (fun row x _ _ hx _ ih=>?_) _ R rfl h;rw [List.nodup_append];exact⟨ih,by simp,fun a ha b hb=>by simp at hb;subst hb;exact fun e=>hx (e ▸ ha)⟩
theorem Zc8.sub (h:Zc8 N rd R):R ⊆ N:=by
 intro y hy;obtain⟨i,hi,rfl⟩:=List.getElem_of_mem hy;exact (h i hi).1
theorem Zc8.reads (h:Zc8 N rd R) {x:α} (hx:x ∈ R):∀ r ∈ rd x,r ∈ R:=by
 intro r hr;obtain⟨i,hi,rfl⟩:=List.getElem_of_mem hx;exact List.mem_of_mem_take ((h i hi).2.2 r hr)
theorem Zc8.into (h:Zc8 N rd R) (hs:ZiT N rd R'):R ⊆ R':=by
 refine Zc8.along (p:=fun R=>R ⊆ R') (List.nil_subset _) (fun row x _ hn _ hr ih=>?_) _ R rfl h;intro z hz
 rcases List.mem_append.1 hz with h | h
 · exact ih h
 · simp at h;subst h
   exact Classical.byContradiction fun hc=>hs z hn hc fun r hrr=>ih (hr r hrr)
theorem Zc8.all (h:Zc8 N rd R) (hl:N.length≤R.length):∀ x ∈ N,x ∈ R:=by
 intro x hx;refine Classical.byContradiction fun hc=>?_
 have:(x :: R).length≤N.length:=List.Nodup.length_le_of_subset (List.nodup_cons.2 ⟨hc,h.nodup⟩) (List.cons_subset.2 ⟨hx,h.sub⟩);simp at this;omega
end
def ZpJ {α:Type} [DecidableEq α] (N:List α) (rd:α→List α) (R:List α):List α:=
 match N.find? fun x=>decide (x ∉ R)&&(rd x).all fun r=>decide (r ∈ R) with
 | some x=>R ++ [x]
 | none=>R
def ZfK {α:Type} [DecidableEq α] (N:List α) (rd:α→List α):Nat→List α
 | 0=>[]
 | n+1=>ZpJ N rd (ZfK N rd n)
def Zon {α:Type} [DecidableEq α] (N:List α) (rd:α→List α):Bool:=decide (N.length≤(ZfK N rd N.length).length)
section
variable {α:Type} [DecidableEq α] {N:List α} {rd:α→List α} {R:List α}
theorem Zfl (n:Nat):Zc8 N rd (ZfK N rd n)∧((ZfK N rd n).length=n∨ZiT N rd (ZfK N rd n)):=by
 induction n with
 | zero=>exact⟨Zc8.nil,Or.inl rfl⟩
 | succ n ih=>
  obtain⟨hg,hc⟩:=ih
  show Zc8 N rd (ZpJ N rd (ZfK N rd n))∧((ZpJ N rd (ZfK N rd n)).length=n+1∨ZiT N rd (ZpJ N rd (ZfK N rd n)))
  generalize ZfK N rd n=R at*;unfold ZpJ
  cases hf:N.find? fun x=>decide (x ∉ R)&&(rd x).all fun r=>decide (r ∈ R) with
  | none=>
   refine⟨hg,Or.inr fun x hx hn hr=>?_⟩;have:=List.find?_eq_none.1 hf x hx;exact this (by simp only [Bool.and_eq_true,decide_eq_true_eq,List.all_eq_true];exact⟨hn,hr⟩)
  | some x=>
   have hp:=List.find?_some hf;simp only [Bool.and_eq_true,decide_eq_true_eq,List.all_eq_true] at hp;have hx:=List.mem_of_find?_eq_some hf;refine⟨hg.snoc hx hp.1 hp.2,?_⟩
   rcases hc with hc | hc
   · exact Or.inl (by simp [hc])
   · exact absurd hp.2 (hc x hx hp.1)
theorem ZmG (h:Zc8 N rd R) (hl:N.length≤R.length):Zon N rd=true:=by
 unfold Zon;refine decide_eq_true ?_
 rcases (Zfl (N:=N) (rd:=rd) N.length).2 with hc | hc
 · omega
 · have:=List.Nodup.length_le_of_subset h.nodup (h.into hc)
   omega
theorem ZpV (hs:ZiT N rd R) (hl:R.length < N.length):Zon N rd=false:=by
 unfold Zon;refine decide_eq_false ?_;have hg:=(Zfl (N:=N) (rd:=rd) N.length).1;have:=List.Nodup.length_le_of_subset hg.nodup (hg.into hs)
 omega
theorem Zko (h:Zon N rd=true):∃ R,Zc8 N rd R∧N.length≤R.length:=by
 unfold Zon at h;exact⟨_,(Zfl (N:=N) (rd:=rd) N.length).1,of_decide_eq_true h⟩
end
section
variable {α β:Type} (pl:α→Nat) (dec:List β→α→Option β)
def setp (V:List β) (x:α):List β:=match dec V x with
 | some v=>V.set (pl x) v
 | none=>V
def Zda (R:List α) (V:List β):List β:=R.foldl (setp pl dec) V
theorem ZiK (R:List α) (x:α) (V:List β):Zda pl dec (R ++ [x]) V=setp pl dec (Zda pl dec R V) x:=by simp [Zda]
theorem ZiG {R:List α} {k:Nat} (h:k < R.length) (V:List β):Zda pl dec (R.take (k+1)) V=setp pl dec (Zda pl dec (R.take k) V) R[k]:=by
 rw [List.take_succ_eq_append_getElem h,ZiK]
theorem Zjd (V:List β) (x:α):(setp pl dec V x).length=V.length:=by
 unfold setp;cases dec V x <;> simp
theorem Zhw (R:List α):∀ (V:List β),(Zda pl dec R V).length=V.length:=by
 induction R with
 | nil=>intro V;rfl
 | cons x R ih=>intro V;show (Zda pl dec R (setp pl dec V x)).length=_;rw [ih,Zjd]
theorem ZoD (V:List β) (x:α) {i:Nat} (h:pl x≠i):(setp pl dec V x)[i]?=V[i]?:=by
 unfold setp;cases dec V x with
 | none=>rfl
 | some v=>exact List.getElem?_set_ne h
structure Fix (N:List α) (V F:List β):Prop where
 len:F.length=V.length
 at':∀ x ∈ N,F[pl x]?=(dec F x).or V[pl x]?
 off:∀ i,(∀ x ∈ N,pl x≠i)→F[i]?=V[i]?
def Zq2 (N:List α) (rd:α→List α):Prop:=∀ x ∈ N,∀ V V':List β,V.length=V'.length→(∀ r ∈ rd x,V[pl r]?=V'[pl r]?)→dec V x=dec V' x
def ZrE (N:List α):Prop:=∀ x ∈ N,∀ y ∈ N,pl x=pl y→x=y
variable {pl dec} {N:List α} {rd:α→List α}
theorem Zr6 (ha:ZrE pl N) (hl:Zq2 pl dec N rd) {R:List α} (h:Zc8 N rd R) (V:List β) (hp:∀ x ∈ N,pl x < V.length):Fix pl dec R V (Zda pl dec R V):=by
 refine Zc8.along (p:=fun R=>Fix pl dec R V (Zda pl dec R V)) ⟨rfl,fun x hx=>by simp at hx,fun _ _=>rfl⟩ (fun row x hg hn hx hr ih=>?_) _ R rfl h
 · rw [ZiK]
   have hlen:=Zhw pl dec row V;generalize hF:Zda pl dec row V=F at*;have hoff:∀ y ∈ row,(setp pl dec F x)[pl y]?=F[pl y]?:=fun y hy=>ZoD _ _ _ _ fun e=>hx (by rw [ha x hn y (hg.sub hy) e];exact hy)
   have hdec:∀ y,y ∈ N→(∀ r ∈ rd y,r ∈ row)→dec (setp pl dec F x) y=dec F y:=fun y hy hry=>hl y hy _ _ (by rw [Zjd]) fun r hrr=>hoff r (hry r hrr)
   refine⟨by rw [Zjd,hlen],fun y hy=>?_,fun i hi=>?_⟩
   · rcases List.mem_append.1 hy with h | h
     · rw [hoff y h,hdec y (hg.sub h) (hg.reads h)];exact ih.at' y h
     · simp at h;subst h
       rw [hdec y hn hr];have hV:F[pl y]?=V[pl y]?:=ih.off _ fun z hz e=>hx (by rw [← ha z (hg.sub hz) y hn e];exact hz)
       unfold setp
       cases hd:dec F y with
       | none=>simp [hV]
       | some v=>simp [List.getElem?_set_self (show pl y < F.length by rw [hlen];exact hp y hn)]
   · rw [ZoD _ _ _ _ (hi x (by simp))]
     exact ih.off i fun z hz=>hi z (by simp [hz])
theorem Fix.grow {R:List α} {V F:List β} (h:Fix pl dec R V F) (h1:R ⊆ N) (h2:∀ x ∈ N,x ∈ R):Fix pl dec N V F:=
 ⟨h.len,fun x hx=>h.at' x (h2 x hx),fun i hi=>h.off i fun x hx=>hi x (h1 hx)⟩
theorem ZqR (ha:ZrE pl N) (hl:Zq2 pl dec N rd) {R:List α} (h:Zc8 N rd R) (hn:N.length≤R.length) (V:List β) (hp:∀ x ∈ N,pl x < V.length):Fix pl dec N V (Zda pl dec R V):=
 (Zr6 ha hl h V hp).grow h.sub (h.all hn)
theorem Zno [DecidableEq α] (hl:Zq2 pl dec N rd) (hr:Zon N rd=true) {V F G:List β} (h1:Fix pl dec N V F) (h2:Fix pl dec N V G):F=G:=by
 obtain⟨R,hg,hn⟩:=Zko hr;have hlen:F.length=G.length:=h1.len.trans h2.len.symm
 have key:∀ P,Zc8 N rd P→∀ x ∈ P,F[pl x]?=G[pl x]?:=by
  intro P hP;refine Zc8.along (p:=fun P=>∀ x ∈ P,F[pl x]?=G[pl x]?) (fun x hx=>by simp at hx) (fun row x _ hxn _ hrr ih=>?_) _ P rfl hP
  · intro y hy
    rcases List.mem_append.1 hy with h | h
    · exact ih y h
    · simp at h;subst h
      rw [h1.at' y hxn,h2.at' y hxn,hl y hxn F G hlen fun r hr'=>ih r (hrr r hr')]
 apply List.ext_getElem?;intro i
 by_cases h:∃ x ∈ N,pl x=i
 · obtain⟨x,hx,rfl⟩:=h
   exact key R hg x (hg.all hn x hx)
 · have hi:∀ x ∈ N,pl x≠i:=fun x hx e=>h ⟨x,hx,e⟩
   rw [h1.off i hi,h2.off i hi]
end
end Go.Proofs.YtlmippkhpjcfcaaGreat
namespace Go.Proofs.YtlmippkhpjcfcaaGreat
open Go.RowKit Go.Deep
theorem ZaJ {x y:Zy_}:(x.toList == y.toList)=true↔x=y:=by
 rw [beq_iff_eq];refine⟨fun h=>?_,fun h=>by rw [h]⟩;rw [ByteArray.toList_eq,ByteArray.toList_eq] at h;exact ByteArray.ext (Array.toList_inj.1 h)
theorem Zdd (x:Zy_):(x.toList == x.toList)=true:=ZaJ.2 rfl
theorem ZfF {x y:Zy_}:(x.toList == y.toList)=false↔x≠y:=by
 rw [← Bool.not_eq_true,Ne,ZaJ]
structure Md where
 kind:Zy_
 field:Zy_
 wh:Zy_
 is:Zy_
 put:Zy_
 fr:Zy_
def ZaF (Fs:List Fd):List Zy_:=Fs.map Fd.nm
theorem ZcE {Fs:List Fd} {s:Zy_}:s ∈ ZaF Fs↔∃ i,∃ h:i < Fs.length,Fs[i].nm=s:=by
 unfold ZaF;rw [List.mem_map]
 constructor
 · rintro⟨f,hf,rfl⟩;obtain⟨i,hi,rfl⟩:=List.getElem_of_mem hf;exact⟨i,hi,rfl⟩
 · rintro⟨i,hi,rfl⟩;exact⟨_,List.getElem_mem hi,rfl⟩
def ZaV (Fs:List Fd) (s:Zy_):Nat:=Fs.findIdx fun f=>f.nm.toList == s.toList
theorem Zco {Fs:List Fd} {s:Zy_}:ZaV Fs s < Fs.length↔s ∈ ZaF Fs:=by
 unfold ZaV;rw [List.findIdx_lt_length,ZcE]
 constructor
 · rintro⟨f,hf,h⟩;obtain⟨i,hi,rfl⟩:=List.getElem_of_mem hf;exact⟨i,hi,ZaJ.1 h⟩
 · rintro⟨i,hi,rfl⟩;exact⟨_,List.getElem_mem hi,Zdd _⟩
theorem ZiY {Fs:List Fd} {s:Zy_} (h:ZaV Fs s < Fs.length):Fs[ZaV Fs s].nm=s:=by
 have:=List.findIdx_getElem (p:=fun f:Fd=>f.nm.toList == s.toList) (xs:=Fs) (w:=h);exact ZaJ.1 this
theorem Zqd {Fs:List Fd} {s:Zy_} {k:Nat} (hk:k < Fs.length) (h:(Fs[k].nm.toList == s.toList)=true) (hall:∀ i (h:i < Fs.length),i < k→(Fs[i].nm.toList == s.toList)=false):ZaV Fs s=k:=by
 unfold ZaV;rw [List.findIdx_eq hk];exact⟨h,fun j hj=>hall j (by omega) hj⟩
theorem Zsi {Fs:List Fd} {s:Zy_} (hall:∀ i (h:i < Fs.length),(Fs[i].nm.toList == s.toList)=false):ZaV Fs s=Fs.length:=by
 unfold ZaV;rw [List.findIdx_eq_length];intro f hf;obtain⟨i,hi,rfl⟩:=List.getElem_of_mem hf;exact hall i hi
theorem Znx (Fs:List Fd):ZrE (ZaV Fs) (ZaF Fs):=fun x hx y hy e=>by
 rw [← ZiY (Zco.2 hx),← ZiY (Zco.2 hy)];simp only [e]
def Zbl (Fs:List Fd) (s:Zy_):Bool:=match Fs[ZaV Fs s]? with
 | some f=>!(f.kd == 4)
 | none=>false
theorem ZdF {Fs:List Fd} {s:Zy_} (h:Zbl Fs s=true):s ∈ ZaF Fs:=by
 rw [← Zco];unfold Zbl at h
 by_cases hl:ZaV Fs s < Fs.length
 · exact hl
 · rw [List.getElem?_eq_none (by omega)] at h;cases h
theorem ZmM {Fs:List Fd} {s:Zy_} (h:ZaV Fs s < Fs.length):Zbl Fs s=!(Fs[ZaV Fs s].kd == 4):=by unfold Zbl;rw [List.getElem?_eq_getElem h]
theorem ZmC {Fs:List Fd} {s:Zy_} (h:¬ ZaV Fs s < Fs.length):Zbl Fs s=false:=by unfold Zbl;rw [List.getElem?_eq_none (by omega)]
def Zop (Fs:List Fd) (s t:Zy_):Bool:=match Fs[ZaV Fs s]? with
 | some f=>ZaQ f.kd f.le f.mo f.words t
 | none=>false
theorem Zqq {Fs:List Fd} {s t:Zy_} (h:ZaV Fs s < Fs.length):Zop Fs s t=ZaQ Fs[ZaV Fs s].kd Fs[ZaV Fs s].le Fs[ZaV Fs s].mo Fs[ZaV Fs s].words t:=by unfold Zop;rw [List.getElem?_eq_getElem h]
def ZhA (Fs:List Fd) (field s:Zy_):Bool:=s.toList.isEmpty || Zbl Fs s&&!(s.toList == field.toList)
def Zce (m:Md):Bool:=!(m.wh.toList.isEmpty&&!m.is.toList.isEmpty)&&!(m.put.toList.isEmpty == m.fr.toList.isEmpty)
def Zel (Fs:List Fd) (m:Md):Bool:=Zbl Fs m.field&&ZhA Fs m.field m.wh&&ZhA Fs m.field m.fr&&Zce m&&(m.put.toList.isEmpty || Zop Fs m.field m.put)
def ZcD (Fs:List Fd) (m:Md):Bool:=
 Zbl Fs m.field&&(m.wh.toList.isEmpty || Zbl Fs m.wh)&&(m.fr.toList.isEmpty || Zbl Fs m.fr)&&!(m.wh.toList == m.field.toList)&&!(m.fr.toList == m.field.toList)&&Zce m&&(m.put.toList.isEmpty || Zop Fs m.field m.put)
theorem ZoW {Fs:List Fd} {m:Md} (hn:∀ s ∈ ZaF Fs,s.toList.isEmpty=false):Zel Fs m=ZcD Fs m:=by
 unfold Zel ZcD ZhA
 cases hp:Zbl Fs m.field with
 | false=>simp
 | true=>
  have hf:=hn _ (ZdF hp)
  have h1:m.wh.toList.isEmpty=true→(m.wh.toList == m.field.toList)=false:=fun h=>by
   rw [ZfF];intro e;rw [e] at h;rw [h] at hf;cases hf
  have h2:m.fr.toList.isEmpty=true→(m.fr.toList == m.field.toList)=false:=fun h=>by
   rw [ZfF];intro e;rw [e] at h;rw [h] at hf;cases hf
  cases ha:m.wh.toList.isEmpty with
  | true=>
   rw [h1 ha]
   cases hb:m.fr.toList.isEmpty with
   | true=>rw [h2 hb];simp
   | false=>simp
  | false=>
   cases hb:m.fr.toList.isEmpty with
   | true=>rw [h2 hb];simp
   | false=>simp;cases Zbl Fs m.wh <;> cases (m.wh.toList == m.field.toList) <;> cases Zbl Fs m.fr <;> cases (m.fr.toList == m.field.toList) <;> simp
def Zjt (m:Md):List Zy_:=(if m.wh.toList.isEmpty=true then [] else [m.wh]) ++ (if m.fr.toList.isEmpty=true then [] else [m.fr])
def Zdl (kind field:Zy_) (m:Md):Bool:=(m.kind.toList == kind.toList)&&(m.field.toList == field.toList)
def Zar (kind:Zy_) (Ms:List Md) (field:Zy_):List Zy_:=(Ms.filter (Zdl kind field)).flatMap Zjt
theorem Zj6 (kind field:Zy_) (Ms:List Md) (m:Md):Zar kind (Ms ++ [m]) field=Zar kind Ms field ++ (if Zdl kind field m=true then Zjt m else []):=by
 unfold Zar;rw [List.filter_append,List.flatMap_append]
 by_cases h:Zdl kind field m=true <;> simp [h]
theorem Zea {kind field:Zy_} {Ms:List Md} {r:Zy_}:r ∈ Zar kind Ms field↔∃ m ∈ Ms,Zdl kind field m=true∧r ∈ Zjt m:=by
 unfold Zar;simp [List.mem_flatMap,and_assoc]
theorem Zth {m:Md} (h:m.wh.toList.isEmpty=false):m.wh ∈ Zjt m:=by unfold Zjt;simp [h]
theorem ZsK {m:Md} (h:m.fr.toList.isEmpty=false):m.fr ∈ Zjt m:=by unfold Zjt;simp [h]
def ZbJ (Fs:List Fd) (V:List Zy_) (s:Zy_):Zy_:=(V[ZaV Fs s]?).getD ⟨#[]⟩
def ZgI (Fs:List Fd) (V:List Zy_) (m:Md):Bool:=(m.wh.toList.isEmpty || (ZbJ Fs V m.wh).toList == m.is.toList)&&(m.fr.toList.isEmpty || !(ZbJ Fs V m.fr).toList.isEmpty)
def Zcw (Fs:List Fd) (V:List Zy_) (m:Md):Zy_:=if m.fr.toList.isEmpty=true then m.put else ZbJ Fs V m.fr
def Zc1 (Fs:List Fd) (kind:Zy_) (Ms:List Md) (V:List Zy_) (field:Zy_):Option Zy_:=(Ms.find? fun m=>Zdl kind field m&&ZgI Fs V m).map (Zcw Fs V)
theorem Zh7 {α β:Type} {p q:α→Bool} {f g:α→β} {L:List α} (h:∀ x ∈ L,p x=q x) (hf:∀ x ∈ L,p x=true→f x=g x):(L.find? p).map f=(L.find? q).map g:=by
 induction L with
 | nil=>rfl
 | cons a L ih=>
  have ha:=h a (by simp);rw [List.find?_cons,List.find?_cons,← ha]
  cases hp:p a with
  | true=>simp only [Option.map_some];rw [hf a (by simp) hp]
  | false=>exact ih (fun x hx=>h x (by simp [hx])) fun x hx=>hf x (by simp [hx])
theorem Ziz (Fs:List Fd) (kind:Zy_) (Ms:List Md) (N:List Zy_):Zq2 (ZaV Fs) (Zc1 Fs kind Ms) N (Zar kind Ms):=by
 intro x _ V V' _ hr
 have hw:∀ m ∈ Ms,Zdl kind x m=true→m.wh.toList.isEmpty=false→ZbJ Fs V m.wh=ZbJ Fs V' m.wh:=fun m hm hf h=>by
  unfold ZbJ;rw [hr m.wh (Zea.2 ⟨m,hm,hf,Zth h⟩)]
 have hg:∀ m ∈ Ms,Zdl kind x m=true→m.fr.toList.isEmpty=false→ZbJ Fs V m.fr=ZbJ Fs V' m.fr:=fun m hm hf h=>by
  unfold ZbJ;rw [hr m.fr (Zea.2 ⟨m,hm,hf,ZsK h⟩)]
 unfold Zc1;refine Zh7 (fun m hm=>?_) fun m hm hp=>?_
 · cases hf:Zdl kind x m with
   | false=>rfl
   | true=>
    unfold ZgI
    cases h1:m.wh.toList.isEmpty with
    | true=>cases h2:m.fr.toList.isEmpty with
     | true=>rfl
     | false=>rw [hg m hm hf h2];rfl
    | false=>cases h2:m.fr.toList.isEmpty with
     | true=>rw [hw m hm hf h1];rfl
     | false=>rw [hw m hm hf h1,hg m hm hf h2]
 · have hf:Zdl kind x m=true:=by simp at hp;exact hp.1
   unfold Zcw
   cases h2:m.fr.toList.isEmpty with
   | true=>rfl
   | false=>rw [hg m hm hf h2]
def Zdi (Ss:List Sh) (m:Md):Bool:=match Zcf Ss m.kind with
 | some x=>ZcD x.fields m
 | none=>false
def Zbv (Ms:List Md) (x:Sh):Bool:=Zon (ZaF x.fields) (Zar x.kind Ms)
def ZaB (Ss:List Sh) (Ms:List Md):Bool:=ZaI Ss&&decide (Ms.length≤12)&&Ms.all (Zdi Ss)&&Ss.all (Zbv Ms)
theorem Zb4 {Ss:List Sh} (h:ZaI Ss=true) {x:Sh} (hx:x ∈ Ss):ZaH Ss x.fields=true:=by
 unfold ZaI at h;rw [Bool.and_eq_true,List.all_eq_true] at h;obtain⟨i,hi,rfl⟩:=List.getElem_of_mem hx;have:=h.2 i (List.mem_range.2 hi)
 cases i with
 | zero=>rw [ZcQ hi,Bool.and_eq_true] at this;exact this.2
 | succ j=>rw [ZbP hi,Bool.and_eq_true] at this;exact this.2
theorem Zk2 {Ss:List Sh} {Fs:List Fd} (h:ZaH Ss Fs=true) {k:Nat} (hk:k < Fs.length):Zao Fs[k].nm=true∧Znl (Fs.take k) Fs[k].nm=false:=by
 unfold ZaH at h;rw [Bool.and_eq_true,List.all_eq_true] at h;have:=h.2 k (List.mem_range.2 hk);rw [ZaL hk] at this;simp at this;exact⟨this.1.1,this.2⟩
theorem Zdc {Ss:List Sh} {Fs:List Fd} (h:ZaH Ss Fs=true):Fs.length≤6:=by
 unfold ZaH at h;rw [Bool.and_eq_true] at h;exact of_decide_eq_true h.1
theorem Zir {Ss:List Sh} (h:ZaI Ss=true):Ss.length≤6:=by
 unfold ZaI at h;rw [Bool.and_eq_true] at h;exact of_decide_eq_true h.1
theorem Zpm {s:Zy_} (h:Zao s=true):s.toList.isEmpty=false:=by
 unfold Zao inB at h;rw [Bool.and_eq_true] at h;have:=of_decide_eq_true h.1;rw [ByteArray.toList_eq]
 cases hs:s.data.toList with
 | nil=>have e:s.size=0:=by show s.data.size=0;rw [← Array.length_toList,hs];rfl
        omega
 | cons a l=>rfl
theorem Zgz {Ss:List Sh} {Fs:List Fd} (h:ZaH Ss Fs=true):∀ s ∈ ZaF Fs,s.toList.isEmpty=false:=by
 intro s hs;obtain⟨i,hi,rfl⟩:=ZcE.1 hs;exact Zpm (Zk2 h hi).1
theorem ZjQ {Ss:List Sh} {Fs:List Fd} (h:ZaH Ss Fs=true) {k:Nat} (hk:k < Fs.length):ZaV Fs Fs[k].nm=k:=by
 refine Zqd hk (Zdd _) fun i hi hlt=>?_
 have hd:=(Zk2 h hk).2
 cases he:(Fs[i].nm.toList == Fs[k].nm.toList) with
 | false=>rfl
 | true=>rw [ZgU hi hlt he] at hd;cases hd
theorem Zcv {Ss:List Sh} {s:Zy_} {x:Sh} (h:Zcf Ss s=some x):x ∈ Ss∧x.kind=s:=by
 unfold Zcf at h;have h2:=List.find?_some h;exact⟨List.mem_of_find?_eq_some h,ZaJ.1 h2⟩
def Zqf (x:Sh) (Ms:List Md) (V F:List Zy_):Prop:=Fix (ZaV x.fields) (Zc1 x.fields x.kind Ms) (ZaF x.fields) V F
def Zmp (Ss:List Sh) (Ms:List Md) (kind:Zy_) (V F:List Zy_):Prop:=
 (∃ x,ZaB Ss Ms=true∧Zcf Ss kind=some x∧x.fields.length=V.length∧Zqf x Ms V F)∨
 ((ZaB Ss Ms=false∨∀ x,Zcf Ss kind=some x→x.fields.length≠V.length)∧F=V)
theorem ZeR {Ss:List Sh} {Ms:List Md} (h:ZaB Ss Ms=true) {x:Sh} (hx:x ∈ Ss):Zon (ZaF x.fields) (Zar x.kind Ms)=true:=by
 unfold ZaB at h;rw [Bool.and_eq_true,List.all_eq_true] at h;exact h.2 x hx
theorem Zc7 {Ss:List Sh} {Ms:List Md} (h:ZaB Ss Ms=true):ZaI Ss=true:=by
 unfold ZaB at h;simp only [Bool.and_eq_true] at h;exact h.1.1.1
theorem ZfG {Ss:List Sh} {Ms:List Md} (h:ZaB Ss Ms=true):Ms.length≤12:=by
 unfold ZaB at h;simp only [Bool.and_eq_true,decide_eq_true_eq] at h;exact h.1.1.2
theorem ZlU {Ss:List Sh} {Ms:List Md} (h:ZaB Ss Ms=true) {m:Md} (hm:m ∈ Ms):Zdi Ss m=true:=by
 unfold ZaB at h;simp only [Bool.and_eq_true,List.all_eq_true] at h;exact h.1.2 m hm
theorem Zqf.unique {Ss:List Sh} {Ms:List Md} (h:ZaB Ss Ms=true) {x:Sh} (hx:x ∈ Ss) {V F G:List Zy_} (h1:Zqf x Ms V F) (h2:Zqf x Ms V G):F=G:=
 Zno (Ziz _ _ _ _) (ZeR h hx) h1 h2
theorem Zja {x:Sh} {Ms:List Md} {R V:List Zy_} (h:Zc8 (ZaF x.fields) (Zar x.kind Ms) R) (hl:(ZaF x.fields).length≤R.length) (hv:x.fields.length=V.length):Zqf x Ms V (Zda (ZaV x.fields) (Zc1 x.fields x.kind Ms) R V):=
 ZqR (Znx _) (Ziz _ _ _ _) h hl V fun s hs=>by rw [← hv];exact Zco.2 hs
def Zfo (nm v:Zy_) (m:Md):Bool:=(nm.toList == m.wh.toList)&&!(v.toList == m.is.toList) || (nm.toList == m.fr.toList)&&v.toList.isEmpty
theorem ZmL {Ss:List Sh} {Fs:List Fd} {V:List Zy_} (hf:ZaH Ss Fs=true) {i:Nat} (h:i < Fs.length) (h':i < V.length):ZbJ Fs V Fs[i].nm=V[i]:=by
 unfold ZbJ;rw [ZjQ hf h,List.getElem?_eq_getElem h'];rfl
theorem Zp5 {Ss:List Sh} {Fs:List Fd} {V:List Zy_} {m:Md} (hf:ZaH Ss Fs=true) {i:Nat} (h:i < Fs.length) (h':i < V.length) (ht:Zfo Fs[i].nm V[i] m=true):ZgI Fs V m=false:=by
 have hn:=Zgz hf Fs[i].nm (ZcE.2 ⟨i,h,rfl⟩);unfold Zfo at ht;rw [Bool.or_eq_true,Bool.and_eq_true,Bool.and_eq_true,ZaJ,ZaJ] at ht;unfold ZgI
 rcases ht with ⟨e,hv⟩ | ⟨e,hv⟩
 · rw [← e,hn,ZmL hf h h']
   have:(V[i].toList == m.is.toList)=false:=by simpa using hv
   rw [this];rfl
 · rw [← e,hn,ZmL hf h h',hv];simp
theorem Zsk {Fs:List Fd} {V:List Zy_} {m:Md} (hl:Fs.length=V.length) (hw:m.wh.toList.isEmpty=true∨m.wh ∈ ZaF Fs) (hr:m.fr.toList.isEmpty=true∨m.fr ∈ ZaF Fs)
 (ht:∀ i (h:i < Fs.length) (h':i < V.length),Zfo Fs[i].nm V[i] m=false):ZgI Fs V m=true:=by
 unfold ZgI;rw [Bool.and_eq_true]
 constructor
 · rcases hw with hw | hw
   · rw [hw];rfl
   · have hp:=Zco.2 hw
     have:=ht _ hp (by omega);unfold Zfo at this;rw [ZiY hp,Zdd] at this;simp only [Bool.true_and,Bool.or_eq_false_iff] at this;unfold ZbJ;rw [List.getElem?_eq_getElem (show ZaV Fs m.wh < V.length by omega),Option.getD_some];have h2:=this.1;rw [Bool.not_eq_false'] at h2;rw [h2];simp
 · rcases hr with hw | hw
   · rw [hw];rfl
   · have hp:=Zco.2 hw
     have:=ht _ hp (by omega);unfold Zfo at this;rw [ZiY hp,Zdd] at this;simp only [Bool.true_and,Bool.or_eq_false_iff] at this;unfold ZbJ;rw [List.getElem?_eq_getElem (show ZaV Fs m.fr < V.length by omega),Option.getD_some,this.2];simp
theorem Zn3 {Ss:List Sh} {Ms:List Md} (h:ZaB Ss Ms=true) {x:Sh} {kind:Zy_} (hx:Zcf Ss kind=some x) {m:Md} (hm:m ∈ Ms) (hk:m.kind=x.kind) :
 m.field ∈ ZaF x.fields∧(m.wh.toList.isEmpty=true∨m.wh ∈ ZaF x.fields)∧(m.fr.toList.isEmpty=true∨m.fr ∈ ZaF x.fields):=by
 have hb:=ZlU h hm;unfold Zdi at hb;rw [hk,(Zcv hx).2,hx] at hb;simp only [ZcD,Bool.and_eq_true,Bool.or_eq_true] at hb;refine⟨ZdF hb.1.1.1.1.1.1,?_,?_⟩
 · rcases hb.1.1.1.1.1.2 with h | h
   · exact Or.inl h
   · exact Or.inr (ZdF h)
 · rcases hb.1.1.1.1.2 with h | h
   · exact Or.inl h
   · exact Or.inr (ZdF h)
theorem Zm4 {α:Type} {p:α→Bool} {L:List α} {k:Nat} (hk:k < L.length) (h:p L[k]=true) (hall:∀ i (h:i < L.length),i < k→p L[i]=false):L.find? p=some L[k]:=by
 rw [List.find?_eq_some_iff_getElem];exact⟨h,k,hk,rfl,fun j hj=>by simp [hall j (by omega) hj]⟩
theorem ZoG {α:Type} {p:α→Bool} {L:List α} (hall:∀ i (h:i < L.length),p L[i]=false):L.find? p=none:=by
 rw [List.find?_eq_none];intro x hx;obtain⟨i,hi,rfl⟩:=List.getElem_of_mem hx;simp [hall i hi]
theorem Zen {Fs:List Fd} {kind:Zy_} {Ms:List Md} {V:List Zy_} {f:Zy_} {k:Nat} (hk:k < Ms.length) (h:(Zdl kind f Ms[k]&&ZgI Fs V Ms[k])=true) (hall:∀ i (h:i < Ms.length),i < k→(Zdl kind f Ms[i]&&ZgI Fs V Ms[i])=false):Zc1 Fs kind Ms V f=some (Zcw Fs V Ms[k]):=by
 unfold Zc1;rw [Zm4 (p:=fun m=>Zdl kind f m&&ZgI Fs V m) hk h hall];rfl
theorem ZjZ {Fs:List Fd} {kind:Zy_} {Ms:List Md} {V:List Zy_} {f:Zy_} (hall:∀ i (h:i < Ms.length),(Zdl kind f Ms[i]&&ZgI Fs V Ms[i])=false):Zc1 Fs kind Ms V f=none:=by
 unfold Zc1;rw [ZoG (p:=fun m=>Zdl kind f m&&ZgI Fs V m) hall];rfl
theorem ZoI {Fs:List Fd} {kind:Zy_} {Ms:List Md} {V:List Zy_} {f v:Zy_} (h:Zc1 Fs kind Ms V f=some v):setp (ZaV Fs) (Zc1 Fs kind Ms) V f=V.set (ZaV Fs f) v:=by unfold setp;rw [h]
theorem Zqb {Fs:List Fd} {kind:Zy_} {Ms:List Md} {V:List Zy_} {f:Zy_} (h:Zc1 Fs kind Ms V f=none):setp (ZaV Fs) (Zc1 Fs kind Ms) V f=V:=by unfold setp;rw [h]
end Go.Proofs.YtlmippkhpjcfcaaGreat
