import Derived.Test.YtcfjmagkinpaeaaGreatGB4
open Go.Proofs.Tryz
namespace Go.Proofs.YtcfjmagkinpaeaaGreat
def ZcN {α:Type} (N:List α) (rd:α→List α) (R:List α):Prop:=∀ i (h:i < R.length),R[i] ∈ N∧R[i] ∉ R.take i∧∀ r ∈ rd R[i],r ∈ R.take i
def Zh5 {α:Type} (N:List α) (rd:α→List α) (row:List α):Prop:=∀ x ∈ N,x ∉ row→¬ ∀ r ∈ rd x,r ∈ row
section
variable {α:Type} {N:List α} {rd:α→List α} {R R':List α}
theorem ZcN.nil:ZcN N rd []:=fun i h=>absurd h (Nat.not_lt_zero i)
theorem ZcN.snoc {x:α} (hg:ZcN N rd R) (hn:x ∈ N) (hx:x ∉ R) (hr:∀ r ∈ rd x,r ∈ R):ZcN N rd (R ++ [x]):=by
 intro i h;have h':i < R.length+1:=by rw [List.length_append] at h;exact h
 by_cases hi:i < R.length
 · rw [List.getElem_append_left hi,List.take_append_of_le_length (Nat.le_of_lt hi)]
   exact hg i hi
 · have e:i=R.length:=by omega
   subst e;have e1:(R ++ [x])[R.length]=x:=by simp
   have e2:(R ++ [x]).take R.length=R:=by simp
   rw [e1,e2];exact⟨hn,hx,hr⟩
theorem ZcN.init {x:α} (h:ZcN N rd (R ++ [x])):ZcN N rd R∧x ∈ N∧x ∉ R∧∀ r ∈ rd x,r ∈ R:=by
 constructor
 · intro i hi
   have:=h i (by rw [List.length_append];omega);rw [List.getElem_append_left hi,List.take_append_of_le_length (Nat.le_of_lt hi)] at this;exact this
 · have:=h R.length (by simp)
   have e1:(R ++ [x])[R.length]=x:=by simp
   have e2:(R ++ [x]).take R.length=R:=by simp
   rw [e1,e2] at this;exact this
theorem ZcN.along {p:List α→Prop} (h0:p []) (hs:∀ row x,ZcN N rd row→x ∈ N→x ∉ row→(∀ r ∈ rd x,r ∈ row)→p row→p (row ++ [x])):∀ (n:Nat) (R:List α),R.length=n→ZcN N rd R→p R:=by
 intro n
 induction n with
 | zero=>intro R hl _;rw [List.length_eq_zero_iff.1 hl];exact h0
 | succ n ih=>
  intro R hl hg;have hne:R≠[]:=by intro e;rw [e] at hl;cases hl
  have e:R.dropLast ++ [R.getLast hne]=R:=List.dropLast_concat_getLast hne;rw [← e] at hg ⊢;obtain⟨h1,h2,h3,h4⟩:=hg.init;exact hs _ _ h1 h2 h3 h4 (ih _ (by rw [List.length_dropLast,hl];rfl) h1)
theorem ZcN.nodup (h:ZcN N rd R):R.Nodup:=by
 refine ZcN.along (p:=fun R=>R.Nodup) List.nodup_nil (fun row x _ _ hx _ ih=>?_) _ R rfl h;rw [List.nodup_append];exact⟨ih,by simp,fun a ha b hb=>by simp at hb;subst hb;exact fun e=>hx (e ▸ ha)⟩
theorem ZcN.sub (h:ZcN N rd R):R ⊆ N:=by
 intro y hy;obtain⟨i,hi,rfl⟩:=List.getElem_of_mem hy;exact (h i hi).1
theorem ZcN.reads (h:ZcN N rd R) {x:α} (hx:x ∈ R):∀ r ∈ rd x,r ∈ R:=by
 intro r hr;obtain⟨i,hi,rfl⟩:=List.getElem_of_mem hx;exact List.mem_of_mem_take ((h i hi).2.2 r hr)
theorem ZcN.into (h:ZcN N rd R) (hs:Zh5 N rd R'):R ⊆ R':=by
 refine ZcN.along (p:=fun R=>R ⊆ R') (List.nil_subset _) (fun row x _ hn _ hr ih=>?_) _ R rfl h;intro z hz
 rcases List.mem_append.1 hz with h | h
 · exact ih h
 · simp at h;subst h
   exact Classical.byContradiction fun hc=>hs z hn hc fun r hrr=>ih (hr r hrr)
theorem ZcN.all (h:ZcN N rd R) (hl:N.length≤R.length):∀ x ∈ N,x ∈ R:=by
 intro x hx;refine Classical.byContradiction fun hc=>?_
 have:(x :: R).length≤N.length:=List.Nodup.length_le_of_subset (List.nodup_cons.2 ⟨hc,h.nodup⟩) (List.cons_subset.2 ⟨hx,h.sub⟩);simp at this;omega
end
def Zok {α:Type} [DecidableEq α] (N:List α) (rd:α→List α) (R:List α):List α:=
 match N.find? fun x=>decide (x ∉ R)&&(rd x).all fun r=>decide (r ∈ R) with
 | some x=>R ++ [x]
 | none=>R
def Zff {α:Type} [DecidableEq α] (N:List α) (rd:α→List α):Nat→List α
 | 0=>[]
 | n+1=>Zok N rd (Zff N rd n)
def ZmW {α:Type} [DecidableEq α] (N:List α) (rd:α→List α):Bool:=decide (N.length≤(Zff N rd N.length).length)
section
variable {α:Type} [DecidableEq α] {N:List α} {rd:α→List α} {R:List α}
theorem ZeX (n:Nat):ZcN N rd (Zff N rd n)∧((Zff N rd n).length=n∨Zh5 N rd (Zff N rd n)):=by
 induction n with
 | zero=>exact⟨ZcN.nil,Or.inl rfl⟩
 | succ n ih=>
  obtain⟨hg,hc⟩:=ih
  show ZcN N rd (Zok N rd (Zff N rd n))∧((Zok N rd (Zff N rd n)).length=n+1∨Zh5 N rd (Zok N rd (Zff N rd n)))
  generalize Zff N rd n=R at*;unfold Zok
  cases hf:N.find? fun x=>decide (x ∉ R)&&(rd x).all fun r=>decide (r ∈ R) with
  | none=>
   refine⟨hg,Or.inr fun x hx hn hr=>?_⟩;have:=List.find?_eq_none.1 hf x hx;exact this (by simp only [Bool.and_eq_true,decide_eq_true_eq,List.all_eq_true];exact⟨hn,hr⟩)
  | some x=>
   have hp:=List.find?_some hf;simp only [Bool.and_eq_true,decide_eq_true_eq,List.all_eq_true] at hp;have hx:=List.mem_of_find?_eq_some hf;refine⟨hg.snoc hx hp.1 hp.2,?_⟩
   rcases hc with hc | hc
   · exact Or.inl (by simp [hc])
   · exact absurd hp.2 (hc x hx hp.1)
theorem Zll (h:ZcN N rd R) (hl:N.length≤R.length):ZmW N rd=true:=by
 unfold ZmW;refine decide_eq_true ?_
 rcases (ZeX (N:=N) (rd:=rd) N.length).2 with hc | hc
 · omega
 · have:=List.Nodup.length_le_of_subset h.nodup (h.into hc)
   omega
theorem Zn6 (hs:Zh5 N rd R) (hl:R.length < N.length):ZmW N rd=false:=by
 unfold ZmW;refine decide_eq_false ?_;have hg:=(ZeX (N:=N) (rd:=rd) N.length).1;have:=List.Nodup.length_le_of_subset hg.nodup (hg.into hs)
 omega
theorem Zjy (h:ZmW N rd=true):∃ R,ZcN N rd R∧N.length≤R.length:=by
 unfold ZmW at h;exact⟨_,(ZeX (N:=N) (rd:=rd) N.length).1,of_decide_eq_true h⟩
end
section
variable {α β:Type} (pl:α→Nat) (dec:List β→α→Option β)
def ZjA (V:List β) (x:α):List β:=match dec V x with
 | some v=>V.set (pl x) v
 | none=>V
def ZcS (R:List α) (V:List β):List β:=R.foldl (ZjA pl dec) V
theorem ZhD (R:List α) (x:α) (V:List β):ZcS pl dec (R ++ [x]) V=ZjA pl dec (ZcS pl dec R V) x:=by simp [ZcS]
theorem ZhE {R:List α} {k:Nat} (h:k < R.length) (V:List β):ZcS pl dec (R.take (k+1)) V=ZjA pl dec (ZcS pl dec (R.take k) V) R[k]:=by
 rw [List.take_succ_eq_append_getElem h,ZhD]
theorem ZiI (V:List β) (x:α):(ZjA pl dec V x).length=V.length:=by
 unfold ZjA;cases dec V x <;> simp
theorem ZgJ (R:List α):∀ (V:List β),(ZcS pl dec R V).length=V.length:=by
 induction R with
 | nil=>intro V;rfl
 | cons x R ih=>intro V;show (ZcS pl dec R (ZjA pl dec V x)).length=_;rw [ih,ZiI]
theorem Zob (V:List β) (x:α) {i:Nat} (h:pl x≠i):(ZjA pl dec V x)[i]?=V[i]?:=by
 unfold ZjA;cases dec V x with
 | none=>rfl
 | some v=>exact List.getElem?_set_ne h
structure Fix (N:List α) (V F:List β):Prop where
 len:F.length=V.length
 at':∀ x ∈ N,F[pl x]?=(dec F x).or V[pl x]?
 off:∀ i,(∀ x ∈ N,pl x≠i)→F[i]?=V[i]?
def Zpq (N:List α) (rd:α→List α):Prop:=∀ x ∈ N,∀ V V':List β,V.length=V'.length→(∀ r ∈ rd x,V[pl r]?=V'[pl r]?)→dec V x=dec V' x
def ZqZ (N:List α):Prop:=∀ x ∈ N,∀ y ∈ N,pl x=pl y→x=y
variable {pl dec} {N:List α} {rd:α→List α}
theorem Zrl (ha:ZqZ pl N) (hl:Zpq pl dec N rd) {R:List α} (h:ZcN N rd R) (V:List β) (hp:∀ x ∈ N,pl x < V.length):Fix pl dec R V (ZcS pl dec R V):=by
 refine ZcN.along (p:=fun R=>Fix pl dec R V (ZcS pl dec R V)) ⟨rfl,fun x hx=>by simp at hx,fun _ _=>rfl⟩ (fun row x hg hn hx hr ih=>?_) _ R rfl h
 · rw [ZhD]
   have hlen:=ZgJ pl dec row V;generalize hF:ZcS pl dec row V=F at*;have hoff:∀ y ∈ row,(ZjA pl dec F x)[pl y]?=F[pl y]?:=fun y hy=>Zob _ _ _ _ fun e=>hx (by rw [ha x hn y (hg.sub hy) e];exact hy)
   have hdec:∀ y,y ∈ N→(∀ r ∈ rd y,r ∈ row)→dec (ZjA pl dec F x) y=dec F y:=fun y hy hry=>hl y hy _ _ (by rw [ZiI]) fun r hrr=>hoff r (hry r hrr)
   refine⟨by rw [ZiI,hlen],fun y hy=>?_,fun i hi=>?_⟩
   · rcases List.mem_append.1 hy with h | h
     · rw [hoff y h,hdec y (hg.sub h) (hg.reads h)];exact ih.at' y h
     · simp at h;subst h
       rw [hdec y hn hr];have hV:F[pl y]?=V[pl y]?:=ih.off _ fun z hz e=>hx (by rw [← ha z (hg.sub hz) y hn e];exact hz)
       unfold ZjA
       cases hd:dec F y with
       | none=>simp [hV]
       | some v=>simp [List.getElem?_set_self (show pl y < F.length by rw [hlen];exact hp y hn)]
   · rw [Zob _ _ _ _ (hi x (by simp))]
     exact ih.off i fun z hz=>hi z (by simp [hz])
theorem Fix.grow {R:List α} {V F:List β} (h:Fix pl dec R V F) (h1:R ⊆ N) (h2:∀ x ∈ N,x ∈ R):Fix pl dec N V F:=
 ⟨h.len,fun x hx=>h.at' x (h2 x hx),fun i hi=>h.off i fun x hx=>hi x (h1 hx)⟩
theorem ZpA (ha:ZqZ pl N) (hl:Zpq pl dec N rd) {R:List α} (h:ZcN N rd R) (hn:N.length≤R.length) (V:List β) (hp:∀ x ∈ N,pl x < V.length):Fix pl dec N V (ZcS pl dec R V):=
 (Zrl ha hl h V hp).grow h.sub (h.all hn)
theorem Zl0 [DecidableEq α] (hl:Zpq pl dec N rd) (hr:ZmW N rd=true) {V F G:List β} (h1:Fix pl dec N V F) (h2:Fix pl dec N V G):F=G:=by
 obtain⟨R,hg,hn⟩:=Zjy hr;have hlen:F.length=G.length:=h1.len.trans h2.len.symm
 have key:∀ P,ZcN N rd P→∀ x ∈ P,F[pl x]?=G[pl x]?:=by
  intro P hP;refine ZcN.along (p:=fun P=>∀ x ∈ P,F[pl x]?=G[pl x]?) (fun x hx=>by simp at hx) (fun row x _ hxn _ hrr ih=>?_) _ P rfl hP
  · intro y hy
    rcases List.mem_append.1 hy with h | h
    · exact ih y h
    · simp at h;subst h
      rw [h1.at' y hxn,h2.at' y hxn,hl y hxn F G hlen fun r hr'=>ih r (hrr r hr')]
 apply List.ext_getElem?;intro i
 by_cases h:∃ x ∈ N,pl x=i
 · obtain⟨x,hx,rfl⟩:=h
   exact key R hg x (hg.all hn x hx)
 · have hi:∀ x ∈ N,pl x≠i:=fun x hx e=>h ⟨x,hx,e⟩
   rw [h1.off i hi,h2.off i hi]
end
end Go.Proofs.YtcfjmagkinpaeaaGreat
namespace Go.Proofs.YtcfjmagkinpaeaaGreat
open Go.RowKit Go.Deep
theorem ZaY {x y:Zy_}:(x.toList == y.toList)=true↔x=y:=by
 rw [beq_iff_eq];refine⟨fun h=>?_,fun h=>by rw [h]⟩;rw [ByteArray.toList_eq,ByteArray.toList_eq] at h;exact ByteArray.ext (Array.toList_inj.1 h)
theorem ZcX (x:Zy_):(x.toList == x.toList)=true:=ZaY.2 rfl
theorem Zfa {x y:Zy_}:(x.toList == y.toList)=false↔x≠y:=by
 rw [← Bool.not_eq_true,Ne,ZaY]
structure Md where
 kind:Zy_
 field:Zy_
 wh:Zy_
 is:Zy_
 put:Zy_
 fr:Zy_
def ZaD (Fs:List Fd):List Zy_:=Fs.map Fd.nm
theorem Zcq {Fs:List Fd} {s:Zy_}:s ∈ ZaD Fs↔∃ i,∃ h:i < Fs.length,Fs[i].nm=s:=by
 unfold ZaD;rw [List.mem_map]
 constructor
 · rintro⟨f,hf,rfl⟩;obtain⟨i,hi,rfl⟩:=List.getElem_of_mem hf;exact⟨i,hi,rfl⟩
 · rintro⟨i,hi,rfl⟩;exact⟨_,List.getElem_mem hi,rfl⟩
def ZaR (Fs:List Fd) (s:Zy_):Nat:=Fs.findIdx fun f=>f.nm.toList == s.toList
theorem Zcb {Fs:List Fd} {s:Zy_}:ZaR Fs s < Fs.length↔s ∈ ZaD Fs:=by
 unfold ZaR;rw [List.findIdx_lt_length,Zcq]
 constructor
 · rintro⟨f,hf,h⟩;obtain⟨i,hi,rfl⟩:=List.getElem_of_mem hf;exact⟨i,hi,ZaY.1 h⟩
 · rintro⟨i,hi,rfl⟩;exact⟨_,List.getElem_mem hi,ZcX _⟩
theorem ZiB {Fs:List Fd} {s:Zy_} (h:ZaR Fs s < Fs.length):Fs[ZaR Fs s].nm=s:=by
 have:=List.findIdx_getElem (p:=fun f:Fd=>f.nm.toList == s.toList) (xs:=Fs) (w:=h);exact ZaY.1 this
theorem ZnT {Fs:List Fd} {s:Zy_} {k:Nat} (hk:k < Fs.length) (h:(Fs[k].nm.toList == s.toList)=true) (hall:∀ i (h:i < Fs.length),i < k→(Fs[i].nm.toList == s.toList)=false):ZaR Fs s=k:=by
 unfold ZaR;rw [List.findIdx_eq hk];exact⟨h,fun j hj=>hall j (by omega) hj⟩
theorem ZrP {Fs:List Fd} {s:Zy_} (hall:∀ i (h:i < Fs.length),(Fs[i].nm.toList == s.toList)=false):ZaR Fs s=Fs.length:=by
 unfold ZaR;rw [List.findIdx_eq_length];intro f hf;obtain⟨i,hi,rfl⟩:=List.getElem_of_mem hf;exact hall i hi
theorem Zmg (Fs:List Fd):ZqZ (ZaR Fs) (ZaD Fs):=fun x hx y hy e=>by
 rw [← ZiB (Zcb.2 hx),← ZiB (Zcb.2 hy)];simp only [e]
def Zbi (Fs:List Fd) (s:Zy_):Bool:=match Fs[ZaR Fs s]? with
 | some f=>!(f.kd == 4)
 | none=>false
theorem ZdD {Fs:List Fd} {s:Zy_} (h:Zbi Fs s=true):s ∈ ZaD Fs:=by
 rw [← Zcb];unfold Zbi at h
 by_cases hl:ZaR Fs s < Fs.length
 · exact hl
 · rw [List.getElem?_eq_none (by omega)] at h;cases h
theorem Zlh {Fs:List Fd} {s:Zy_} (h:ZaR Fs s < Fs.length):Zbi Fs s=!(Fs[ZaR Fs s].kd == 4):=by unfold Zbi;rw [List.getElem?_eq_getElem h]
theorem Zli {Fs:List Fd} {s:Zy_} (h:¬ ZaR Fs s < Fs.length):Zbi Fs s=false:=by unfold Zbi;rw [List.getElem?_eq_none (by omega)]
def ZmV (Fs:List Fd) (s t:Zy_):Bool:=match Fs[ZaR Fs s]? with
 | some f=>ZaL f.kd f.le f.mo f.words t
 | none=>false
theorem Zns {Fs:List Fd} {s t:Zy_} (h:ZaR Fs s < Fs.length):ZmV Fs s t=ZaL Fs[ZaR Fs s].kd Fs[ZaR Fs s].le Fs[ZaR Fs s].mo Fs[ZaR Fs s].words t:=by unfold ZmV;rw [List.getElem?_eq_getElem h]
def ZgR (Fs:List Fd) (field s:Zy_):Bool:=s.toList.isEmpty || Zbi Fs s&&!(s.toList == field.toList)
def Zb1 (m:Md):Bool:=!(m.wh.toList.isEmpty&&!m.is.toList.isEmpty)&&!(m.put.toList.isEmpty == m.fr.toList.isEmpty)
def Zd2 (Fs:List Fd) (m:Md):Bool:=Zbi Fs m.field&&ZgR Fs m.field m.wh&&ZgR Fs m.field m.fr&&Zb1 m&&(m.put.toList.isEmpty || ZmV Fs m.field m.put)
def Zcr (Fs:List Fd) (m:Md):Bool:=
 Zbi Fs m.field&&(m.wh.toList.isEmpty || Zbi Fs m.wh)&&(m.fr.toList.isEmpty || Zbi Fs m.fr)&&!(m.wh.toList == m.field.toList)&&!(m.fr.toList == m.field.toList)&&Zb1 m&&(m.put.toList.isEmpty || ZmV Fs m.field m.put)
theorem ZnH {Fs:List Fd} {m:Md} (hn:∀ s ∈ ZaD Fs,s.toList.isEmpty=false):Zd2 Fs m=Zcr Fs m:=by
 unfold Zd2 Zcr ZgR
 cases hp:Zbi Fs m.field with
 | false=>simp
 | true=>
  have hf:=hn _ (ZdD hp)
  have h1:m.wh.toList.isEmpty=true→(m.wh.toList == m.field.toList)=false:=fun h=>by
   rw [Zfa];intro e;rw [e] at h;rw [h] at hf;cases hf
  have h2:m.fr.toList.isEmpty=true→(m.fr.toList == m.field.toList)=false:=fun h=>by
   rw [Zfa];intro e;rw [e] at h;rw [h] at hf;cases hf
  cases ha:m.wh.toList.isEmpty with
  | true=>
   rw [h1 ha]
   cases hb:m.fr.toList.isEmpty with
   | true=>rw [h2 hb];simp
   | false=>simp
  | false=>
   cases hb:m.fr.toList.isEmpty with
   | true=>rw [h2 hb];simp
   | false=>simp;cases Zbi Fs m.wh <;> cases (m.wh.toList == m.field.toList) <;> cases Zbi Fs m.fr <;> cases (m.fr.toList == m.field.toList) <;> simp
def ZiE (m:Md):List Zy_:=(if m.wh.toList.isEmpty=true then [] else [m.wh]) ++ (if m.fr.toList.isEmpty=true then [] else [m.fr])
def Zc3 (kind field:Zy_) (m:Md):Bool:=(m.kind.toList == kind.toList)&&(m.field.toList == field.toList)
def Zao (kind:Zy_) (Ms:List Md) (field:Zy_):List Zy_:=(Ms.filter (Zc3 kind field)).flatMap ZiE
theorem Zky (kind field:Zy_):Zao kind [] field=[]:=rfl
theorem Zjw (kind field:Zy_) (Ms:List Md) (m:Md):Zao kind (Ms ++ [m]) field=Zao kind Ms field ++ (if Zc3 kind field m=true then ZiE m else []):=by
 unfold Zao;rw [List.filter_append,List.flatMap_append]
 by_cases h:Zc3 kind field m=true <;> simp [h]
theorem ZdR {kind field:Zy_} {Ms:List Md} {r:Zy_}:r ∈ Zao kind Ms field↔∃ m ∈ Ms,Zc3 kind field m=true∧r ∈ ZiE m:=by
 unfold Zao;simp [List.mem_flatMap,and_assoc]
theorem ZsN {m:Md} (h:m.wh.toList.isEmpty=false):m.wh ∈ ZiE m:=by unfold ZiE;simp [h]
theorem ZsM {m:Md} (h:m.fr.toList.isEmpty=false):m.fr ∈ ZiE m:=by unfold ZiE;simp [h]
def ZbL (Fs:List Fd) (V:List Zy_) (s:Zy_):Zy_:=(V[ZaR Fs s]?).getD ⟨#[]⟩
def ZfX (Fs:List Fd) (V:List Zy_) (m:Md):Bool:=(m.wh.toList.isEmpty || (ZbL Fs V m.wh).toList == m.is.toList)&&(m.fr.toList.isEmpty || !(ZbL Fs V m.fr).toList.isEmpty)
def Zcf (Fs:List Fd) (V:List Zy_) (m:Md):Zy_:=if m.fr.toList.isEmpty=true then m.put else ZbL Fs V m.fr
def ZcG (Fs:List Fd) (kind:Zy_) (Ms:List Md) (V:List Zy_) (field:Zy_):Option Zy_:=(Ms.find? fun m=>Zc3 kind field m&&ZfX Fs V m).map (Zcf Fs V)
theorem Zhb {α β:Type} {p q:α→Bool} {f g:α→β} {L:List α} (h:∀ x ∈ L,p x=q x) (hf:∀ x ∈ L,p x=true→f x=g x):(L.find? p).map f=(L.find? q).map g:=by
 induction L with
 | nil=>rfl
 | cons a L ih=>
  have ha:=h a (by simp);rw [List.find?_cons,List.find?_cons,← ha]
  cases hp:p a with
  | true=>simp only [Option.map_some];rw [hf a (by simp) hp]
  | false=>exact ih (fun x hx=>h x (by simp [hx])) fun x hx=>hf x (by simp [hx])
theorem Zhx (Fs:List Fd) (kind:Zy_) (Ms:List Md) (N:List Zy_):Zpq (ZaR Fs) (ZcG Fs kind Ms) N (Zao kind Ms):=by
 intro x _ V V' _ hr
 have hw:∀ m ∈ Ms,Zc3 kind x m=true→m.wh.toList.isEmpty=false→ZbL Fs V m.wh=ZbL Fs V' m.wh:=fun m hm hf h=>by
  unfold ZbL;rw [hr m.wh (ZdR.2 ⟨m,hm,hf,ZsN h⟩)]
 have hg:∀ m ∈ Ms,Zc3 kind x m=true→m.fr.toList.isEmpty=false→ZbL Fs V m.fr=ZbL Fs V' m.fr:=fun m hm hf h=>by
  unfold ZbL;rw [hr m.fr (ZdR.2 ⟨m,hm,hf,ZsM h⟩)]
 unfold ZcG;refine Zhb (fun m hm=>?_) fun m hm hp=>?_
 · cases hf:Zc3 kind x m with
   | false=>rfl
   | true=>
    unfold ZfX
    cases h1:m.wh.toList.isEmpty with
    | true=>cases h2:m.fr.toList.isEmpty with
     | true=>rfl
     | false=>rw [hg m hm hf h2];rfl
    | false=>cases h2:m.fr.toList.isEmpty with
     | true=>rw [hw m hm hf h1];rfl
     | false=>rw [hw m hm hf h1,hg m hm hf h2]
 · have hf:Zc3 kind x m=true:=by simp at hp;exact hp.1
   unfold Zcf
   cases h2:m.fr.toList.isEmpty with
   | true=>rfl
   | false=>rw [hg m hm hf h2]
def Zc7 (Ss:List Sh) (m:Md):Bool:=match Zb3 Ss m.kind with
 | some x=>Zcr x.fields m
 | none=>false
def Zbr (Ms:List Md) (x:Sh):Bool:=ZmW (ZaD x.fields) (Zao x.kind Ms)
def Zau (Ss:List Sh) (Ms:List Md):Bool:=ZaE Ss&&decide (Ms.length≤12)&&Ms.all (Zc7 Ss)&&Ss.all (Zbr Ms)
theorem ZbP {Ss:List Sh} (h:ZaE Ss=true) {x:Sh} (hx:x ∈ Ss):ZaC Ss x.fields=true:=by
 unfold ZaE at h;rw [Bool.and_eq_true,List.all_eq_true] at h;obtain⟨i,hi,rfl⟩:=List.getElem_of_mem hx;have:=h.2 i (List.mem_range.2 hi)
 cases i with
 | zero=>rw [ZcA hi,Bool.and_eq_true] at this;exact this.2
 | succ j=>rw [ZbK hi,Bool.and_eq_true] at this;exact this.2
theorem Zi7 {Ss:List Sh} {Fs:List Fd} (h:ZaC Ss Fs=true) {k:Nat} (hk:k < Fs.length):Zaj Fs[k].nm=true∧ZlJ (Fs.take k) Fs[k].nm=false:=by
 unfold ZaC at h;rw [Bool.and_eq_true,List.all_eq_true] at h;have:=h.2 k (List.mem_range.2 hk);rw [ZaF hk] at this;simp at this;exact⟨this.1.1,this.2⟩
theorem ZcY {Ss:List Sh} {Fs:List Fd} (h:ZaC Ss Fs=true):Fs.length≤6:=by
 unfold ZaC at h;rw [Bool.and_eq_true] at h;exact of_decide_eq_true h.1
theorem ZhQ {Ss:List Sh} (h:ZaE Ss=true):Ss.length≤6:=by
 unfold ZaE at h;rw [Bool.and_eq_true] at h;exact of_decide_eq_true h.1
theorem Zjr {s:Zy_} (h:Zaj s=true):s.toList.isEmpty=false:=by
 unfold Zaj inB at h;rw [Bool.and_eq_true] at h;have:=of_decide_eq_true h.1;rw [ByteArray.toList_eq]
 cases hs:s.data.toList with
 | nil=>have e:s.size=0:=by show s.data.size=0;rw [← Array.length_toList,hs];rfl
        omega
 | cons a l=>rfl
theorem ZfL {Ss:List Sh} {Fs:List Fd} (h:ZaC Ss Fs=true):∀ s ∈ ZaD Fs,s.toList.isEmpty=false:=by
 intro s hs;obtain⟨i,hi,rfl⟩:=Zcq.1 hs;exact Zjr (Zi7 h hi).1
theorem Zi6 {Ss:List Sh} {Fs:List Fd} (h:ZaC Ss Fs=true) {k:Nat} (hk:k < Fs.length):ZaR Fs Fs[k].nm=k:=by
 refine ZnT hk (ZcX _) fun i hi hlt=>?_
 have hd:=(Zi7 h hk).2
 cases he:(Fs[i].nm.toList == Fs[k].nm.toList) with
 | false=>rfl
 | true=>rw [Zf6 hi hlt he] at hd;cases hd
theorem Zch {Ss:List Sh} {s:Zy_} {x:Sh} (h:Zb3 Ss s=some x):x ∈ Ss∧x.kind=s:=by
 unfold Zb3 at h;have h2:=List.find?_some h;exact⟨List.mem_of_find?_eq_some h,ZaY.1 h2⟩
def ZmZ (x:Sh) (Ms:List Md) (V F:List Zy_):Prop:=Fix (ZaR x.fields) (ZcG x.fields x.kind Ms) (ZaD x.fields) V F
def ZkV (Ss:List Sh) (Ms:List Md) (kind:Zy_) (V F:List Zy_):Prop:=
 (∃ x,Zau Ss Ms=true∧Zb3 Ss kind=some x∧x.fields.length=V.length∧ZmZ x Ms V F)∨
 ((Zau Ss Ms=false∨∀ x,Zb3 Ss kind=some x→x.fields.length≠V.length)∧F=V)
theorem Zeu {Ss:List Sh} {Ms:List Md} (h:Zau Ss Ms=true) {x:Sh} (hx:x ∈ Ss):ZmW (ZaD x.fields) (Zao x.kind Ms)=true:=by
 unfold Zau at h;rw [Bool.and_eq_true,List.all_eq_true] at h;exact h.2 x hx
theorem ZcT {Ss:List Sh} {Ms:List Md} (h:Zau Ss Ms=true):ZaE Ss=true:=by
 unfold Zau at h;simp only [Bool.and_eq_true] at h;exact h.1.1.1
theorem Zfj {Ss:List Sh} {Ms:List Md} (h:Zau Ss Ms=true):Ms.length≤12:=by
 unfold Zau at h;simp only [Bool.and_eq_true,decide_eq_true_eq] at h;exact h.1.1.2
theorem Zkq {Ss:List Sh} {Ms:List Md} (h:Zau Ss Ms=true) {m:Md} (hm:m ∈ Ms):Zc7 Ss m=true:=by
 unfold Zau at h;simp only [Bool.and_eq_true,List.all_eq_true] at h;exact h.1.2 m hm
theorem ZmZ.unique {Ss:List Sh} {Ms:List Md} (h:Zau Ss Ms=true) {x:Sh} (hx:x ∈ Ss) {V F G:List Zy_} (h1:ZmZ x Ms V F) (h2:ZmZ x Ms V G):F=G:=
 Zl0 (Zhx _ _ _ _) (Zeu h hx) h1 h2
theorem Ziv {x:Sh} {Ms:List Md} {R V:List Zy_} (h:ZcN (ZaD x.fields) (Zao x.kind Ms) R) (hl:(ZaD x.fields).length≤R.length) (hv:x.fields.length=V.length):ZmZ x Ms V (ZcS (ZaR x.fields) (ZcG x.fields x.kind Ms) R V):=
 ZpA (Zmg _) (Zhx _ _ _ _) h hl V fun s hs=>by rw [← hv];exact Zcb.2 hs
def Ze3 (nm v:Zy_) (m:Md):Bool:=(nm.toList == m.wh.toList)&&!(v.toList == m.is.toList) || (nm.toList == m.fr.toList)&&v.toList.isEmpty
theorem Zlt {Ss:List Sh} {Fs:List Fd} {V:List Zy_} (hf:ZaC Ss Fs=true) {i:Nat} (h:i < Fs.length) (h':i < V.length):ZbL Fs V Fs[i].nm=V[i]:=by
 unfold ZbL;rw [Zi6 hf h,List.getElem?_eq_getElem h'];rfl
theorem Zm9 {Ss:List Sh} {Fs:List Fd} {V:List Zy_} {m:Md} (hf:ZaC Ss Fs=true) {i:Nat} (h:i < Fs.length) (h':i < V.length) (ht:Ze3 Fs[i].nm V[i] m=true):ZfX Fs V m=false:=by
 have hn:=ZfL hf Fs[i].nm (Zcq.2 ⟨i,h,rfl⟩);unfold Ze3 at ht;rw [Bool.or_eq_true,Bool.and_eq_true,Bool.and_eq_true,ZaY,ZaY] at ht;unfold ZfX
 rcases ht with ⟨e,hv⟩ | ⟨e,hv⟩
 · rw [← e,hn,Zlt hf h h']
   have:(V[i].toList == m.is.toList)=false:=by simpa using hv
   rw [this];rfl
 · rw [← e,hn,Zlt hf h h',hv];simp
theorem Zq3 {Fs:List Fd} {V:List Zy_} {m:Md} (hl:Fs.length=V.length) (hw:m.wh.toList.isEmpty=true∨m.wh ∈ ZaD Fs) (hr:m.fr.toList.isEmpty=true∨m.fr ∈ ZaD Fs)
 (ht:∀ i (h:i < Fs.length) (h':i < V.length),Ze3 Fs[i].nm V[i] m=false):ZfX Fs V m=true:=by
 unfold ZfX;rw [Bool.and_eq_true]
 constructor
 · rcases hw with hw | hw
   · rw [hw];rfl
   · have hp:=Zcb.2 hw
     have:=ht _ hp (by omega);unfold Ze3 at this;rw [ZiB hp,ZcX] at this;simp only [Bool.true_and,Bool.or_eq_false_iff] at this;unfold ZbL;rw [List.getElem?_eq_getElem (show ZaR Fs m.wh < V.length by omega),Option.getD_some];have h2:=this.1;rw [Bool.not_eq_false'] at h2;rw [h2];simp
 · rcases hr with hw | hw
   · rw [hw];rfl
   · have hp:=Zcb.2 hw
     have:=ht _ hp (by omega);unfold Ze3 at this;rw [ZiB hp,ZcX] at this;simp only [Bool.true_and,Bool.or_eq_false_iff] at this;unfold ZbL;rw [List.getElem?_eq_getElem (show ZaR Fs m.fr < V.length by omega),Option.getD_some,this.2];simp
theorem Zmd {Ss:List Sh} {Ms:List Md} (h:Zau Ss Ms=true) {x:Sh} {kind:Zy_} (hx:Zb3 Ss kind=some x) {m:Md} (hm:m ∈ Ms) (hk:m.kind=x.kind) :
 m.field ∈ ZaD x.fields∧(m.wh.toList.isEmpty=true∨m.wh ∈ ZaD x.fields)∧(m.fr.toList.isEmpty=true∨m.fr ∈ ZaD x.fields):=by
 have hb:=Zkq h hm;unfold Zc7 at hb;rw [hk,(Zch hx).2,hx] at hb;simp only [Zcr,Bool.and_eq_true,Bool.or_eq_true] at hb;refine⟨ZdD hb.1.1.1.1.1.1,?_,?_⟩
 · rcases hb.1.1.1.1.1.2 with h | h
   · exact Or.inl h
   · exact Or.inr (ZdD h)
 · rcases hb.1.1.1.1.2 with h | h
   · exact Or.inl h
   · exact Or.inr (ZdD h)
theorem ZlZ {α:Type} {p:α→Bool} {L:List α} {k:Nat} (hk:k < L.length) (h:p L[k]=true) (hall:∀ i (h:i < L.length),i < k→p L[i]=false):L.find? p=some L[k]:=by
 rw [List.find?_eq_some_iff_getElem];exact⟨h,k,hk,rfl,fun j hj=>by simp [hall j (by omega) hj]⟩
theorem Znr {α:Type} {p:α→Bool} {L:List α} (hall:∀ i (h:i < L.length),p L[i]=false):L.find? p=none:=by
 rw [List.find?_eq_none];intro x hx;obtain⟨i,hi,rfl⟩:=List.getElem_of_mem hx;simp [hall i hi]
theorem Zeb {Fs:List Fd} {kind:Zy_} {Ms:List Md} {V:List Zy_} {f:Zy_} {k:Nat} (hk:k < Ms.length) (h:(Zc3 kind f Ms[k]&&ZfX Fs V Ms[k])=true) (hall:∀ i (h:i < Ms.length),i < k→(Zc3 kind f Ms[i]&&ZfX Fs V Ms[i])=false):ZcG Fs kind Ms V f=some (Zcf Fs V Ms[k]):=by
 unfold ZcG;rw [ZlZ (p:=fun m=>Zc3 kind f m&&ZfX Fs V m) hk h hall];rfl
theorem Zi0 {Fs:List Fd} {kind:Zy_} {Ms:List Md} {V:List Zy_} {f:Zy_} (hall:∀ i (h:i < Ms.length),(Zc3 kind f Ms[i]&&ZfX Fs V Ms[i])=false):ZcG Fs kind Ms V f=none:=by
 unfold ZcG;rw [Znr (p:=fun m=>Zc3 kind f m&&ZfX Fs V m) hall];rfl
theorem Zod {Fs:List Fd} {kind:Zy_} {Ms:List Md} {V:List Zy_} {f v:Zy_} (h:ZcG Fs kind Ms V f=some v):ZjA (ZaR Fs) (ZcG Fs kind Ms) V f=V.set (ZaR Fs f) v:=by unfold ZjA;rw [h]
theorem Zoc {Fs:List Fd} {kind:Zy_} {Ms:List Md} {V:List Zy_} {f:Zy_} (h:ZcG Fs kind Ms V f=none):ZjA (ZaR Fs) (ZcG Fs kind Ms) V f=V:=by unfold ZjA;rw [h]
end Go.Proofs.YtcfjmagkinpaeaaGreat
