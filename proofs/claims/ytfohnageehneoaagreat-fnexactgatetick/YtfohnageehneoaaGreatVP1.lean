import Derived.Test.YtfohnageehneoaaGreatVB4
open Go.Proofs.Tryz
namespace Go.Proofs.YtfohnageehneoaaGreat
def Zc5 {α:Type} (N:List α) (rd:α→List α) (R:List α):Prop:=∀ i (h:i < R.length),R[i] ∈ N∧R[i] ∉ R.take i∧∀ r ∈ rd R[i],r ∈ R.take i
def ZiL {α:Type} (N:List α) (rd:α→List α) (row:List α):Prop:=∀ x ∈ N,x ∉ row→¬ ∀ r ∈ rd x,r ∈ row
section
variable {α:Type} {N:List α} {rd:α→List α} {R R':List α}
theorem Zc5.nil:Zc5 N rd []:=fun i h=>absurd h (Nat.not_lt_zero i)
theorem Zc5.snoc {x:α} (hg:Zc5 N rd R) (hn:x ∈ N) (hx:x ∉ R) (hr:∀ r ∈ rd x,r ∈ R):Zc5 N rd (R ++ [x]):=by
 intro i h;have h':i < R.length+1:=by rw [List.length_append] at h;exact h
 by_cases hi:i < R.length
 · rw [List.getElem_append_left hi,List.take_append_of_le_length (Nat.le_of_lt hi)]
   exact hg i hi
 · have e:i=R.length:=by omega
   subst e;have e1:(R ++ [x])[R.length]=x:=by simp
   have e2:(R ++ [x]).take R.length=R:=by simp
   rw [e1,e2];exact⟨hn,hx,hr⟩
theorem Zc5.init {x:α} (h:Zc5 N rd (R ++ [x])):Zc5 N rd R∧x ∈ N∧x ∉ R∧∀ r ∈ rd x,r ∈ R:=by
 constructor
 · intro i hi
   have:=h i (by rw [List.length_append];omega);rw [List.getElem_append_left hi,List.take_append_of_le_length (Nat.le_of_lt hi)] at this;exact this
 · have:=h R.length (by simp)
   have e1:(R ++ [x])[R.length]=x:=by simp
   have e2:(R ++ [x]).take R.length=R:=by simp
   rw [e1,e2] at this;exact this
theorem Zc5.along {p:List α→Prop} (h0:p []) (hs:∀ row x,Zc5 N rd row→x ∈ N→x ∉ row→(∀ r ∈ rd x,r ∈ row)→p row→p (row ++ [x])):∀ (n:Nat) (R:List α),R.length=n→Zc5 N rd R→p R:=by
 intro n
 induction n with
 | zero=>intro R hl _;rw [List.length_eq_zero_iff.1 hl];exact h0
 | succ n ih=>
  intro R hl hg;have hne:R≠[]:=by intro e;rw [e] at hl;cases hl
  have e:R.dropLast ++ [R.getLast hne]=R:=List.dropLast_concat_getLast hne;rw [← e] at hg ⊢;obtain⟨h1,h2,h3,h4⟩:=hg.init;exact hs _ _ h1 h2 h3 h4 (ih _ (by rw [List.length_dropLast,hl];rfl) h1)
theorem Zc5.nodup (h:Zc5 N rd R):R.Nodup:=by
 refine Zc5.along (p:=fun R=>R.Nodup) List.nodup_nil (fun row x _ _ hx _ ih=>?_) _ R rfl h;rw [List.nodup_append];exact⟨ih,by simp,fun a ha b hb=>by simp at hb;subst hb;exact fun e=>hx (e ▸ ha)⟩
theorem Zc5.sub (h:Zc5 N rd R):R ⊆ N:=by
 intro y hy;obtain⟨i,hi,rfl⟩:=List.getElem_of_mem hy;exact (h i hi).1
theorem Zc5.reads (h:Zc5 N rd R) {x:α} (hx:x ∈ R):∀ r ∈ rd x,r ∈ R:=by
 intro r hr;obtain⟨i,hi,rfl⟩:=List.getElem_of_mem hx;exact List.mem_of_mem_take ((h i hi).2.2 r hr)
theorem Zc5.into (h:Zc5 N rd R) (hs:ZiL N rd R'):R ⊆ R':=by
 refine Zc5.along (p:=fun R=>R ⊆ R') (List.nil_subset _) (fun row x _ hn _ hr ih=>?_) _ R rfl h;intro z hz
 rcases List.mem_append.1 hz with h | h
 · exact ih h
 · simp at h;subst h
   exact Classical.byContradiction fun hc=>hs z hn hc fun r hrr=>ih (hr r hrr)
theorem Zc5.all (h:Zc5 N rd R) (hl:N.length≤R.length):∀ x ∈ N,x ∈ R:=by
 intro x hx;refine Classical.byContradiction fun hc=>?_
 have:(x :: R).length≤N.length:=List.Nodup.length_le_of_subset (List.nodup_cons.2 ⟨hc,h.nodup⟩) (List.cons_subset.2 ⟨hx,h.sub⟩);simp at this;omega
end
def Zpw {α:Type} [DecidableEq α] (N:List α) (rd:α→List α) (R:List α):List α:=
 match N.find? fun x=>decide (x ∉ R)&&(rd x).all fun r=>decide (r ∈ R) with
 | some x=>R ++ [x]
 | none=>R
def Zfp {α:Type} [DecidableEq α] (N:List α) (rd:α→List α):Nat→List α
 | 0=>[]
 | n+1=>Zpw N rd (Zfp N rd n)
def ZnU {α:Type} [DecidableEq α] (N:List α) (rd:α→List α):Bool:=decide (N.length≤(Zfp N rd N.length).length)
section
variable {α:Type} [DecidableEq α] {N:List α} {rd:α→List α} {R:List α}
theorem Ze3 (n:Nat):Zc5 N rd (Zfp N rd n)∧((Zfp N rd n).length=n∨ZiL N rd (Zfp N rd n)):=by
 induction n with
 | zero=>exact⟨Zc5.nil,Or.inl rfl⟩
 | succ n ih=>
  obtain⟨hg,hc⟩:=ih
  show Zc5 N rd (Zpw N rd (Zfp N rd n))∧((Zpw N rd (Zfp N rd n)).length=n+1∨ZiL N rd (Zpw N rd (Zfp N rd n)))
  generalize Zfp N rd n=R at*;unfold Zpw
  cases hf:N.find? fun x=>decide (x ∉ R)&&(rd x).all fun r=>decide (r ∈ R) with
  | none=>
   refine⟨hg,Or.inr fun x hx hn hr=>?_⟩;have:=List.find?_eq_none.1 hf x hx;exact this (by simp only [Bool.and_eq_true,decide_eq_true_eq,List.all_eq_true];exact⟨hn,hr⟩)
  | some x=>
   have hp:=List.find?_some hf;simp only [Bool.and_eq_true,decide_eq_true_eq,List.all_eq_true] at hp;have hx:=List.mem_of_find?_eq_some hf;refine⟨hg.snoc hx hp.1 hp.2,?_⟩
   rcases hc with hc | hc
   · exact Or.inl (by simp [hc])
   · exact absurd hp.2 (hc x hx hp.1)
theorem Zl4 (h:Zc5 N rd R) (hl:N.length≤R.length):ZnU N rd=true:=by
 unfold ZnU;refine decide_eq_true ?_
 rcases (Ze3 (N:=N) (rd:=rd) N.length).2 with hc | hc
 · omega
 · have:=List.Nodup.length_le_of_subset h.nodup (h.into hc)
   omega
theorem Zpc (hs:ZiL N rd R) (hl:R.length < N.length):ZnU N rd=false:=by
 unfold ZnU;refine decide_eq_false ?_;have hg:=(Ze3 (N:=N) (rd:=rd) N.length).1;have:=List.Nodup.length_le_of_subset hg.nodup (hg.into hs)
 omega
theorem ZjX (h:ZnU N rd=true):∃ R,Zc5 N rd R∧N.length≤R.length:=by
 unfold ZnU at h;exact⟨_,(Ze3 (N:=N) (rd:=rd) N.length).1,of_decide_eq_true h⟩
end
section
variable {α β:Type} (pl:α→Nat) (dec:List β→α→Option β)
def setp (V:List β) (x:α):List β:=match dec V x with
 | some v=>V.set (pl x) v
 | none=>V
def Zc8 (R:List α) (V:List β):List β:=R.foldl (setp pl dec) V
theorem Zik (R:List α) (x:α) (V:List β):Zc8 pl dec (R ++ [x]) V=setp pl dec (Zc8 pl dec R V) x:=by simp [Zc8]
theorem Zh8 {R:List α} {k:Nat} (h:k < R.length) (V:List β):Zc8 pl dec (R.take (k+1)) V=setp pl dec (Zc8 pl dec (R.take k) V) R[k]:=by
 rw [List.take_succ_eq_append_getElem h,Zik]
theorem Ziu (V:List β) (x:α):(setp pl dec V x).length=V.length:=by
 unfold setp;cases dec V x <;> simp
theorem ZgL (R:List α):∀ (V:List β),(Zc8 pl dec R V).length=V.length:=by
 induction R with
 | nil=>intro V;rfl
 | cons x R ih=>intro V;show (Zc8 pl dec R (setp pl dec V x)).length=_;rw [ih,Ziu]
theorem Zpi (V:List β) (x:α) {i:Nat} (h:pl x≠i):(setp pl dec V x)[i]?=V[i]?:=by
 unfold setp;cases dec V x with
 | none=>rfl
 | some v=>exact List.getElem?_set_ne h
structure Fix (N:List α) (V F:List β):Prop where
 len:F.length=V.length
 at':∀ x ∈ N,F[pl x]?=(dec F x).or V[pl x]?
 off:∀ i,(∀ x ∈ N,pl x≠i)→F[i]?=V[i]?
def ZqK (N:List α) (rd:α→List α):Prop:=∀ x ∈ N,∀ V V':List β,V.length=V'.length→(∀ r ∈ rd x,V[pl r]?=V'[pl r]?)→dec V x=dec V' x
def Zrl (N:List α):Prop:=∀ x ∈ N,∀ y ∈ N,pl x=pl y→x=y
variable {pl dec} {N:List α} {rd:α→List α}
theorem ZrO (ha:Zrl pl N) (hl:ZqK pl dec N rd) {R:List α} (h:Zc5 N rd R) (V:List β) (hp:∀ x ∈ N,pl x < V.length):Fix pl dec R V (Zc8 pl dec R V):=by
 refine Zc5.along (p:=fun R=>Fix pl dec R V (Zc8 pl dec R V)) ⟨rfl,fun x hx=>by simp at hx,fun _ _=>rfl⟩ (fun row x hg hn hx hr ih=>?_) _ R rfl h
 · rw [Zik]
   have hlen:=ZgL pl dec row V;generalize hF:Zc8 pl dec row V=F at*;have hoff:∀ y ∈ row,(setp pl dec F x)[pl y]?=F[pl y]?:=fun y hy=>Zpi _ _ _ _ fun e=>hx (by rw [ha x hn y (hg.sub hy) e];exact hy)
   have hdec:∀ y,y ∈ N→(∀ r ∈ rd y,r ∈ row)→dec (setp pl dec F x) y=dec F y:=fun y hy hry=>hl y hy _ _ (by rw [Ziu]) fun r hrr=>hoff r (hry r hrr)
   refine⟨by rw [Ziu,hlen],fun y hy=>?_,fun i hi=>?_⟩
   · rcases List.mem_append.1 hy with h | h
     · rw [hoff y h,hdec y (hg.sub h) (hg.reads h)];exact ih.at' y h
     · simp at h;subst h
       rw [hdec y hn hr];have hV:F[pl y]?=V[pl y]?:=ih.off _ fun z hz e=>hx (by rw [← ha z (hg.sub hz) y hn e];exact hz)
       unfold setp
       cases hd:dec F y with
       | none=>simp [hV]
       | some v=>simp [List.getElem?_set_self (show pl y < F.length by rw [hlen];exact hp y hn)]
   · rw [Zpi _ _ _ _ (hi x (by simp))]
     exact ih.off i fun z hz=>hi z (by simp [hz])
theorem Fix.grow {R:List α} {V F:List β} (h:Fix pl dec R V F) (h1:R ⊆ N) (h2:∀ x ∈ N,x ∈ R):Fix pl dec N V F:=
 ⟨h.len,fun x hx=>h.at' x (h2 x hx),fun i hi=>h.off i fun x hx=>hi x (h1 hx)⟩
theorem Zp0 (ha:Zrl pl N) (hl:ZqK pl dec N rd) {R:List α} (h:Zc5 N rd R) (hn:N.length≤R.length) (V:List β) (hp:∀ x ∈ N,pl x < V.length):Fix pl dec N V (Zc8 pl dec R V):=
 (ZrO ha hl h V hp).grow h.sub (h.all hn)
theorem ZnE [DecidableEq α] (hl:ZqK pl dec N rd) (hr:ZnU N rd=true) {V F G:List β} (h1:Fix pl dec N V F) (h2:Fix pl dec N V G):F=G:=by
 obtain⟨R,hg,hn⟩:=ZjX hr;have hlen:F.length=G.length:=h1.len.trans h2.len.symm
 have key:∀ P,Zc5 N rd P→∀ x ∈ P,F[pl x]?=G[pl x]?:=by
  intro P hP;refine Zc5.along (p:=fun P=>∀ x ∈ P,F[pl x]?=G[pl x]?) (fun x hx=>by simp at hx) (fun row x _ hxn _ hrr ih=>?_) _ P rfl hP
  · intro y hy
    rcases List.mem_append.1 hy with h | h
    · exact ih y h
    · simp at h;subst h
      rw [h1.at' y hxn,h2.at' y hxn,hl y hxn F G hlen fun r hr'=>ih r (hrr r hr')]
 apply List.ext_getElem?;intro i
 by_cases h:∃ x ∈ N,pl x=i
 · obtain⟨x,hx,rfl⟩:=h
   exact key R hg x (hg.all hn x hx)
 · have hi:∀ x ∈ N,pl x≠i:=fun x hx e=>h ⟨x,hx,e⟩
   rw [h1.off i hi,h2.off i hi]
end
end Go.Proofs.YtfohnageehneoaaGreat
namespace Go.Proofs.YtfohnageehneoaaGreat
open Go.RowKit Go.Deep
theorem ZaR {x y:Zy_}:(x.toList == y.toList)=true↔x=y:=by
 rw [beq_iff_eq];refine⟨fun h=>?_,fun h=>by rw [h]⟩;rw [ByteArray.toList_eq,ByteArray.toList_eq] at h;exact ByteArray.ext (Array.toList_inj.1 h)
theorem Zc9 (x:Zy_):(x.toList == x.toList)=true:=ZaR.2 rfl
theorem Zfw {x y:Zy_}:(x.toList == y.toList)=false↔x≠y:=by
 rw [← Bool.not_eq_true,Ne,ZaR]
structure Md where
 kind:Zy_
 field:Zy_
 wh:Zy_
 is:Zy_
 put:Zy_
 fr:Zy_
def ZaF (Fs:List Fd):List Zy_:=Fs.map Fd.nm
theorem Zcx {Fs:List Fd} {s:Zy_}:s ∈ ZaF Fs↔∃ i,∃ h:i < Fs.length,Fs[i].nm=s:=by
 unfold ZaF;rw [List.mem_map]
 constructor
 · rintro⟨f,hf,rfl⟩;obtain⟨i,hi,rfl⟩:=List.getElem_of_mem hf;exact⟨i,hi,rfl⟩
 · rintro⟨i,hi,rfl⟩;exact⟨_,List.getElem_mem hi,rfl⟩
def ZaQ (Fs:List Fd) (s:Zy_):Nat:=Fs.findIdx fun f=>f.nm.toList == s.toList
theorem Zci {Fs:List Fd} {s:Zy_}:ZaQ Fs s < Fs.length↔s ∈ ZaF Fs:=by
 unfold ZaQ;rw [List.findIdx_lt_length,Zcx]
 constructor
 · rintro⟨f,hf,h⟩;obtain⟨i,hi,rfl⟩:=List.getElem_of_mem hf;exact⟨i,hi,ZaR.1 h⟩
 · rintro⟨i,hi,rfl⟩;exact⟨_,List.getElem_mem hi,Zc9 _⟩
theorem Zi3 {Fs:List Fd} {s:Zy_} (h:ZaQ Fs s < Fs.length):Fs[ZaQ Fs s].nm=s:=by
 have:=List.findIdx_getElem (p:=fun f:Fd=>f.nm.toList == s.toList) (xs:=Fs) (w:=h);exact ZaR.1 this
theorem ZoU {Fs:List Fd} {s:Zy_} {k:Nat} (hk:k < Fs.length) (h:(Fs[k].nm.toList == s.toList)=true) (hall:∀ i (h:i < Fs.length),i < k→(Fs[i].nm.toList == s.toList)=false):ZaQ Fs s=k:=by
 unfold ZaQ;rw [List.findIdx_eq hk];exact⟨h,fun j hj=>hall j (by omega) hj⟩
theorem Zre {Fs:List Fd} {s:Zy_} (hall:∀ i (h:i < Fs.length),(Fs[i].nm.toList == s.toList)=false):ZaQ Fs s=Fs.length:=by
 unfold ZaQ;rw [List.findIdx_eq_length];intro f hf;obtain⟨i,hi,rfl⟩:=List.getElem_of_mem hf;exact hall i hi
theorem Zns (Fs:List Fd):Zrl (ZaQ Fs) (ZaF Fs):=fun x hx y hy e=>by
 rw [← Zi3 (Zci.2 hx),← Zi3 (Zci.2 hy)];simp only [e]
def Zbi (Fs:List Fd) (s:Zy_):Bool:=match Fs[ZaQ Fs s]? with
 | some f=>!(f.kd == 4)
 | none=>false
theorem ZdH {Fs:List Fd} {s:Zy_} (h:Zbi Fs s=true):s ∈ ZaF Fs:=by
 rw [← Zci];unfold Zbi at h
 by_cases hl:ZaQ Fs s < Fs.length
 · exact hl
 · rw [List.getElem?_eq_none (by omega)] at h;cases h
theorem Zl6 {Fs:List Fd} {s:Zy_} (h:ZaQ Fs s < Fs.length):Zbi Fs s=!(Fs[ZaQ Fs s].kd == 4):=by unfold Zbi;rw [List.getElem?_eq_getElem h]
theorem Zl8 {Fs:List Fd} {s:Zy_} (h:¬ ZaQ Fs s < Fs.length):Zbi Fs s=false:=by unfold Zbi;rw [List.getElem?_eq_none (by omega)]
def ZnX (Fs:List Fd) (s t:Zy_):Bool:=match Fs[ZaQ Fs s]? with
 | some f=>ZaM f.kd f.le f.mo f.words t
 | none=>false
theorem Zos {Fs:List Fd} {s t:Zy_} (h:ZaQ Fs s < Fs.length):ZnX Fs s t=ZaM Fs[ZaQ Fs s].kd Fs[ZaQ Fs s].le Fs[ZaQ Fs s].mo Fs[ZaQ Fs s].words t:=by unfold ZnX;rw [List.getElem?_eq_getElem h]
def Zhj (Fs:List Fd) (field s:Zy_):Bool:=s.toList.isEmpty || Zbi Fs s&&!(s.toList == field.toList)
def Zb7 (m:Md):Bool:=!(m.wh.toList.isEmpty&&!m.is.toList.isEmpty)&&!(m.put.toList.isEmpty == m.fr.toList.isEmpty)
def Zeb (Fs:List Fd) (m:Md):Bool:=Zbi Fs m.field&&Zhj Fs m.field m.wh&&Zhj Fs m.field m.fr&&Zb7 m&&(m.put.toList.isEmpty || ZnX Fs m.field m.put)
def Zcy (Fs:List Fd) (m:Md):Bool:=
 Zbi Fs m.field&&(m.wh.toList.isEmpty || Zbi Fs m.wh)&&(m.fr.toList.isEmpty || Zbi Fs m.fr)&&!(m.wh.toList == m.field.toList)&&!(m.fr.toList == m.field.toList)&&Zb7 m&&(m.put.toList.isEmpty || ZnX Fs m.field m.put)
theorem Zov {Fs:List Fd} {m:Md} (hn:∀ s ∈ ZaF Fs,s.toList.isEmpty=false):Zeb Fs m=Zcy Fs m:=by
 unfold Zeb Zcy Zhj
 cases hp:Zbi Fs m.field with
 | false=>simp
 | true=>
  have hf:=hn _ (ZdH hp)
  have h1:m.wh.toList.isEmpty=true→(m.wh.toList == m.field.toList)=false:=fun h=>by
   rw [Zfw];intro e;rw [e] at h;rw [h] at hf;cases hf
  have h2:m.fr.toList.isEmpty=true→(m.fr.toList == m.field.toList)=false:=fun h=>by
   rw [Zfw];intro e;rw [e] at h;rw [h] at hf;cases hf
  cases ha:m.wh.toList.isEmpty with
  | true=>
   rw [h1 ha]
   cases hb:m.fr.toList.isEmpty with
   | true=>rw [h2 hb];simp
   | false=>simp
  | false=>
   cases hb:m.fr.toList.isEmpty with
   | true=>rw [h2 hb];simp
   | false=>simp;cases Zbi Fs m.wh <;> cases (m.wh.toList == m.field.toList) <;> cases Zbi Fs m.fr <;> cases (m.fr.toList == m.field.toList) <;> simp
def ZiG (m:Md):List Zy_:=(if m.wh.toList.isEmpty=true then [] else [m.wh]) ++ (if m.fr.toList.isEmpty=true then [] else [m.fr])
def Zdm (kind field:Zy_) (m:Md):Bool:=(m.kind.toList == kind.toList)&&(m.field.toList == field.toList)
def Zan (kind:Zy_) (Ms:List Md) (field:Zy_):List Zy_:=(Ms.filter (Zdm kind field)).flatMap ZiG
theorem Zk3 (kind field:Zy_):Zan kind [] field=[]:=rfl
theorem Zkq (kind field:Zy_) (Ms:List Md) (m:Md):Zan kind (Ms ++ [m]) field=Zan kind Ms field ++ (if Zdm kind field m=true then ZiG m else []):=by
 unfold Zan;rw [List.filter_append,List.flatMap_append]
 by_cases h:Zdm kind field m=true <;> simp [h]
theorem ZdX {kind field:Zy_} {Ms:List Md} {r:Zy_}:r ∈ Zan kind Ms field↔∃ m ∈ Ms,Zdm kind field m=true∧r ∈ ZiG m:=by
 unfold Zan;simp [List.mem_flatMap,and_assoc]
theorem ZsN {m:Md} (h:m.wh.toList.isEmpty=false):m.wh ∈ ZiG m:=by unfold ZiG;simp [h]
theorem ZsR {m:Md} (h:m.fr.toList.isEmpty=false):m.fr ∈ ZiG m:=by unfold ZiG;simp [h]
def ZbG (Fs:List Fd) (V:List Zy_) (s:Zy_):Zy_:=(V[ZaQ Fs s]?).getD ⟨#[]⟩
def Zgs (Fs:List Fd) (V:List Zy_) (m:Md):Bool:=(m.wh.toList.isEmpty || (ZbG Fs V m.wh).toList == m.is.toList)&&(m.fr.toList.isEmpty || !(ZbG Fs V m.fr).toList.isEmpty)
def Zco (Fs:List Fd) (V:List Zy_) (m:Md):Zy_:=if m.fr.toList.isEmpty=true then m.put else ZbG Fs V m.fr
def ZcP (Fs:List Fd) (kind:Zy_) (Ms:List Md) (V:List Zy_) (field:Zy_):Option Zy_:=(Ms.find? fun m=>Zdm kind field m&&Zgs Fs V m).map (Zco Fs V)
theorem ZhH {α β:Type} {p q:α→Bool} {f g:α→β} {L:List α} (h:∀ x ∈ L,p x=q x) (hf:∀ x ∈ L,p x=true→f x=g x):(L.find? p).map f=(L.find? q).map g:=by
 induction L with
 | nil=>rfl
 | cons a L ih=>
  have ha:=h a (by simp);rw [List.find?_cons,List.find?_cons,← ha]
  cases hp:p a with
  | true=>simp only [Option.map_some];rw [hf a (by simp) hp]
  | false=>exact ih (fun x hx=>h x (by simp [hx])) fun x hx=>hf x (by simp [hx])
theorem Zh9 (Fs:List Fd) (kind:Zy_) (Ms:List Md) (N:List Zy_):ZqK (ZaQ Fs) (ZcP Fs kind Ms) N (Zan kind Ms):=by
 intro x _ V V' _ hr
 have hw:∀ m ∈ Ms,Zdm kind x m=true→m.wh.toList.isEmpty=false→ZbG Fs V m.wh=ZbG Fs V' m.wh:=fun m hm hf h=>by
  unfold ZbG;rw [hr m.wh (ZdX.2 ⟨m,hm,hf,ZsN h⟩)]
 have hg:∀ m ∈ Ms,Zdm kind x m=true→m.fr.toList.isEmpty=false→ZbG Fs V m.fr=ZbG Fs V' m.fr:=fun m hm hf h=>by
  unfold ZbG;rw [hr m.fr (ZdX.2 ⟨m,hm,hf,ZsR h⟩)]
 unfold ZcP;refine ZhH (fun m hm=>?_) fun m hm hp=>?_
 · cases hf:Zdm kind x m with
   | false=>rfl
   | true=>
    unfold Zgs
    cases h1:m.wh.toList.isEmpty with
    | true=>cases h2:m.fr.toList.isEmpty with
     | true=>rfl
     | false=>rw [hg m hm hf h2];rfl
    | false=>cases h2:m.fr.toList.isEmpty with
     | true=>rw [hw m hm hf h1];rfl
     | false=>rw [hw m hm hf h1,hg m hm hf h2]
 · have hf:Zdm kind x m=true:=by simp at hp;exact hp.1
   unfold Zco
   cases h2:m.fr.toList.isEmpty with
   | true=>rfl
   | false=>rw [hg m hm hf h2]
def Zdb (Ss:List Sh) (m:Md):Bool:=match Zcv Ss m.kind with
 | some x=>Zcy x.fields m
 | none=>false
def Zbr (Ms:List Md) (x:Sh):Bool:=ZnU (ZaF x.fields) (Zan x.kind Ms)
def Zay (Ss:List Sh) (Ms:List Md):Bool:=ZaH Ss&&decide (Ms.length≤12)&&Ms.all (Zdb Ss)&&Ss.all (Zbr Ms)
theorem ZbU {Ss:List Sh} (h:ZaH Ss=true) {x:Sh} (hx:x ∈ Ss):ZaD Ss x.fields=true:=by
 unfold ZaH at h;rw [Bool.and_eq_true,List.all_eq_true] at h;obtain⟨i,hi,rfl⟩:=List.getElem_of_mem hx;have:=h.2 i (List.mem_range.2 hi)
 cases i with
 | zero=>rw [ZcL hi,Bool.and_eq_true] at this;exact this.2
 | succ j=>rw [ZbF hi,Bool.and_eq_true] at this;exact this.2
theorem Zkp {Ss:List Sh} {Fs:List Fd} (h:ZaD Ss Fs=true) {k:Nat} (hk:k < Fs.length):Zas Fs[k].nm=true∧Zno (Fs.take k) Fs[k].nm=false:=by
 unfold ZaD at h;rw [Bool.and_eq_true,List.all_eq_true] at h;have:=h.2 k (List.mem_range.2 hk);rw [ZaI hk] at this;simp at this;exact⟨this.1.1,this.2⟩
theorem Zda {Ss:List Sh} {Fs:List Fd} (h:ZaD Ss Fs=true):Fs.length≤6:=by
 unfold ZaD at h;rw [Bool.and_eq_true] at h;exact of_decide_eq_true h.1
theorem ZhR {Ss:List Sh} (h:ZaH Ss=true):Ss.length≤6:=by
 unfold ZaH at h;rw [Bool.and_eq_true] at h;exact of_decide_eq_true h.1
theorem ZoF {s:Zy_} (h:Zas s=true):s.toList.isEmpty=false:=by
 unfold Zas inB at h;rw [Bool.and_eq_true] at h;have:=of_decide_eq_true h.1;rw [ByteArray.toList_eq]
 cases hs:s.data.toList with
 | nil=>have e:s.size=0:=by show s.data.size=0;rw [← Array.length_toList,hs];rfl
        omega
 | cons a l=>rfl
theorem Zgc {Ss:List Sh} {Fs:List Fd} (h:ZaD Ss Fs=true):∀ s ∈ ZaF Fs,s.toList.isEmpty=false:=by
 intro s hs;obtain⟨i,hi,rfl⟩:=Zcx.1 hs;exact ZoF (Zkp h hi).1
theorem Zks {Ss:List Sh} {Fs:List Fd} (h:ZaD Ss Fs=true) {k:Nat} (hk:k < Fs.length):ZaQ Fs Fs[k].nm=k:=by
 refine ZoU hk (Zc9 _) fun i hi hlt=>?_
 have hd:=(Zkp h hk).2
 cases he:(Fs[i].nm.toList == Fs[k].nm.toList) with
 | false=>rfl
 | true=>rw [ZgC hi hlt he] at hd;cases hd
theorem Zcp {Ss:List Sh} {s:Zy_} {x:Sh} (h:Zcv Ss s=some x):x ∈ Ss∧x.kind=s:=by
 unfold Zcv at h;have h2:=List.find?_some h;exact⟨List.mem_of_find?_eq_some h,ZaR.1 h2⟩
def Zoy (x:Sh) (Ms:List Md) (V F:List Zy_):Prop:=Fix (ZaQ x.fields) (ZcP x.fields x.kind Ms) (ZaF x.fields) V F
def ZlU (Ss:List Sh) (Ms:List Md) (kind:Zy_) (V F:List Zy_):Prop:=
 (∃ x,Zay Ss Ms=true∧Zcv Ss kind=some x∧x.fields.length=V.length∧Zoy x Ms V F)∨
 ((Zay Ss Ms=false∨∀ x,Zcv Ss kind=some x→x.fields.length≠V.length)∧F=V)
theorem ZeI {Ss:List Sh} {Ms:List Md} (h:Zay Ss Ms=true) {x:Sh} (hx:x ∈ Ss):ZnU (ZaF x.fields) (Zan x.kind Ms)=true:=by
 unfold Zay at h;rw [Bool.and_eq_true,List.all_eq_true] at h;exact h.2 x hx
theorem Zc0 {Ss:List Sh} {Ms:List Md} (h:Zay Ss Ms=true):ZaH Ss=true:=by
 unfold Zay at h;simp only [Bool.and_eq_true] at h;exact h.1.1.1
theorem Zfm {Ss:List Sh} {Ms:List Md} (h:Zay Ss Ms=true):Ms.length≤12:=by
 unfold Zay at h;simp only [Bool.and_eq_true,decide_eq_true_eq] at h;exact h.1.1.2
theorem Zlu {Ss:List Sh} {Ms:List Md} (h:Zay Ss Ms=true) {m:Md} (hm:m ∈ Ms):Zdb Ss m=true:=by
 unfold Zay at h;simp only [Bool.and_eq_true,List.all_eq_true] at h;exact h.1.2 m hm
theorem Zoy.unique {Ss:List Sh} {Ms:List Md} (h:Zay Ss Ms=true) {x:Sh} (hx:x ∈ Ss) {V F G:List Zy_} (h1:Zoy x Ms V F) (h2:Zoy x Ms V G):F=G:=
 ZnE (Zh9 _ _ _ _) (ZeI h hx) h1 h2
theorem Zi0 {x:Sh} {Ms:List Md} {R V:List Zy_} (h:Zc5 (ZaF x.fields) (Zan x.kind Ms) R) (hl:(ZaF x.fields).length≤R.length) (hv:x.fields.length=V.length):Zoy x Ms V (Zc8 (ZaQ x.fields) (ZcP x.fields x.kind Ms) R V):=
 Zp0 (Zns _) (Zh9 _ _ _ _) h hl V fun s hs=>by rw [← hv];exact Zci.2 hs
def Ze5 (nm v:Zy_) (m:Md):Bool:=(nm.toList == m.wh.toList)&&!(v.toList == m.is.toList) || (nm.toList == m.fr.toList)&&v.toList.isEmpty
theorem Zmd {Ss:List Sh} {Fs:List Fd} {V:List Zy_} (hf:ZaD Ss Fs=true) {i:Nat} (h:i < Fs.length) (h':i < V.length):ZbG Fs V Fs[i].nm=V[i]:=by
 unfold ZbG;rw [Zks hf h,List.getElem?_eq_getElem h'];rfl
theorem ZoD {Ss:List Sh} {Fs:List Fd} {V:List Zy_} {m:Md} (hf:ZaD Ss Fs=true) {i:Nat} (h:i < Fs.length) (h':i < V.length) (ht:Ze5 Fs[i].nm V[i] m=true):Zgs Fs V m=false:=by
 have hn:=Zgc hf Fs[i].nm (Zcx.2 ⟨i,h,rfl⟩);unfold Ze5 at ht;rw [Bool.or_eq_true,Bool.and_eq_true,Bool.and_eq_true,ZaR,ZaR] at ht;unfold Zgs
 rcases ht with ⟨e,hv⟩ | ⟨e,hv⟩
 · rw [← e,hn,Zmd hf h h']
   have:(V[i].toList == m.is.toList)=false:=by simpa using hv
   rw [this];rfl
 · rw [← e,hn,Zmd hf h h',hv];simp
theorem ZrF {Fs:List Fd} {V:List Zy_} {m:Md} (hl:Fs.length=V.length) (hw:m.wh.toList.isEmpty=true∨m.wh ∈ ZaF Fs) (hr:m.fr.toList.isEmpty=true∨m.fr ∈ ZaF Fs)
 (ht:∀ i (h:i < Fs.length) (h':i < V.length),Ze5 Fs[i].nm V[i] m=false):Zgs Fs V m=true:=by
 unfold Zgs;rw [Bool.and_eq_true]
 constructor
 · rcases hw with hw | hw
   · rw [hw];rfl
   · have hp:=Zci.2 hw
     have:=ht _ hp (by omega);unfold Ze5 at this;rw [Zi3 hp,Zc9] at this;simp only [Bool.true_and,Bool.or_eq_false_iff] at this;unfold ZbG;rw [List.getElem?_eq_getElem (show ZaQ Fs m.wh < V.length by omega),Option.getD_some];have h2:=this.1;rw [Bool.not_eq_false'] at h2;rw [h2];simp
 · rcases hr with hw | hw
   · rw [hw];rfl
   · have hp:=Zci.2 hw
     have:=ht _ hp (by omega);unfold Ze5 at this;rw [Zi3 hp,Zc9] at this;simp only [Bool.true_and,Bool.or_eq_false_iff] at this;unfold ZbG;rw [List.getElem?_eq_getElem (show ZaQ Fs m.fr < V.length by omega),Option.getD_some,this.2];simp
theorem Zny {Ss:List Sh} {Ms:List Md} (h:Zay Ss Ms=true) {x:Sh} {kind:Zy_} (hx:Zcv Ss kind=some x) {m:Md} (hm:m ∈ Ms) (hk:m.kind=x.kind) :
 m.field ∈ ZaF x.fields∧(m.wh.toList.isEmpty=true∨m.wh ∈ ZaF x.fields)∧(m.fr.toList.isEmpty=true∨m.fr ∈ ZaF x.fields):=by
 have hb:=Zlu h hm;unfold Zdb at hb;rw [hk,(Zcp hx).2,hx] at hb;simp only [Zcy,Bool.and_eq_true,Bool.or_eq_true] at hb;refine⟨ZdH hb.1.1.1.1.1.1,?_,?_⟩
 · rcases hb.1.1.1.1.1.2 with h | h
   · exact Or.inl h
   · exact Or.inr (ZdH h)
 · rcases hb.1.1.1.1.2 with h | h
   · exact Or.inl h
   · exact Or.inr (ZdH h)
theorem ZmO {α:Type} {p:α→Bool} {L:List α} {k:Nat} (hk:k < L.length) (h:p L[k]=true) (hall:∀ i (h:i < L.length),i < k→p L[i]=false):L.find? p=some L[k]:=by
 rw [List.find?_eq_some_iff_getElem];exact⟨h,k,hk,rfl,fun j hj=>by simp [hall j (by omega) hj]⟩
theorem ZpD {α:Type} {p:α→Bool} {L:List α} (hall:∀ i (h:i < L.length),p L[i]=false):L.find? p=none:=by
 rw [List.find?_eq_none];intro x hx;obtain⟨i,hi,rfl⟩:=List.getElem_of_mem hx;simp [hall i hi]
theorem Zev {Fs:List Fd} {kind:Zy_} {Ms:List Md} {V:List Zy_} {f:Zy_} {k:Nat} (hk:k < Ms.length) (h:(Zdm kind f Ms[k]&&Zgs Fs V Ms[k])=true) (hall:∀ i (h:i < Ms.length),i < k→(Zdm kind f Ms[i]&&Zgs Fs V Ms[i])=false):ZcP Fs kind Ms V f=some (Zco Fs V Ms[k]):=by
 unfold ZcP;rw [ZmO (p:=fun m=>Zdm kind f m&&Zgs Fs V m) hk h hall];rfl
theorem Zko {Fs:List Fd} {kind:Zy_} {Ms:List Md} {V:List Zy_} {f:Zy_} (hall:∀ i (h:i < Ms.length),(Zdm kind f Ms[i]&&Zgs Fs V Ms[i])=false):ZcP Fs kind Ms V f=none:=by
 unfold ZcP;rw [ZpD (p:=fun m=>Zdm kind f m&&Zgs Fs V m) hall];rfl
theorem Zou {Fs:List Fd} {kind:Zy_} {Ms:List Md} {V:List Zy_} {f v:Zy_} (h:ZcP Fs kind Ms V f=some v):setp (ZaQ Fs) (ZcP Fs kind Ms) V f=V.set (ZaQ Fs f) v:=by unfold setp;rw [h]
theorem ZoX {Fs:List Fd} {kind:Zy_} {Ms:List Md} {V:List Zy_} {f:Zy_} (h:ZcP Fs kind Ms V f=none):setp (ZaQ Fs) (ZcP Fs kind Ms) V f=V:=by unfold setp;rw [h]
end Go.Proofs.YtfohnageehneoaaGreat
