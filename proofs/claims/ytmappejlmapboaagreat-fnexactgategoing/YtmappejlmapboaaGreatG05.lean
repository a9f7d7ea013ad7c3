import Derived.Test.YtmappejlmapboaaGreatG04
import Derived.Deep.AppendLies
set_option maxHeartbeats 16000000
set_option maxRecDepth 100000
open Go.Proofs.Tryz
namespace Go.Proofs.YtmappejlmapboaaGreat
open Go.RowKit Go.Deep
section
variable {k:Nat} {Fs:List Fd} {Ss:List Sh}
def ZcW {α:Type} (N:List α) (rd:α->List α) (R:List α):Prop:=∀ i (h:i < R.length),R[i] ∈ N/\R[i] ∉ R.take i/\∀ r ∈ rd R[i],r ∈ R.take i
def ZiZ {α:Type} (N:List α) (rd:α->List α) (row:List α):Prop:=∀ x ∈ N,x ∉ row->¬ ∀ r ∈ rd x,r ∈ row
section
variable {α:Type} {N:List α} {rd:α->List α} {R R':List α}
theorem ZcW.nil:ZcW N rd []:=fun i h=>absurd h (Nat.not_lt_zero i)
theorem ZcW.snoc {x:α} (hg:ZcW N rd R) (hn:x ∈ N) (hx:x ∉ R) (hr:∀ r ∈ rd x,r ∈ R):ZcW N rd (R ++ [x]):=by
 intro i h;have h':i < R.length+1:=by rw [List.length_append] at h;exact h
 by_cases hi:i < R.length
 . rw [List.getElem_append_left hi,List.take_append_of_le_length (Nat.le_of_lt hi)]
   exact hg i hi
 . have e:i=R.length:=by omega
   subst e;have e1:(R ++ [x])[R.length]=x:=by simp
   have e2:(R ++ [x]).take R.length=R:=by simp
   rw [e1,e2];exact⟨hn,hx,hr⟩
theorem ZcW.init {x:α} (h:ZcW N rd (R ++ [x])):ZcW N rd R/\x ∈ N/\x ∉ R/\∀ r ∈ rd x,r ∈ R:=by
 constructor
 . intro i hi
   have:=h i (by rw [List.length_append];omega);rw [List.getElem_append_left hi,List.take_append_of_le_length (Nat.le_of_lt hi)] at this;exact this
 . have:=h R.length (by simp)
   have e1:(R ++ [x])[R.length]=x:=by simp
   have e2:(R ++ [x]).take R.length=R:=by simp
   rw [e1,e2] at this;exact this
theorem ZcW.along {p:List α->Prop} (h0:p []) (hs:∀ row x,ZcW N rd row->x ∈ N->x ∉ row->(∀ r ∈ rd x,r ∈ row)->p row->p (row ++ [x])):∀ (n:Nat) (R:List α),R.length=n->ZcW N rd R->p R:=by
 intro n
 induction n with
 | zero=>intro R hl _;rw [List.length_eq_zero_iff.1 hl];exact h0
 | succ n ih=>
  intro R hl hg;have hne:R≠[]:=by intro e;rw [e] at hl;cases hl
  have e:R.dropLast ++ [R.getLast hne]=R:=List.dropLast_concat_getLast hne;rw [<- e] at hg |-;obtain⟨h1,h2,h3,h4⟩:=hg.init;exact hs _ _ h1 h2 h3 h4 (ih _ (by rw [List.length_dropLast,hl];rfl) h1)
theorem ZcW.nodup (h:ZcW N rd R):R.Nodup:=by
 refine ZcW.along (p:=fun R=>R.Nodup) List.nodup_nil (fun row x _ _ hx _ ih=>?_) _ R rfl h;rw [List.nodup_append];exact⟨ih,by simp,fun a ha b hb=>by simp at hb;subst hb;exact fun e=>hx (e ▸ ha)⟩
theorem ZcW.sub (h:ZcW N rd R):R ⊆ N:=by
 intro y hy;obtain⟨i,hi,rfl⟩:=List.getElem_of_mem hy;exact (h i hi).1
theorem ZcW.reads (h:ZcW N rd R) {x:α} (hx:x ∈ R):∀ r ∈ rd x,r ∈ R:=by
 intro r hr;obtain⟨i,hi,rfl⟩:=List.getElem_of_mem hx;exact List.mem_of_mem_take ((h i hi).2.2 r hr)
theorem ZcW.into (h:ZcW N rd R) (hs:ZiZ N rd R'):R ⊆ R':=by
 refine ZcW.along (p:=fun R=>R ⊆ R') (List.nil_subset _) (fun row x _ hn _ hr ih=>?_) _ R rfl h;intro z hz
 rcases List.mem_append.1 hz with h | h
 . exact ih h
 . simp at h;subst h
   exact Classical.byContradiction fun hc=>hs z hn hc fun r hrr=>ih (hr r hrr)
theorem ZcW.all (h:ZcW N rd R) (hl:N.length<=R.length):∀ x ∈ N,x ∈ R:=by
 intro x hx;refine Classical.byContradiction fun hc=>?_
 have:(x :: R).length<=N.length:=List.Nodup.length_le_of_subset (List.nodup_cons.2 ⟨hc,h.nodup⟩) (List.cons_subset.2 ⟨hx,h.sub⟩);simp at this;omega
end
def Zp6 {α:Type} [DecidableEq α] (N:List α) (rd:α->List α) (R:List α):List α:=
 match N.find? fun x=>decide (x ∉ R)&&(rd x).all fun r=>decide (r ∈ R) with
 | some x=>R ++ [x]
 | none=>R
def ZfK {α:Type} [DecidableEq α] (N:List α) (rd:α->List α):Nat->List α
 | 0=>[]
 | n+1=>Zp6 N rd (ZfK N rd n)
def Zou {α:Type} [DecidableEq α] (N:List α) (rd:α->List α):Bool:=decide (N.length<=(ZfK N rd N.length).length)
section
variable {α:Type} [DecidableEq α] {N:List α} {rd:α->List α} {R:List α}
theorem Zfn (n:Nat):ZcW N rd (ZfK N rd n)/\((ZfK N rd n).length=n\/ZiZ N rd (ZfK N rd n)):=by
 induction n with
 | zero=>exact⟨ZcW.nil,Or.inl rfl⟩
 | succ n ih=>
  obtain⟨hg,hc⟩:=ih
  show ZcW N rd (Zp6 N rd (ZfK N rd n))/\((Zp6 N rd (ZfK N rd n)).length=n+1\/ZiZ N rd (Zp6 N rd (ZfK N rd n)))
  generalize ZfK N rd n=R at*;unfold Zp6
  cases hf:N.find? fun x=>decide (x ∉ R)&&(rd x).all fun r=>decide (r ∈ R) with
  | none=>
   refine⟨hg,Or.inr fun x hx hn hr=>?_⟩;have:=List.find?_eq_none.1 hf x hx;exact this (by simp only [Bool.and_eq_true,decide_eq_true_eq,List.all_eq_true];exact⟨hn,hr⟩)
  | some x=>
   have hp:=List.find?_some hf;simp only [Bool.and_eq_true,decide_eq_true_eq,List.all_eq_true] at hp;have hx:=List.mem_of_find?_eq_some hf;refine⟨hg.snoc hx hp.1 hp.2,?_⟩
   rcases hc with hc | hc
   . exact Or.inl (by simp [hc])
   . exact absurd hp.2 (hc x hx hp.1)
theorem Zmy (h:ZcW N rd R) (hl:N.length<=R.length):Zou N rd=true:=by
 unfold Zou;refine decide_eq_true ?_
 rcases (Zfn (N:=N) (rd:=rd) N.length).2 with hc | hc
 . omega
 . have:=List.Nodup.length_le_of_subset h.nodup (h.into hc)
   omega
theorem ZpU (hs:ZiZ N rd R) (hl:R.length < N.length):Zou N rd=false:=by
 unfold Zou;refine decide_eq_false ?_;have hg:=(Zfn (N:=N) (rd:=rd) N.length).1;have:=List.Nodup.length_le_of_subset hg.nodup (hg.into hs)
 omega
theorem ZkL (h:Zou N rd=true):∃ R,ZcW N rd R/\N.length<=R.length:=by
 unfold Zou at h;exact⟨_,(Zfn (N:=N) (rd:=rd) N.length).1,of_decide_eq_true h⟩
end
section
variable {α β:Type} (pl:α->Nat) (dec:List β->α->Option β)
def setp (V:List β) (x:α):List β:=match dec V x with
 | some v=>V.set (pl x) v
 | none=>V
def ZcZ (R:List α) (V:List β):List β:=R.foldl (setp pl dec) V
theorem Zix (R:List α) (x:α) (V:List β):ZcZ pl dec (R ++ [x]) V=setp pl dec (ZcZ pl dec R V) x:=by simp [ZcZ]
theorem Ziy {R:List α} (h:k < R.length) (V:List β):ZcZ pl dec (R.take (k+1)) V=setp pl dec (ZcZ pl dec (R.take k) V) R[k]:=by
 rw [List.take_succ_eq_append_getElem h,Zix]
theorem ZjC (V:List β) (x:α):(setp pl dec V x).length=V.length:=by
 unfold setp;cases dec V x <;> simp
theorem Zhx (R:List α):∀ (V:List β),(ZcZ pl dec R V).length=V.length:=by
 induction R with
 | nil=>intro V;rfl
 | cons x R ih=>intro V;show (ZcZ pl dec R (setp pl dec V x)).length=_;rw [ih,ZjC]
theorem ZpX (V:List β) (x:α) {i:Nat} (h:pl x≠i):(setp pl dec V x)[i]?=V[i]?:=by
 unfold setp;cases dec V x with
 | none=>rfl
 | some v=>exact List.getElem?_set_ne h
structure Fix (N:List α) (V F:List β):Prop where
 len:F.length=V.length
 at':∀ x ∈ N,F[pl x]?=(dec F x).or V[pl x]?
 off:∀ i,(∀ x ∈ N,pl x≠i)->F[i]?=V[i]?
def ZqF (N:List α) (rd:α->List α):Prop:=∀ x ∈ N,∀ V V':List β,V.length=V'.length->(∀ r ∈ rd x,V[pl r]?=V'[pl r]?)->dec V x=dec V' x
def ZrQ (N:List α):Prop:=∀ x ∈ N,∀ y ∈ N,pl x=pl y->x=y
variable {pl dec} {N:List α} {rd:α->List α}
theorem Zr9 (ha:ZrQ pl N) (hl:ZqF pl dec N rd) {R:List α} (h:ZcW N rd R) (V:List β) (hp:∀ x ∈ N,pl x < V.length):Fix pl dec R V (ZcZ pl dec R V):=by
 refine ZcW.along (p:=fun R=>Fix pl dec R V (ZcZ pl dec R V)) ⟨rfl,fun x hx=>by simp at hx,fun _ _=>rfl⟩ (fun row x hg hn hx hr ih=>?_) _ R rfl h
 . rw [Zix]
   have hlen:=Zhx pl dec row V;generalize hF:ZcZ pl dec row V=F at*;have hoff:∀ y ∈ row,(setp pl dec F x)[pl y]?=F[pl y]?:=fun y hy=>ZpX _ _ _ _ fun e=>hx (by rw [ha x hn y (hg.sub hy) e];exact hy)
   have hdec:∀ y,y ∈ N->(∀ r ∈ rd y,r ∈ row)->dec (setp pl dec F x) y=dec F y:=fun y hy hry=>hl y hy _ _ (by rw [ZjC]) fun r hrr=>hoff r (hry r hrr)
   refine⟨by rw [ZjC,hlen],fun y hy=>?_,fun i hi=>?_⟩
   . rcases List.mem_append.1 hy with h | h
     . rw [hoff y h,hdec y (hg.sub h) (hg.reads h)];exact ih.at' y h
     . simp at h;subst h
       rw [hdec y hn hr];have hV:F[pl y]?=V[pl y]?:=ih.off _ fun z hz e=>hx (by rw [<- ha z (hg.sub hz) y hn e];exact hz)
       unfold setp
       cases hd:dec F y with
       | none=>simp [hV]
       | some v=>simp [List.getElem?_set_self (show pl y < F.length by rw [hlen];exact hp y hn)]
   . rw [ZpX _ _ _ _ (hi x (by simp))]
     exact ih.off i fun z hz=>hi z (by simp [hz])
theorem Fix.grow {R:List α}{V F:List β} (h:Fix pl dec R V F) (h1:R ⊆ N) (h2:∀ x ∈ N,x ∈ R):Fix pl dec N V F:=
 ⟨h.len,fun x hx=>h.at' x (h2 x hx),fun i hi=>h.off i fun x hx=>hi x (h1 hx)⟩
theorem ZqT (ha:ZrQ pl N) (hl:ZqF pl dec N rd) {R:List α} (h:ZcW N rd R) (hn:N.length<=R.length) (V:List β) (hp:∀ x ∈ N,pl x < V.length):Fix pl dec N V (ZcZ pl dec R V):=
 (Zr9 ha hl h V hp).grow h.sub (h.all hn)
theorem Zm8 [DecidableEq α] (hl:ZqF pl dec N rd) (hr:Zou N rd=true) {V F G:List β} (h1:Fix pl dec N V F) (h2:Fix pl dec N V G):F=G:=by
 obtain⟨R,hg,hn⟩:=ZkL hr;have hlen:F.length=G.length:=h1.len.trans h2.len.symm
 have key:∀ P,ZcW N rd P->∀ x ∈ P,F[pl x]?=G[pl x]?:=by
  intro P hP;refine ZcW.along (p:=fun P=>∀ x ∈ P,F[pl x]?=G[pl x]?) (fun x hx=>by simp at hx) (fun row x _ hxn _ hrr ih=>?_) _ P rfl hP
  . intro y hy
    rcases List.mem_append.1 hy with h | h
    . exact ih y h
    . simp at h;subst h
      rw [h1.at' y hxn,h2.at' y hxn,hl y hxn F G hlen fun r hr'=>ih r (hrr r hr')]
 apply List.ext_getElem?;intro i
 by_cases h:∃ x ∈ N,pl x=i
 . obtain⟨x,hx,rfl⟩:=h
   exact key R hg x (hg.all hn x hx)
 . have hi:∀ x ∈ N,pl x≠i:=fun x hx e=>h ⟨x,hx,e⟩
   rw [h1.off i hi,h2.off i hi]
end
theorem ZaA {x y:Zy_}:(x.toList == y.toList)=true↔x=y:=by
 rw [beq_iff_eq];refine⟨fun h=>?_,fun h=>by rw [h]⟩;rw [ByteArray.toList_eq,ByteArray.toList_eq] at h;exact ByteArray.ext (Array.toList_inj.1 h)
theorem Zc1 (x:Zy_):(x.toList == x.toList)=true:=ZaA.2 rfl
theorem ZfH {x y:Zy_}:(x.toList == y.toList)=false↔x≠y:=by
 rw [<- Bool.not_eq_true,Ne,ZaA]
structure Md where
 kind:Zy_
 field:Zy_
 wh:Zy_
 is:Zy_
 put:Zy_
 fr:Zy_
variable {m:Md} {Ms:List Md}
def ZaC (Fs:List Fd):List Zy_:=Fs.map Fd.nm
theorem Zcy {s:Zy_}:s ∈ ZaC Fs↔∃ i,∃ h:i < Fs.length,Fs[i].nm=s:=by
 unfold ZaC;rw [List.mem_map]
 constructor
 . rintro⟨f,hf,rfl⟩;obtain⟨i,hi,rfl⟩:=List.getElem_of_mem hf;exact⟨i,hi,rfl⟩
 . rintro⟨i,hi,rfl⟩;exact⟨_,List.getElem_mem hi,rfl⟩
def ZaO (Fs:List Fd) (s:Zy_):Nat:=Fs.findIdx fun f=>f.nm.toList == s.toList
theorem Zci {s:Zy_}:ZaO Fs s < Fs.length↔s ∈ ZaC Fs:=by
 unfold ZaO;rw [List.findIdx_lt_length,Zcy]
 constructor
 . rintro⟨f,hf,h⟩;obtain⟨i,hi,rfl⟩:=List.getElem_of_mem hf;exact⟨i,hi,ZaA.1 h⟩
 . rintro⟨i,hi,rfl⟩;exact⟨_,List.getElem_mem hi,Zc1 _⟩
theorem Zjt {s:Zy_} (h:ZaO Fs s < Fs.length):Fs[ZaO Fs s].nm=s:=by
 have:=List.findIdx_getElem (p:=fun f:Fd=>f.nm.toList == s.toList) (xs:=Fs) (w:=h);exact ZaA.1 this
theorem ZpQ {s:Zy_} (hk:k < Fs.length) (h:(Fs[k].nm.toList == s.toList)=true) (hall:∀ i (h:i < Fs.length),i < k->(Fs[i].nm.toList == s.toList)=false):ZaO Fs s=k:=by
 unfold ZaO;rw [List.findIdx_eq hk];exact⟨h,fun j hj=>hall j (by omega) hj⟩
theorem ZsA {s:Zy_} (hall:∀ i (h:i < Fs.length),(Fs[i].nm.toList == s.toList)=false):ZaO Fs s=Fs.length:=by
 unfold ZaO;rw [List.findIdx_eq_length];intro f hf;obtain⟨i,hi,rfl⟩:=List.getElem_of_mem hf;exact hall i hi
theorem Znx (Fs:List Fd):ZrQ (ZaO Fs) (ZaC Fs):=fun x hx y hy e=>by
 rw [<- Zjt (Zci.2 hx),<- Zjt (Zci.2 hy)];simp only [e]
def Zbg (Fs:List Fd) (s:Zy_):Bool:=match Fs[ZaO Fs s]? with
 | some f=>!(f.kd == 4)
 | none=>false
theorem ZdP {s:Zy_} (h:Zbg Fs s=true):s ∈ ZaC Fs:=by
 rw [<- Zci];unfold Zbg at h
 by_cases hl:ZaO Fs s < Fs.length
 . exact hl
 . rw [List.getElem?_eq_none (by omega)] at h;cases h
theorem Zmp {s:Zy_} (h:ZaO Fs s < Fs.length):Zbg Fs s=!(Fs[ZaO Fs s].kd == 4):=by unfold Zbg;rw [List.getElem?_eq_getElem h]
theorem Zmq {s:Zy_} (h:¬ ZaO Fs s < Fs.length):Zbg Fs s=false:=by unfold Zbg;rw [List.getElem?_eq_none (by omega)]
def Zot (Fs:List Fd) (s t:Zy_):Bool:=match Fs[ZaO Fs s]? with
 | some f=>ZaL f.kd f.le f.mo f.words t
 | none=>false
theorem ZoZ {s t:Zy_} (h:ZaO Fs s < Fs.length):Zot Fs s t=ZaL Fs[ZaO Fs s].kd Fs[ZaO Fs s].le Fs[ZaO Fs s].mo Fs[ZaO Fs s].words t:=by unfold Zot;rw [List.getElem?_eq_getElem h]
def ZhF (Fs:List Fd) (field s:Zy_):Bool:=s.toList.isEmpty || Zbg Fs s&&!(s.toList == field.toList)
def Zb1 (m:Md):Bool:=!(m.wh.toList.isEmpty&&!m.is.toList.isEmpty)&&!(m.put.toList.isEmpty == m.fr.toList.isEmpty)
def Zei (Fs:List Fd) (m:Md):Bool:=Zbg Fs m.field&&ZhF Fs m.field m.wh&&ZhF Fs m.field m.fr&&Zb1 m&&(m.put.toList.isEmpty || Zot Fs m.field m.put)
def Zcz (Fs:List Fd) (m:Md):Bool:=
 Zbg Fs m.field&&(m.wh.toList.isEmpty || Zbg Fs m.wh)&&(m.fr.toList.isEmpty || Zbg Fs m.fr)&&!(m.wh.toList == m.field.toList)&&!(m.fr.toList == m.field.toList)&&Zb1 m&&(m.put.toList.isEmpty || Zot Fs m.field m.put)
theorem ZpA (hn:∀ s ∈ ZaC Fs,s.toList.isEmpty=false):Zei Fs m=Zcz Fs m:=by
 unfold Zei Zcz ZhF
 cases hp:Zbg Fs m.field with
 | false=>simp
 | true=>
  have hf:=hn _ (ZdP hp)
  have h1:m.wh.toList.isEmpty=true->(m.wh.toList == m.field.toList)=false:=fun h=>by
   rw [ZfH];intro e;rw [e] at h;rw [h] at hf;cases hf
  have h2:m.fr.toList.isEmpty=true->(m.fr.toList == m.field.toList)=false:=fun h=>by
   rw [ZfH];intro e;rw [e] at h;rw [h] at hf;cases hf
  cases ha:m.wh.toList.isEmpty with
  | true=>
   rw [h1 ha]
   cases hb:m.fr.toList.isEmpty with
   | true=>rw [h2 hb];simp
   | false=>simp
  | false=>
   cases hb:m.fr.toList.isEmpty with
   | true=>rw [h2 hb];simp
   | false=>simp;cases Zbg Fs m.wh <;> cases (m.wh.toList == m.field.toList) <;> cases Zbg Fs m.fr <;> cases (m.fr.toList == m.field.toList) <;> simp
def Zjv (m:Md):List Zy_:=(if m.wh.toList.isEmpty=true then [] else [m.wh]) ++ (if m.fr.toList.isEmpty=true then [] else [m.fr])
def Zc9 (kind field:Zy_) (m:Md):Bool:=(m.kind.toList == kind.toList)&&(m.field.toList == field.toList)
def Zam (kind:Zy_) (Ms:List Md) (field:Zy_):List Zy_:=(Ms.filter (Zc9 kind field)).flatMap Zjv
theorem ZkJ (kind field:Zy_) (Ms:List Md) (m:Md):Zam kind (Ms ++ [m]) field=Zam kind Ms field ++ (if Zc9 kind field m=true then Zjv m else []):=by
 unfold Zam;rw [List.filter_append,List.flatMap_append]
 by_cases h:Zc9 kind field m=true <;> simp [h]
theorem Zd3 {kind field:Zy_}{r:Zy_}:r ∈ Zam kind Ms field↔∃ m ∈ Ms,Zc9 kind field m=true/\r ∈ Zjv m:=by
 unfold Zam;simp [List.mem_flatMap,and_assoc]
theorem Zth (h:m.wh.toList.isEmpty=false):m.wh ∈ Zjv m:=by unfold Zjv;simp [h]
theorem Ztg (h:m.fr.toList.isEmpty=false):m.fr ∈ Zjv m:=by unfold Zjv;simp [h]
def ZbO (Fs:List Fd) (V:List Zy_) (s:Zy_):Zy_:=(V[ZaO Fs s]?).getD ⟨#[]⟩
def ZgP (Fs:List Fd) (V:List Zy_) (m:Md):Bool:=(m.wh.toList.isEmpty || (ZbO Fs V m.wh).toList == m.is.toList)&&(m.fr.toList.isEmpty || !(ZbO Fs V m.fr).toList.isEmpty)
def Zct (Fs:List Fd) (V:List Zy_) (m:Md):Zy_:=if m.fr.toList.isEmpty=true then m.put else ZbO Fs V m.fr
def ZcQ (Fs:List Fd) (kind:Zy_) (Ms:List Md) (V:List Zy_) (field:Zy_):Option Zy_:=(Ms.find? fun m=>Zc9 kind field m&&ZgP Fs V m).map (Zct Fs V)
theorem ZhV {α β:Type}{p q:α->Bool}{f g:α->β}{L:List α} (h:∀ x ∈ L,p x=q x) (hf:∀ x ∈ L,p x=true->f x=g x):(L.find? p).map f=(L.find? q).map g:=by
 induction L with
 | nil=>rfl
 | cons a L ih=>
  have ha:=h a (by simp);rw [List.find?_cons,List.find?_cons,<- ha]
  cases hp:p a with
  | true=>simp only [Option.map_some];rw [hf a (by simp) hp]
  | false=>exact ih (fun x hx=>h x (by simp [hx])) fun x hx=>hf x (by simp [hx])
theorem Zil (Fs:List Fd) (kind:Zy_) (Ms:List Md) (N:List Zy_):ZqF (ZaO Fs) (ZcQ Fs kind Ms) N (Zam kind Ms):=by
 intro x _ V V' _ hr
 have hw:∀ m ∈ Ms,Zc9 kind x m=true->m.wh.toList.isEmpty=false->ZbO Fs V m.wh=ZbO Fs V' m.wh:=fun m hm hf h=>by
  unfold ZbO;rw [hr m.wh (Zd3.2 ⟨m,hm,hf,Zth h⟩)]
 have hg:∀ m ∈ Ms,Zc9 kind x m=true->m.fr.toList.isEmpty=false->ZbO Fs V m.fr=ZbO Fs V' m.fr:=fun m hm hf h=>by
  unfold ZbO;rw [hr m.fr (Zd3.2 ⟨m,hm,hf,Ztg h⟩)]
 unfold ZcQ;refine ZhV (fun m hm=>?_) fun m hm hp=>?_
 . cases hf:Zc9 kind x m with
   | false=>rfl
   | true=>
    unfold ZgP
    cases h1:m.wh.toList.isEmpty with
    | true=>cases h2:m.fr.toList.isEmpty with
     | true=>rfl
     | false=>rw [hg m hm hf h2];rfl
    | false=>cases h2:m.fr.toList.isEmpty with
     | true=>rw [hw m hm hf h1];rfl
     | false=>rw [hw m hm hf h1,hg m hm hf h2]
 . have hf:Zc9 kind x m=true:=by simp at hp;exact hp.1
   unfold Zct
   cases h2:m.fr.toList.isEmpty with
   | true=>rfl
   | false=>rw [hg m hm hf h2]
def Zde (Ss:List Sh) (m:Md):Bool:=match Zcj Ss m.kind with
 | some x=>Zcz x.fields m
 | none=>false
def Zbq (Ms:List Md) (x:Sh):Bool:=Zou (ZaC x.fields) (Zam x.kind Ms)
def Zax (Ss:List Sh) (Ms:List Md):Bool:=ZaH Ss&&decide (Ms.length<=12)&&Ms.all (Zde Ss)&&Ss.all (Zbq Ms)
theorem Zbz (h:ZaH Ss=true) {x:Sh} (hx:x ∈ Ss):Zay Ss x.fields=true:=by
 unfold ZaH at h;rw [Bool.and_eq_true,List.all_eq_true] at h;obtain⟨i,hi,rfl⟩:=List.getElem_of_mem hx;have:=h.2 i (List.mem_range.2 hi)
 cases i with
 | zero=>rw [ZcJ hi,Bool.and_eq_true] at this;exact this.2
 | succ j=>rw [ZbN hi,Bool.and_eq_true] at this;exact this.2
theorem Zj4 (h:Zay Ss Fs=true) {k:Nat} (hk:k < Fs.length):Zap Fs[k].nm=true/\ZmT (Fs.take k) Fs[k].nm=false:=by
 unfold Zay at h;rw [Bool.and_eq_true,List.all_eq_true] at h;have:=h.2 k (List.mem_range.2 hk);rw [ZaG hk] at this;simp at this;exact⟨this.1.1,this.2⟩
theorem Zc2 (h:Zay Ss Fs=true):Fs.length<=6:=by
 unfold Zay at h;rw [Bool.and_eq_true] at h;exact of_decide_eq_true h.1
theorem ZiN (h:ZaH Ss=true):Ss.length<=6:=by
 unfold ZaH at h;rw [Bool.and_eq_true] at h;exact of_decide_eq_true h.1
theorem ZpH {s:Zy_} (h:Zap s=true):s.toList.isEmpty=false:=by
 unfold Zap inB at h;rw [Bool.and_eq_true] at h;have:=of_decide_eq_true h.1;rw [ByteArray.toList_eq]
 cases hs:s.data.toList with
 | nil=>have e:s.size=0:=by show s.data.size=0;rw [<- Array.length_toList,hs];rfl
        omega
 | cons a l=>rfl
theorem Zgy (h:Zay Ss Fs=true):∀ s ∈ ZaC Fs,s.toList.isEmpty=false:=by
 intro s hs;obtain⟨i,hi,rfl⟩:=Zcy.1 hs;exact ZpH (Zj4 h hi).1
theorem Zj3 (h:Zay Ss Fs=true) {k:Nat} (hk:k < Fs.length):ZaO Fs Fs[k].nm=k:=by
 refine ZpQ hk (Zc1 _) fun i hi hlt=>?_
 have hd:=(Zj4 h hk).2
 cases he:(Fs[i].nm.toList == Fs[k].nm.toList) with
 | false=>rfl
 | true=>rw [ZgW hi hlt he] at hd;cases hd
theorem Zcd {s:Zy_}{x:Sh} (h:Zcj Ss s=some x):x ∈ Ss/\x.kind=s:=by
 unfold Zcj at h;have h2:=List.find?_some h;exact⟨List.mem_of_find?_eq_some h,ZaA.1 h2⟩
def Zow (x:Sh) (Ms:List Md) (V F:List Zy_):Prop:=Fix (ZaO x.fields) (ZcQ x.fields x.kind Ms) (ZaC x.fields) V F
def Zmb (Ss:List Sh) (Ms:List Md) (kind:Zy_) (V F:List Zy_):Prop:=
 (∃ x,Zax Ss Ms=true/\Zcj Ss kind=some x/\x.fields.length=V.length/\Zow x Ms V F)\/
 ((Zax Ss Ms=false\/∀ x,Zcj Ss kind=some x->x.fields.length≠V.length)/\F=V)
theorem ZeU (h:Zax Ss Ms=true) {x:Sh} (hx:x ∈ Ss):Zou (ZaC x.fields) (Zam x.kind Ms)=true:=by
 unfold Zax at h;rw [Bool.and_eq_true,List.all_eq_true] at h;exact h.2 x hx
theorem Zc0 (h:Zax Ss Ms=true):ZaH Ss=true:=by
 unfold Zax at h;simp only [Bool.and_eq_true] at h;exact h.1.1.1
theorem ZfQ (h:Zax Ss Ms=true):Ms.length<=12:=by
 unfold Zax at h;simp only [Bool.and_eq_true,decide_eq_true_eq] at h;exact h.1.1.2
theorem ZlK (h:Zax Ss Ms=true) {m:Md} (hm:m ∈ Ms):Zde Ss m=true:=by
 unfold Zax at h;simp only [Bool.and_eq_true,List.all_eq_true] at h;exact h.1.2 m hm
theorem Zow.unique (h:Zax Ss Ms=true) {x:Sh} (hx:x ∈ Ss) {V F G:List Zy_} (h1:Zow x Ms V F) (h2:Zow x Ms V G):F=G:=
 Zm8 (Zil _ _ _ _) (ZeU h hx) h1 h2
theorem Zjo {x:Sh}{R V:List Zy_} (h:ZcW (ZaC x.fields) (Zam x.kind Ms) R) (hl:(ZaC x.fields).length<=R.length) (hv:x.fields.length=V.length):Zow x Ms V (ZcZ (ZaO x.fields) (ZcQ x.fields x.kind Ms) R V):=
 ZqT (Znx _) (Zil _ _ _ _) h hl V fun s hs=>by rw [<- hv];exact Zci.2 hs
def Zft (nm v:Zy_) (m:Md):Bool:=(nm.toList == m.wh.toList)&&!(v.toList == m.is.toList) || (nm.toList == m.fr.toList)&&v.toList.isEmpty
theorem ZmF {V:List Zy_} (hf:Zay Ss Fs=true) {i:Nat} (h:i < Fs.length) (h':i < V.length):ZbO Fs V Fs[i].nm=V[i]:=by
 unfold ZbO;rw [Zj3 hf h,List.getElem?_eq_getElem h'];rfl
theorem ZoG {V:List Zy_} (hf:Zay Ss Fs=true) {i:Nat} (h:i < Fs.length) (h':i < V.length) (ht:Zft Fs[i].nm V[i] m=true):ZgP Fs V m=false:=by
 have hn:=Zgy hf Fs[i].nm (Zcy.2 ⟨i,h,rfl⟩);unfold Zft at ht;rw [Bool.or_eq_true,Bool.and_eq_true,Bool.and_eq_true,ZaA,ZaA] at ht;unfold ZgP
 rcases ht with ⟨e,hv⟩ | ⟨e,hv⟩
 . rw [<- e,hn,ZmF hf h h']
   have:(V[i].toList == m.is.toList)=false:=by simpa using hv
   rw [this];rfl
 . rw [<- e,hn,ZmF hf h h',hv];simp
theorem ZrT {V:List Zy_} (hl:Fs.length=V.length) (hw:m.wh.toList.isEmpty=true\/m.wh ∈ ZaC Fs) (hr:m.fr.toList.isEmpty=true\/m.fr ∈ ZaC Fs)
 (ht:∀ i (h:i < Fs.length) (h':i < V.length),Zft Fs[i].nm V[i] m=false):ZgP Fs V m=true:=by
 unfold ZgP;rw [Bool.and_eq_true]
 constructor
 . rcases hw with hw | hw
   . rw [hw];rfl
   . have hp:=Zci.2 hw
     have:=ht _ hp (by omega);unfold Zft at this;rw [Zjt hp,Zc1] at this;simp only [Bool.true_and,Bool.or_eq_false_iff] at this;unfold ZbO;rw [List.getElem?_eq_getElem (show ZaO Fs m.wh < V.length by omega),Option.getD_some];have h2:=this.1;rw [Bool.not_eq_false'] at h2;rw [h2];simp
 . rcases hr with hw | hw
   . rw [hw];rfl
   . have hp:=Zci.2 hw
     have:=ht _ hp (by omega);unfold Zft at this;rw [Zjt hp,Zc1] at this;simp only [Bool.true_and,Bool.or_eq_false_iff] at this;unfold ZbO;rw [List.getElem?_eq_getElem (show ZaO Fs m.fr < V.length by omega),Option.getD_some,this.2];simp
theorem Zns (h:Zax Ss Ms=true) {x:Sh} {kind:Zy_} (hx:Zcj Ss kind=some x) {m:Md} (hm:m ∈ Ms) (hk:m.kind=x.kind) :
 m.field ∈ ZaC x.fields/\(m.wh.toList.isEmpty=true\/m.wh ∈ ZaC x.fields)/\(m.fr.toList.isEmpty=true\/m.fr ∈ ZaC x.fields):=by
 have hb:=ZlK h hm;unfold Zde at hb;rw [hk,(Zcd hx).2,hx] at hb;simp only [Zcz,Bool.and_eq_true,Bool.or_eq_true] at hb;refine⟨ZdP hb.1.1.1.1.1.1,?_,?_⟩
 . rcases hb.1.1.1.1.1.2 with h | h
   . exact Or.inl h
   . exact Or.inr (ZdP h)
 . rcases hb.1.1.1.1.2 with h | h
   . exact Or.inl h
   . exact Or.inr (ZdP h)
theorem Zm7 {α:Type}{p:α->Bool}{L:List α} (hk:k < L.length) (h:p L[k]=true) (hall:∀ i (h:i < L.length),i < k->p L[i]=false):L.find? p=some L[k]:=by
 rw [List.find?_eq_some_iff_getElem];exact⟨h,k,hk,rfl,fun j hj=>by simp [hall j (by omega) hj]⟩
theorem ZoY {α:Type}{p:α->Bool}{L:List α} (hall:∀ i (h:i < L.length),p L[i]=false):L.find? p=none:=by
 rw [List.find?_eq_none];intro x hx;obtain⟨i,hi,rfl⟩:=List.getElem_of_mem hx;simp [hall i hi]
theorem ZeB {kind:Zy_}{V:List Zy_}{f:Zy_} (hk:k < Ms.length) (h:(Zc9 kind f Ms[k]&&ZgP Fs V Ms[k])=true) (hall:∀ i (h:i < Ms.length),i < k->(Zc9 kind f Ms[i]&&ZgP Fs V Ms[i])=false):ZcQ Fs kind Ms V f=some (Zct Fs V Ms[k]):=by
 unfold ZcQ;rw [Zm7 (p:=fun m=>Zc9 kind f m&&ZgP Fs V m) hk h hall];rfl
theorem ZjX {kind:Zy_}{V:List Zy_}{f:Zy_} (hall:∀ i (h:i < Ms.length),(Zc9 kind f Ms[i]&&ZgP Fs V Ms[i])=false):ZcQ Fs kind Ms V f=none:=by
 unfold ZcQ;rw [ZoY (p:=fun m=>Zc9 kind f m&&ZgP Fs V m) hall];rfl
theorem ZpZ {kind:Zy_}{V:List Zy_}{f v:Zy_} (h:ZcQ Fs kind Ms V f=some v):setp (ZaO Fs) (ZcQ Fs kind Ms) V f=V.set (ZaO Fs f) v:=by unfold setp;rw [h]
theorem ZpY {kind:Zy_}{V:List Zy_}{f:Zy_} (h:ZcQ Fs kind Ms V f=none):setp (ZaO Fs) (ZcQ Fs kind Ms) V f=V:=by unfold setp;rw [h]
end
variable {w w' W:World} {lo n k base:Nat} {v:Value} {Ms:List Md} {Fs:List Fd}
structure Zfj (w:World) (b o:Nat) (m:Md):Prop where
 c0:w.cell? ⟨b,o,none⟩=some (.string m.kind)
 c1:w.cell? ⟨b,o+1,none⟩=some (.string m.field)
 c2:w.cell? ⟨b,o+2,none⟩=some (.string m.wh)
 c3:w.cell? ⟨b,o+3,none⟩=some (.string m.is)
 c4:w.cell? ⟨b,o+4,none⟩=some (.string m.put)
 c5:w.cell? ⟨b,o+5,none⟩=some (.string m.fr)
structure Zeb (m:Md):Prop where
 s0:m.kind.size<=maxLen
 s1:m.field.size<=maxLen
 s2:m.wh.size<=maxLen
 s3:m.is.size<=maxLen
 s4:m.put.size<=maxLen
 s5:m.fr.size<=maxLen
theorem Zfj.below {b o:Nat}{m:Md} (h:Zfj w b o m) (hb:Zw_ w w') (hlt:b < w.heap.size):Zfj w' b o m:=by
 have e:∀ o,w'.cell? ⟨b,o,none⟩=w.cell? ⟨b,o,none⟩:=fun o=>hb.cell (p:=⟨b,o,none⟩) hlt
 exact⟨by rw [e];exact h.c0,by rw [e];exact h.c1,by rw [e];exact h.c2,by rw [e];exact h.c3,by rw [e];exact h.c4,by rw [e];exact h.c5⟩
def Zbc (lo:Nat) (w:World) (v:Value) (Ms:List Md):Prop:=
 (∃ (a:Option Addr) (cap:Nat),v=.slice a 0 cap/\Ms=[])\/
 ∃ (b off cap:Nat),v=.slice (some ⟨b,off,none⟩) Ms.length cap/\Ms≠[]/\Ms.length<=maxLen/\b < w.heap.size/\lo<=b/\Ms.length<=cap/\
  ∀ i (h:i < Ms.length),Zeb Ms[i]/\Zfj w b (off+i*6) Ms[i]
theorem Zbc.below (h:Zbc lo w v Ms) (hb:Zw_ w w'):Zbc lo w' v Ms:=by
 rcases h with h | ⟨b,off,cap,h1,h2,h3,h4,h5,h6,h7⟩
 . exact Or.inl h
 . refine Or.inr ⟨b,off,cap,h1,h2,h3,Zk_ h4 hb.size,h5,h6,fun i hi=>?_⟩
   obtain⟨hs,hc⟩:=h7 i hi;exact⟨hs,hc.below hb h4⟩
theorem Zbc.mono {lo':Nat} (h:Zbc lo w v Ms) (hl:lo'<=lo):Zbc lo' w v Ms:=by
 rcases h with h | ⟨b,off,cap,h1,h2,h3,h4,h5,h6,h7⟩
 . exact Or.inl h
 . exact Or.inr ⟨b,off,cap,h1,h2,h3,h4,Nat.le_trans hl h5,h6,h7⟩
theorem Zbc.form (h:Zbc lo w v Ms):∃ a cap,v=.slice a Ms.length cap:=by
 rcases h with ⟨a,cap,h,rfl⟩ | ⟨b,off,cap,h,_⟩
 . exact⟨a,cap,h⟩
 . exact⟨_,cap,h⟩
theorem Zbc.full (h:Zbc lo w v Ms) (hne:Ms≠[]):∃ (b off cap:Nat),v=.slice (some ⟨b,off,none⟩) Ms.length cap/\Ms.length<=maxLen/\b < w.heap.size/\Ms.length<=cap/\
 ∀ i (h:i < Ms.length),Zeb Ms[i]/\Zfj w b (off+i*6) Ms[i]:=by
 rcases h with ⟨_,_,_,h⟩ | ⟨b,off,cap,h1,_,h3,h4,_,h6,h7⟩
 . exact absurd h hne
 . exact⟨b,off,cap,h1,h3,h4,h6,h7⟩
theorem Zbc.full' {a:Option Addr}{cap:Nat} (h:Zbc lo w (.slice a n cap) Ms) (hL:0 < Ms.length) :
 ∃ b off,a=some ⟨b,off,none⟩/\b < w.heap.size/\∀ i (h:i < Ms.length),Zeb Ms[i]/\Zfj w b (off+i*6) Ms[i]:=by
 rcases h with ⟨a',cap',h,rfl⟩ | ⟨b',off',cap',h1,h2,h3,h4,h5,h6,h7⟩
 . simp at hL
 . injection h1 with e1 e2 e3
   exact⟨b',off',e1,h4,h7⟩
theorem ZnV (k f h i p r:Zy_) (left:Int) (w:World) (h0:0<=left) (h1:left<=1048576)
 (s0:k.size<=maxLen) (s1:f.size<=maxLen) (s2:h.size<=maxLen) (s3:i.size<=maxLen) (s4:p.size<=maxLen) (s5:r.size<=maxLen) :
 Calls prog 75 #[.agg #[.string k,.string f,.string h,.string i,.string p,.string r],.int .i64 left] w
  fun e w'=>∃ r:Int,e=.returned (.int .i64 r)/\Zw_ w w'/\-1<=r/\r<=left:=by
 unfold maxLen at s0 s1 s2 s3 s4 s5;have HW:∀ o,Hd (Zw_ w (w.alloc o)):=fun o=>Zb_.alloc Zl_ _
 go_enter func75,ntmps75;go_wp2
 all_goals go_ret
 all_goals exact⟨_,rfl,(HW _).o,by omega,by omega⟩
theorem Zqb (lo:Nat) (v:Value) (Ms:List Md) (left:Int) (w:World) (h0:0<=left) (h1:left<=1048576) (hv:Zbc lo w v Ms) :
 Calls prog 28 #[v,.int .i64 left] w fun e w'=>∃ r:Int,e=.returned (.int .i64 r)/\Zw_ w w'/\ZsN Ms.length left r:=by
 rcases hv with ⟨a,cap,rfl,rfl⟩ | ⟨b,off,cap,rfl,hne,hm,hbw,_,_,hc⟩
 . go_enter func28,ntmps28
   go_wp2
   go_loop [1,5] (fun l i=>∃ r:Int,l=.int .i64 r/\0<=r/\r<=left/\i=.int .i64 0) (fun _ _=>0)
   case atStart=>exact⟨_,rfl,by omega,by omega,rfl⟩
   case round=>
    obtain⟨r,rfl,hr0,hr1,rfl⟩:=hrel;go_wp2;go_ret;exact⟨r,rfl,Below.refl _ _,by omega,by omega,fun _=>by simp;omega⟩
 . unfold maxLen at hm
   by_cases hle:(Ms.length:Int)<=left
   . go_enter func28,ntmps28
     go_wp2
     go_loopw [1,5] (fun l i wr=>∃ (r:Int) (k:Nat),l=.int .i64 r/\0<=r/\r<=left/\i=.int .i64 k/\k<=Ms.length/\Zw_ w wr) (fun _ i _=>Ms.length - (intOf i).toNat)
     case atStart=>exact⟨_,0,rfl,by omega,by omega,rfl,by omega,Below.refl _ _⟩
     case round=>
      obtain⟨r,k,rfl,hr0,hr1,rfl,hk,hb⟩:=hrel
      by_cases hlt:k < Ms.length
      . obtain⟨hsz,hcell⟩:=hc k hlt
        obtain⟨c0,c1,c2,c3,c4,c5⟩:=hcell.below hb hbw;go_wp2_with fail;refine (ZnV _ _ _ _ _ _ _ _ hr0 (by omega) hsz.s0 hsz.s1 hsz.s2 hsz.s3 hsz.s4 hsz.s5).mono ?_;rintro e w1 ⟨r1,rfl,hb1,q0,q1⟩;have hB:Hd (Zw_ w w1):=hb.trans (hb1.mono hb.size);clear hb1 c0 c1 c2 c3 c4 c5 hb;go_wp2
        all_goals first
         | (go_roundw
            . exact⟨_,k+1,rfl,by omega,by omega,by go_num,by omega,hB.o⟩
            . simp [intOf];omega)
         | (go_ret
            exact⟨-1,rfl,hB.o,by omega,by omega,fun h=>by omega⟩)
      . go_wp2
        go_ret;exact⟨r,rfl,hb,by omega,by omega,fun _=>hle⟩
   . go_enter func28,ntmps28
     go_wp2;go_ret;exact⟨-1,rfl,Below.refl _ _,by omega,by omega,fun h=>by omega⟩
theorem Zn5 (k f h i p r:Zy_) (w:World) :
 Calls prog 87 #[.agg #[.string k,.string f,.string h,.string i,.string p,.string r]] w
  fun e w'=>e=.returned (.agg #[.string k,.string f,.string h,.string i,.string p,.string r])/\Zw_ w w':=by
 go_enter func87,ntmps87;go_wp2;refine bodyPost_ret (v:=.agg #[.string k,.string f,.string h,.string i,.string p,.string r]) (by simp [results,results87,go_sem]) rfl ⟨rfl,?_⟩
 repeat (refine Below.setCell ?_ (by simp only [];omega) _)
 exact ((Zb_.alloc Zl_ _).alloc (by simp) _).alloc (by simp;omega) _
theorem Zlc (k f h i p r:Zy_) (w:World) :
 Calls prog 98 #[.agg #[.string k,.string f,.string h,.string i,.string p,.string r],.agg #[.string k,.string f,.string h,.string i,.string p,.string r]] w
  fun e w'=>e=.returned (.bool true)/\Zw_ w w':=by
 go_enter func98,ntmps98;go_wp2;go_ret;exact⟨rfl,(Zb_.alloc Zl_ _).alloc (by simp) _⟩
theorem ZmZ (lo lo':Nat) (v v':Value) (Ms:List Md) (w:World) (hv:Zbc lo w v Ms) (hv':Zbc lo' w v' Ms) :
 Calls prog 46 #[v,v'] w fun e w'=>e=.returned (.bool true)/\Zw_ w w':=by
 by_cases hL:Ms=[]
 . subst hL
   obtain⟨a,cap,rfl⟩:=hv.form;obtain⟨a',cap',rfl⟩:=hv'.form;clear hv hv';go_enter func46,ntmps46;go_wp2
   go_loop [5] (fun i=>i=.int .i64 0) (fun _=>0)
   case atStart=>rfl
   case round=>
    subst hrel;go_wp2;go_ret;exact⟨rfl,Below.refl _ _⟩
 . obtain⟨b,off,cap,rfl,hm,hbw,_,hc⟩:=hv.full hL
   obtain⟨b',off',cap',rfl,_,hbw',_,hc'⟩:=hv'.full hL;clear hv hv';unfold maxLen at hm;go_enter func46,ntmps46;go_wp2
   go_loopw [5] (fun i wr=>∃ k:Nat,i=.int .i64 k/\k<=Ms.length/\Zw_ w wr) (fun i _=>Ms.length - (intOf i).toNat)
   case atStart=>exact⟨0,rfl,by omega,Below.refl _ _⟩
   case round=>
    obtain⟨k,rfl,hk,hb⟩:=hrel
    by_cases hlt:k < Ms.length
    . obtain⟨_,hcell⟩:=hc k hlt
      obtain⟨_,hcell'⟩:=hc' k hlt;obtain⟨c0,c1,c2,c3,c4,c5⟩:=hcell.below hb hbw;obtain⟨d0,d1,d2,d3,d4,d5⟩:=hcell'.below hb hbw';clear hcell hcell';have HB:=Zab hb;clear hb;go_wp2
      go_region_with (go_at_call 98;refine (Zlc _ _ _ _ _ _ _).mono ?_;rintro e w1 ⟨rfl,hb1⟩;have hB:Hd (Zw_ w w1):=(HB.o.drew).trans (hb1.mono HB.o.size);clear hb1)
      all_goals go_wp2
      all_goals go_roundw
      all_goals first
       | (case rel=>exact⟨k+1,by go_num,by omega,hB.o⟩)
       | (case measure=>simp [intOf];omega)
    . go_wp2
      go_ret;exact⟨rfl,hb⟩
def Zb9 (Fs:List Fd) (s:Zy_):Int:=if ZaO Fs s < Fs.length then (ZaO Fs s:Int) else -1
theorem ZiE {s:Zy_} (hk:k < Fs.length) (h:(Fs[k].nm.toList == s.toList)=true) (hall:∀ i (h:i < Fs.length),i < k->(Fs[i].nm.toList == s.toList)=false):Zb9 Fs s=k:=by
 unfold Zb9;rw [ZpQ hk h hall,if_pos hk]
theorem ZkG {s:Zy_} (hall:∀ i (h:i < Fs.length),(Fs[i].nm.toList == s.toList)=false):Zb9 Fs s= -1:=by
 unfold Zb9;rw [ZsA hall,if_neg (Nat.lt_irrefl _)]
theorem ZbM {s:Zy_} (h:ZaO Fs s < Fs.length):Zb9 Fs s=ZaO Fs s:=if_pos h
theorem ZkF {s:Zy_} (h:¬ ZaO Fs s < Fs.length):Zb9 Fs s= -1:=if_neg h
theorem Zbj (lo:Nat) (v:Value) (Fs:List Fd) (s:Zy_) (w:World) (hv:Zau lo w v Fs) :
 Calls prog 200 #[v,.string s] w fun e w'=>e=.returned (.int .i64 (Zb9 Fs s))/\w'=w:=by
 by_cases hL:Fs=[]
 . subst hL
   obtain⟨a,cap,rfl⟩:=Zdp hv;clear hv;go_enter func200,ntmps200;go_wp2
   go_loop [5] (fun i=>i=.int .i64 0) (fun _=>0)
   case atStart=>rfl
   case round=>
    subst hrel;go_wp2;go_ret;exact⟨rfl,rfl⟩
 . obtain⟨b,off,cap,rfl,hm,hbw,_,hc⟩:=hv.full hL
   clear hv;unfold maxLen at hm;go_enter func200,ntmps200;go_wp2
   go_loop [5] (fun i=>∃ k:Nat,i=.int .i64 k/\k<=Fs.length/\∀ i (h:i < Fs.length),i < k->(Fs[i].nm.toList == s.toList)=false) (fun i=>Fs.length - (intOf i).toNat)
   case atStart=>exact⟨0,rfl,by omega,fun i _ h=>by omega⟩
   case round=>
    obtain⟨k,rfl,hk,hall⟩:=hrel;have HA:=Zab hall;clear hall
    by_cases hlt:k < Fs.length
    . obtain⟨_,wv,hcell,_⟩:=hc k hlt
      have c0:=hcell.c0;clear hcell
      by_cases he:(Fs[k].nm.toList == s.toList)=true
      . go_wp2
        go_ret;exact⟨by rw [ZiE hlt he HA.o];rfl,rfl⟩
      . have he':(Fs[k].nm.toList == s.toList)=false:=by simpa using he
        clear he;go_wp2
        go_round
        case rel=>exact⟨k+1,by go_num,by omega,fun i h h'=>by
                   by_cases e:i=k
                   . subst e;exact he'
                   . exact HA.o i h (by omega)⟩
        . simp [intOf];omega
    . go_wp2
      go_ret;exact⟨by rw [ZkG fun i h=>HA.o i h (by omega)];rfl,rfl⟩
theorem Zd2 (lo:Nat) (v:Value) (Fs:List Fd) (s:Zy_) (w:World) (hv:Zau lo w v Fs) :
 Calls prog 199 #[v,.string s] w fun e w'=>e=.returned (.bool (Zbg Fs s))/\w'=w:=by
 have HV:=Zab hv
 by_cases hp:ZaO Fs s < Fs.length
 . obtain⟨b,off,cap,rfl,hm,hbw,_,hc⟩:=hv.full (by intro e;rw [e] at hp;simp at hp)
   clear hv;unfold maxLen at hm;obtain⟨_,wv,hcell,_⟩:=hc _ hp;have c1:=hcell.c1;have HQ:Hd (Zbg Fs s=!(Fs[ZaO Fs s].kd == 4)):=Zmp hp;have HP:Hd (Zb9 Fs s=ZaO Fs s):=ZbM hp;clear hcell hc;go_enter func199,ntmps199;go_wp2_with fail;refine (Zbj lo _ Fs s _ HV.o).mono ?_;rintro e w1 ⟨rfl,rfl⟩;rw [HP.o]
   cases hk:(Fs[ZaO Fs s].kd == 4) with
   | true=>
    have HQ2:Hd (Zbg Fs s=false):=by unfold Hd;rw [HQ.o,hk];rfl
    have e4:Fs[ZaO Fs s].kd=4:=by simpa using hk
    rw [e4] at c1;clear e4 hk HQ HP;go_wp2;go_ret;exact⟨Zaa HQ2.o.symm,rfl⟩
   | false=>
    have HQ2:Hd (Zbg Fs s=true):=by unfold Hd;rw [HQ.o,hk];rfl
    have e4:¬ Fs[ZaO Fs s].kd=4:=by simpa using hk
    clear hk HQ HP;go_wp2;go_ret;exact⟨Zaa (by rw [HQ2.o];simp [e4]),rfl⟩
 . obtain⟨a,cap,rfl⟩:=hv.form
   clear hv;have HQ:Hd (Zbg Fs s=false):=Zmq hp;have HP:Hd (Zb9 Fs s= -1):=ZkF hp;go_enter func199,ntmps199;go_wp2_with fail;refine (Zbj lo _ Fs s _ HV.o).mono ?_;rintro e w1 ⟨rfl,rfl⟩;rw [HP.o];clear HP hp;go_wp2;go_ret;exact⟨Zaa HQ.o.symm,rfl⟩
theorem Zdo {L:List Zy_}{s:Zy_}:ZeS L s=true↔s ∈ L:=by
 unfold ZeS;rw [List.any_eq_true]
 constructor
 . rintro⟨x,hx,h⟩;rw [ZaA] at h;subst h;exact hx
 . exact fun h=>⟨s,h,Zc1 _⟩
theorem Zjf {L:List Zy_}{s:Zy_} (h:ZeS L s=false):s ∉ L:=fun hm=>by rw [Zdo.2 hm] at h;cases h
def ZfS (Ms:List Md) (kind field:Zy_) (row:List Zy_):Bool:=(Zam kind Ms field).all (ZeS row)
theorem Zdg {kind field:Zy_}{row:List Zy_}:ZfS Ms kind field row=true↔∀ r ∈ Zam kind Ms field,r ∈ row:=by
 unfold ZfS;rw [List.all_eq_true];exact⟨fun h r hr=>Zdo.1 (h r hr),fun h r hr=>Zdo.2 (h r hr)⟩
def ZjQ (kind field:Zy_) (row:List Zy_) (m:Md):Bool:=!Zc9 kind field m || ((m.wh.toList.isEmpty || ZeS row m.wh)&&(m.fr.toList.isEmpty || ZeS row m.fr))
theorem Zrs {kind field:Zy_}{row:List Zy_} (h:∀ i (h:i < Ms.length),ZjQ kind field row Ms[i]=true):ZfS Ms kind field row=true:=by
 rw [Zdg];intro r hr;obtain⟨m,hm,hf,hrd⟩:=Zd3.1 hr;obtain⟨i,hi,rfl⟩:=List.getElem_of_mem hm;have:=h i hi;unfold ZjQ at this;rw [hf] at this;simp only [Bool.not_true,Bool.false_or,Bool.and_eq_true,Bool.or_eq_true] at this;unfold Zjv at hrd
 rcases List.mem_append.1 hrd with h1 | h1
 . by_cases he:Ms[i].wh.toList.isEmpty=true
   . rw [if_pos he] at h1;cases h1
   . rw [if_neg he] at h1
     rw [List.mem_singleton.1 h1]
     rcases this.1 with h2 | h2
     . exact absurd h2 he
     . exact Zdo.1 h2
 . by_cases he:Ms[i].fr.toList.isEmpty=true
   . rw [if_pos he] at h1;cases h1
   . rw [if_neg he] at h1
     rw [List.mem_singleton.1 h1]
     rcases this.2 with h2 | h2
     . exact absurd h2 he
     . exact Zdo.1 h2
theorem ZhG {kind field:Zy_}{row:List Zy_}{i:Nat} (hi:i < Ms.length) (h:ZjQ kind field row Ms[i]=false):ZfS Ms kind field row=false:=by
 cases hr:ZfS Ms kind field row with
 | false=>rfl
 | true=>
  rw [Zdg] at hr
  have hf:Zc9 kind field Ms[i]=true:=by
   cases hf:Zc9 kind field Ms[i] with
   | true=>rfl
   | false=>unfold ZjQ at h;rw [hf] at h;cases h
  have key:∀ r ∈ Zjv Ms[i],ZeS row r=true:=fun r hrr=>Zdo.2 (hr r (Zd3.2 ⟨Ms[i],List.getElem_mem hi,hf,hrr⟩))
  have hx:ZjQ kind field row Ms[i]=true:=by
   unfold ZjQ;simp only [hf,Bool.not_true,Bool.false_or,Bool.and_eq_true,Bool.or_eq_true];refine⟨?_,?_⟩
   . cases hw:Ms[i].wh.toList.isEmpty with
     | true=>exact Or.inl rfl
     | false=>exact Or.inr (key _ (Zth hw))
   . cases hw:Ms[i].fr.toList.isEmpty with
     | true=>exact Or.inl rfl
     | false=>exact Or.inr (key _ (Ztg hw))
  rw [hx] at h;cases h
theorem Zlq (lo:Nat) (v rv:Value) (Ms:List Md) (kind field:Zy_) (row:List Zy_) (w:World) (hv:Zbc lo w v Ms) (hr:Zaf w rv row) :
 Calls prog 202 #[v,.string kind,.string field,rv] w fun e w'=>e=.returned (.bool (ZfS Ms kind field row))/\Zw_ w w':=by
 have HR:=Zab hr;obtain⟨ra,rn,rcap,rfl⟩:=hr.form;clear hr
 by_cases hL:Ms=[]
 . subst hL
   obtain⟨a,cap,rfl⟩:=hv.form;clear hv;have HQ:Hd (ZfS [] kind field row=true):=rfl;go_enter func202,ntmps202;go_wp2
   go_loop [9] (fun i=>i=.int .i64 0) (fun _=>0)
   case atStart=>rfl
   case round=>
    subst hrel;go_wp2;go_ret;exact⟨Zaa HQ.o.symm,Below.refl _ _⟩
 obtain⟨b,off,cap,rfl,hm,hbw,_,hc⟩:=hv.full hL;clear hv;unfold maxLen at hm;go_enter func202,ntmps202;go_wp2
 go_loopw [9] (fun i wr=>∃ k:Nat,i=.int .i64 k/\k<=Ms.length/\Zw_ w wr/\∀ i (h:i < Ms.length),i < k->ZjQ kind field row Ms[i]=true) (fun i _=>Ms.length - (intOf i).toNat)
 case atStart=>exact⟨0,rfl,by omega,Below.refl _ _,fun i _ h=>by omega⟩
 case round=>
  obtain⟨k,rfl,hk,hb,hall⟩:=hrel;have HA:=Zab hall;have HB:=Zab hb;clear hall hb
  by_cases hlt:k < Ms.length
  . obtain⟨_,hcell⟩:=hc k hlt
    obtain⟨c0,c1,c2,c3,c4,c5⟩:=hcell.below HB.o hbw;clear hcell;have HB1:∀ o,Hd (Zw_ w (wr.alloc o)):=fun o=>HB.o.alloc HB.o.size _
    have HNX:Hd (ZjQ kind field row Ms[k]=true->∀ i (h:i < Ms.length),i < k+1->ZjQ kind field row Ms[i]=true):=fun h i hi hik=>by
     by_cases e:i=k
     . subst e;exact h
     . exact HA.o i hi (by omega)
    cases hk1:(Ms[k].kind.toList == kind.toList) with
    | false=>
     go_wp2;go_roundw
     . exact⟨k+1,by go_num,by omega,(HB1 _).o,HNX.o (by unfold ZjQ Zc9;simp [hk1])⟩
     . simp [intOf];omega
    | true=>
     cases hf1:(Ms[k].field.toList == field.toList) with
     | false=>
      go_wp2;go_roundw
      . exact⟨k+1,by go_num,by omega,(HB1 _).o,HNX.o (by unfold ZjQ Zc9;simp [hk1,hf1])⟩
      . simp [intOf];omega
     | true=>
      cases hwe:Ms[k].wh.toList.isEmpty with
      | true=>
       cases hfe:Ms[k].fr.toList.isEmpty with
       | true=>
        go_wp2;go_roundw
        . exact⟨k+1,by go_num,by omega,(HB1 _).o,HNX.o (by unfold ZjQ Zc9;simp [hk1,hf1,hwe,hfe])⟩
        . simp [intOf];omega
       | false=>
        go_wp2_with fail;refine (ZeH _ row Ms[k].fr _ (HR.o.below (HB1 _).o)).mono ?_;rintro e w1 ⟨rfl,rfl⟩
        cases hfh:ZeS row Ms[k].fr with
        | true=>
         go_wp2;go_roundw
         . exact⟨k+1,by go_num,by omega,(HB1 _).o,HNX.o (by unfold ZjQ Zc9;simp [hk1,hf1,hwe,hfe,hfh])⟩
         . simp [intOf];omega
        | false=>
         go_wp2;go_ret;exact⟨Zaa (ZhG hlt (by unfold ZjQ Zc9;simp [hk1,hf1,hwe,hfe,hfh])).symm,(HB1 _).o⟩
      | false=>
       go_wp2_with fail;refine (ZeH _ row Ms[k].wh _ (HR.o.below (HB1 _).o)).mono ?_;rintro e w1 ⟨rfl,rfl⟩
       cases hwh:ZeS row Ms[k].wh with
       | false=>
        go_wp2;go_ret;exact⟨Zaa (ZhG hlt (by unfold ZjQ Zc9;simp [hk1,hf1,hwe,hwh])).symm,(HB1 _).o⟩
       | true=>
        cases hfe:Ms[k].fr.toList.isEmpty with
        | true=>
         go_wp2;go_roundw
         . exact⟨k+1,by go_num,by omega,(HB1 _).o,HNX.o (by unfold ZjQ Zc9;simp [hk1,hf1,hwe,hwh,hfe])⟩
         . simp [intOf];omega
        | false=>
         go_wp2_with fail;refine (ZeH _ row Ms[k].fr _ (HR.o.below (HB1 _).o)).mono ?_;rintro e w1 ⟨rfl,rfl⟩
         cases hfh:ZeS row Ms[k].fr with
         | true=>
          go_wp2;go_roundw
          . exact⟨k+1,by go_num,by omega,(HB1 _).o,HNX.o (by unfold ZjQ Zc9;simp [hk1,hf1,hwe,hwh,hfe,hfh])⟩
          . simp [intOf];omega
         | false=>
          go_wp2;go_ret;exact⟨Zaa (ZhG hlt (by unfold ZjQ Zc9;simp [hk1,hf1,hwe,hwh,hfe,hfh])).symm,(HB1 _).o⟩
  . go_wp2
    go_ret;exact⟨Zaa (Zrs fun i h=>HA.o i h (by omega)).symm,HB.o⟩
structure ZdV (base:Nat) (W:World) (v:Value) (R:List Zy_):Prop where
 row:W.ownsRow base 9 1 v R.length (R.map Value.string)
 sz:∀ s ∈ R,s.size<=maxLen
theorem ZdV.form {R:List Zy_} (h:ZdV base W v R):∃ a cap,v=.slice a R.length cap:=by
 rcases h.row.2 with ⟨hv,hn⟩ | ⟨g,cap,cur,hv,_⟩
 . rw [hn];exact⟨_,_,hv⟩
 . exact⟨_,_,hv⟩
theorem ZdV.below {W':World}{R:List Zy_} (h:ZdV base W v R) (hb:Below W.heap.size W W'):ZdV base W' v R:=by
 refine⟨⟨h.row.1,?_⟩,h.sz⟩
 rcases h.row.2 with hv | ⟨g,cap,cur,hv,h1,h2,h3⟩
 . exact Or.inl hv
 . have hg:g < W.heap.size:=by
    rcases Nat.lt_or_ge g W.heap.size with h | h
    . exact h
    . rw [Array.getElem?_eq_none h] at h2;cases h2
   exact Or.inr ⟨g,cap,cur,hv,h1,by rw [hb.block g hg];exact h2,h3⟩
theorem ZdV.strs {R:List Zy_} (h:ZdV base W v R):Zaf W v R:=by
 rcases h.row.2 with ⟨hv,hn⟩ | ⟨g,cap,cur,hv,h1,h2,h3,h4,h5,h6⟩
 . exact Or.inl ⟨none,0,hv,List.length_eq_zero_iff.1 hn⟩
 . by_cases hR:R=[]
   . subst hR;exact Or.inl ⟨_,_,hv,rfl⟩
   . have hg:g < W.heap.size:=by
      rcases Nat.lt_or_ge g W.heap.size with h | h
      . exact h
      . rw [Array.getElem?_eq_none h] at h2;cases h2
     refine Or.inr ⟨g,0,cap,hv,hR,Nat.le_trans h3 h4,hg,fun i hi=>?_,h.sz⟩;rw [Nat.zero_add,cell_of_row W g i cur 9 (0,0) h2];have:(cur.toList.take (R.length*1))[i]?=(R.map Value.string)[i]?:=by rw [h6]
     rw [List.getElem?_take_of_lt (by omega)] at this
     simpa [hi] using this
theorem ZdV.mono {base':Nat}{R:List Zy_} (h:ZdV base W v R) (hb:base'<=base):ZdV base' W v R:=by
 refine⟨⟨h.row.1,?_⟩,h.sz⟩
 rcases h.row.2 with hv | ⟨g,cap,cur,hv,h1,h2⟩
 . exact Or.inl hv
 . exact Or.inr ⟨g,cap,cur,hv,Nat.le_trans hb h1,h2⟩
theorem ZdV.nil (base:Nat) (W:World):ZdV base W (.slice none 0 0) []:=⟨World.ownsRow_nil _ _ _ _,fun s h=>by simp at h⟩
theorem ZdV.made (W:World) (g:Nat) (hg:W.heap.size=g) (hb:base<=g):ZdV base (W.alloc (.cells #[] 9)) (.slice (some ⟨g,0,none⟩) 0 0) []:=by
 subst hg;exact⟨World.ownsRow_made (base:=base) (e:=9) (size:=1) W #[] 0 hb Zz_ (by simp),fun s h=>by simp at h⟩
theorem ZdV.grown {R:List Zy_} (h:ZdV base W v R) (hg:W.grownBy w' v.ownBlock) (hb:base<=W.heap.size):Below base W w':=by
 refine⟨hg.os,hg.tape,hg.output,hg.size,fun k hk=>hg.block k (by omega) ?_⟩
 rcases h.row.2 with ⟨hv,_⟩ | ⟨g,cap,cur,hv,h1,_⟩
 . rw [hv];intro e;cases e
 . rw [hv];intro e
   have:k=g:=by simpa [Value.ownBlock] using e
   omega
theorem ZdV.snoc {v':Value}{R:List Zy_}{s:Zy_} (h:ZdV base W v R) (hown:w'.ownsRow base 9 1 v' (R.length+1) (R.map Value.string ++ [.string s])) (hs:s.size<=maxLen):ZdV base w' v' (R ++ [s]):=by
 refine⟨by rw [List.length_append,List.map_append];exact hown,fun t ht=>?_⟩
 rcases List.mem_append.1 ht with h1 | h1
 . exact h.sz t h1
 . rw [List.mem_singleton.1 h1];exact hs
theorem ZfI (X:World) (g:Nat) (u:Value) (t:TypeId) (hg:X.heap.size=g):∀ j x,[u][j]?=some x->(X.alloc (.cells #[u] t)).cell? ((⟨g,0,none⟩:Addr).add j)=some x:=by
 subst hg;intro j x hj;rw [Go.WideShapes.add_plain,Nat.zero_add]
 cases j with
 | zero=>simp at hj;subst hj;simp
 | succ j=>simp at hj
theorem Zd4 (s:Zy_):∀ u ∈ [Value.string s],u.oneCell'=true:=fun u hu=>by rw [List.mem_singleton.1 hu];rfl
def Zep (Fs:List Fd) (rd:Zy_->List Zy_) (R:List Zy_) (k:Nat):Prop:=∀ i (h:i < Fs.length),i < k->Fs[i].nm ∈ R\/¬ ∀ r ∈ rd Fs[i].nm,r ∈ R
theorem Zep.stuck {rd:Zy_->List Zy_}{R:List Zy_} (h:Zep Fs rd R k) (hk:Fs.length<=k):ZiZ (ZaC Fs) rd R:=by
 intro x hx hn;obtain⟨i,hi,rfl⟩:=Zcy.1 hx
 rcases h i hi (by omega) with h1 | h1
 . exact absurd h1 hn
 . exact h1
theorem Zep.succ {rd:Zy_->List Zy_}{R:List Zy_} (h:Zep Fs rd R k) (hk:k < Fs.length) (hx:Fs[k].nm ∈ R\/¬ ∀ r ∈ rd Fs[k].nm,r ∈ R):Zep Fs rd R (k+1):=by
 intro i hi hik
 by_cases e:i=k
 . subst e;exact hx
 . exact h i hi (by omega)
theorem ZeJ (Fs:List Fd):(ZaC Fs).length=Fs.length:=by simp [ZaC]
theorem Zjd {rd:Zy_->List Zy_}{R:List Zy_} (h:ZcW (ZaC Fs) rd R):R.length<=Fs.length:=by
 have:=List.Nodup.length_le_of_subset h.nodup h.sub
 rwa [ZeJ] at this
def ZqJ (x:Sh) (Ms:List Md) (R:List Zy_):Prop:=
 ZcW (ZaC x.fields) (Zam x.kind Ms) R/\R.length<=x.fields.length/\(R.length=x.fields.length↔Zbq Ms x=true)
theorem ZqJ.mk' {x:Sh}{R:List Zy_} (hg:ZcW (ZaC x.fields) (Zam x.kind Ms) R) (hn:x.fields.length<=n) (h:R.length=n\/ZiZ (ZaC x.fields) (Zam x.kind Ms) R):ZqJ x Ms R:=by
 have hl:=Zjd hg;refine⟨hg,hl,fun e=>Zmy hg (by rw [ZeJ];omega),fun hb=>?_⟩
 rcases h with h | h
 . omega
 . rcases Nat.lt_or_ge R.length x.fields.length with hlt | hge
   . unfold Zbq at hb
     rw [ZpU h (by rw [ZeJ];exact hlt)] at hb;cases hb
   . omega
end Go.Proofs.YtmappejlmapboaaGreat
