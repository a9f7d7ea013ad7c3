import Derived.Test.YtdeammfdkaomlaaGreatM37
import Derived.Test.YtdeammfdkaomlaaGreatM38
import Derived.Deep.RegionLaw
import Derived.ProofKit
import Derived.Deep.Strs
import Derived.Deep.RegionHeld
import Derived.ChangeSlices
set_option maxHeartbeats 16000000
set_option maxRecDepth 100000
open Go.Proofs.Tryz
namespace Go.Proofs.YtdeammfdkaomlaaGreat
section
open Go.RowKit Go.Deep
theorem Zkv:(prog.info? 54).map (·.size)=some 18:=by kernel_rfl
theorem szA {cs:List Value} (h:cs.length=18):(prog.info? 61).map (·.size)=some cs.toArray.size:=by rw [List.size_toArray,h];exact ZaA
end
section
open Go.RowKit Go.Deep
def Zax (U:Rr) (M:Rm):List Rm:=(List.range U.of.toNat).filterMap fun (i:Nat)=>if (i:Int)+1=U.nu then none else some { M with fr:=U.nu,tt:=(i:Int)+1 }
def Zev (U:Rr):Rr:={ U with sf:=U.dk }
def Zg6 (U:Rr):Rr:={ U with wi:=U.wi.filter fun t=>!Zdd (U.dk.sl.take U.dk.kn.toNat) t }
def Zgy (U:Rr):Rr:={ U with hd:=if U.hd < 1000000 then U.hd+1 else U.hd }
def Zew (U:Rr):Rr:=if (U.ty&&decide (U.sf.pr=U.ba))=true then Zb1 U U.nu U.dk.sl else U
def ack1 (L:List Rs) (V:Rr) (i:Nat):Rr:=match L[i]? with
 | some s=>if s.ba=V.ba then ZcR V ((i:Int)+1) V.nu else V
 | none=>V
def ZbW (U:Rr) (k:Nat):Rr:=(List.range k).foldl (ack1 U.sf.sl) U
def wsh1 (V:Rr) (t:Zy_):Rr:=if (!Zdd V.dk.sl t&&decide (V.dk.sl.length < 120))=true then ZdA V (V.dk.sl.length+1) ⟨V.ba,t⟩ else V
def ZeQ (U:Rr) (k:Nat):Rr:=(U.wi.take k).foldl wsh1 U
def ZcT (U:Rr):Rm:=⟨5,0,0,U.ba,0,U.dk.kn,⟨#[]⟩,[]⟩
def Zcp (U:Rr) (i:Nat):Rm:=⟨3,0,0,U.ba,(i:Int)+1,0,match U.dk.sl[i]? with | some s=>s.tx | none=>⟨#[]⟩,[]⟩
def Zb6 (U:Rr) (k:Nat):List Rm:=(List.range k).flatMap fun (i:Nat)=>Zax U (Zcp U (U.dk.kn.toNat+i))
def Zcj (U:Rr):List Rm:=Zax U (ZcT U) ++ Zb6 U (U.dk.sl.length - U.dk.kn.toNat)
def leadT (U:Rr):Rr:=ZeQ (ZbW U U.sf.sl.length) (ZbW U U.sf.sl.length).wi.length
def Zfy (b:Int):Rm:=⟨1,0,0,b,0,0,⟨#[]⟩,[]⟩
def Zgx (U:Rr) (b:Int):Rr:={ U with dk:={ U.dk with pr:=b },ba:=b,ty:=true }
def Zj2 (U:Rr) (b:Int):Rr:=if 0 < b then (Zax (Zgx { Za7 U with hd:=0 } b) (Zfy b)).foldl Zbl (Zgx { Za7 U with hd:=0 } b) else { Za7 U with hd:=0 }
def Zbp (U:Rr):Rr:=Zew (Zgy (Zg6 { Zev U with he:=[] }))
theorem ZdR {X:Type} (f:X->Nat->X) (a:X) (k:Nat):(List.range (k+1)).foldl f a=f ((List.range k).foldl f a) k:=by
 rw [List.range_succ,List.foldl_append]
 rfl
theorem ZcG (U:Rr) (k:Nat):ZbW U (k+1)=ack1 U.sf.sl (ZbW U k) k:=ZdR _ _ _
theorem Zer (U:Rr) {k:Nat} (h:k < U.wi.length):ZeQ U (k+1)=wsh1 (ZeQ U k) U.wi[k]:=by
 unfold ZeQ;rw [List.take_succ_eq_append_getElem h,List.foldl_append]
 rfl
theorem ZcO (U:Rr) (k:Nat):Zb6 U (k+1)=Zb6 U k ++ Zax U (Zcp U (U.dk.kn.toNat+k)):=by
 unfold Zb6;rw [List.range_succ,List.flatMap_append];simp
end
section
open Go.RowKit Go.Deep
variable {L:List Rs} {U:Rr} {M:Rm}
def SlZ (L:List Rs):Prop:=∀ s ∈ L,s.tx.size<=maxLen
structure Bz (U:Rr):Prop where
 z0:SlZ U.sf.sl
 l0:U.sf.sl.length<=2000
 z1:SlZ U.dk.sl
 l1:U.dk.sl.length<=2000
 z2:∀ M ∈ U.he,SlZ M.sl/\M.sl.length<=2000/\M.tx.size<=maxLen
 l2:U.he.length<=2000
 z3:∀ t ∈ U.wi,t.size<=maxLen
 l3:U.wi.length<=2000
 l4:U.ye.length<=2000
 z5:SlZ U.be
 l5:U.be.length<=2000
 z6:∀ a ∈ U.ac,a.fr.length<=200000
 l6:U.ac.length<=200000
theorem SlZ.at (h:SlZ L):∀ i (hi:i < L.length),ZaJ L[i]:=fun _ hi=>⟨h _ (List.getElem_mem hi)⟩
theorem Bz.rrz (h:Bz U):RrZ U:=
 ⟨h.z0.at,h.z1.at,fun _ hi=>⟨((h.z2 _ (List.getElem_mem hi)).1).at,(h.z2 _ (List.getElem_mem hi)).2.2⟩,fun _ hi=>h.z3 _ (List.getElem_mem hi),h.z5.at⟩
theorem ZcE (h:L.length<=2000):Zbn L:=⟨by omega,fun _ _=>rfl⟩
theorem Bz.small (h:Bz U):Zba U:=by
 have h3:=h.l3;have h4:=h.l4;have h6:=h.l6;have h2:=h.l2;refine⟨ZcE h.l0,ZcE h.l1,⟨by omega,fun i hi=>ZcE (h.z2 _ (List.getElem_mem hi)).2.1⟩,?_,?_,ZcE h.l5,⟨by omega,fun i hi=>?_⟩⟩
 . unfold Zbo;omega
 . unfold ZaS;omega
 . have:=h.z6 _ (List.getElem_mem hi)
   unfold Zcn ZaS;omega
theorem ZcJ:(⟨#[]⟩:Zy_).size<=maxLen:=Nat.zero_le _
theorem Bz.hold (h:Bz U) (h1:SlZ M.sl) (h2:M.sl.length<=2000) (h3:M.tx.size<=maxLen):Bz (Zbl U M):=by
 unfold Zbl
 split
 . rename_i hlt
   refine⟨h.z0,h.l0,h.z1,h.l1,fun x hx=>?_,by simp;omega,h.z3,h.l3,h.l4,h.z5,h.l5,h.z6,h.l6⟩
   rcases List.mem_append.1 hx with hx | hx
   . exact h.z2 x hx
   . rw [List.mem_singleton.1 hx];exact⟨h1,h2,h3⟩
 . exact h
theorem Bz.hold0 (h:Bz U) (h1:M.sl=[]) (h3:M.tx.size<=maxLen):Bz (Zbl U M):=h.hold (by rw [h1];intro s hs;simp at hs) (by rw [h1];simp) h3
theorem Bz.calm (h:Bz U):Bz (Za7 U):=⟨h.z0,h.l0,h.z1,h.l1,h.z2,h.l2,h.z3,h.l3,Nat.zero_le _,fun s hs=>by simp [Za7] at hs,Nat.zero_le _,fun a ha=>by simp [Za7] at ha,Nat.zero_le _⟩
theorem Bz.disk {d:Rd} (h:Bz U) (hd:d.sl=U.dk.sl):Bz { U with dk:=d }:=⟨h.z0,h.l0,by show SlZ d.sl;rw [hd];exact h.z1,by show d.sl.length<=_;rw [hd];exact h.l1,h.z2,h.l2,h.z3,h.l3,h.l4,h.z5,h.l5,h.z6,h.l6⟩
theorem Bz.hd (h:Bz U) (x:Int):Bz { U with hd:=x }:=⟨h.z0,h.l0,h.z1,h.l1,h.z2,h.l2,h.z3,h.l3,h.l4,h.z5,h.l5,h.z6,h.l6⟩
theorem ZjL {i:Nat} (s:Rs) (_hi:1<=i):(ZgQ L i s).length=max L.length i:=by
 unfold ZgQ;simp;omega
theorem SlZ.set (h:SlZ L) (i:Nat) {s:Rs} (hs:s.tx.size<=maxLen):SlZ (ZgQ L i s):=by
 intro x hx;unfold ZgQ at hx
 rcases List.mem_or_eq_of_mem_set hx with hx | hx
 . rcases List.mem_append.1 hx with hx | hx
   . exact h x hx
   . rw [(List.mem_replicate.1 hx).2];exact ZcJ
 . rw [hx];exact hs
theorem Bz.set (h:Bz U) {i:Nat} (hi:1<=i) (hi2:i<=2000) {s:Rs} (hs:s.tx.size<=maxLen):Bz (ZdA U i s):=
 ⟨h.z0,h.l0,h.z1.set i hs,by show (ZgQ U.dk.sl i s).length<=_;rw [ZjL s hi];have:=h.l1;omega,h.z2,h.l2,h.z3,h.l3,h.l4,h.z5,h.l5,h.z6,h.l6⟩
theorem Bz.adv1 (h:Bz U) (a:Ra):Bz (adv1 U a):=by
 unfold Go.Proofs.YtdeammfdkaomlaaGreat.adv1
 split
 . exact h.disk rfl
 . exact h
theorem Bz.advs:∀ (L:List Ra) {U:Rr},Bz U->Bz (L.foldl Go.Proofs.YtdeammfdkaomlaaGreat.adv1 U)
 | [],_,h=>h
 | a :: L,_,h=>Bz.advs L (h.adv1 a)
theorem Bz.ack (h:Bz U) (hl:U.ac.length<=100000) (hf:∀ a ∈ U.ac,a.fr.length<=100000) (ix n:Int):Bz (ZcR U ix n):=by
 unfold ZcR Zcv;refine Bz.advs _ ⟨h.z0,h.l0,h.z1,h.l1,h.z2,h.l2,h.z3,h.l3,h.l4,h.z5,h.l5,?_,?_⟩
 . have hi:∀ a ∈ Zcg U.ac ix,a.fr.length<=100000:=by
    unfold Zcg
    split
    . exact hf
    . exact Zf0 hf Zz_
   exact Zc6 hi (fun a h=>by omega) (fun a h=>Nat.le_trans (ZbU _ _) (by omega))
 . show (Zd1 _ _ n).length<=_
   rw [Zc7];unfold Zcg
   split
   . omega
   . simp;omega
theorem SlZ.merge:∀ {a b:List Rs},SlZ a->SlZ b->SlZ (Zas a b)
 | [],b,_,hb=>by rw [Zas];exact hb
 | x :: a,[],ha,_=>by rw [Zas];exact ha
 | x :: a,y :: b,ha,hb=>by
  rw [Zas];intro s hs
  rcases List.mem_cons.1 hs with e | hs
  . rw [e]
    unfold mrg
    split
    . exact hb y (List.mem_cons_self ..)
    . exact ha x (List.mem_cons_self ..)
  . exact SlZ.merge (fun s h=>ha s (List.mem_cons_of_mem _ h)) (fun s h=>hb s (List.mem_cons_of_mem _ h)) s hs
theorem Bz.lead (h:Bz U) {B:List Rs} (hB:SlZ B) (k0:Nat) (hl:B.length<=1999):∀ i,Bz (ZbQ U B k0 i)
 | 0=>h
 | i+1=>by
  unfold ZbQ
  split
  . rename_i s hs
    have hm:=List.mem_of_getElem? hs;have hi:=(List.getElem?_eq_some_iff.1 hs).1;exact (Bz.lead h hB k0 hl i).set (by omega) (by omega) (hB s hm)
  . exact Bz.lead h hB k0 hl i
theorem Bz.prom (h:Bz U) (hy:U.ye.length<=1000) (hb:U.be.length<=1000) {L:List Rs} (hL:SlZ L) (hl:L.length<=1000) (n:Int):Bz (Zb1 U n L):=by
 have hbest:Bz (ZbP U n L):=⟨h.z0,h.l0,h.z1,h.l1,h.z2,h.l2,h.z3,h.l3,Nat.le_trans (ZbU _ _) (by omega),h.z5.merge hL,by show (Zas U.be L).length<=_;rw [Zbv];omega,h.z6,h.l6⟩;unfold Zb1
 split
 . exact hbest
 . have hled:Bz (ZdS (ZbP U n L)):=⟨h.z0,h.l0,h.z1,h.l1,h.z2,h.l2,h.z3,h.l3,Nat.zero_le _,fun s hs=>by simp [ZdS,Za7] at hs,Nat.zero_le _,fun a ha=>by simp [ZdS,Za7] at ha,Nat.zero_le _⟩
   exact Bz.lead hled (h.z5.merge hL) _ (by rw [Zbv];omega) _
end
section
open Go.RowKit Go.Deep
variable {L:List Int} {U:Rr} {w:World} {lo hi g:Nat} {v:Value}
theorem Zcq {a b x:Int}:inB a b x=true↔a<=x/\x<=b:=by unfold inB;simp
theorem Zkl {of:Int} (h:Zbq of L=true):∀ k (hk:k < L.length),(k:Int)+1<=L[k]/\L[k]<=of:=by
 have ok:∀ k,k < L.length->Zfw of L k=true:=fun k hk=>by
  unfold Zbq at h;exact List.all_eq_true.1 h k (List.mem_range.2 hk)
 intro k
 induction k with
 | zero=>
  intro hk;have:=ok 0 hk;unfold Zfw at this;simp only [Bool.and_eq_true,Zcq,List.getD_eq_getElem?_getD,List.getElem?_eq_getElem hk,Option.getD_some] at this;exact⟨by simpa using this.1.1,this.1.2⟩
 | succ k ih=>
  intro hk;have hk':k < L.length:=by omega
  have hp:=ih hk';have:=ok (k+1) hk;unfold Zfw at this;simp only [Bool.and_eq_true,Zcq,List.getD_eq_getElem?_getD,List.getElem?_eq_getElem hk,Nat.add_sub_cancel,List.getElem?_eq_getElem hk',Option.getD_some,Bool.not_eq_true',Bool.and_eq_false_iff,decide_eq_false_iff_not] at this;obtain⟨⟨_,h2⟩,h3⟩:=this;refine⟨?_,h2⟩
  rcases h3 with h3 | h3
  . omega
  . omega
theorem Ze2 {of:Int} (h:Zbq of L=true) (hof:of<=5):L.length<=5:=by
 rcases Nat.eq_zero_or_pos L.length with e | e
 . omega
 . have:=Zkl h (L.length - 1) (by omega)
   omega
theorem ZfM {of:Int}{L:List Ra} (h:ZbH of L=true):∀ k (hk:k < L.length),((k:Int)+1<=L[k].ix/\L[k].ix<=120)/\Zbq of L[k].fr=true:=by
 have ok:∀ k,k < L.length->ZgV of L k=true:=fun k hk=>by
  unfold ZbH at h;exact List.all_eq_true.1 h k (List.mem_range.2 hk)
 intro k
 induction k with
 | zero=>
  intro hk;have:=ok 0 hk;unfold ZgV at this;simp only [Bool.and_eq_true,Zcq,ZbZ hk] at this;exact⟨⟨by simpa using this.1.1,this.1.2⟩,this.2.1⟩
 | succ k ih=>
  intro hk;have hk':k < L.length:=by omega
  have hp:=ih hk';have:=ok (k+1) hk;unfold ZgV at this;simp only [Bool.and_eq_true,Zcq,ZbZ hk,Nat.add_sub_cancel,ZbZ hk',Bool.not_eq_true',Bool.and_eq_false_iff,decide_eq_false_iff_not] at this;obtain⟨⟨_,h2⟩,h4,h3⟩:=this;refine⟨⟨?_,h2⟩,h4⟩
  rcases h3 with h3 | h3
  . omega
  . omega
theorem Zgt {of:Int}{L:List Ra} (h:ZbH of L=true):L.length<=120:=by
 rcases Nat.eq_zero_or_pos L.length with e | e
 . omega
 . have:=ZfM h (L.length - 1) (by omega)
   omega
theorem Zeo {L:List Rs} (h:ZaI L=true):L.length<=120:=by
 unfold ZaI at h;simp only [Bool.and_eq_true,decide_eq_true_eq] at h;exact h.1
theorem Zgz {D:Rd} (h:ZaW D=true):D.sl.length<=120:=by
 unfold ZaW at h;simp only [Bool.and_eq_true] at h;exact Zeo h.2.1
theorem SlZ.of {L:List Rs} (h:∀ i (hi:i < L.length),ZaJ L[i]):SlZ L:=fun s hs=>by
 obtain⟨i,hi,rfl⟩:=List.getElem_of_mem hs;exact (h i hi).s0
structure Zlh (U:Rr):Prop where
 of5:U.of<=5
 sf:U.sf.sl.length<=120
 dk:U.dk.sl.length<=120
 he:U.he.length<=400
 hs:∀ M ∈ U.he,M.sl.length<=120
 wi:U.wi.length<=20
 ye:U.ye.length<=5
 be:U.be.length<=120
 ac:ZbH U.of U.ac=true
theorem Zdi (h:ZaM U=true):Zlh U:=by
 unfold ZaM Ze5 at h;simp only [Bool.and_eq_true,decide_eq_true_eq,Zcq] at h;obtain⟨⟨_,h1⟩,_,h3,h4,h5,h6,_,h8,h9,h10,h11,_⟩:=h;refine⟨h1,Zgz h3,Zgz h4,h5,fun M hM=>?_,?_,Ze2 h9 h1,Zeo h10,h11⟩
 . obtain⟨i,hi,rfl⟩:=List.getElem_of_mem hM
   have:=List.all_eq_true.1 h8 i (List.mem_range.2 hi);unfold ZbS at this;rw [List.getElem?_eq_getElem hi] at this;simp only [Zds,Bool.and_eq_true] at this;exact Zeo this.1.2.2.2.2.2.2.2
 . unfold ZbC at h6
   simp only [Bool.and_eq_true,decide_eq_true_eq] at h6;exact h6.1
theorem ZjQ (h:ZaM U=true) (hz:RrZ U):Bz U:=by
 have v:=Zdi h;have al:=Zgt v.ac;refine⟨SlZ.of hz.z0,by have:=v.sf;omega,SlZ.of hz.z1,by have:=v.dk;omega,fun M hM=>?_,by have:=v.he;omega,fun t ht=>?_,by have:=v.wi;omega,by have:=v.ye;omega,SlZ.of hz.z5,by have:=v.be;omega,fun a ha=>?_,by omega⟩
 . have hl:=v.hs M hM
   obtain⟨i,hi,rfl⟩:=List.getElem_of_mem hM;exact⟨SlZ.of (hz.z2 i hi).1,by omega,(hz.z2 i hi).2⟩
 . obtain⟨i,hi,rfl⟩:=List.getElem_of_mem ht
   exact hz.z3 i hi
 . obtain⟨i,hi,rfl⟩:=List.getElem_of_mem ha
   have:=Ze2 (ZfM v.ac i hi).2 v.of5
   omega
theorem MR.ng {L:List MX} (h:MR w lo hi g v L):ZbO PM mxL 8 w lo hi v L:=by
 obtain⟨c,h1,h2,h3⟩:=h.inn;exact Or.inr ⟨g,c,h.row,h.low,h.up,⟨h1,h2,fun i hi=>Or.inr (h3 i hi)⟩⟩
theorem AR.ng {L:List AX} (h:AR w lo hi g v L):ZbO PA axL 2 w lo hi v L:=by
 obtain⟨c,h1,h2,h3⟩:=h.inn;exact Or.inr ⟨g,c,h.row,h.low,h.up,⟨h1,h2,fun i hi=>Or.inr (h3 i hi)⟩⟩
theorem Cpy.cpn {c:Nat->Nat×Nat}{v0 v1 v2 v3 v4 v5 v6:Value} (h:Cpy w lo c v0 v1 v2 v3 v4 v5 v6 U):Cpn w lo c v0 v1 v2 v3 v4 v5 v6 U:=by
 obtain⟨g2,L2,h2,e2⟩:=h.o2;obtain⟨g6,L6,h6,e6⟩:=h.o6;exact⟨h.seg,h.ap,Or.inr h.o0,Or.inr h.o1,⟨L2,h2.ng,e2⟩,Or.inr h.o3,Or.inr h.o4,Or.inr h.o5,⟨L6,h6.ng,e6⟩⟩
end
section
open Go.RowKit Go.Deep
abbrev tkC (γ ρ:Nat) (sv:Value):Array Value:=#[.pointer (some ⟨γ,0,none⟩),.func (.func 177) #[] #[.pointer (some ⟨ρ,0,none⟩)],sv]
theorem Zg3 (K:Nat->Prop) (lo:Nat) (w:World) (γ ρ τ:Nat) (U:Rr) (sv:Value) (h:Wk K lo w γ ρ U) (tb:Box w τ (tkC γ ρ sv)) (h0:0<=U.hd) (h1:U.hd<=1000000) :
 Calls prog 181 #[.pointer (some ⟨τ,0,none⟩)] w fun e w'=>e=.returned (.tuple #[])/\Zag K w w'/\Wk K lo w' γ ρ (Zgy U):=by
 obtain⟨⟨b,m,S,hR⟩,kr,rb⟩:=h;have HR:=Zaa hR;have RB:=Zaa rb;have x0:w.cell? ⟨τ,0,none⟩=some (.pointer (some ⟨γ,0,none⟩)):=tb.cell 0;have x17:w.cell? ⟨γ,17,none⟩=some (.int .i64 U.hd):=hR.box.cell 17;have gf:=hR.box.free;obtain⟨hd,hhd⟩:∃ hd,hd=U.hd:=⟨_,rfl⟩
 rw [<- hhd] at x17 h0 h1;have HH:=Zaa hhd;clear hR rb tb hhd;go_enter func181,ntmps181;have hw1:IntKind.wrap .i64 (hd+1)=hd+1:=by rw [IntKind.wrap_i64];omega
 go_region
 have e:(min (hd+1) 1000000:Int)=if U.hd < 1000000 then U.hd+1 else U.hd:=by rw [<- HH.o];split <;> omega
 rw [e];have hp:=HR.o.scal (U':=Zgy U) (j:=17) (v:=.int .i64 (if U.hd < 1000000 then U.hd+1 else U.hd)) (by show 17 < 18;omega) rfl (fun _ h=>⟨h.seg,h.ap,h.o0,h.o1,h.o2,h.o3,h.o4,h.o5,h.o6⟩);have hk:Zag K w (w.setCell ⟨γ,17,none⟩ (.int .i64 (if U.hd < 1000000 then U.hd+1 else U.hd))).drew:=hp.2.trans (Zag.below Zb_.drew (fun k hk=>(hp.1.prot k hk).1))
 go_end0
 exact⟨rfl,hk,⟨⟨b,m,S,hp.1.on Zb_.drew⟩,kr,RB.o.kept hk kr⟩⟩
end
section
open Go.RowKit Go.Deep
def ZaB (U:Rr) (M:Rm) (k:Nat):List Rm:=(List.range k).filterMap fun (i:Nat)=>if (i:Int)+1=U.nu then none else some { M with fr:=U.nu,tt:=(i:Int)+1 }
theorem ZbF (U:Rr) (M:Rm) (k:Nat):ZaB U M (k+1)=ZaB U M k ++ (if (k:Int)+1=U.nu then [] else [{ M with fr:=U.nu,tt:=(k:Int)+1 }]):=by
 unfold ZaB;rw [List.range_succ,List.filterMap_append]
 congr 1
 by_cases h:(k:Int)+1=U.nu <;> simp [h]
theorem ZcY (U:Rr) (M:Rm) (k:Nat):(ZaB U M k).length<=k:=by
 have:=List.length_filterMap_le (fun (i:Nat)=>if (i:Int)+1=U.nu then none else some { M with fr:=U.nu,tt:=(i:Int)+1 }) (List.range k);rw [List.length_range] at this;exact this
theorem Zad.past {lo hi l u:Nat}{a b c:World} (h:Zad lo hi a b) (k:Zad l u b c) (hl:(l=lo/\u=hi)\/a.heap.size<=l):Zad lo hi a c:=by
 rcases hl with ⟨rfl,rfl⟩ | hl
 . exact h.trans k
 . exact⟨k.os.trans h.os,k.tape.trans h.tape,k.output.trans h.output,Nat.le_trans h.size k.size,fun i hi' ho=>(k.block i (Zk_ hi' h.size) (Or.inl (by omega))).trans (h.block i hi' ho)⟩
def mx0 (M:Rm):MX:=(M,none,0)
theorem ZcZ (w:World) (U:Rr) (b:Nat->Option Addr) (m:Nat->Nat) (M:Rm) (lx ux:Nat) (v:Value) (L:List MX) (hM:M.sl=[]) (h0:0<=U.of) (h5:U.of<=5) (hL:L.length<=100000) (hux:ux<=w.heap.size) (hv:Zay mxL 8 w lx ux v L) :
 Calls prog 62 #[.agg (rrF U b m).toArray,v,.agg (rmL M none 0).toArray] w fun e w'=>∃ v',e=.returned v'/\Zad lx ux w w'/\(Zay mxL 8 w' lx ux v' (L ++ (Zax U M).map mx0)\/Zay mxL 8 w' w.heap.size w'.heap.size v' (L ++ (Zax U M).map mx0)):=by
 have HV:=Zaa hv;obtain⟨a,c,rfl⟩:=hv.form;obtain⟨cs,hcs⟩:∃ cs,cs=rrF U b m:=⟨_,rfl⟩
 rw [<- hcs];have HCS:=Zaa hcs;have c0:cs.toArray[0]?=some (.int .i64 U.nu):=by rw [hcs];rfl
 have c1:cs.toArray[1]?=some (.int .i64 U.of):=by rw [hcs];rfl
 clear hcs hv;have HM:=Zaa hM
 show Calls prog 62 #[.agg cs.toArray,.slice a L.length c,.agg #[.int .i64 M.kd,.int .i64 M.fr,.int .i64 M.tt,.int .i64 M.ba,.int .i64 M.ix,.int .i64 M.kn,.string M.tx,.slice none M.sl.length 0]] w _
 rw [hM];clear hM;dsimp only [List.length_nil];go_enter func62,ntmps62;go_wp2_with fail;obtain⟨n,hn⟩:∃ n:Nat,U.of=(n:Int):=⟨U.of.toNat,by omega⟩
 have HN:=Zaa hn;have hn5:n<=5:=by omega
 rw [hn] at c1;clear hn h0 h5
 go_loopw [7,1] (fun i q wr=>∃ (k l u:Nat),i=.int .i64 ((k:Int)+1)/\k<=n/\Zad lx ux w wr/\((l=lx/\u=ux)\/(w.heap.size+2<=l/\u<=wr.heap.size))/\Zay mxL 8 wr l u q (L ++ (ZaB U M k).map mx0)/\Box wr w.heap.size cs.toArray/\Box wr (w.heap.size+1) #[.int .i64 M.kd,.int .i64 M.fr,.int .i64 M.tt,.int .i64 M.ba,.int .i64 M.ix,.int .i64 M.kn,.string M.tx,.slice none 0 0])
  (fun i _ _=>10 - (intOf i).toNat)
 case atStart=>
  have hb:Zw_ w ((w.alloc (.cells cs.toArray 61)).alloc (.cells #[.int .i64 M.kd,.int .i64 M.fr,.int .i64 M.tt,.int .i64 M.ba,.int .i64 M.ix,.int .i64 M.kn,.string M.tx,.slice none 0 0] 102)):=bt (Zab _ _) (Zab _ _);exact⟨0,lx,ux,rfl,Nat.zero_le _,Zad.below hb,.inl ⟨rfl,rfl⟩,by rw [show ZaB U M 0=[] from rfl,List.map_nil,List.append_nil];exact HV.o.below hb,(Box.new _ _ _ _ rfl).on (Zab _ _),Box.new _ _ _ _ (by simp)⟩
 case round=>
  obtain⟨k,l,u,rfl,hk,ht,hlu,hrow,hbx,hmx⟩:=hrel;have HT:=Zaa ht;have HLU:=Zaa hlu;have HRO:=Zaa hrow;have FB:=Zaa hbx;have MB:=Zaa hmx;obtain⟨a',c',rfl⟩:=hrow.form;clear ht hlu hrow hbx hmx;obtain⟨nl,hnl⟩:∃ nl,nl=(L ++ (ZaB U M k).map mx0).length:=⟨_,rfl⟩
  rw [<- hnl] at HRO |-;have x0:=(FB.o.cell 0).trans c0;have x1:=(FB.o.cell 1).trans c1
  by_cases hlt:k < n
  . have d1:decide ((k:Int)+1<=(n:Int))=true:=decide_eq_true (by omega)
    by_cases he:(k:Int)+1=U.nu
    . have d2:((k:Int)+1 != U.nu)=false:=by simp [he]
      have HSN:Hd (ZaB U M (k+1)=ZaB U M k):=by unfold Hd;rw [ZbF,if_pos he,List.append_nil]
      have HNL:=Zaa hnl;clear he hnl;go_wp2;go_roundw
      . exact⟨k+1,l,u,by go_num,by omega,HT.o,HLU.o,by rw [HSN.o];exact HRO.o,FB.o,MB.o⟩
      . simp [intOf];omega
    . have d2:((k:Int)+1 != U.nu)=true:=by simp [he]
      have HSN:Hd (ZaB U M (k+1)=ZaB U M k ++ [{ M with fr:=U.nu,tt:=(k:Int)+1 }]):=by unfold Hd;rw [ZbF,if_neg he]
      have HNL:=Zaa hnl;clear he hnl;have zz:=MB.o.cell;have fl:=FB.o.lt;have gA:∀ o,(wr.alloc o).cell? ⟨w.heap.size,0,none⟩=some (.int .i64 U.nu):=fun o=>by rw [ZeV _ _ _ _ fl];exact x0
      go_wp2_with (at_builtin;refine Hd.o ?_);clear zz gA x0 x1;obtain⟨w2,hw2,SB,HB2⟩:∃ w2,w2=(wr.alloc (.cells #[.int .i64 M.kd,.int .i64 U.nu,.int .i64 ((k:Int)+1),.int .i64 M.ba,.int .i64 M.ix,.int .i64 M.kn,.string M.tx,.slice none 0 0] 102)).alloc (.cells #[.int .i64 M.kd,.int .i64 U.nu,.int .i64 ((k:Int)+1),.int .i64 M.ba,.int .i64 M.ix,.int .i64 M.kn,.string M.tx,.slice none 0 0] 102)/\Hd (Box w2 (wr.heap.size+1) #[.int .i64 M.kd,.int .i64 U.nu,.int .i64 ((k:Int)+1),.int .i64 M.ba,.int .i64 M.ix,.int .i64 M.kn,.string M.tx,.slice none 0 0])/\Hd (Below wr.heap.size wr w2):=⟨_,rfl,Box.new _ _ _ _ (by simp),bt (Zab _ _) (Zab _ _)⟩
      rw [<- hw2];clear hw2;have hs2:=HB2.o.size;have ml:=MB.o.lt;replace HRO:=Zaa (HRO.o.below HB2.o);replace FB:=Zaa (FB.o.on HB2.o);replace MB:=Zaa (MB.o.on HB2.o);replace HT:Hd (Zad lx ux w w2):=HT.o.trans (Zad.below HB2.o);have HBD:Hd ((L ++ (ZaB U M k).map mx0).length+1<=10000000):=by unfold Hd;have:=ZcY U M k;simp only [List.length_append,List.length_map];omega
      refine Zaa ?_
      refine Zdj Zb3 (by decide) underlying32 Zcz rfl (w:=w2) (lo:=l) (hi':=u) [mx0 { M with fr:=U.nu,tt:=(k:Int)+1 }] rfl (.tmp 25) (.tmp 27) rfl rfl HRO.o (some ⟨wr.heap.size+1,0,none⟩) 1 1 rfl rfl (fun e=>by cases e) (fun ad e j x hx=>by
       cases e
       rw [Addr.add_lit,Nat.zero_add,SB.o.cell j]
       simpa [Zai,mxL,rmL,mx0,HM.o] using hx) (Zdt _) HBD.o (by decide) ?_
      intro v' w3 ht3 hr3;have HT3:=Zaa ht3;have HR3:=Zaa hr3;have hs3:=ht3.size;clear ht3 hr3 HRO SB HBD;go_wp2;go_roundw
      . 
       have hlu:=HLU.o;have hT:Zad lx ux w w3:=HT.o.past HT3.o (hlu.imp id fun h=>by omega);have hF:Box w3 w.heap.size cs.toArray:=FB.o.tch2 HT3.o (by omega);have hM3:=MB.o.tch2 HT3.o (by omega)
       rcases HR3.o with h | h
       . exact⟨k+1,l,u,by go_num,by omega,hT,hlu.imp id fun h=>⟨h.1,by omega⟩,by rw [HSN.o,List.map_append,<- List.append_assoc];exact h,hF,hM3⟩
       . exact⟨k+1,w2.heap.size,w3.heap.size,by go_num,by omega,hT,.inr ⟨by omega,Nat.le_refl _⟩,by rw [HSN.o,List.map_append,<- List.append_assoc];exact h,hF,hM3⟩
      . simp [intOf];omega
  . have d1:decide ((k:Int)+1<=(n:Int))=false:=decide_eq_false (by omega)
    have hkn:k=n:=by omega
    have HE:Hd (Zax U M=ZaB U M k):=by unfold Hd Zax ZaB;rw [HN.o,hkn];rfl
    go_wp2;go_ret;refine⟨_,rfl,HT.o,?_⟩;rw [HE.o]
    rcases HLU.o with ⟨rfl,rfl⟩ | h
    . exact .inl HRO.o
    . exact .inr (HRO.o.wide (by omega) h.2)
end
section
open Go.RowKit Go.Deep
theorem Zez {X:Type}{f:X->List Value}{n bytes:Nat} (hf:∀ x,(f x).length=n) (hn:0 < n) {t e:TypeId} {z:Value} (ht:prog.underlying t=some (.slice e)) (hi:(prog.info? e).map (fun i=>(i.zero,i.size,i.bytes))=some (some z,n,bytes)) (hzs:z.cells.size=n)
 {w:World} {lo hi':Nat} {v:Value} {L:List X} (M:List X) {ops:Array Oper} {o:Oper} {a:Act} {K:Act->World->Prop} {Q:Exit->Act->World->Prop} {E:Prop} (hgd:o.guard=none) (s x:Operand)
 (ho:o.op=.call { callee:=.builtin .append,args:=#[s,x],argTypes:=#[t,t] }) (hs:a.eval s=v) (h:Zay f n w lo hi' v L) (ao:Option Addr) (m c:Nat) (hx:a.eval x=.slice ao m c) (hM:m=M.length) (hm:ao=none->m=0)
 (hsrc:∀ ad,ao=some ad->∀ j u,(Zai f M)[j]?=some u->w.cell? (ad.add j)=some u) (h1:∀ u ∈ Zai f M,u.oneCell'=true) (hb:L.length+M.length<=10000000) (hby:bytes<=1000000)
 (hK:∀ v' w',Zad lo hi' w w'->(Zay f n w' lo hi' v' (L ++ M)\/Zay f n w' w.heap.size w'.heap.size v' (L ++ M))->K (a.put o.dst v') w'):if Region.wanted o (yielded ops a.tmps)=true then Oper.wp prog o a w K Q else E:=by
 obtain⟨v',w',h2,h3,h4⟩:=ZdM hf hn ht hi hzs o.type h ao m c hM hm hsrc h1 hb hby
 exact Zae hgd s x _ ho hs hx h2 (hK v' w' h3 h4)
theorem ZiM (w:World) (γ ρ τ lx ux:Nat) (nu:Int) (M:Rm) (v:Value) (L:List MX) (hM:M.sl=[]) (x0:w.cell? ⟨γ,0,none⟩=some (.int .i64 nu)) (tb:Box w τ (tkC γ ρ v)) (hv:Zay mxL 8 w lx ux v L) (_hux:ux<=w.heap.size) (ht:τ < lx\/ux<=τ) (hL:L.length<=100000) :
 Calls prog 209 #[.pointer (some ⟨τ,0,none⟩),.agg (rmL M none 0).toArray] w fun e w'=>e=.returned (.tuple #[])/\∃ v' lx' ux',Box w' τ (tkC γ ρ v')/\Zay mxL 8 w' lx' ux' v' (L ++ [mx0 { M with fr:=nu }])/\((lx'=lx/\ux'=ux)\/(w.heap.size<=lx'/\ux'<=w'.heap.size))/\Zag (fun k=>k < w.heap.size/\k≠τ/\¬ (lx<=k/\k < ux)) w w':=by
 have HV:=Zaa hv;have HTB:=Zaa tb;obtain⟨av,cv,rfl⟩:=hv.form;have hτ:=tb.lt;have hγ:γ < w.heap.size:=World.block_lt_of_cell? w _ x0
 have hlen:M.sl.length=0:=by rw [hM];rfl
 show Calls prog 209 #[.pointer (some ⟨τ,0,none⟩),.agg #[.int .i64 M.kd,.int .i64 M.fr,.int .i64 M.tt,.int .i64 M.ba,.int .i64 M.ix,.int .i64 M.kn,.string M.tx,.slice none M.sl.length 0]] w _
 rw [hlen];clear hv tb hlen;have y0:∀ o,(w.alloc o).cell? ⟨τ,0,none⟩=some (.pointer (some ⟨γ,0,none⟩)):=fun o=>(HTB.o.on (Zab _ o)).cell 0
 have z0:∀ o,(w.alloc o).cell? ⟨γ,0,none⟩=some (.int .i64 nu):=fun o=>((Zab w o).cell (p:=⟨γ,0,none⟩) hγ).trans x0
 go_enter func209,ntmps209
 go_upto_region 2 with fail
 generalize hwd:World.alloc w _=wd;have MB:Hd (Box wd w.heap.size #[.int .i64 M.kd,.int .i64 nu,.int .i64 M.tt,.int .i64 M.ba,.int .i64 M.ix,.int .i64 M.kn,.string M.tx,.slice none 0 0]):=by unfold Hd;rw [<- hwd];exact Box.new w _ _ _ rfl
 have HB:Hd (Zw_ w wd):=by unfold Hd;rw [<- hwd];exact Zab _ _
 clear hwd y0 z0 x0;replace HV:=Zaa (HV.o.below HB.o);replace HTB:=Zaa (HTB.o.on HB.o);have hsd:w.heap.size < wd.heap.size:=MB.o.lt
 have s1:∀ i,wd.cell? ⟨τ,i,none⟩=(tkC γ ρ (.slice av L.length cv))[i]?:=HTB.o.cell
 have s2:∀ i,wd.cell? ⟨w.heap.size,i,none⟩=#[.int .i64 M.kd,.int .i64 nu,.int .i64 M.tt,.int .i64 M.ba,.int .i64 M.ix,.int .i64 M.kn,.string M.tx,.slice none 0 0][i]?:=MB.o.cell
 have s3:∀ o i,(wd.alloc o).cell? ⟨τ,i,none⟩=(tkC γ ρ (.slice av L.length cv))[i]?:=fun o=>(HTB.o.on (Zab _ o)).cell
 have HML:=Zaa hM;clear hM
 go_region_law (first
  | (refine Zez (X:=MX) (f:=mxL) Zb3 (by decide) underlying32 Zcz rfl [mx0 { M with fr:=nu }] (by rfl) (.tmp 17) (.tmp 19) (by rfl) (by rfl) (HV.o.below ((Zab _ _).drew)) (some ⟨wd.heap.size,0,none⟩) 1 1 (by rfl) (by rfl) (fun h=>by cases h) ?hsrc (Zdt _) (by simp;omega) (by decide) ?_
     case hsrc=>
      intro ad e j u hu;injection e with e
      subst e;rw [Go.WideShapes.add_plain,Nat.zero_add];refine (ZgN _ _ _ _ _ rfl).trans ?_;have hml:=HML.o
      simpa [Zai,mxL,mx0,rmL,hml] using hu
     intro v3 w3 ht3 hrow3;have HT3:Hd (Zad lx ux wd w3):=(Zad.below ((Zab wd _).drew)).trans ht3;have HRW3:=Zaa hrow3;obtain⟨a3,c3,rfl⟩:∃ a3 c3,v3=.slice a3 (L ++ [mx0 { M with fr:=nu }]).length c3:=by rcases hrow3 with h | h <;> exact h.form
     have hb3:=ht3.size;have B3:Hd (Box w3 τ (tkC γ ρ (.slice av L.length cv))):=HTB.o.tch2 HT3.o (by omega);have y3:=B3.o.cell;have f3:=B3.o.free;clear ht3 hrow3))
 all_goals go_end0
 all_goals
  have hts:=Zad.setCell τ (τ+1) w3 ⟨τ,2,none⟩ (.slice a3 (L.length+1) c3) ⟨Nat.le_refl _,Nat.lt_succ_self _⟩;have hz3:=HT3.o.size;have hzs:(w3.setCell ⟨τ,2,none⟩ (.slice a3 (L.length+1) c3)).heap.size=w3.heap.size:=by simp [World.setCell]
  have hkk:Zag (fun k=>k < w.heap.size/\k≠τ/\¬ (lx<=k/\k < ux)) w (w3.setCell ⟨τ,2,none⟩ (.slice a3 (L.length+1) c3)):=
   ((Zag.below HB.o (fun k hk=>hk.1)).trans (Zag.touch HT3.o (fun k hk=>⟨by have:=hk.1;omega,by have:=hk.2.2;omega⟩))).trans (Zag.touch hts (fun k hk=>⟨by have:=hk.1;omega,by have:=hk.2.1;omega⟩))
  have hrw:=HRW3.o;rw [show (L ++ [mx0 { M with fr:=nu }]).length=L.length+1 by simp] at hrw
  rcases hrw with hr | hr
  . exact⟨rfl,_,lx,ux,B3.o.set (k:=2) _ (by simp),hr.touch hts (by omega),Or.inl ⟨rfl,rfl⟩,hkk⟩
  . exact⟨rfl,_,_,_,B3.o.set (k:=2) _ (by simp),hr.touch hts (by simp;omega),Or.inr ⟨by simp;omega,by rw [hzs];exact Nat.le_refl _⟩,hkk⟩
end
section
open Go.RowKit Go.Deep
abbrev ptC (τ:Nat):Array Value:=#[.func (.func 178) #[.pointer (some ⟨τ,0,none⟩)] #[],.func (.func 179) #[.pointer (some ⟨τ,0,none⟩)] #[],.func (.func 180) #[.pointer (some ⟨τ,0,none⟩)] #[],.func (.func 181) #[.pointer (some ⟨τ,0,none⟩)] #[],.func (.func 182) #[.pointer (some ⟨τ,0,none⟩)] #[],.func (.func 183) #[.pointer (some ⟨τ,0,none⟩)] #[],.func (.func 184) #[.pointer (some ⟨τ,0,none⟩)] #[]]
theorem Zhl (w:World) (τ:Nat) :
 Calls prog 153 #[.pointer (some ⟨τ,0,none⟩)] w fun e w'=>e=.returned (.slice (some ⟨w.heap.size,0,none⟩) 7 7)/\Zw_ w w'/\Box w' w.heap.size (ptC τ):=by
 go_enter func153,ntmps153;go_wp2;go_ret;exact⟨rfl,(Zab _ _),(Box.new _ _ _ _ rfl)⟩
end
section
open Go.RowKit Go.Deep
def f7 {X:Type} (a0 a1 a2 a3 a4 a5 a6:X):Nat->X
 | 0=>a0
 | 1=>a1
 | 2=>a2
 | 3=>a3
 | 4=>a4
 | 5=>a5
 | _=>a6
end
section
open Go.ChangeShapes Go.WideShapes Go.ChangeAt Go.RowKit Go.Deep
variable {fuel:Nat}
theorem Tryz.own:ownKnob prog.godebug=none:=by kernel_rfl
theorem Tryz.laidOut:laidOutB prog=true:=by kernel_rfl
theorem Tryz.cells9:prog.cellsOf 9=1:=by kernel_rfl
theorem Tryz.cells3:prog.cellsOf 3=1:=by kernel_rfl
theorem Tryz.cells4:prog.cellsOf 4=1:=by kernel_rfl
theorem Zb2 {α:Type}{p:Nat->α->Prop} (n:Nat):(∀ i,i < n->∃ x,p i x)->∃ L:List α,L.length=n/\∀ i (h:i < L.length),p i L[i]:=by
 induction n with
 | zero=>intro _;exact⟨[],rfl,fun i h=>absurd h (by simp)⟩
 | succ n ih=>
  intro h;obtain⟨L,hl,hL⟩:=ih (fun i hi=>h i (by omega));obtain⟨x,hx⟩:=h n (by omega);refine⟨L ++ [x],by simp [hl],fun i hi=>?_⟩
  by_cases e:i < L.length
  . rw [List.getElem_append_left e];exact hL i e
  . have e2:i=n:=by simp at hi;omega
    subst e2;have:(L ++ [x])[i]=x:=by rw [List.getElem_append_right (by omega)];simp [hl]
    rw [this];exact hx
theorem Tryz.cells159:prog.cellsOf 159=2:=by kernel_rfl
theorem Zk9 {l:List Value} (h:l.length=2):∃ c0 c1,l=[c0,c1]:=by
 match l,h with
 | [c0,c1],_=>exact⟨c0,c1,rfl⟩
section
variable {H:Type} {enc:TypeId×Value->H} {W:World}
theorem Zko {cs:List Value}{x:DataW H×List MemPlace} (h:DataW.trod enc prog W 0 (fun _=>true) true fuel 159 cs=some x) :
 ∃ (x:Rs),cs=[.int .i64 x.ba,.string x.tx]/\ZaJ x:=by
 obtain⟨xs,n,_,_,hl,hlen,hfld⟩:=DataW.trod_struct underlying159 h;obtain⟨c0,c1,rfl⟩:=Zk9 (hl.trans Tryz.cells159);simp only [Array.size,List.length_cons,List.length_nil] at hlen;have g0:DataW.trod enc prog W 0 (fun _=>true) true n 3 ((([c0,c1]:List Value).drop 0).take (prog.cellsOf 3))=xs[0]?:=hfld 0 _ rfl;have g1:DataW.trod enc prog W 0 (fun _=>true) true n 9 ((([c0,c1]:List Value).drop 1).take (prog.cellsOf 9))=xs[1]?:=hfld 1 _ rfl;simp only [Tryz.cells3,Tryz.cells9,List.drop_succ_cons,List.drop_zero,List.take_succ_cons,List.take_zero] at g0 g1;rw [List.getElem?_eq_getElem (by omega)] at g0 g1;obtain⟨q0,e0,_,_⟩:=DataW.trod_int underlying3 g0;obtain⟨q1,e1,_,s1⟩:=DataW.trod_string underlying9 g1;simp only [List.cons.injEq,and_true] at e0 e1;subst e0 e1;exact⟨⟨q0,q1⟩,rfl,⟨s1⟩⟩
theorem Ze3 {c:Value}{x:DataW H×List MemPlace} (h:DataW.trod enc prog W 0 (fun _=>true) true fuel 46 [c]=some x):∃ Xl,Zat 0 W c Xl:=by
 rcases open_slice underlying46 h with ⟨hcs,_⟩ | ⟨a,len,cap,m,n,D,Pl,hcs,_,hl,hm,hmm,_,hx⟩
 . simp only [List.cons.injEq,and_true] at hcs
   exact⟨[],Or.inl ⟨_,_,hcs,rfl⟩⟩
 . simp only [List.cons.injEq,and_true] at hcs
   simp only [if_true] at hmm;subst hmm;rw [Tryz.cells159] at hx
   by_cases h0:len=0
   . subst h0
     exact⟨[],Or.inl ⟨_,_,hcs,rfl⟩⟩
   . obtain⟨Xl,hF,hall⟩:=Zb2 (p:=fun i (x:Rs)=>ZaJ x/\W.cells? 0 (a.add (i*2)) 2=some [.int .i64 x.ba,.string x.tx]) len (fun i hi=>by
      obtain⟨cs',h1,h2⟩:=hx i (by omega);obtain⟨md,e,hz⟩:=Zko h2;rw [e] at h1;exact⟨md,hz,h1⟩)
     obtain⟨b,off,spot⟩:=a
     have hspot:spot=none:=by
      obtain⟨_,h1⟩:=hall 0 (by omega);have:=(World.cells?_some h1).2.2 0 (by omega);rw [Nat.zero_mul] at this;have e0:((⟨b,off,spot⟩:Addr).add 0).add 0=⟨b,off,spot⟩:=by simp [Addr.add]
      rw [e0] at this
      simpa using World.cell?_spot (by simpa using this)
     subst hspot
     have hcell:∀ i (hi:i < Xl.length),W.cells? 0 ((⟨b,off,none⟩:Addr).add (i*2)) 2=some [.int .i64 Xl[i].ba,.string Xl[i].tx]->Zcd W b (off+i*2) Xl[i]:=fun i hi h1=>by
      obtain⟨_,_,hc⟩:=World.cells?_some h1;rw [add_plain] at hc;have q:=fun j (hj:j < 2)=>(add_plain b (off+i*2) j) ▸ hc j hj
      exact⟨by simpa using q 0 (by omega),by simpa using q 1 (by omega)⟩
     have hbw:b < W.heap.size:=by
      obtain⟨_,h1⟩:=hall 0 (by omega);exact World.block_lt_of_cell? W _ (hcell 0 (by omega) h1).c0
     refine⟨Xl,Or.inr ⟨b,off,m,by rw [hcs,hF],?_,by omega,hbw,Nat.zero_le _,by omega,fun i hi=>?_⟩⟩
     . intro e;rw [e] at hF;simp at hF;omega
     . obtain⟨hz,h1⟩:=hall i hi
       exact⟨hz,hcell i hi h1⟩
end
end
open Go.ChangeShapes Go.WideShapes Go.ChangeAt Go.RowKit Go.Deep
variable {l cs:List Value} {fuel:Nat}
theorem Tryz.cells46:prog.cellsOf 46=1:=by kernel_rfl
theorem Tryz.cells48:prog.cellsOf 48=3:=by kernel_rfl
theorem Zk6 (h:l.length=3):∃ c0 c1 c2,l=[c0,c1,c2]:=by
 match l,h with
 | [c0,c1,c2],_=>exact⟨c0,c1,c2,rfl⟩
section
variable {H:Type} {enc:TypeId×Value->H} {W:World}
theorem ZgO {x:DataW H×List MemPlace} (h:DataW.trod enc prog W 0 (fun _=>true) true fuel 48 cs=some x):∃ U,RdC 0 W cs U:=by
 obtain⟨xs,n,_,_,hl,hlen,hfld⟩:=DataW.trod_struct underlying48 h;obtain⟨c0,c1,c2,rfl⟩:=Zk6 (hl.trans Tryz.cells48);simp only [Array.size,List.length_cons,List.length_nil] at hlen;have g0:DataW.trod enc prog W 0 (fun _=>true) true n 3 ((([c0,c1,c2]:List Value).drop 0).take (prog.cellsOf 3))=xs[0]?:=hfld 0 _ rfl;have g1:DataW.trod enc prog W 0 (fun _=>true) true n 3 ((([c0,c1,c2]:List Value).drop 1).take (prog.cellsOf 3))=xs[1]?:=hfld 1 _ rfl;have g2:DataW.trod enc prog W 0 (fun _=>true) true n 46 ((([c0,c1,c2]:List Value).drop 2).take (prog.cellsOf 46))=xs[2]?:=hfld 2 _ rfl;simp only [Tryz.cells3,Tryz.cells46,List.drop_succ_cons,List.drop_zero,List.take_succ_cons,List.take_zero] at g0 g1 g2;rw [List.getElem?_eq_getElem (by omega)] at g0 g1 g2;obtain⟨q0,e0,_,_⟩:=DataW.trod_int underlying3 g0;simp only [List.cons.injEq,and_true] at e0;subst e0
 obtain⟨q1,e1,_,_⟩:=DataW.trod_int underlying3 g1;simp only [List.cons.injEq,and_true] at e1;subst e1;obtain⟨q2,h2⟩:=Ze3 g2;obtain⟨a0,k0,rfl⟩:=h2.form;exact⟨⟨q0,q1,q2⟩,a0,k0,rfl,⟨h2⟩⟩
end
theorem Tryz.cells156:prog.cellsOf 156=8:=by kernel_rfl
theorem Zk7 (h:l.length=8):∃ c0 c1 c2 c3 c4 c5 c6 c7,l=[c0,c1,c2,c3,c4,c5,c6,c7]:=by
 match l,h with
 | [c0,c1,c2,c3,c4,c5,c6,c7],_=>exact⟨c0,c1,c2,c3,c4,c5,c6,c7,rfl⟩
section
variable {H:Type} {enc:TypeId×Value->H} {W:World}
theorem Zjt {x:DataW H×List MemPlace} (h:DataW.trod enc prog W 0 (fun _=>true) true fuel 156 cs=some x):∃ U,RmC 0 W cs U:=by
 obtain⟨xs,n,_,_,hl,hlen,hfld⟩:=DataW.trod_struct underlying156 h;obtain⟨c0,c1,c2,c3,c4,c5,c6,c7,rfl⟩:=Zk7 (hl.trans Tryz.cells156);simp only [Array.size,List.length_cons,List.length_nil] at hlen;have g0:DataW.trod enc prog W 0 (fun _=>true) true n 3 ((([c0,c1,c2,c3,c4,c5,c6,c7]:List Value).drop 0).take (prog.cellsOf 3))=xs[0]?:=hfld 0 _ rfl;have g1:DataW.trod enc prog W 0 (fun _=>true) true n 3 ((([c0,c1,c2,c3,c4,c5,c6,c7]:List Value).drop 1).take (prog.cellsOf 3))=xs[1]?:=hfld 1 _ rfl;have g2:DataW.trod enc prog W 0 (fun _=>true) true n 3 ((([c0,c1,c2,c3,c4,c5,c6,c7]:List Value).drop 2).take (prog.cellsOf 3))=xs[2]?:=hfld 2 _ rfl;have g3:DataW.trod enc prog W 0 (fun _=>true) true n 3 ((([c0,c1,c2,c3,c4,c5,c6,c7]:List Value).drop 3).take (prog.cellsOf 3))=xs[3]?:=hfld 3 _ rfl
 have g4:DataW.trod enc prog W 0 (fun _=>true) true n 3 ((([c0,c1,c2,c3,c4,c5,c6,c7]:List Value).drop 4).take (prog.cellsOf 3))=xs[4]?:=hfld 4 _ rfl;have g5:DataW.trod enc prog W 0 (fun _=>true) true n 3 ((([c0,c1,c2,c3,c4,c5,c6,c7]:List Value).drop 5).take (prog.cellsOf 3))=xs[5]?:=hfld 5 _ rfl;have g6:DataW.trod enc prog W 0 (fun _=>true) true n 9 ((([c0,c1,c2,c3,c4,c5,c6,c7]:List Value).drop 6).take (prog.cellsOf 9))=xs[6]?:=hfld 6 _ rfl;have g7:DataW.trod enc prog W 0 (fun _=>true) true n 46 ((([c0,c1,c2,c3,c4,c5,c6,c7]:List Value).drop 7).take (prog.cellsOf 46))=xs[7]?:=hfld 7 _ rfl;simp only [Tryz.cells3,Tryz.cells9,Tryz.cells46,List.drop_succ_cons,List.drop_zero,List.take_succ_cons,List.take_zero] at g0 g1 g2 g3 g4 g5 g6 g7;rw [List.getElem?_eq_getElem (by omega)] at g0 g1 g2 g3 g4 g5 g6 g7
 obtain⟨q0,e0,_,_⟩:=DataW.trod_int underlying3 g0;simp only [List.cons.injEq,and_true] at e0;subst e0;obtain⟨q1,e1,_,_⟩:=DataW.trod_int underlying3 g1;simp only [List.cons.injEq,and_true] at e1;subst e1;obtain⟨q2,e2,_,_⟩:=DataW.trod_int underlying3 g2;simp only [List.cons.injEq,and_true] at e2;subst e2;obtain⟨q3,e3,_,_⟩:=DataW.trod_int underlying3 g3;simp only [List.cons.injEq,and_true] at e3;subst e3;obtain⟨q4,e4,_,_⟩:=DataW.trod_int underlying3 g4;simp only [List.cons.injEq,and_true] at e4;subst e4;obtain⟨q5,e5,_,_⟩:=DataW.trod_int underlying3 g5;simp only [List.cons.injEq,and_true] at e5;subst e5;obtain⟨q6,e6,_,t6⟩:=DataW.trod_string underlying9 g6;simp only [List.cons.injEq,and_true] at e6;subst e6;obtain⟨q7,h7⟩:=Ze3 g7;obtain⟨a0,k0,rfl⟩:=h7.form;exact⟨⟨q0,q1,q2,q3,q4,q5,q6,q7⟩,a0,k0,rfl,⟨h7,t6⟩⟩
end
end Go.Proofs.YtdeammfdkaomlaaGreat
