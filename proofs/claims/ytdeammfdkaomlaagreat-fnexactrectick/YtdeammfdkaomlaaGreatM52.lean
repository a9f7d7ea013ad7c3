import Derived.Test.YtdeammfdkaomlaaGreatM51
open Go.Proofs.Tryz
namespace Go.Proofs.YtdeammfdkaomlaaGreat
open Go.RowKit Go.Deep
section
variable {V U:Rr} {L:List Rm}
theorem Bz.ack1 (h:Bz V) {c:Nat} (ha:Zc3 c V) (hc:c<=100000) (L:List Rs) (i:Nat):Bz (ack1 L V i):=by
 unfold Go.Proofs.YtdeammfdkaomlaaGreat.ack1
 split
 . split
   . exact h.ack (Nat.le_trans ha.al hc) (fun a h=>Nat.le_trans (ha.ai a h).2.2.1 hc) _ _
   . exact h
 . exact h
theorem Bz.acks (h:Bz U) (ha:Zc3 120 U):∀ k,k<=1000->Bz (ZbW U k)
 | 0,_=>h
 | k+1,hk=>by
  rw [ZcG];exact (Bz.acks h ha k (by omega)).ack1 (ZbK ha k (by omega)).1 (by omega) _ _
theorem Bz.wsh1 (h:Bz V) {t:Zy_} (ht:t.size<=maxLen):Bz (wsh1 V t):=by
 unfold Go.Proofs.YtdeammfdkaomlaaGreat.wsh1
 split
 . rename_i hc
   simp only [Bool.and_eq_true,decide_eq_true_eq] at hc;exact h.set (by omega) (by omega) ht
 . exact h
theorem Bz.wshs:∀ (L:List Zy_) {V:Rr},Bz V->(∀ t ∈ L,t.size<=maxLen)->Bz (L.foldl Go.Proofs.YtdeammfdkaomlaaGreat.wsh1 V)
 | [],_,h,_=>h
 | t :: L,_,h,hL=>Bz.wshs L (h.wsh1 (hL t (List.mem_cons_self ..))) fun t ht=>hL t (List.mem_cons_of_mem _ ht)
theorem Bz.leadT (h:Bz U) (ha:Zc3 120 U) (hs:U.sf.sl.length<=1000):Bz (leadT U):=by
 unfold Go.Proofs.YtdeammfdkaomlaaGreat.leadT;have h1:=h.acks ha U.sf.sl.length hs;unfold ZeQ;exact Bz.wshs _ h1 fun t ht=>h1.z3 t (List.mem_of_mem_take ht)
theorem Bz.holds:∀ (L:List Rm) {U:Rr},Bz U->(∀ M ∈ L,M.sl=[]/\M.tx.size<=maxLen)->Bz (L.foldl Zbl U)
 | [],_,h,_=>h
 | M :: L,_,h,hL=>Bz.holds L (h.hold0 (hL M (List.mem_cons_self ..)).1 (hL M (List.mem_cons_self ..)).2) fun t ht=>hL t (List.mem_cons_of_mem _ ht)
theorem ZcL {M x:Rm} (h:x ∈ Zax U M):x.sl=M.sl/\x.tx=M.tx:=by
 unfold Zax at h;obtain⟨i,_,hi⟩:=List.mem_filterMap.1 h
 split at hi
 . cases hi
 . injection hi with hi;rw [<- hi];exact⟨rfl,rfl⟩
theorem ZeG (U:Rr) (M:Rm):(Zax U M).length<=U.of.toNat:=by
 unfold Zax;exact Nat.le_trans (List.length_filterMap_le _ _) (by simp)
theorem Bz.tryW (h:Bz U):Bz (tryW U):=by
 unfold Go.Proofs.YtdeammfdkaomlaaGreat.tryW
 split
 . exact h
 . unfold Zj2
   split
   . refine Bz.holds _ ?_ fun M hM=>?_
     . exact (h.calm.hd 0).disk (d:={ U.dk with pr:=_ }) rfl |> fun h=>⟨h.z0,h.l0,h.z1,h.l1,h.z2,h.l2,h.z3,h.l3,h.l4,h.z5,h.l5,h.z6,h.l6⟩
     . obtain⟨h1,h2⟩:=ZcL hM
       exact⟨h1,by rw [h2];exact ZcJ⟩
   . exact h.calm.hd 0
theorem Zgi (h:ZaM U=true) (hz:RrZ U):Bz (Zbw U):=by
 have hv:=ZeY h hz;unfold Zbw
 split
 . exact hv.z.leadT hv.ak (by have:=hv.sf;omega)
 . exact hv.z.tryW
def MsZ (L:List Rm):Prop:=L.length<=2000/\∀ M ∈ L,SlZ M.sl/\M.sl.length<=2000/\M.tx.size<=maxLen
theorem MsZ.small (h:MsZ L):ZbJ L:=⟨by have:=h.1;omega,fun i hi=>ZcE (h.2 _ (List.getElem_mem hi)).2.1⟩
theorem MsZ.z (h:MsZ L):∀ i (hi:i < L.length),(∀ j (hj:j < L[i].sl.length),ZaJ L[i].sl[j])/\L[i].tx.size<=maxLen:=
 fun _ hi=>⟨((h.2 _ (List.getElem_mem hi)).1).at,(h.2 _ (List.getElem_mem hi)).2.2⟩
theorem ZfF (U:Rr) (hof:U.of<=5):∀ k,(Zb6 U k).length<=5*k
 | 0=>Nat.zero_le _
 | k+1=>by
  rw [ZcO,List.length_append];have h1:=ZfF U hof k;have h2:=ZeG U (Zcp U (U.dk.kn.toNat+k))
  omega
theorem Zkx (hof:U.of<=5) (hd:U.dk.sl.length<=120) (hz:SlZ U.dk.sl):(Zcj U).length<=605/\∀ M ∈ Zcj U,M.sl=[]/\M.tx.size<=maxLen:=by
 unfold Zcj;refine⟨?_,fun M hM=>?_⟩
 . rw [List.length_append]
   have h1:=ZeG U (ZcT U);have h2:=ZfF U hof (U.dk.sl.length - U.dk.kn.toNat)
   omega
 . rcases List.mem_append.1 hM with hM | hM
   . obtain⟨h1,h2⟩:=ZcL hM
     exact⟨h1,by rw [h2];exact ZcJ⟩
   . unfold Zb6 at hM
     obtain⟨i,_,hi⟩:=List.mem_flatMap.1 hM;obtain⟨h1,h2⟩:=ZcL hi;refine⟨h1,?_⟩;rw [h2];unfold Zcp
     split
     . rename_i s hs
       exact hz s (List.mem_of_getElem? hs)
     . exact ZcJ
theorem Ze7 (h:ZaM U=true) (hz:RrZ U):MsZ (Zb7 U):=by
 have hv:=ZeY h hz;have hu:=(ZdY h hz).1
 have hq:(if (Zbp U).ld=true then Zcj (leadT (Zbp U)) else []).length<=605/\∀ M ∈ (if (Zbp U).ld=true then Zcj (leadT (Zbp U)) else []),M.sl=[]/\M.tx.size<=maxLen:=by
  split
  . have hb:=hv.z.leadT hv.ak (by have:=hv.sf;omega)
    obtain⟨_,kn,AC,e⟩:=ZbK hv.ak (Zbp U).sf.sl.length (by have:=hv.sf;omega);have hd:(ZbW (Zbp U) (Zbp U).sf.sl.length).dk.sl.length<=120:=by rw [e];exact hv.dk
    obtain⟨T,e2,hT,-⟩:=Zcb hd (ZbW (Zbp U) (Zbp U).sf.sl.length).wi.length Zl_;refine Zkx ?_ ?_ hb.z1
    . unfold leadT;rw [e2,e];exact hv.of5
    . unfold leadT;rw [e2];exact hT
  . exact⟨Nat.zero_le _,fun M hM=>by simp at hM⟩
 unfold Zb7;refine⟨by rw [List.length_append];have:=hu.he;have:=hq.1;omega,fun M hM=>?_⟩
 rcases List.mem_append.1 hM with hM | hM
 . exact hu.z.z2 M hM
 . obtain⟨h1,h2⟩:=hq.2 M hM
   exact⟨by rw [h1];intro s hs;simp at hs,by rw [h1];exact Nat.zero_le _,h2⟩
def ZdC (U:Rr):Rr:=if ZaM U then (if U.up then Zbw U else U) else nwU 0 0 false
def ZdD (U:Rr):List Rm:=if (ZaM U&&U.up)=true then Zb7 U else []
theorem Zgh (h:Zba U) (hz:RrZ U):Zba (ZdC U):=by
 unfold ZdC
 split
 . rename_i hv
   split
   . exact (Zgi hv hz).small
   . exact h
 . exact Zjq _ _ _
theorem ZiN (hz:RrZ U):MsZ (ZdD U):=by
 unfold ZdD
 split
 . rename_i hv
   simp only [Bool.and_eq_true] at hv;exact Ze7 hv.1 hz
 . exact⟨Nat.zero_le _,fun M hM=>by simp at hM⟩
end
variable {lo γ:Nat} {w:World} {U:Rr}
theorem Rz.safe {K:Nat->Prop}{w8:World}{b:Nat->Option Addr}{m:Nat->Nat}{S:Nat->Nat->Prop}{a8:Option Addr}{c8:Nat} (h:Rz K lo w γ b m S U) (hb:Zw_ w w8) (hrow:Zay rsL 2 w8 w.heap.size w8.heap.size (.slice a8 U.dk.sl.length c8) U.dk.sl) :
 (∃ b' m' S',Rz K lo (((w8.setCell ⟨γ,3,none⟩ (.int .i64 U.dk.pr)).setCell ⟨γ,4,none⟩ (.int .i64 U.dk.kn)).setCell ⟨γ,5,none⟩ (.slice a8 U.dk.sl.length c8)) γ b' m' S' (Zev U))/\Zag K w8 (((w8.setCell ⟨γ,3,none⟩ (.int .i64 U.dk.pr)).setCell ⟨γ,4,none⟩ (.int .i64 U.dk.kn)).setCell ⟨γ,5,none⟩ (.slice a8 U.dk.sl.length c8)):=by
 have R8:=h.on hb;have hγ:=h.box.lt;have hlo:=h.low;have hsz:=hb.size;have HA:=R8.absorb0 (fun k=>w.heap.size<=k/\k < w8.heap.size) (fun k hk=>⟨by omega,hk.2,by omega,fun hKk=>by have:=(h.prot k hKk).1;omega,fun i hi hS=>by have:=(h.cp.seg i hi k hS).2;omega⟩);have hp0:=HA.scal (U':={ U with sf:={ U.sf with pr:=U.dk.pr } }) (j:=3) (v:=.int .i64 U.dk.pr) (by show 3 < 18;omega) rfl (fun _ h=>⟨h.seg,h.ap,h.o0,h.o1,h.o2,h.o3,h.o4,h.o5,h.o6⟩);have hp1:=hp0.1.scal (U':={ U with sf:={ U.sf with pr:=U.dk.pr,kn:=U.dk.kn } }) (j:=4) (v:=.int .i64 U.dk.kn) (by show 4 < 18;omega) rfl (fun _ h=>⟨h.seg,h.ap,h.o0,h.o1,h.o2,h.o3,h.o4,h.o5,h.o6⟩)
 have hrw:NRS rsL 2 ((w8.setCell ⟨γ,3,none⟩ (.int .i64 U.dk.pr)).setCell ⟨γ,4,none⟩ (.int .i64 U.dk.kn)) (Gr ((upd S 0 (fun k=>S 0 k\/(w.heap.size<=k/\k < w8.heap.size))) 0) ((w8.setCell ⟨γ,3,none⟩ (.int .i64 U.dk.pr)).setCell ⟨γ,4,none⟩ (.int .i64 U.dk.kn)) ((w8.setCell ⟨γ,3,none⟩ (.int .i64 U.dk.pr)).setCell ⟨γ,4,none⟩ (.int .i64 U.dk.kn))) (.slice a8 U.dk.sl.length c8) U.dk.sl:=by
  rcases hrow with h | ⟨g,cap,hv,hf⟩
  . exact Or.inl h
  . have hg1:=hf.bs
    have hg2:=hf.up;exact Or.inr ⟨g,Or.inl (by rw [Zam];exact Or.inr ⟨hg1,hg2⟩),g,cap,hv,((hf.own'.touch (Zad.setCell γ (γ+1) _ ⟨γ,3,none⟩ _ ⟨Nat.le_refl _,Nat.lt_succ_self _⟩) (by omega)).touch (Zad.setCell γ (γ+1) _ ⟨γ,4,none⟩ _ ⟨Nat.le_refl _,Nat.lt_succ_self _⟩) (by omega))⟩
 have hp2:=hp1.1.part0 (Zaj.refl _ _) hrw;exact⟨⟨_,_,_,hp2.1⟩,(hp0.2.trans hp1.2).trans hp2.2⟩
theorem Rz.less2 {K S2:Nat->Prop}{b:Nat->Option Addr}{m:Nat->Nat}{S:Nat->Nat->Prop} (h:Rz K lo w γ b m S U) (hS:∀ k,S2 k->S 2 k) (ho:∃ L,NGS PM mxL 8 w S2 (.slice (b 2) U.he.length (m 2)) L/\L.map (·.1)=U.he):Rz (fun k=>K k\/(S 2 k/\¬ S2 k)) lo w γ b m (upd S 2 S2) U:=by
 have hsub:∀ i k,upd S 2 S2 i k->S i k:=fun i k hk=>by
  by_cases e:i=2
  . subst e;rw [Zam] at hk;exact hS k hk
  . rw [ZaG _ _ e] at hk;exact hk
 refine⟨h.box,⟨fun i hi k hk=>h.cp.seg i hi k (hsub i k hk),fun i j hi hj hne k h1 h2=>h.cp.ap i j hi hj hne k (hsub i k h1) (hsub j k h2),h.cp.o0,h.cp.o1,ho,h.cp.o3,h.cp.o4,h.cp.o5,h.cp.o6⟩,h.low,fun i hi hk=>h.far i hi (hsub i γ hk),fun k hk=>?_⟩
 rcases hk with hk | hk
 . exact⟨(h.prot k hk).1,(h.prot k hk).2.1,fun i hi hs=>(h.prot k hk).2.2 i hi (hsub i k hs)⟩
 . refine⟨(h.cp.seg 2 (by decide) k hk.1).2,fun e=>h.far 2 (by decide) (by rw [<- e];exact hk.1),fun i hi hs=>?_⟩
   by_cases e:i=2
   . subst e;rw [Zam] at hs;exact hk.2 hs
   . exact h.cp.ap 2 i (by decide) hi (Ne.symm e) k hk.1 (hsub i k hs)
theorem Rz.held0 {K:Nat->Prop}{b:Nat->Option Addr}{m:Nat->Nat}{S:Nat->Nat->Prop} (h:Rz K lo w γ b m S U) :
 (∃ b' m' S',Rz (fun k=>K k\/S 2 k) lo ((w.alloc (.cells #[] 102)).setCell ⟨γ,9,none⟩ (.slice (some ⟨w.heap.size,0,none⟩) 0 0)) γ b' m' S' { U with he:=[] })/\Zag (fun k=>K k\/S 2 k) w ((w.alloc (.cells #[] 102)).setCell ⟨γ,9,none⟩ (.slice (some ⟨w.heap.size,0,none⟩) 0 0)):=by
 have hn:NGS PM mxL 8 (w.alloc (.cells #[] 102)) (fun k=>k=w.heap.size) (.slice (some ⟨w.heap.size,0,none⟩) 0 0) []:=
  Or.inr ⟨w.heap.size,fun _=>(0,0),rfl,⟨w.heap.size,0,rfl,(Zbb mxL 8 w #[] 102 0 rfl Zz_).own'⟩,⟨fun i hi=>absurd hi (Nat.not_lt_zero _),fun i hi=>absurd hi (Nat.not_lt_zero _),fun i j hi=>absurd hi (Nat.not_lt_zero _),fun i hi=>absurd hi (Nat.not_lt_zero _)⟩⟩
 have hp:=h.part2 (w':=w.alloc (.cells #[] 102)) (L':=([]:List Rm)) (a':=some ⟨w.heap.size,0,none⟩) (m':=0) (Zaj.below (Zab _ _)) ⟨[],hn.wide (fun k hk=>Or.inr ⟨by omega,by simp;omega⟩),rfl⟩;have hg:w.heap.size≠γ:=by have:=h.box.lt;omega
 have hn2:NGS PM mxL 8 ((w.alloc (.cells #[] 102)).setCell ⟨γ,9,none⟩ (.slice (some ⟨w.heap.size,0,none⟩) 0 0)) (fun k=>k=w.heap.size) (.slice (some ⟨w.heap.size,0,none⟩) 0 0) []:=
  hn.kept Zdn (K:=fun k=>k=w.heap.size) (Zag.touch (Zad.setCell γ (γ+1) _ ⟨γ,9,none⟩ _ ⟨Nat.le_refl _,Nat.lt_succ_self _⟩) (fun k hk=>⟨by simp;omega,by omega⟩)) (fun k hk=>hk)
 have hl:=hp.1.less2 (S2:=fun k=>k=w.heap.size) (fun k hk=>by rw [Zam];exact Or.inr ⟨by omega,by simp;omega⟩) ⟨[],by rw [Zam,Zam];exact hn2,rfl⟩;refine⟨⟨_,_,_,hl.shield Zb_ fun k hk=>Or.inl ?_⟩,?_⟩
 . rcases hk with hk | hk
   . exact Or.inl hk
   . exact Or.inr ⟨by rw [Zam];exact Or.inl hk,by have:=(h.cp.seg 2 (by decide) k hk).2;omega⟩
 . refine (Zag.below (Zab w _) (fun k hk=>?_)).trans (Zag.touch (Zad.setCell γ (γ+1) _ ⟨γ,9,none⟩ _ ⟨Nat.le_refl _,Nat.lt_succ_self _⟩) (fun k hk=>?_))
   . rcases hk with hk | hk
     . exact (h.prot k hk).1
     . exact (h.cp.seg 2 (by decide) k hk).2
   . have hq:k < w.heap.size/\k≠γ:=by
      rcases hk with hk | hk
      . exact⟨(h.prot k hk).1,(h.prot k hk).2.1⟩
      . exact⟨(h.cp.seg 2 (by decide) k hk).2,fun e=>h.far 2 (by decide) (by rw [<- e];exact hk)⟩
     exact⟨by simp;omega,by omega⟩
end Go.Proofs.YtdeammfdkaomlaaGreat
