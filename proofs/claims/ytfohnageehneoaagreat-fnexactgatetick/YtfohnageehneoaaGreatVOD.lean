import Derived.Test.YtfohnageehneoaaGreatVOA
set_option maxHeartbeats 16000000
set_option maxRecDepth 100000
open Go.Proofs.Tryz
namespace Go.Proofs.YtfohnageehneoaaGreat
open Go.RowKit Go.Deep
def Zbd (wr:World) (B:Nat) (Xl:List Le) (k:Nat) (c:Nat→Nat):Prop:=
 B < c 0∧(∀ i,i < k→c i≤c (i+1))∧c k≤wr.heap.size∧∃ f,wr.rowIs B 92 (Xl.length*4) f∧∀ i (h:i < Xl.length),i < k→Zdt Xl[i]∧f (i*4)=.string Xl[i].tm∧f (i*4+1)=.string Xl[i].re∧f (i*4+2)=.int .i64 Xl[i].mo∧f (i*4+3)=.int .i64 Xl[i].fr
theorem Zbd.le {wr:World} {B:Nat} {Xl:List Le} {k:Nat} {c:Nat→Nat} (h:Zbd wr B Xl k c) {i:Nat}:∀ {j:Nat},i≤j→j≤k→c i≤c j:=by
 intro j
 induction j with
 | zero=>intro hij _;have:i=0:=by omega
         subst this;exact Nat.le_refl _
 | succ j ih=>
  intro hij hjn
  by_cases e:i=j+1
  · subst e;exact Nat.le_refl _
  · exact Nat.le_trans (ih (by omega) (by omega)) (h.2.1 j (by omega))
theorem Zbd.below {wr w1:World} {B:Nat} {Xl:List Le} {k:Nat} {c:Nat→Nat} (h:Zbd wr B Xl k c) (hb:Below wr.heap.size wr w1):Zbd w1 B Xl k c:=by
 obtain⟨g1,g2,g3,f,hr,hall⟩:=h;refine⟨g1,g2,Nat.le_trans g3 hb.size,f,hr.of_block (hb.block B hr.lt),fun i hi hik=>?_⟩;obtain⟨hz,h0,h1,h2,h3⟩:=hall i hi hik;exact⟨hz,h0,h1,h2,h3⟩
theorem Zbd.free {wr:World} {B:Nat} {Xl:List Le} {k:Nat} {c:Nat→Nat} (h:Zbd wr B Xl k c) (i:Nat):wr.frozen? ⟨B,i,none⟩=false:=by
 obtain⟨_,_,_,f,hr,_⟩:=h;exact hr.frozen i
theorem Zbd.there {wr:World} {B:Nat} {Xl:List Le} {k:Nat} {c:Nat→Nat} (h:Zbd wr B Xl k c) (i:Nat) (hi:i < Xl.length*4):∃ v,wr.cell? ⟨B,i,none⟩=some v:=by
 obtain⟨_,_,_,f,hr,_⟩:=h;exact⟨_,hr.cell hi⟩
theorem Zbd.step {w1:World} {B:Nat} {Xl:List Le} {k:Nat} {c:Nat→Nat} (h:Zbd w1 B Xl k c) (hk:k < Xl.length) (hz:Zdt Xl[k]) (d:Nat) (hd0:c k≤d) (hd:d≤w1.heap.size) :
 Zbd ((((w1.setCell ⟨B,k*4,none⟩ (.string Xl[k].tm)).setCell ⟨B,k*4+1,none⟩ (.string Xl[k].re)).setCell ⟨B,k*4+2,none⟩ (.int .i64 Xl[k].mo)).setCell ⟨B,k*4+3,none⟩ (.int .i64 Xl[k].fr)) B Xl (k+1) (fun j=>if j≤k then c j else d):=by
 have hle:=fun i (hi:i≤k)=>h.le (i:=0) (j:=i) Zz_ hi
 have hle2:=fun i (hi:i < k)=>h.le (i:=i+1) (j:=k) (by omega) Zl_
 obtain⟨g1,g2,g3,f,hr,hall⟩:=h;have hts:Zad B (B+1) w1 ((((w1.setCell ⟨B,k*4,none⟩ (.string Xl[k].tm)).setCell ⟨B,k*4+1,none⟩ (.string Xl[k].re)).setCell ⟨B,k*4+2,none⟩ (.int .i64 Xl[k].mo)).setCell ⟨B,k*4+3,none⟩ (.int .i64 Xl[k].fr)):=(((Zad.setB B _ _ _).trans (Zad.setB B _ _ _)).trans (Zad.setB B _ _ _)).trans (Zad.setB B _ _ _);refine⟨by simpa using g1,fun i hi=>?_,?_,_,((((hr.set _ _).set _ _).set _ _).set _ _),fun i hi hik=>?_⟩
 · dsimp only
   by_cases e:i=k
   · subst e;rw [if_pos Zl_,if_neg (by omega)];exact hd0
   · rw [if_pos (by omega),if_pos (by omega)];exact g2 i (by omega)
 · dsimp only;rw [if_neg (by omega)];exact Nat.le_trans hd hts.size
 by_cases e:i=k
 · subst e
   have hb0:=hle i Zl_;exact⟨hz,by simp,by simp,by simp,by simp⟩
 · have hb0:=hle i (by omega)
   obtain⟨hz,h0,h1,h2,h3⟩:=hall i hi (by omega);refine⟨hz,?_,?_,?_,?_⟩
   · rw [if_neg (by omega),if_neg (by omega),if_neg (by omega),if_neg (by omega)];exact h0
   · rw [if_neg (by omega),if_neg (by omega),if_neg (by omega),if_neg (by omega)];exact h1
   · rw [if_neg (by omega),if_neg (by omega),if_neg (by omega),if_neg (by omega)];exact h2
   · rw [if_neg (by omega),if_neg (by omega),if_neg (by omega),if_neg (by omega)];exact h3
theorem Zbd.own {wr:World} {B:Nat} {Xl:List Le} {k:Nat} {c:Nat→Nat} (h:Zbd wr B Xl k c) (hk:k=Xl.length) (hne:Xl≠[]) (hm:Xl.length≤maxLen):ZaO B wr.heap.size wr (.slice (some ⟨B,0,none⟩) Xl.length Xl.length) Xl:=by
 subst hk;obtain⟨g1,g2,g3,f,hr,hall⟩:=h;have h0:0 < Xl.length:=List.length_pos_iff.2 hne
 refine Or.inr ⟨B,0,Xl.length,c,fun i=>if h:i < Xl.length then Xl[i] else Xl[0],rfl,hne,hm,Nat.le_refl _,fun i hi=>by simp [hi],hr.lt,Nat.le_refl _,g1,hr.lt,g2,g3,fun i=>hr.frozen i,fun i hi=>?_⟩;obtain⟨hz,h0,h1,h2,h3⟩:=hall i hi hi;simp only [hi,dif_pos];rw [Nat.zero_add];exact⟨hz,⟨by rw [hr.cell (by omega),h0],by rw [hr.cell (by omega),h1],by rw [hr.cell (by omega),h2],by rw [hr.cell (by omega),h3]⟩⟩
theorem Zbd.new (w:World) (Xl:List Le) (z:Array Value):Zbd (w.alloc (.cells (madeCells z (Xl.length*4)) 92)) w.heap.size Xl 0 (fun _=>w.heap.size+1):=by
 refine⟨Nat.lt_succ_self _,fun i hi=>by omega,by simp,fun i=>(madeCells z (Xl.length*4)).getD i default,?_,fun i _ h=>by omega⟩;have:=World.rowIs_alloc w (madeCells z (Xl.length*4)) 92 (fun i=>(madeCells z (Xl.length*4)).getD i default) (fun i hi=>by simp [Array.getD,hi])
 rwa [size_madeCells] at this
theorem Znu (lo:Nat) (v:Value) (Xl:List Le) (w:World) (hv:ZbB lo w v Xl) (hn:Zd4 Xl) :
 Calls prog 46 #[v] w fun e w'=>∃ v',e=.returned v'∧Zw_ w w'∧ZaO w.heap.size w'.heap.size w' v' Xl:=by
 obtain⟨i0,hi,hz0,hz1,hz2⟩:=info_parts Tryz.info92;have HSM:=Zab hn.2;have hn1:=hn.1;clear hn
 by_cases hL:Xl=[]
 · subst hL
   obtain⟨a,cap,rfl⟩:=hv.form;clear hv
   have hmk:∀ u:World,(Instr.makeSlice 37 (.int .i64 0) (.int .i64 0)).run prog u=.ok (.slice (some ⟨u.heap.size,0,none⟩) 0 0) (u.alloc (.cells (madeCells (Value.cells (.agg #[.string ⟨#[]⟩,.string ⟨#[]⟩,.int .i64 0,.int .i64 0])) 0) 92)):=fun u=>by
    have h:=run_make (P:=prog) u 37 92 i0 _ underlying37 hi hz0 .i64 .i64 0 0 (by omega) (by omega) (by omega) (by omega)
    simpa [hz1] using h
   go_enter func46,ntmps46;go_wp2
   go_loop [4] (fun i=>i=.int .i64 0) (fun _=>0)
   case atStart=>rfl
   case round=>
    subst hrel;go_wp2;go_ret;exact⟨_,rfl,Zb_.alloc Zl_ _,Or.inl ⟨_,_,rfl,rfl⟩⟩
 · obtain⟨b,off,cap,rfl,hm,hbw,_,hc⟩:=hv.full hL
   clear hv;have HM:Hid (Xl.length≤maxLen):=hm;unfold maxLen at hm
   have hmk:∀ u:World,(Instr.makeSlice 37 (.int .i64 (Xl.length:Int)) (.int .i64 (Xl.length:Int))).run prog u=.ok (.slice (some ⟨u.heap.size,0,none⟩) Xl.length Xl.length) (u.alloc (.cells (madeCells (Value.cells (.agg #[.string ⟨#[]⟩,.string ⟨#[]⟩,.int .i64 0,.int .i64 0])) (Xl.length*4)) 92)):=fun u=>by
    have h:=run_make (P:=prog) u 37 92 i0 _ underlying37 hi hz0 .i64 .i64 Xl.length Xl.length (by omega) (by omega) (by rw [hz2];omega) (by omega);rw [hz1] at h
    simpa using h
   clear hi hz0 hz1 hz2;go_enter func46,ntmps46;go_wp2;clear hmk
   go_loopw [4] (fun i wr=>∃ (k:Nat) (c:Nat→Nat),i=.int .i64 k∧k≤Xl.length∧Zw_ w wr∧Zbd wr w.heap.size Xl k c) (fun i _=>Xl.length - (intOf i).toNat)
   case atStart=>exact⟨0,_,rfl,by omega,Zb_.alloc Zl_ _,Zbd.new w Xl _⟩
   case round=>
    obtain⟨k,c,rfl,hk,hb,hf⟩:=hrel
    by_cases hlt:k < Xl.length
    · obtain⟨hs,hc⟩:=hc k hlt
      have HB:=Zab hb;have HF:=Zab hf;have HSZ:=Zab hs;obtain⟨c0,c1,c2,c3⟩:=hc.below hb hbw;clear hc hb hf hs;go_wp2_with fail;refine (ZlZ _ _).mono ?_;rintro e w1 ⟨rfl,hb1⟩;have hf1:=HF.out.below hb1;have hB:Hid (Zw_ w w1):=HB.out.trans (hb1.mono HB.out.size);have HST:=Zab (hf1.step hlt HSZ.out w1.heap.size (Nat.le_trans HF.out.2.2.1 hb1.size) Zl_);have hfr:=hf1.free;obtain⟨o0,ho0⟩:=hf1.there (k*4) (by omega);obtain⟨o1,ho1⟩:=hf1.there (k*4+1) (by omega);obtain⟨o2,ho2⟩:=hf1.there (k*4+2) (by omega);obtain⟨o3,ho3⟩:=hf1.there (k*4+3) (by omega);clear hf1 hb1 HF HB c0 c1 c2 c3;go_wp2;go_roundw
      case rel=>
       exact⟨k+1,_,by go_num,by omega,((((hB.out.setCell Zl_ _).setCell Zl_ _).setCell Zl_ _).setCell Zl_ _),HST.out⟩
      case measure=>simp [intOf];omega
    · have e:k=Xl.length:=by omega
      go_wp2;go_ret;exact⟨_,rfl,hb,hf.own e hL HM.out⟩
def Zbb (wr:World) (B:Nat) (Xl:List Pu) (k:Nat) (c:Nat→Nat):Prop:=
 B < c 0∧(∀ i,i < k→c i≤c (i+1))∧c k≤wr.heap.size∧∃ f,wr.rowIs B 94 (Xl.length*5) f∧∀ i (h:i < Xl.length),i < k→Zcr Xl[i]∧f (i*5)=.string Xl[i].dr∧f (i*5+1)=.string Xl[i].tm∧f (i*5+2)=.string Xl[i].re∧f (i*5+3)=.int .i64 Xl[i].am∧f (i*5+4)=.int .i64 Xl[i].un
theorem Zbb.le {wr:World} {B:Nat} {Xl:List Pu} {k:Nat} {c:Nat→Nat} (h:Zbb wr B Xl k c) {i:Nat}:∀ {j:Nat},i≤j→j≤k→c i≤c j:=by
 intro j
 induction j with
 | zero=>intro hij _;have:i=0:=by omega
         subst this;exact Nat.le_refl _
 | succ j ih=>
  intro hij hjn
  by_cases e:i=j+1
  · subst e;exact Nat.le_refl _
  · exact Nat.le_trans (ih (by omega) (by omega)) (h.2.1 j (by omega))
theorem Zbb.below {wr w1:World} {B:Nat} {Xl:List Pu} {k:Nat} {c:Nat→Nat} (h:Zbb wr B Xl k c) (hb:Below wr.heap.size wr w1):Zbb w1 B Xl k c:=by
 obtain⟨g1,g2,g3,f,hr,hall⟩:=h;refine⟨g1,g2,Nat.le_trans g3 hb.size,f,hr.of_block (hb.block B hr.lt),fun i hi hik=>?_⟩;obtain⟨hz,h0,h1,h2,h3,h4⟩:=hall i hi hik;exact⟨hz,h0,h1,h2,h3,h4⟩
theorem Zbb.free {wr:World} {B:Nat} {Xl:List Pu} {k:Nat} {c:Nat→Nat} (h:Zbb wr B Xl k c) (i:Nat):wr.frozen? ⟨B,i,none⟩=false:=by
 obtain⟨_,_,_,f,hr,_⟩:=h;exact hr.frozen i
theorem Zbb.there {wr:World} {B:Nat} {Xl:List Pu} {k:Nat} {c:Nat→Nat} (h:Zbb wr B Xl k c) (i:Nat) (hi:i < Xl.length*5):∃ v,wr.cell? ⟨B,i,none⟩=some v:=by
 obtain⟨_,_,_,f,hr,_⟩:=h;exact⟨_,hr.cell hi⟩
theorem Zbb.step {w1:World} {B:Nat} {Xl:List Pu} {k:Nat} {c:Nat→Nat} (h:Zbb w1 B Xl k c) (hk:k < Xl.length) (hz:Zcr Xl[k]) (d:Nat) (hd0:c k≤d) (hd:d≤w1.heap.size) :
 Zbb (((((w1.setCell ⟨B,k*5,none⟩ (.string Xl[k].dr)).setCell ⟨B,k*5+1,none⟩ (.string Xl[k].tm)).setCell ⟨B,k*5+2,none⟩ (.string Xl[k].re)).setCell ⟨B,k*5+3,none⟩ (.int .i64 Xl[k].am)).setCell ⟨B,k*5+4,none⟩ (.int .i64 Xl[k].un)) B Xl (k+1) (fun j=>if j≤k then c j else d):=by
 have hle:=fun i (hi:i≤k)=>h.le (i:=0) (j:=i) Zz_ hi
 have hle2:=fun i (hi:i < k)=>h.le (i:=i+1) (j:=k) (by omega) Zl_
 obtain⟨g1,g2,g3,f,hr,hall⟩:=h;have hts:Zad B (B+1) w1 (((((w1.setCell ⟨B,k*5,none⟩ (.string Xl[k].dr)).setCell ⟨B,k*5+1,none⟩ (.string Xl[k].tm)).setCell ⟨B,k*5+2,none⟩ (.string Xl[k].re)).setCell ⟨B,k*5+3,none⟩ (.int .i64 Xl[k].am)).setCell ⟨B,k*5+4,none⟩ (.int .i64 Xl[k].un)):=((((Zad.setB B _ _ _).trans (Zad.setB B _ _ _)).trans (Zad.setB B _ _ _)).trans (Zad.setB B _ _ _)).trans (Zad.setB B _ _ _);refine⟨by simpa using g1,fun i hi=>?_,?_,_,(((((hr.set _ _).set _ _).set _ _).set _ _).set _ _),fun i hi hik=>?_⟩
 · dsimp only
   by_cases e:i=k
   · subst e;rw [if_pos Zl_,if_neg (by omega)];exact hd0
   · rw [if_pos (by omega),if_pos (by omega)];exact g2 i (by omega)
 · dsimp only;rw [if_neg (by omega)];exact Nat.le_trans hd hts.size
 by_cases e:i=k
 · subst e
   have hb0:=hle i Zl_;exact⟨hz,by simp,by simp,by simp,by simp,by simp⟩
 · have hb0:=hle i (by omega)
   obtain⟨hz,h0,h1,h2,h3,h4⟩:=hall i hi (by omega);refine⟨hz,?_,?_,?_,?_,?_⟩
   · rw [if_neg (by omega),if_neg (by omega),if_neg (by omega),if_neg (by omega),if_neg (by omega)];exact h0
   · rw [if_neg (by omega),if_neg (by omega),if_neg (by omega),if_neg (by omega),if_neg (by omega)];exact h1
   · rw [if_neg (by omega),if_neg (by omega),if_neg (by omega),if_neg (by omega),if_neg (by omega)];exact h2
   · rw [if_neg (by omega),if_neg (by omega),if_neg (by omega),if_neg (by omega),if_neg (by omega)];exact h3
   · rw [if_neg (by omega),if_neg (by omega),if_neg (by omega),if_neg (by omega),if_neg (by omega)];exact h4
theorem Zbb.own {wr:World} {B:Nat} {Xl:List Pu} {k:Nat} {c:Nat→Nat} (h:Zbb wr B Xl k c) (hk:k=Xl.length) (hne:Xl≠[]) (hm:Xl.length≤maxLen):Za5 B wr.heap.size wr (.slice (some ⟨B,0,none⟩) Xl.length Xl.length) Xl:=by
 subst hk;obtain⟨g1,g2,g3,f,hr,hall⟩:=h;have h0:0 < Xl.length:=List.length_pos_iff.2 hne
 refine Or.inr ⟨B,0,Xl.length,c,fun i=>if h:i < Xl.length then Xl[i] else Xl[0],rfl,hne,hm,Nat.le_refl _,fun i hi=>by simp [hi],hr.lt,Nat.le_refl _,g1,hr.lt,g2,g3,fun i=>hr.frozen i,fun i hi=>?_⟩;obtain⟨hz,h0,h1,h2,h3,h4⟩:=hall i hi hi;simp only [hi,dif_pos];rw [Nat.zero_add];exact⟨hz,⟨by rw [hr.cell (by omega),h0],by rw [hr.cell (by omega),h1],by rw [hr.cell (by omega),h2],by rw [hr.cell (by omega),h3],by rw [hr.cell (by omega),h4]⟩⟩
theorem Zbb.new (w:World) (Xl:List Pu) (z:Array Value):Zbb (w.alloc (.cells (madeCells z (Xl.length*5)) 94)) w.heap.size Xl 0 (fun _=>w.heap.size+1):=by
 refine⟨Nat.lt_succ_self _,fun i hi=>by omega,by simp,fun i=>(madeCells z (Xl.length*5)).getD i default,?_,fun i _ h=>by omega⟩;have:=World.rowIs_alloc w (madeCells z (Xl.length*5)) 94 (fun i=>(madeCells z (Xl.length*5)).getD i default) (fun i hi=>by simp [Array.getD,hi])
 rwa [size_madeCells] at this
theorem ZnQ (lo:Nat) (v:Value) (Xl:List Pu) (w:World) (hv:ZbK lo w v Xl) (hn:ZdW Xl) :
 Calls prog 47 #[v] w fun e w'=>∃ v',e=.returned v'∧Zw_ w w'∧Za5 w.heap.size w'.heap.size w' v' Xl:=by
 obtain⟨i0,hi,hz0,hz1,hz2⟩:=info_parts Tryz.info94;have HSM:=Zab hn.2;have hn1:=hn.1;clear hn
 by_cases hL:Xl=[]
 · subst hL
   obtain⟨a,cap,rfl⟩:=hv.form;clear hv
   have hmk:∀ u:World,(Instr.makeSlice 38 (.int .i64 0) (.int .i64 0)).run prog u=.ok (.slice (some ⟨u.heap.size,0,none⟩) 0 0) (u.alloc (.cells (madeCells (Value.cells (.agg #[.string ⟨#[]⟩,.string ⟨#[]⟩,.string ⟨#[]⟩,.int .i64 0,.int .i64 0])) 0) 94)):=fun u=>by
    have h:=run_make (P:=prog) u 38 94 i0 _ underlying38 hi hz0 .i64 .i64 0 0 (by omega) (by omega) (by omega) (by omega)
    simpa [hz1] using h
   go_enter func47,ntmps47;go_wp2
   go_loop [4] (fun i=>i=.int .i64 0) (fun _=>0)
   case atStart=>rfl
   case round=>
    subst hrel;go_wp2;go_ret;exact⟨_,rfl,Zb_.alloc Zl_ _,Or.inl ⟨_,_,rfl,rfl⟩⟩
 · obtain⟨b,off,cap,rfl,hm,hbw,_,hc⟩:=hv.full hL
   clear hv;have HM:Hid (Xl.length≤maxLen):=hm;unfold maxLen at hm
   have hmk:∀ u:World,(Instr.makeSlice 38 (.int .i64 (Xl.length:Int)) (.int .i64 (Xl.length:Int))).run prog u=.ok (.slice (some ⟨u.heap.size,0,none⟩) Xl.length Xl.length) (u.alloc (.cells (madeCells (Value.cells (.agg #[.string ⟨#[]⟩,.string ⟨#[]⟩,.string ⟨#[]⟩,.int .i64 0,.int .i64 0])) (Xl.length*5)) 94)):=fun u=>by
    have h:=run_make (P:=prog) u 38 94 i0 _ underlying38 hi hz0 .i64 .i64 Xl.length Xl.length (by omega) (by omega) (by rw [hz2];omega) (by omega);rw [hz1] at h
    simpa using h
   clear hi hz0 hz1 hz2;go_enter func47,ntmps47;go_wp2;clear hmk
   go_loopw [4] (fun i wr=>∃ (k:Nat) (c:Nat→Nat),i=.int .i64 k∧k≤Xl.length∧Zw_ w wr∧Zbb wr w.heap.size Xl k c) (fun i _=>Xl.length - (intOf i).toNat)
   case atStart=>exact⟨0,_,rfl,by omega,Zb_.alloc Zl_ _,Zbb.new w Xl _⟩
   case round=>
    obtain⟨k,c,rfl,hk,hb,hf⟩:=hrel
    by_cases hlt:k < Xl.length
    · obtain⟨hs,hc⟩:=hc k hlt
      have HB:=Zab hb;have HF:=Zab hf;have HSZ:=Zab hs;obtain⟨c0,c1,c2,c3,c4⟩:=hc.below hb hbw;clear hc hb hf hs;go_wp2_with fail;refine (ZlN _ _).mono ?_;rintro e w1 ⟨rfl,hb1⟩;have hf1:=HF.out.below hb1;have hB:Hid (Zw_ w w1):=HB.out.trans (hb1.mono HB.out.size);have HST:=Zab (hf1.step hlt HSZ.out w1.heap.size (Nat.le_trans HF.out.2.2.1 hb1.size) Zl_);have hfr:=hf1.free;obtain⟨o0,ho0⟩:=hf1.there (k*5) (by omega);obtain⟨o1,ho1⟩:=hf1.there (k*5+1) (by omega);obtain⟨o2,ho2⟩:=hf1.there (k*5+2) (by omega);obtain⟨o3,ho3⟩:=hf1.there (k*5+3) (by omega);obtain⟨o4,ho4⟩:=hf1.there (k*5+4) (by omega);clear hf1 hb1 HF HB c0 c1 c2 c3 c4;go_wp2;go_roundw
      case rel=>
       exact⟨k+1,_,by go_num,by omega,(((((hB.out.setCell Zl_ _).setCell Zl_ _).setCell Zl_ _).setCell Zl_ _).setCell Zl_ _),HST.out⟩
      case measure=>simp [intOf];omega
    · have e:k=Xl.length:=by omega
      go_wp2;go_ret;exact⟨_,rfl,hb,hf.own e hL HM.out⟩
def Za3 (wr:World) (B:Nat) (Xl:List Ob) (k:Nat) (c:Nat→Nat):Prop:=
 B < c 0∧(∀ i,i < k→c i≤c (i+1))∧c k≤wr.heap.size∧∃ f,wr.rowIs B 155 (Xl.length*7) f∧∀ i (h:i < Xl.length),i < k→ZcM Xl[i]∧∃ (vv0 vv1:Value) (m1:Nat),(c i)≤m1∧m1≤(c (i+1))∧f (i*7)=.string Xl[i].kd∧f (i*7+1)=.string Xl[i].nm∧f (i*7+2)=.string Xl[i].tm∧f (i*7+3)=vv0∧f (i*7+4)=.bool Xl[i].en∧f (i*7+5)=vv1∧f (i*7+6)=.int .i64 Xl[i].ver∧Zae (c i) m1 wr vv0 Xl[i].vs∧Zae m1 (c (i+1)) wr vv1 Xl[i].hs
theorem Za3.le {wr:World} {B:Nat} {Xl:List Ob} {k:Nat} {c:Nat→Nat} (h:Za3 wr B Xl k c) {i:Nat}:∀ {j:Nat},i≤j→j≤k→c i≤c j:=by
 intro j
 induction j with
 | zero=>intro hij _;have:i=0:=by omega
         subst this;exact Nat.le_refl _
 | succ j ih=>
  intro hij hjn
  by_cases e:i=j+1
  · subst e;exact Nat.le_refl _
  · exact Nat.le_trans (ih (by omega) (by omega)) (h.2.1 j (by omega))
theorem Za3.below {wr w1:World} {B:Nat} {Xl:List Ob} {k:Nat} {c:Nat→Nat} (h:Za3 wr B Xl k c) (hb:Below wr.heap.size wr w1):Za3 w1 B Xl k c:=by
 obtain⟨g1,g2,g3,f,hr,hall⟩:=h;refine⟨g1,g2,Nat.le_trans g3 hb.size,f,hr.of_block (hb.block B hr.lt),fun i hi hik=>?_⟩;obtain⟨hz,vv0,vv1,m1,q0,q1,h0,h1,h2,h3,h4,h5,h6,l0,l1⟩:=hall i hi hik;exact⟨hz,vv0,vv1,m1,q0,q1,h0,h1,h2,h3,h4,h5,h6,l0.below hb,l1.below hb⟩
theorem Za3.free {wr:World} {B:Nat} {Xl:List Ob} {k:Nat} {c:Nat→Nat} (h:Za3 wr B Xl k c) (i:Nat):wr.frozen? ⟨B,i,none⟩=false:=by
 obtain⟨_,_,_,f,hr,_⟩:=h;exact hr.frozen i
theorem Za3.there {wr:World} {B:Nat} {Xl:List Ob} {k:Nat} {c:Nat→Nat} (h:Za3 wr B Xl k c) (i:Nat) (hi:i < Xl.length*7):∃ v,wr.cell? ⟨B,i,none⟩=some v:=by
 obtain⟨_,_,_,f,hr,_⟩:=h;exact⟨_,hr.cell hi⟩
theorem Za3.step {w1:World} {B:Nat} {Xl:List Ob} {k:Nat} {c:Nat→Nat} {vv0 vv1:Value} {m1:Nat} (h:Za3 w1 B Xl k c) (hk:k < Xl.length) (hz:ZcM Xl[k]) (d:Nat) (hd0:c k≤d) (hd:d≤w1.heap.size) (r0:(c k)≤m1) (r1:m1≤d) (e0:Zae (c k) m1 w1 vv0 Xl[k].vs) (e1:Zae m1 d w1 vv1 Xl[k].hs) :
 Za3 (((((((w1.setCell ⟨B,k*7,none⟩ (.string Xl[k].kd)).setCell ⟨B,k*7+1,none⟩ (.string Xl[k].nm)).setCell ⟨B,k*7+2,none⟩ (.string Xl[k].tm)).setCell ⟨B,k*7+3,none⟩ (vv0)).setCell ⟨B,k*7+4,none⟩ (.bool Xl[k].en)).setCell ⟨B,k*7+5,none⟩ (vv1)).setCell ⟨B,k*7+6,none⟩ (.int .i64 Xl[k].ver)) B Xl (k+1) (fun j=>if j≤k then c j else d):=by
 have hle:=fun i (hi:i≤k)=>h.le (i:=0) (j:=i) Zz_ hi
 have hle2:=fun i (hi:i < k)=>h.le (i:=i+1) (j:=k) (by omega) Zl_
 obtain⟨g1,g2,g3,f,hr,hall⟩:=h;have hts:Zad B (B+1) w1 (((((((w1.setCell ⟨B,k*7,none⟩ (.string Xl[k].kd)).setCell ⟨B,k*7+1,none⟩ (.string Xl[k].nm)).setCell ⟨B,k*7+2,none⟩ (.string Xl[k].tm)).setCell ⟨B,k*7+3,none⟩ (vv0)).setCell ⟨B,k*7+4,none⟩ (.bool Xl[k].en)).setCell ⟨B,k*7+5,none⟩ (vv1)).setCell ⟨B,k*7+6,none⟩ (.int .i64 Xl[k].ver)):=((((((Zad.setB B _ _ _).trans (Zad.setB B _ _ _)).trans (Zad.setB B _ _ _)).trans (Zad.setB B _ _ _)).trans (Zad.setB B _ _ _)).trans (Zad.setB B _ _ _)).trans (Zad.setB B _ _ _);refine⟨by simpa using g1,fun i hi=>?_,?_,_,(((((((hr.set _ _).set _ _).set _ _).set _ _).set _ _).set _ _).set _ _),fun i hi hik=>?_⟩
 · dsimp only
   by_cases e:i=k
   · subst e;rw [if_pos Zl_,if_neg (by omega)];exact hd0
   · rw [if_pos (by omega),if_pos (by omega)];exact g2 i (by omega)
 · dsimp only;rw [if_neg (by omega)];exact Nat.le_trans hd hts.size
 by_cases e:i=k
 · subst e
   dsimp only;rw [if_pos Zl_,if_neg (by omega)];have hb0:=hle i Zl_;exact⟨hz,vv0,vv1,m1,r0,r1,by simp,by simp,by simp,by simp,by simp,by simp,by simp,e0.touch hts (by omega),e1.touch hts (by omega)⟩
 · dsimp only
   rw [if_pos (by omega),if_pos (by omega)];have hb0:=hle i (by omega);obtain⟨hz,vv0,vv1,m1,q0,q1,h0,h1,h2,h3,h4,h5,h6,l0,l1⟩:=hall i hi (by omega);refine⟨hz,vv0,vv1,m1,q0,q1,?_,?_,?_,?_,?_,?_,?_,l0.touch hts (by omega),l1.touch hts (by omega)⟩
   · rw [if_neg (by omega),if_neg (by omega),if_neg (by omega),if_neg (by omega),if_neg (by omega),if_neg (by omega),if_neg (by omega)];exact h0
   · rw [if_neg (by omega),if_neg (by omega),if_neg (by omega),if_neg (by omega),if_neg (by omega),if_neg (by omega),if_neg (by omega)];exact h1
   · rw [if_neg (by omega),if_neg (by omega),if_neg (by omega),if_neg (by omega),if_neg (by omega),if_neg (by omega),if_neg (by omega)];exact h2
   · rw [if_neg (by omega),if_neg (by omega),if_neg (by omega),if_neg (by omega),if_neg (by omega),if_neg (by omega),if_neg (by omega)];exact h3
   · rw [if_neg (by omega),if_neg (by omega),if_neg (by omega),if_neg (by omega),if_neg (by omega),if_neg (by omega),if_neg (by omega)];exact h4
   · rw [if_neg (by omega),if_neg (by omega),if_neg (by omega),if_neg (by omega),if_neg (by omega),if_neg (by omega),if_neg (by omega)];exact h5
   · rw [if_neg (by omega),if_neg (by omega),if_neg (by omega),if_neg (by omega),if_neg (by omega),if_neg (by omega),if_neg (by omega)];exact h6
theorem Za3.own {wr:World} {B:Nat} {Xl:List Ob} {k:Nat} {c:Nat→Nat} (h:Za3 wr B Xl k c) (hk:k=Xl.length) (hne:Xl≠[]) (hm:Xl.length≤maxLen):Za2 B wr.heap.size wr (.slice (some ⟨B,0,none⟩) Xl.length Xl.length) Xl:=by
 subst hk;have hle:=fun i (hi:i≤Xl.length)=>h.le (i:=0) (j:=i) Zz_ hi
 have hle2:=fun i (hi:i < Xl.length)=>h.le (i:=i+1) (j:=Xl.length) (by omega) Zl_
 have hle3:=fun i j (hi:i < j) (hj:j < Xl.length)=>h.le (i:=i+1) (j:=j) (by omega) (by omega)
 obtain⟨g1,g2,g3,f,hr,hall⟩:=h;have h0:0 < Xl.length:=List.length_pos_iff.2 hne
 refine Or.inr ⟨B,0,Xl.length,fun i=>(c i,c (i+1)),fun i=>if h:i < Xl.length then Xl[i] else Xl[0],rfl,hne,hm,Nat.le_refl _,fun i hi=>by simp [hi],hr.lt,Nat.le_refl _,hr.lt,fun i hi=>⟨by have:=hle i (by omega);simp only [];omega,by have:=hle2 i hi;simp only [];omega,Or.inl (by have:=hle i (by omega);simp only [];omega)⟩,hle3,fun i=>hr.frozen i,fun i hi=>?_⟩;obtain⟨hz,vv0,vv1,m1,q0,q1,h0,h1,h2,h3,h4,h5,h6,l0,l1⟩:=hall i hi hi;simp only [hi,dif_pos];rw [Nat.zero_add];exact⟨hz,vv0,vv1,m1,q0,q1,⟨by rw [hr.cell (by omega),h0],by rw [hr.cell (by omega),h1],by rw [hr.cell (by omega),h2],by rw [hr.cell (by omega),h3],by rw [hr.cell (by omega),h4],by rw [hr.cell (by omega),h5],by rw [hr.cell (by omega),h6]⟩,l0,l1⟩
theorem Za3.new (w:World) (Xl:List Ob) (z:Array Value):Za3 (w.alloc (.cells (madeCells z (Xl.length*7)) 155)) w.heap.size Xl 0 (fun _=>w.heap.size+1):=by
 refine⟨Nat.lt_succ_self _,fun i hi=>by omega,by simp,fun i=>(madeCells z (Xl.length*7)).getD i default,?_,fun i _ h=>by omega⟩;have:=World.rowIs_alloc w (madeCells z (Xl.length*7)) 155 (fun i=>(madeCells z (Xl.length*7)).getD i default) (fun i hi=>by simp [Array.getD,hi])
 rwa [size_madeCells] at this
theorem ZnH (lo:Nat) (v:Value) (Xl:List Ob) (w:World) (hv:Zbs lo w v Xl) (hn:ZbD Xl) :
 Calls prog 44 #[v] w fun e w'=>∃ v',e=.returned v'∧Zw_ w w'∧Za2 w.heap.size w'.heap.size w' v' Xl:=by
 obtain⟨i0,hi,hz0,hz1,hz2⟩:=info_parts Tryz.info155;have HSM:=Zab hn.2;have hn1:=hn.1;clear hn
 by_cases hL:Xl=[]
 · subst hL
   obtain⟨a,cap,rfl⟩:=hv.form;clear hv
   have hmk:∀ u:World,(Instr.makeSlice 35 (.int .i64 0) (.int .i64 0)).run prog u=.ok (.slice (some ⟨u.heap.size,0,none⟩) 0 0) (u.alloc (.cells (madeCells (Value.cells (.agg #[.string ⟨#[]⟩,.string ⟨#[]⟩,.string ⟨#[]⟩,.slice none 0 0,.bool false,.slice none 0 0,.int .i64 0])) 0) 155)):=fun u=>by
    have h:=run_make (P:=prog) u 35 155 i0 _ underlying35 hi hz0 .i64 .i64 0 0 (by omega) (by omega) (by omega) (by omega)
    simpa [hz1] using h
   go_enter func44,ntmps44;go_wp2
   go_loop [4] (fun i=>i=.int .i64 0) (fun _=>0)
   case atStart=>rfl
   case round=>
    subst hrel;go_wp2;go_ret;exact⟨_,rfl,Zb_.alloc Zl_ _,Or.inl ⟨_,_,rfl,rfl⟩⟩
 · obtain⟨b,off,cap,rfl,hm,hbw,_,hc⟩:=hv.full hL
   clear hv;have HM:Hid (Xl.length≤maxLen):=hm;unfold maxLen at hm
   have hmk:∀ u:World,(Instr.makeSlice 35 (.int .i64 (Xl.length:Int)) (.int .i64 (Xl.length:Int))).run prog u=.ok (.slice (some ⟨u.heap.size,0,none⟩) Xl.length Xl.length) (u.alloc (.cells (madeCells (Value.cells (.agg #[.string ⟨#[]⟩,.string ⟨#[]⟩,.string ⟨#[]⟩,.slice none 0 0,.bool false,.slice none 0 0,.int .i64 0])) (Xl.length*7)) 155)):=fun u=>by
    have h:=run_make (P:=prog) u 35 155 i0 _ underlying35 hi hz0 .i64 .i64 Xl.length Xl.length (by omega) (by omega) (by rw [hz2];omega) (by omega);rw [hz1] at h
    simpa using h
   clear hi hz0 hz1 hz2;go_enter func44,ntmps44;go_wp2;clear hmk
   go_loopw [4] (fun i wr=>∃ (k:Nat) (c:Nat→Nat),i=.int .i64 k∧k≤Xl.length∧Zw_ w wr∧Za3 wr w.heap.size Xl k c) (fun i _=>Xl.length - (intOf i).toNat)
   case atStart=>exact⟨0,_,rfl,by omega,Zb_.alloc Zl_ _,Za3.new w Xl _⟩
   case round=>
    obtain⟨k,c,rfl,hk,hb,hf⟩:=hrel
    by_cases hlt:k < Xl.length
    · obtain⟨hs,vv0,vv1,hc,hv0,hv1⟩:=hc k hlt
      have HB:=Zab hb;have HF:=Zab hf;have HSZ:=Zab hs;obtain⟨x0,y0,rfl⟩:=hv0.at.form';obtain⟨x1,y1,rfl⟩:=hv1.at.form';obtain⟨c0,c1,c2,c3,c4,c5,c6⟩:=hc.below hb hbw;have HV0:=Zab (hv0.below hb);clear hv0;have HV1:=Zab (hv1.below hb);clear hv1;clear hc hb hf hs;go_wp2_with fail;refine (ZnM _ _ _ _ _ _ _ Xl[k].vs Xl[k].hs _ HV0.out.at HV1.out.at (HSM.out k hlt).1 (HSM.out k hlt).2).mono ?_;rintro e w1 ⟨z0,z1,rfl,hb1,mid,hmid,hmw,hO0,hO1⟩;obtain⟨s0,t0,rfl⟩:=hO0.at.form';obtain⟨s1,t1,rfl⟩:=hO1.at.form';have hf1:=HF.out.below hb1;have hB:Hid (Zw_ w w1):=HB.out.trans (hb1.mono HB.out.size);have HST:=Zab (hf1.step hlt HSZ.out w1.heap.size (Nat.le_trans HF.out.2.2.1 hb1.size) Zl_ (Nat.le_trans HF.out.2.2.1 hmid) hmw (hO0.wide HF.out.2.2.1 Zl_) hO1);have hfr:=hf1.free;obtain⟨o0,ho0⟩:=hf1.there (k*7) (by omega)
      obtain⟨o1,ho1⟩:=hf1.there (k*7+1) (by omega);obtain⟨o2,ho2⟩:=hf1.there (k*7+2) (by omega);obtain⟨o3,ho3⟩:=hf1.there (k*7+3) (by omega);obtain⟨o4,ho4⟩:=hf1.there (k*7+4) (by omega);obtain⟨o5,ho5⟩:=hf1.there (k*7+5) (by omega);obtain⟨o6,ho6⟩:=hf1.there (k*7+6) (by omega);clear hf1 hb1 HF HB c0 c1 c2 c3 c4 c5 c6;go_wp2;go_roundw
      case rel=>
       exact⟨k+1,_,by go_num,by omega,(((((((hB.out.setCell Zl_ _).setCell Zl_ _).setCell Zl_ _).setCell Zl_ _).setCell Zl_ _).setCell Zl_ _).setCell Zl_ _),HST.out⟩
      case measure=>simp [intOf];omega
    · have e:k=Xl.length:=by omega
      go_wp2;go_ret;exact⟨_,rfl,hb,hf.own e hL HM.out⟩
theorem Zat.setLow {lo hi:Nat} {w:World} {v:Value} {L:List Int} (h:Zat lo hi w v L) {p:Addr} (hp:p.block < lo) (u:Value):Zat lo hi (w.setCell p u) v L:=by
 rcases h with h | ⟨b,off,cap,h1,h2,h3,h4,h5,h7,h8,h9⟩
 · exact Or.inl h
 · exact Or.inr ⟨b,off,cap,h1,h2,h3,by simpa [World.setCell] using h4,fun i hi'=>by rw [Zaq _ _ _ _ (by show b≠p.block;omega)];exact h5 i hi',h7,h8,fun i=>by rw [World.frozen?_setCell];exact h9 i⟩
theorem Zdf.own {wr:World} {B:Nat} {L:List Int} {k:Nat} (h:Zdf wr B L k) (hk:L.length≤k) (hne:L≠[]) (hm:L.length≤maxLen):Zat B wr.heap.size wr (.slice (some ⟨B,0,none⟩) L.length L.length) L:=by
 refine Or.inr ⟨B,0,L.length,rfl,hne,hm,World.rowIs.lt h,fun i hi=>?_,Nat.le_refl _,World.rowIs.lt h,fun i=>by rw [Nat.zero_add];exact World.rowIs.frozen h i⟩;rw [Nat.zero_add,World.rowIs.cell h hi];unfold Zqz;rw [if_pos (by omega),List.getD_eq_getElem?_getD,List.getElem?_eq_getElem hi];rfl
theorem ZkL (lo:Nat) (v:Value) (L:List Int) (w:World) (hv:Zau lo w v L) (hn:L.length≤1048576) :
 Calls prog 191 #[v] w fun e w'=>∃ v',e=.returned v'∧Zw_ w w'∧Zat w.heap.size w'.heap.size w' v' L:=by
 by_cases hL:L=[]
 · subst hL
   obtain⟨a,cap,rfl⟩:=hv.form;clear hv
   have hmk:∀ u:World,(Instr.makeSlice 60 (.int .i64 0) (.int .i64 0)).run prog u=.ok (.slice (some ⟨u.heap.size,0,none⟩) 0 0) (u.alloc (.cells (madeCells #[.int .i64 0] 0) 3)):=
    fun u=>run_make_row' 60 3 (.int .i64 0) 8 underlying60 Tryz.info3 rfl .i64 .i64 0 (by omega) (by omega) u
   go_enter func191,ntmps191;go_wp2
   go_loop [4] (fun i=>i=.int .i64 0) (fun _=>0)
   case atStart=>rfl
   case round=>
    subst hrel;go_wp2;go_ret;exact⟨_,rfl,Zb_.alloc Zl_ _,Or.inl ⟨_,_,rfl,rfl⟩⟩
 · obtain⟨b,off,cap,rfl,hm,hbw,hc⟩:=hv.full hL
   clear hv;have HM:Hid (L.length≤maxLen):=hm;unfold maxLen at hm
   have hmk:∀ u:World,(Instr.makeSlice 60 (.int .i64 (L.length:Int)) (.int .i64 (L.length:Int))).run prog u=.ok (.slice (some ⟨u.heap.size,0,none⟩) L.length L.length) (u.alloc (.cells (madeCells #[.int .i64 0] L.length) 3)):=
    fun u=>run_make_row' 60 3 (.int .i64 0) 8 underlying60 Tryz.info3 rfl .i64 .i64 L.length (by omega) (by omega) u
   go_enter func191,ntmps191;go_wp2;clear hmk
   go_loopw [4] (fun i wr=>∃ k:Nat,i=.int .i64 k∧k≤L.length∧Zw_ w wr∧Zdf wr w.heap.size L k) (fun i _=>L.length - (intOf i).toNat)
   case atStart=>exact⟨0,rfl,by omega,Zb_.alloc Zl_ _,World.rowIs_made w (.int .i64 0) L.length 3⟩
   case round=>
    obtain⟨k,rfl,hk,hb,hf⟩:=hrel
    by_cases hlt:k < L.length
    · have hck:wr.cell? ⟨b,off+k,none⟩=some (.int .i64 L[k]):=by rw [hb.cell (p:=⟨b,off+k,none⟩) hbw];exact hc k hlt
      have hold:wr.cell? ⟨w.heap.size,k,none⟩=some _:=World.rowIs.cell hf hlt;have hfz:wr.frozen? ⟨w.heap.size,k,none⟩=false:=World.rowIs.frozen hf k;go_wp2;go_roundw
      case rel=>exact⟨k+1,by go_num,by omega,hb.setCell Zl_ _,hf.step hlt⟩
      case measure=>simp [intOf];omega
    · go_wp2
      go_ret;exact⟨_,rfl,hb,Zdf.own hf (by omega) hL HM.out⟩
theorem Zk8 (lo:Nat) (r:Ru) (vv:Value) (w:World) (hv:Zau lo w vv r.vb) (hn:r.vb.length≤1048576) :
 Calls prog 143 #[.agg #[vv,.string r.kd,.string r.tm,.string r.pf]] w
  fun e w'=>∃ v',e=.returned (.agg #[v',.string r.kd,.string r.tm,.string r.pf])∧Zw_ w w'∧Zat w.heap.size w'.heap.size w' v' r.vb:=by
 have HV:=Zab hv;obtain⟨a,cap,rfl⟩:=hv.form;clear hv;go_enter func143,ntmps143;go_wp2_with fail;refine (ZkL lo _ r.vb _ (HV.out.below ?_) hn).mono ?_
 · exact ((Zb_.alloc Zl_ _).alloc (by simp) _).alloc (by simp;omega) _
 rintro e w1 ⟨v',rfl,hb,hs⟩;obtain⟨a',cap',rfl⟩:=hs.form;have HS:Hid (Zat (w.heap.size+3) w1.heap.size w1 (.slice a' r.vb.length cap') r.vb):=hs.wide (by simp) Zl_;clear hs;have hz:w.heap.size+2 < w1.heap.size:=by have:=hb.size;simp at this;omega
 have hc:∀ b o,b < w.heap.size+3→w1.cell? ⟨b,o,none⟩=_:=fun b o h=>hb.cell (p:=⟨b,o,none⟩) (by simpa using h)
 have hf:∀ b o,b < w.heap.size+3→w1.frozen? ⟨b,o,none⟩=_:=fun b o h=>hb.frozen (p:=⟨b,o,none⟩) (by simpa using h)
 have HB:Hid (Zw_ w w1):=(((Zb_.alloc Zl_ _).alloc (by simp) _).alloc (by simp;omega) _).trans (hb.mono (by simp;omega));clear hb;go_wp2;refine bodyPost_ret (v:=.agg #[.slice a' r.vb.length cap',.string r.kd,.string r.tm,.string r.pf]) (by simp [results,results143,go_sem,hc]) rfl ⟨_,rfl,?_,?_⟩
 · repeat (refine Below.setCell ?_ (by simp only [];omega) _)
   exact HB.out
 · refine Zat.wide (lo:=w.heap.size+3) (hi:=w1.heap.size) ?_ (by omega) (by simp [World.setCell])
   repeat (refine Zat.setLow ?_ (by simp only [];omega) _)
   exact HS.out
theorem Zoz (lo:Nat) (x:Gr) (vv0:Value) (w:World) (hv0:Zau lo w vv0 x.vb) (hn:ZdC x) :
 Calls prog 104 #[.agg #[.int .i64 x.nu,.string x.tw,.string x.gb,vv0,.string x.kd,.string x.tm,.string x.pf]] w
  fun e w'=>∃ z0,e=.returned (.agg #[.int .i64 x.nu,.string x.tw,.string x.gb,z0,.string x.kd,.string x.tm,.string x.pf])∧Zw_ w w'∧Zat w.heap.size w'.heap.size w' z0 x.vb:=by
 have HV:=Zab hv0;obtain⟨a,cap,rfl⟩:=hv0.form;have hn':x.ru.vb.length≤1048576:=hn;clear hv0 hn;go_enter func104,ntmps104;go_wp2_with fail;refine (Zk8 lo x.ru _ _ (HV.out.below ?_) hn').mono ?_
 · exact ((Zb_.alloc Zl_ _).alloc (by simp) _).alloc (by simp;omega) _
 rintro e w1 ⟨v',rfl,hb,hs⟩;obtain⟨a',cap',rfl⟩:=hs.form;have HS:Hid (Zat (w.heap.size+3) w1.heap.size w1 (.slice a' x.ru.vb.length cap') x.vb):=hs.wide (by simp) Zl_;clear hs;have hz:w.heap.size+2 < w1.heap.size:=by have:=hb.size;simp at this;omega
 have hc:∀ b o,b < w.heap.size+3→w1.cell? ⟨b,o,none⟩=_:=fun b o h=>hb.cell (p:=⟨b,o,none⟩) (by simpa using h)
 have hf:∀ b o,b < w.heap.size+3→w1.frozen? ⟨b,o,none⟩=_:=fun b o h=>hb.frozen (p:=⟨b,o,none⟩) (by simpa using h)
 have HB:Hid (Zw_ w w1):=(((Zb_.alloc Zl_ _).alloc (by simp) _).alloc (by simp;omega) _).trans (hb.mono (by simp;omega));clear hb;go_wp2;refine bodyPost_ret (v:=.agg #[.int .i64 x.nu,.string x.tw,.string x.gb,(.slice a' x.ru.vb.length cap'),.string x.kd,.string x.tm,.string x.pf]) (by simp [results,results104,go_sem,hc];exact⟨rfl,rfl,rfl⟩) rfl ⟨_,rfl,?_,?_⟩
 · repeat (refine Below.setCell ?_ (by simp only [];omega) _)
   exact HB.out
 · refine Zat.wide (lo:=w.heap.size+3) (hi:=w1.heap.size) ?_ (by omega) (by simp [World.setCell])
   repeat (refine Zat.setLow ?_ (by simp only [];omega) _)
   exact HS.out
def Za4 (wr:World) (B:Nat) (Xl:List Gr) (k:Nat) (c:Nat→Nat):Prop:=
 B < c 0∧(∀ i,i < k→c i≤c (i+1))∧c k≤wr.heap.size∧∃ f,wr.rowIs B 158 (Xl.length*7) f∧∀ i (h:i < Xl.length),i < k→ZdF Xl[i]∧∃ (vv0:Value),(c i)≤(c (i+1))∧f (i*7)=.int .i64 Xl[i].nu∧f (i*7+1)=.string Xl[i].tw∧f (i*7+2)=.string Xl[i].gb∧f (i*7+3)=vv0∧f (i*7+4)=.string Xl[i].kd∧f (i*7+5)=.string Xl[i].tm∧f (i*7+6)=.string Xl[i].pf∧Zat (c i) (c (i+1)) wr vv0 Xl[i].vb
theorem Za4.le {wr:World} {B:Nat} {Xl:List Gr} {k:Nat} {c:Nat→Nat} (h:Za4 wr B Xl k c) {i:Nat}:∀ {j:Nat},i≤j→j≤k→c i≤c j:=by
 intro j
 induction j with
 | zero=>intro hij _;have:i=0:=by omega
         subst this;exact Nat.le_refl _
 | succ j ih=>
  intro hij hjn
  by_cases e:i=j+1
  · subst e;exact Nat.le_refl _
  · exact Nat.le_trans (ih (by omega) (by omega)) (h.2.1 j (by omega))
theorem Za4.below {wr w1:World} {B:Nat} {Xl:List Gr} {k:Nat} {c:Nat→Nat} (h:Za4 wr B Xl k c) (hb:Below wr.heap.size wr w1):Za4 w1 B Xl k c:=by
 obtain⟨g1,g2,g3,f,hr,hall⟩:=h;refine⟨g1,g2,Nat.le_trans g3 hb.size,f,hr.of_block (hb.block B hr.lt),fun i hi hik=>?_⟩;obtain⟨hz,vv0,q0,h0,h1,h2,h3,h4,h5,h6,l0⟩:=hall i hi hik;exact⟨hz,vv0,q0,h0,h1,h2,h3,h4,h5,h6,l0.below hb⟩
theorem Za4.free {wr:World} {B:Nat} {Xl:List Gr} {k:Nat} {c:Nat→Nat} (h:Za4 wr B Xl k c) (i:Nat):wr.frozen? ⟨B,i,none⟩=false:=by
 obtain⟨_,_,_,f,hr,_⟩:=h;exact hr.frozen i
theorem Za4.there {wr:World} {B:Nat} {Xl:List Gr} {k:Nat} {c:Nat→Nat} (h:Za4 wr B Xl k c) (i:Nat) (hi:i < Xl.length*7):∃ v,wr.cell? ⟨B,i,none⟩=some v:=by
 obtain⟨_,_,_,f,hr,_⟩:=h;exact⟨_,hr.cell hi⟩
theorem Za4.step {w1:World} {B:Nat} {Xl:List Gr} {k:Nat} {c:Nat→Nat} {vv0:Value} (h:Za4 w1 B Xl k c) (hk:k < Xl.length) (hz:ZdF Xl[k]) (d:Nat) (hd0:c k≤d) (hd:d≤w1.heap.size) (r0:(c k)≤d) (e0:Zat (c k) d w1 vv0 Xl[k].vb) :
 Za4 (((((((w1.setCell ⟨B,k*7,none⟩ (.int .i64 Xl[k].nu)).setCell ⟨B,k*7+1,none⟩ (.string Xl[k].tw)).setCell ⟨B,k*7+2,none⟩ (.string Xl[k].gb)).setCell ⟨B,k*7+3,none⟩ (vv0)).setCell ⟨B,k*7+4,none⟩ (.string Xl[k].kd)).setCell ⟨B,k*7+5,none⟩ (.string Xl[k].tm)).setCell ⟨B,k*7+6,none⟩ (.string Xl[k].pf)) B Xl (k+1) (fun j=>if j≤k then c j else d):=by
 have hle:=fun i (hi:i≤k)=>h.le (i:=0) (j:=i) Zz_ hi
 have hle2:=fun i (hi:i < k)=>h.le (i:=i+1) (j:=k) (by omega) Zl_
 obtain⟨g1,g2,g3,f,hr,hall⟩:=h;have hts:Zad B (B+1) w1 (((((((w1.setCell ⟨B,k*7,none⟩ (.int .i64 Xl[k].nu)).setCell ⟨B,k*7+1,none⟩ (.string Xl[k].tw)).setCell ⟨B,k*7+2,none⟩ (.string Xl[k].gb)).setCell ⟨B,k*7+3,none⟩ (vv0)).setCell ⟨B,k*7+4,none⟩ (.string Xl[k].kd)).setCell ⟨B,k*7+5,none⟩ (.string Xl[k].tm)).setCell ⟨B,k*7+6,none⟩ (.string Xl[k].pf)):=((((((Zad.setB B _ _ _).trans (Zad.setB B _ _ _)).trans (Zad.setB B _ _ _)).trans (Zad.setB B _ _ _)).trans (Zad.setB B _ _ _)).trans (Zad.setB B _ _ _)).trans (Zad.setB B _ _ _);refine⟨by simpa using g1,fun i hi=>?_,?_,_,(((((((hr.set _ _).set _ _).set _ _).set _ _).set _ _).set _ _).set _ _),fun i hi hik=>?_⟩
 · dsimp only
   by_cases e:i=k
   · subst e;rw [if_pos Zl_,if_neg (by omega)];exact hd0
   · rw [if_pos (by omega),if_pos (by omega)];exact g2 i (by omega)
 · dsimp only;rw [if_neg (by omega)];exact Nat.le_trans hd hts.size
 by_cases e:i=k
 · subst e
   dsimp only;rw [if_pos Zl_,if_neg (by omega)];have hb0:=hle i Zl_;exact⟨hz,vv0,r0,by simp,by simp,by simp,by simp,by simp,by simp,by simp,e0.touch hts (by omega)⟩
 · dsimp only
   rw [if_pos (by omega),if_pos (by omega)];have hb0:=hle i (by omega);obtain⟨hz,vv0,q0,h0,h1,h2,h3,h4,h5,h6,l0⟩:=hall i hi (by omega);refine⟨hz,vv0,q0,?_,?_,?_,?_,?_,?_,?_,l0.touch hts (by omega)⟩
   · rw [if_neg (by omega),if_neg (by omega),if_neg (by omega),if_neg (by omega),if_neg (by omega),if_neg (by omega),if_neg (by omega)];exact h0
   · rw [if_neg (by omega),if_neg (by omega),if_neg (by omega),if_neg (by omega),if_neg (by omega),if_neg (by omega),if_neg (by omega)];exact h1
   · rw [if_neg (by omega),if_neg (by omega),if_neg (by omega),if_neg (by omega),if_neg (by omega),if_neg (by omega),if_neg (by omega)];exact h2
   · rw [if_neg (by omega),if_neg (by omega),if_neg (by omega),if_neg (by omega),if_neg (by omega),if_neg (by omega),if_neg (by omega)];exact h3
   · rw [if_neg (by omega),if_neg (by omega),if_neg (by omega),if_neg (by omega),if_neg (by omega),if_neg (by omega),if_neg (by omega)];exact h4
   · rw [if_neg (by omega),if_neg (by omega),if_neg (by omega),if_neg (by omega),if_neg (by omega),if_neg (by omega),if_neg (by omega)];exact h5
   · rw [if_neg (by omega),if_neg (by omega),if_neg (by omega),if_neg (by omega),if_neg (by omega),if_neg (by omega),if_neg (by omega)];exact h6
theorem Za4.own {wr:World} {B:Nat} {Xl:List Gr} {k:Nat} {c:Nat→Nat} (h:Za4 wr B Xl k c) (hk:k=Xl.length) (hne:Xl≠[]) (hm:Xl.length≤maxLen):Za8 B wr.heap.size wr (.slice (some ⟨B,0,none⟩) Xl.length Xl.length) Xl:=by
 subst hk;have hle:=fun i (hi:i≤Xl.length)=>h.le (i:=0) (j:=i) Zz_ hi
 have hle2:=fun i (hi:i < Xl.length)=>h.le (i:=i+1) (j:=Xl.length) (by omega) Zl_
 have hle3:=fun i j (hi:i < j) (hj:j < Xl.length)=>h.le (i:=i+1) (j:=j) (by omega) (by omega)
 obtain⟨g1,g2,g3,f,hr,hall⟩:=h;have h0:0 < Xl.length:=List.length_pos_iff.2 hne
 refine Or.inr ⟨B,0,Xl.length,fun i=>(c i,c (i+1)),fun i=>if h:i < Xl.length then Xl[i] else Xl[0],rfl,hne,hm,Nat.le_refl _,fun i hi=>by simp [hi],hr.lt,Nat.le_refl _,hr.lt,fun i hi=>⟨by have:=hle i (by omega);simp only [];omega,by have:=hle2 i hi;simp only [];omega,Or.inl (by have:=hle i (by omega);simp only [];omega)⟩,hle3,fun i=>hr.frozen i,fun i hi=>?_⟩;obtain⟨hz,vv0,q0,h0,h1,h2,h3,h4,h5,h6,l0⟩:=hall i hi hi;simp only [hi,dif_pos];rw [Nat.zero_add];exact⟨hz,vv0,q0,⟨by rw [hr.cell (by omega),h0],by rw [hr.cell (by omega),h1],by rw [hr.cell (by omega),h2],by rw [hr.cell (by omega),h3],by rw [hr.cell (by omega),h4],by rw [hr.cell (by omega),h5],by rw [hr.cell (by omega),h6]⟩,l0⟩
theorem Za4.new (w:World) (Xl:List Gr) (z:Array Value):Za4 (w.alloc (.cells (madeCells z (Xl.length*7)) 158)) w.heap.size Xl 0 (fun _=>w.heap.size+1):=by
 refine⟨Nat.lt_succ_self _,fun i hi=>by omega,by simp,fun i=>(madeCells z (Xl.length*7)).getD i default,?_,fun i _ h=>by omega⟩;have:=World.rowIs_alloc w (madeCells z (Xl.length*7)) 158 (fun i=>(madeCells z (Xl.length*7)).getD i default) (fun i hi=>by simp [Array.getD,hi])
 rwa [size_madeCells] at this
theorem Znj (lo:Nat) (v:Value) (Xl:List Gr) (w:World) (hv:ZbY lo w v Xl) (hn:Zds Xl) :
 Calls prog 45 #[v] w fun e w'=>∃ v',e=.returned v'∧Zw_ w w'∧Za8 w.heap.size w'.heap.size w' v' Xl:=by
 obtain⟨i0,hi,hz0,hz1,hz2⟩:=info_parts Tryz.info158;have HSM:=Zab hn.2;have hn1:=hn.1;clear hn
 by_cases hL:Xl=[]
 · subst hL
   obtain⟨a,cap,rfl⟩:=hv.form;clear hv
   have hmk:∀ u:World,(Instr.makeSlice 36 (.int .i64 0) (.int .i64 0)).run prog u=.ok (.slice (some ⟨u.heap.size,0,none⟩) 0 0) (u.alloc (.cells (madeCells (Value.cells (.agg #[.int .i64 0,.string ⟨#[]⟩,.string ⟨#[]⟩,.slice none 0 0,.string ⟨#[]⟩,.string ⟨#[]⟩,.string ⟨#[]⟩])) 0) 158)):=fun u=>by
    have h:=run_make (P:=prog) u 36 158 i0 _ underlying36 hi hz0 .i64 .i64 0 0 (by omega) (by omega) (by omega) (by omega)
    simpa [hz1] using h
   go_enter func45,ntmps45;go_wp2
   go_loop [4] (fun i=>i=.int .i64 0) (fun _=>0)
   case atStart=>rfl
   case round=>
    subst hrel;go_wp2;go_ret;exact⟨_,rfl,Zb_.alloc Zl_ _,Or.inl ⟨_,_,rfl,rfl⟩⟩
 · obtain⟨b,off,cap,rfl,hm,hbw,_,hc⟩:=hv.full hL
   clear hv;have HM:Hid (Xl.length≤maxLen):=hm;unfold maxLen at hm
   have hmk:∀ u:World,(Instr.makeSlice 36 (.int .i64 (Xl.length:Int)) (.int .i64 (Xl.length:Int))).run prog u=.ok (.slice (some ⟨u.heap.size,0,none⟩) Xl.length Xl.length) (u.alloc (.cells (madeCells (Value.cells (.agg #[.int .i64 0,.string ⟨#[]⟩,.string ⟨#[]⟩,.slice none 0 0,.string ⟨#[]⟩,.string ⟨#[]⟩,.string ⟨#[]⟩])) (Xl.length*7)) 158)):=fun u=>by
    have h:=run_make (P:=prog) u 36 158 i0 _ underlying36 hi hz0 .i64 .i64 Xl.length Xl.length (by omega) (by omega) (by rw [hz2];omega) (by omega);rw [hz1] at h
    simpa using h
   clear hi hz0 hz1 hz2;go_enter func45,ntmps45;go_wp2;clear hmk
   go_loopw [4] (fun i wr=>∃ (k:Nat) (c:Nat→Nat),i=.int .i64 k∧k≤Xl.length∧Zw_ w wr∧Za4 wr w.heap.size Xl k c) (fun i _=>Xl.length - (intOf i).toNat)
   case atStart=>exact⟨0,_,rfl,by omega,Zb_.alloc Zl_ _,Za4.new w Xl _⟩
   case round=>
    obtain⟨k,c,rfl,hk,hb,hf⟩:=hrel
    by_cases hlt:k < Xl.length
    · obtain⟨hs,vv0,hc,hv0⟩:=hc k hlt
      have HB:=Zab hb;have HF:=Zab hf;have HSZ:=Zab hs;obtain⟨x0,y0,rfl⟩:=hv0.form;obtain⟨c0,c1,c2,c3,c4,c5,c6⟩:=hc.below hb hbw;have HV0:=Zab (hv0.below hb);clear hv0;clear hc hb hf hs;go_wp2_with fail;refine (Zoz 0 Xl[k] _ _ (HV0.out.mono Zz_) (HSM.out k hlt)).mono ?_;rintro e w1 ⟨z0,rfl,hb1,hO0⟩;obtain⟨s0,t0,rfl⟩:=hO0.form;have hf1:=HF.out.below hb1;have hB:Hid (Zw_ w w1):=HB.out.trans (hb1.mono HB.out.size);have HST:=Zab (hf1.step hlt HSZ.out w1.heap.size (Nat.le_trans HF.out.2.2.1 hb1.size) Zl_ (Nat.le_trans HF.out.2.2.1 hb1.size) (hO0.wide HF.out.2.2.1 Zl_));have hfr:=hf1.free;obtain⟨o0,ho0⟩:=hf1.there (k*7) (by omega);obtain⟨o1,ho1⟩:=hf1.there (k*7+1) (by omega);obtain⟨o2,ho2⟩:=hf1.there (k*7+2) (by omega);obtain⟨o3,ho3⟩:=hf1.there (k*7+3) (by omega);obtain⟨o4,ho4⟩:=hf1.there (k*7+4) (by omega)
      obtain⟨o5,ho5⟩:=hf1.there (k*7+5) (by omega);obtain⟨o6,ho6⟩:=hf1.there (k*7+6) (by omega);clear hf1 hb1 HF HB c0 c1 c2 c3 c4 c5 c6;go_wp2;go_roundw
      case rel=>
       exact⟨k+1,_,by go_num,by omega,(((((((hB.out.setCell Zl_ _).setCell Zl_ _).setCell Zl_ _).setCell Zl_ _).setCell Zl_ _).setCell Zl_ _).setCell Zl_ _),HST.out⟩
      case measure=>simp [intOf];omega
    · have e:k=Xl.length:=by omega
      go_wp2;go_ret;exact⟨_,rfl,hb,hf.own e hL HM.out⟩
def Zbc (wr:World) (B:Nat) (Xl:List Tm) (k:Nat) (c:Nat→Nat):Prop:=
 B < c 0∧(∀ i,i < k→c i≤c (i+1))∧c k≤wr.heap.size∧∃ f,wr.rowIs B 168 (Xl.length*2) f∧∀ i (h:i < Xl.length),i < k→ZeS Xl[i]∧f (i*2)=.string Xl[i].nm∧f (i*2+1)=.string Xl[i].ov
theorem Zbc.le {wr:World} {B:Nat} {Xl:List Tm} {k:Nat} {c:Nat→Nat} (h:Zbc wr B Xl k c) {i:Nat}:∀ {j:Nat},i≤j→j≤k→c i≤c j:=by
 intro j
 induction j with
 | zero=>intro hij _;have:i=0:=by omega
         subst this;exact Nat.le_refl _
 | succ j ih=>
  intro hij hjn
  by_cases e:i=j+1
  · subst e;exact Nat.le_refl _
  · exact Nat.le_trans (ih (by omega) (by omega)) (h.2.1 j (by omega))
theorem Zbc.below {wr w1:World} {B:Nat} {Xl:List Tm} {k:Nat} {c:Nat→Nat} (h:Zbc wr B Xl k c) (hb:Below wr.heap.size wr w1):Zbc w1 B Xl k c:=by
 obtain⟨g1,g2,g3,f,hr,hall⟩:=h;refine⟨g1,g2,Nat.le_trans g3 hb.size,f,hr.of_block (hb.block B hr.lt),fun i hi hik=>?_⟩;obtain⟨hz,h0,h1⟩:=hall i hi hik;exact⟨hz,h0,h1⟩
theorem Zbc.free {wr:World} {B:Nat} {Xl:List Tm} {k:Nat} {c:Nat→Nat} (h:Zbc wr B Xl k c) (i:Nat):wr.frozen? ⟨B,i,none⟩=false:=by
 obtain⟨_,_,_,f,hr,_⟩:=h;exact hr.frozen i
theorem Zbc.there {wr:World} {B:Nat} {Xl:List Tm} {k:Nat} {c:Nat→Nat} (h:Zbc wr B Xl k c) (i:Nat) (hi:i < Xl.length*2):∃ v,wr.cell? ⟨B,i,none⟩=some v:=by
 obtain⟨_,_,_,f,hr,_⟩:=h;exact⟨_,hr.cell hi⟩
theorem Zbc.step {w1:World} {B:Nat} {Xl:List Tm} {k:Nat} {c:Nat→Nat} (h:Zbc w1 B Xl k c) (hk:k < Xl.length) (hz:ZeS Xl[k]) (d:Nat) (hd0:c k≤d) (hd:d≤w1.heap.size) :
 Zbc ((w1.setCell ⟨B,k*2,none⟩ (.string Xl[k].nm)).setCell ⟨B,k*2+1,none⟩ (.string Xl[k].ov)) B Xl (k+1) (fun j=>if j≤k then c j else d):=by
 have hle:=fun i (hi:i≤k)=>h.le (i:=0) (j:=i) Zz_ hi
 have hle2:=fun i (hi:i < k)=>h.le (i:=i+1) (j:=k) (by omega) Zl_
 obtain⟨g1,g2,g3,f,hr,hall⟩:=h;have hts:Zad B (B+1) w1 ((w1.setCell ⟨B,k*2,none⟩ (.string Xl[k].nm)).setCell ⟨B,k*2+1,none⟩ (.string Xl[k].ov)):=(Zad.setB B _ _ _).trans (Zad.setB B _ _ _);refine⟨by simpa using g1,fun i hi=>?_,?_,_,((hr.set _ _).set _ _),fun i hi hik=>?_⟩
 · dsimp only
   by_cases e:i=k
   · subst e;rw [if_pos Zl_,if_neg (by omega)];exact hd0
   · rw [if_pos (by omega),if_pos (by omega)];exact g2 i (by omega)
 · dsimp only;rw [if_neg (by omega)];exact Nat.le_trans hd hts.size
 by_cases e:i=k
 · subst e
   have hb0:=hle i Zl_;exact⟨hz,by simp,by simp⟩
 · have hb0:=hle i (by omega)
   obtain⟨hz,h0,h1⟩:=hall i hi (by omega);refine⟨hz,?_,?_⟩
   · rw [if_neg (by omega),if_neg (by omega)];exact h0
   · rw [if_neg (by omega),if_neg (by omega)];exact h1
theorem Zbc.own {wr:World} {B:Nat} {Xl:List Tm} {k:Nat} {c:Nat→Nat} (h:Zbc wr B Xl k c) (hk:k=Xl.length) (hne:Xl≠[]) (hm:Xl.length≤maxLen):Zck B wr.heap.size wr (.slice (some ⟨B,0,none⟩) Xl.length Xl.length) Xl:=by
 subst hk;obtain⟨g1,g2,g3,f,hr,hall⟩:=h;have h0:0 < Xl.length:=List.length_pos_iff.2 hne
 refine Or.inr ⟨B,0,Xl.length,c,fun i=>if h:i < Xl.length then Xl[i] else Xl[0],rfl,hne,hm,Nat.le_refl _,fun i hi=>by simp [hi],hr.lt,Nat.le_refl _,g1,hr.lt,g2,g3,fun i=>hr.frozen i,fun i hi=>?_⟩;obtain⟨hz,h0,h1⟩:=hall i hi hi;simp only [hi,dif_pos];rw [Nat.zero_add];exact⟨hz,⟨by rw [hr.cell (by omega),h0],by rw [hr.cell (by omega),h1]⟩⟩
theorem Zbc.new (w:World) (Xl:List Tm) (z:Array Value):Zbc (w.alloc (.cells (madeCells z (Xl.length*2)) 168)) w.heap.size Xl 0 (fun _=>w.heap.size+1):=by
 refine⟨Nat.lt_succ_self _,fun i hi=>by omega,by simp,fun i=>(madeCells z (Xl.length*2)).getD i default,?_,fun i _ h=>by omega⟩;have:=World.rowIs_alloc w (madeCells z (Xl.length*2)) 168 (fun i=>(madeCells z (Xl.length*2)).getD i default) (fun i hi=>by simp [Array.getD,hi])
 rwa [size_madeCells] at this
theorem ZmL (lo:Nat) (v:Value) (Xl:List Tm) (w:World) (hv:Zbo lo w v Xl) (hn:Zdo Xl) :
 Calls prog 43 #[v] w fun e w'=>∃ v',e=.returned v'∧Zw_ w w'∧Zck w.heap.size w'.heap.size w' v' Xl:=by
 obtain⟨i0,hi,hz0,hz1,hz2⟩:=info_parts Tryz.info168;have HSM:=Zab hn.2;have hn1:=hn.1;clear hn
 by_cases hL:Xl=[]
 · subst hL
   obtain⟨a,cap,rfl⟩:=hv.form;clear hv
   have hmk:∀ u:World,(Instr.makeSlice 45 (.int .i64 0) (.int .i64 0)).run prog u=.ok (.slice (some ⟨u.heap.size,0,none⟩) 0 0) (u.alloc (.cells (madeCells (Value.cells (.agg #[.string ⟨#[]⟩,.string ⟨#[]⟩])) 0) 168)):=fun u=>by
    have h:=run_make (P:=prog) u 45 168 i0 _ underlying45 hi hz0 .i64 .i64 0 0 (by omega) (by omega) (by omega) (by omega)
    simpa [hz1] using h
   go_enter func43,ntmps43;go_wp2
   go_loop [4] (fun i=>i=.int .i64 0) (fun _=>0)
   case atStart=>rfl
   case round=>
    subst hrel;go_wp2;go_ret;exact⟨_,rfl,Zb_.alloc Zl_ _,Or.inl ⟨_,_,rfl,rfl⟩⟩
 · obtain⟨b,off,cap,rfl,hm,hbw,_,hc⟩:=hv.full hL
   clear hv;have HM:Hid (Xl.length≤maxLen):=hm;unfold maxLen at hm
   have hmk:∀ u:World,(Instr.makeSlice 45 (.int .i64 (Xl.length:Int)) (.int .i64 (Xl.length:Int))).run prog u=.ok (.slice (some ⟨u.heap.size,0,none⟩) Xl.length Xl.length) (u.alloc (.cells (madeCells (Value.cells (.agg #[.string ⟨#[]⟩,.string ⟨#[]⟩])) (Xl.length*2)) 168)):=fun u=>by
    have h:=run_make (P:=prog) u 45 168 i0 _ underlying45 hi hz0 .i64 .i64 Xl.length Xl.length (by omega) (by omega) (by rw [hz2];omega) (by omega);rw [hz1] at h
    simpa using h
   clear hi hz0 hz1 hz2;go_enter func43,ntmps43;go_wp2;clear hmk
   go_loopw [4] (fun i wr=>∃ (k:Nat) (c:Nat→Nat),i=.int .i64 k∧k≤Xl.length∧Zw_ w wr∧Zbc wr w.heap.size Xl k c) (fun i _=>Xl.length - (intOf i).toNat)
   case atStart=>exact⟨0,_,rfl,by omega,Zb_.alloc Zl_ _,Zbc.new w Xl _⟩
   case round=>
    obtain⟨k,c,rfl,hk,hb,hf⟩:=hrel
    by_cases hlt:k < Xl.length
    · obtain⟨hs,hc⟩:=hc k hlt
      have HB:=Zab hb;have HF:=Zab hf;have HSZ:=Zab hs;obtain⟨c0,c1⟩:=hc.below hb hbw;clear hc hb hf hs;go_wp2_with fail;refine (Zib _ _ _).mono ?_;rintro e w1 ⟨rfl,hb1⟩;have hf1:=HF.out.below hb1;have hB:Hid (Zw_ w w1):=HB.out.trans (hb1.mono HB.out.size);have HST:=Zab (hf1.step hlt HSZ.out w1.heap.size (Nat.le_trans HF.out.2.2.1 hb1.size) Zl_);have hfr:=hf1.free;obtain⟨o0,ho0⟩:=hf1.there (k*2) (by omega);obtain⟨o1,ho1⟩:=hf1.there (k*2+1) (by omega);clear hf1 hb1 HF HB c0 c1;go_wp2;go_roundw
      case rel=>
       exact⟨k+1,_,by go_num,by omega,((hB.out.setCell Zl_ _).setCell Zl_ _),HST.out⟩
      case measure=>simp [intOf];omega
    · have e:k=Xl.length:=by omega
      go_wp2;go_ret;exact⟨_,rfl,hb,hf.own e hL HM.out⟩
end Go.Proofs.YtfohnageehneoaaGreat
