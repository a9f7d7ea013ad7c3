import Derived.Test.YtdeammfdkaomlaaGreatM06
set_option maxHeartbeats 16000000
set_option maxRecDepth 100000
open Go.Proofs.Tryz
namespace Go.Proofs.YtdeammfdkaomlaaGreat
open Go.RowKit Go.Deep
theorem Zcc.own {wr:World}{B:Nat}{Xl:List Int}{k:Nat} (h:Zcc wr B Xl k) (hk:Xl.length<=k) (hne:Xl≠[]) (hm:Xl.length<=maxLen):ZaD B wr.heap.size wr (.slice (some ⟨B,0,none⟩) Xl.length Xl.length) Xl:=by
 obtain⟨f,hr,hall⟩:=h
 refine Or.inr ⟨B,0,Xl.length,rfl,hne,hm,Nat.le_refl _,hr.lt,fun i hi=>by
  obtain⟨hz,h0⟩:=hall i hi (by omega);rw [Nat.zero_add,hr.cell hi,h0],Nat.le_refl _,hr.lt,fun i=>hr.frozen _⟩
theorem ZeN (lo:Nat) (v:Value) (Xl:List Int) (w:World) (hv:ZaR lo w v Xl) (hn:ZaS Xl) :
 Calls prog 67 #[v] w fun e w'=>∃ v',e=.returned v'/\Zw_ w w'/\ZaD w.heap.size w'.heap.size w' v' Xl:=by
 unfold ZaS at hn
 by_cases hL:Xl=[]
 . subst hL
   obtain⟨a,cap,rfl⟩:=hv.form;clear hv
   have hmk:∀ u:World,(Instr.makeSlice 51 (.int .i64 0) (.int .i64 0)).run prog u=.ok (.slice (some ⟨u.heap.size,0,none⟩) 0 0) (u.alloc (.cells (madeCells #[.int .i64 0] 0) 3)):=
    fun u=>run_make_row' 51 3 (.int .i64 0) 8 underlying51 Tryz.infoRis rfl .i64 .i64 0 (by omega) (by omega) u
   go_enter func67,ntmps67;go_wp2
   go_loop [4] (fun i=>i=.int .i64 0) (fun _=>0)
   case atStart=>rfl
   case round=>
    subst hrel;go_wp2;go_ret;exact⟨_,rfl,Zb_.alloc Zl_ _,Or.inl ⟨_,_,rfl,rfl⟩⟩
 . obtain⟨b,off,cap,rfl,hm,hbw,_,hc⟩:=hv.full hL
   clear hv;have HM:Hd (Xl.length<=maxLen):=hm;unfold maxLen at hm
   have hmk:∀ u:World,(Instr.makeSlice 51 (.int .i64 (Xl.length:Int)) (.int .i64 (Xl.length:Int))).run prog u=.ok (.slice (some ⟨u.heap.size,0,none⟩) Xl.length Xl.length) (u.alloc (.cells (madeCells #[.int .i64 0] Xl.length) 3)):=
    fun u=>run_make_row' 51 3 (.int .i64 0) 8 underlying51 Tryz.infoRis rfl .i64 .i64 Xl.length (by omega) (by omega) u
   go_enter func67,ntmps67;go_wp2;clear hmk
   go_loopw [4] (fun i wr=>∃ k:Nat,i=.int .i64 k/\k<=Xl.length/\Zw_ w wr/\Zcc wr w.heap.size Xl k) (fun i _=>Xl.length - (intOf i).toNat)
   case atStart=>exact⟨0,rfl,by omega,Zb_.alloc Zl_ _,⟨_,World.rowIs_made w (.int .i64 0) Xl.length 3,fun i _ h=>by omega⟩⟩
   case round=>
    obtain⟨k,rfl,hk,hb,hf⟩:=hrel
    by_cases hlt:k < Xl.length
    . obtain⟨hz,hck⟩:=hc k hlt
      rw [<- hb.cell (p:=⟨b,off+k,none⟩) hbw] at hck;obtain⟨v0,hold⟩:=hf.there k hlt;have hfz:=hf.free k;have HZ:=Zaa hz;have HF:=Zaa hf;have HB:=Zaa hb;clear hz hf hb;go_wp2;go_roundw
      . exact⟨k+1,by go_num,by omega,HB.o.setCell Zl_ _,HF.o.step hlt HZ.o⟩
      . simp [intOf];omega
    . go_wp2
      go_ret;exact⟨_,rfl,hb,hf.own (by omega) hL HM.o⟩
theorem ZiV (lo:Nat) (cs:List Value) (U:Ra) (w:World) (h:RaC lo w cs U) (hn:Zcn U) :
 Calls prog 135 #[.agg cs.toArray] w
  fun e w'=>∃ b0 m0,e=.returned (.agg (raL U b0 m0).toArray)/\Zw_ w w'/\ZaD w.heap.size w'.heap.size w' (.slice b0 U.fr.length m0) U.fr:=by
 obtain⟨a0,k0,rfl,h⟩:=h
 show Calls prog 135 #[.agg #[.int .i64 U.ix,.slice a0 U.fr.length k0]] w _
 have HL:=Zaa h;have hn0:=hn;clear h;go_enter func135,ntmps135;go_wp2_with fail
 obtain⟨wz,hwz,FX,FR,FO,HB⟩:∃ wz,wz=((w.alloc (.cells #[.int .i64 U.ix,.slice a0 U.fr.length k0] 162)).alloc (.cells #[.int .i64 0,.slice none 0 0] 170)).alloc (.cells #[.int .i64 U.ix,.slice none 0 0] 170)/\
  Hd (Box wz w.heap.size #[.int .i64 U.ix,.slice a0 U.fr.length k0])/\Hd (Box wz (w.heap.size+1) #[.int .i64 0,.slice none 0 0])/\Hd (Box wz (w.heap.size+1+1) #[.int .i64 U.ix,.slice none 0 0])/\Hd (Zw_ w wz):=
  ⟨_,rfl,((Box.new w _ _ _ rfl).on (Zab _ _)).on (Zab _ _),(Box.new _ _ _ _ (by simp)).on (Zab _ _),Box.new _ _ _ _ (by simp),((Zab _ _).trans ((Zab _ _).mono (by simp))).trans ((Zab _ _).mono (by simp;omega))⟩
 rw [<- hwz];clear hwz;generalize wz=v0 at*;have hz0:w.heap.size+3<=v0.heap.size:=by have:=FO.o.lt;omega
 refine (ZeN lo _ U.fr _ ((HL.o.below HB.o).l0) hn0).mono ?_;rintro e x0 ⟨u,rfl,hb,hs⟩;obtain⟨b0,m0,rfl⟩:=hs.form;have N0:=Zaa (hs.wide hz0 Zl_);replace FX:=Zaa (FX.o.on hb);replace FR:=Zaa (FR.o.on hb);replace FO:=Zaa (FO.o.on hb);replace HB:=Zaa (bt HB.o hb);clear hb hs hz0;have g0:=FO.o.cell;have g1:=FO.o.free;have g2:=FR.o.cell;have g3:=FR.o.free;have g4:=FX.o.cell;go_wp2;refine bodyPost_ret (v:=.agg #[.int .i64 U.ix,.slice b0 U.fr.length m0]) (by simp [results,results135,go_sem,g2]) rfl ⟨b0,m0,rfl,?_,?_⟩
 . repeat (refine Below.setCell ?_ (by simp only [];omega) _)
   exact HB.o
 . refine ZaD.wide (lo:=w.heap.size+3) (hi:=x0.heap.size) ?_ (by omega) (by simp [World.setCell])
   repeat (refine ZaD.set ?_ (by simp only [];omega) _)
   exact N0.o
section
variable {Xl:List Ra} {wr w1:World} {B k:Nat}
theorem ZbA.full {lo:Nat}{w:World}{v:Value} (h:ZbA lo w v Xl) (hne:Xl≠[]):∃ (b off cap:Nat),v=.slice (some ⟨b,off,none⟩) Xl.length cap/\Xl.length<=maxLen/\b < w.heap.size/\Xl.length<=cap/\
 ∀ i (h:i < Xl.length),Zgn Xl[i]/\∃ vv0,Zcm w b (off+i*2) Xl[i] vv0/\ZaR lo w vv0 Xl[i].fr:=by
 rcases h with ⟨_,_,_,h⟩ | ⟨b,off,cap,h1,_,h3,h4,_,h6,h7⟩
 . exact absurd h hne
 . refine⟨b,off,cap,h1,h3,h4,h6,fun i hi=>?_⟩
   obtain⟨cs,hr,a0,k0,rfl,hf⟩:=h7 i hi;exact⟨rfl,.slice a0 Xl[i].fr.length k0,⟨hr 0 _ rfl,hr 1 _ rfl⟩,hf.l0⟩
def Za1 (wr:World) (B:Nat) (Xl:List Ra) (k:Nat) (c:Nat->Nat):Prop:=
 B < c 0/\(∀ i,i < k->c i<=c (i+1))/\c k<=wr.heap.size/\∃ f,wr.rowIs B 170 (Xl.length*2) f/\∀ i (h:i < Xl.length),i < k->Zgn Xl[i]/\∃ (vv0:Value),(c i)<=(c (i+1))/\f (i*2)=.int .i64 Xl[i].ix/\f (i*2+1)=vv0/\ZaD (c i) (c (i+1)) wr vv0 Xl[i].fr
theorem Za1.le {c:Nat->Nat} (h:Za1 wr B Xl k c) {i:Nat}:∀ {j:Nat},i<=j->j<=k->c i<=c j:=by
 intro j
 induction j with
 | zero=>intro hij _;have:i=0:=by omega
         subst this;exact Nat.le_refl _
 | succ j ih=>
  intro hij hjn
  by_cases e:i=j+1
  . subst e;exact Nat.le_refl _
  . exact Nat.le_trans (ih (by omega) (by omega)) (h.2.1 j (by omega))
theorem Za1.below {c:Nat->Nat} (h:Za1 wr B Xl k c) (hb:Below wr.heap.size wr w1):Za1 w1 B Xl k c:=by
 obtain⟨g1,g2,g3,f,hr,hall⟩:=h;refine⟨g1,g2,Nat.le_trans g3 hb.size,f,hr.of_block (hb.block B hr.lt),fun i hi hik=>?_⟩;obtain⟨hz,vv0,q0,h0,h1,l0⟩:=hall i hi hik;exact⟨hz,vv0,q0,h0,h1,l0.below hb⟩
theorem Za1.free {c:Nat->Nat} (h:Za1 wr B Xl k c) (i:Nat):wr.frozen? ⟨B,i,none⟩=false:=by
 obtain⟨_,_,_,f,hr,_⟩:=h;exact hr.frozen i
theorem Za1.there {c:Nat->Nat} (h:Za1 wr B Xl k c) (i:Nat) (hi:i < Xl.length*2):∃ v,wr.cell? ⟨B,i,none⟩=some v:=by
 obtain⟨_,_,_,f,hr,_⟩:=h;exact⟨_,hr.cell hi⟩
theorem Za1.step {c:Nat->Nat}{vv0:Value} (h:Za1 w1 B Xl k c) (hk:k < Xl.length) (hz:Zgn Xl[k]) (d:Nat) (hd0:c k<=d) (hd:d<=w1.heap.size) (r0:(c k)<=d) (e0:ZaD (c k) d w1 vv0 Xl[k].fr) :
 Za1 ((w1.setCell ⟨B,k*2,none⟩ (.int .i64 Xl[k].ix)).setCell ⟨B,k*2+1,none⟩ (vv0)) B Xl (k+1) (fun j=>if j<=k then c j else d):=by
 have hle:=fun i (hi:i<=k)=>h.le (i:=0) (j:=i) Zz_ hi
 have hle2:=fun i (hi:i < k)=>h.le (i:=i+1) (j:=k) (by omega) Zl_
 obtain⟨g1,g2,g3,f,hr,hall⟩:=h;have hts:Zad B (B+1) w1 ((w1.setCell ⟨B,k*2,none⟩ (.int .i64 Xl[k].ix)).setCell ⟨B,k*2+1,none⟩ (vv0)):=(Zad.setB B _ _ _).trans (Zad.setB B _ _ _);refine⟨by simpa using g1,fun i hi=>?_,?_,_,((hr.set _ _).set _ _),fun i hi hik=>?_⟩
 . dsimp only
   by_cases e:i=k
   . subst e;rw [if_pos Zl_,if_neg (by omega)];exact hd0
   . rw [if_pos (by omega),if_pos (by omega)];exact g2 i (by omega)
 . dsimp only;rw [if_neg (by omega)];exact Nat.le_trans hd hts.size
 by_cases e:i=k
 . subst e
   dsimp only;rw [if_pos Zl_,if_neg (by omega)];have hb0:=hle i Zl_;exact⟨hz,vv0,r0,by simp,by simp,e0.touch hts (by omega)⟩
 . dsimp only
   rw [if_pos (by omega),if_pos (by omega)];have hb0:=hle i (by omega);obtain⟨hz,vv0,q0,h0,h1,l0⟩:=hall i hi (by omega);refine⟨hz,vv0,q0,?_,?_,l0.touch hts (by omega)⟩
   . rw [if_neg (by omega),if_neg (by omega)];exact h0
   . rw [if_neg (by omega),if_neg (by omega)];exact h1
theorem Za1.own {c:Nat->Nat} (h:Za1 wr B Xl k c) (hk:k=Xl.length) (hne:Xl≠[]) (hm:Xl.length<=maxLen):ZbV B wr.heap.size wr (.slice (some ⟨B,0,none⟩) Xl.length Xl.length) Xl:=by
 subst hk;have hle:=fun i (hi:i<=Xl.length)=>h.le (i:=0) (j:=i) Zz_ hi
 have hle2:=fun i (hi:i < Xl.length)=>h.le (i:=i+1) (j:=Xl.length) (by omega) Zl_
 have hle3:=fun i j (hi:i < j) (hj:j < Xl.length)=>h.le (i:=i+1) (j:=j) (by omega) (by omega)
 obtain⟨g1,g2,g3,f,hr,hall⟩:=h;have h0:0 < Xl.length:=List.length_pos_iff.2 hne
 refine Or.inr ⟨B,0,Xl.length,fun i=>(c i,c (i+1)),fun i=>if h:i < Xl.length then Xl[i] else Xl[0],rfl,hne,hm,Nat.le_refl _,fun i hi=>by simp [hi],hr.lt,Nat.le_refl _,hr.lt,fun i hi=>⟨by have:=hle i (by omega);simp only [];omega,by have:=hle2 i hi;simp only [];omega,Or.inl (by have:=hle i (by omega);simp only [];omega)⟩,fun i j hi hj hne=>by
  rcases Nat.lt_or_ge i j with h | h
  . exact Or.inl (hle3 i j h hj)
  . exact Or.inr (hle3 j i (by omega) hi),fun i=>hr.frozen i,fun i hi=>?_⟩
 obtain⟨hz,vv0,q0,h0,h1,l0⟩:=hall i hi hi;simp only [hi,dif_pos];rw [Nat.zero_add];exact⟨hz,vv0,q0,⟨by rw [hr.cell (by omega),h0],by rw [hr.cell (by omega),h1]⟩,l0⟩
theorem Za1.new (w:World) (Xl:List Ra) (z:Array Value):Za1 (w.alloc (.cells (madeCells z (Xl.length*2)) 170)) w.heap.size Xl 0 (fun _=>w.heap.size+1):=by
 refine⟨Nat.lt_succ_self _,fun i hi=>by omega,by simp,fun i=>(madeCells z (Xl.length*2)).getD i default,?_,fun i _ h=>by omega⟩;have:=World.rowIs_alloc w (madeCells z (Xl.length*2)) 170 (fun i=>(madeCells z (Xl.length*2)).getD i default) (fun i hi=>by simp [Array.getD,hi])
 rwa [size_madeCells] at this
theorem Zhp (lo:Nat) (v:Value) (Xl:List Ra) (w:World) (hv:ZbA lo w v Xl) (hn:Zb9 Xl) :
 Calls prog 69 #[v] w fun e w'=>∃ v',e=.returned v'/\Zw_ w w'/\ZbV w.heap.size w'.heap.size w' v' Xl:=by
 obtain⟨i0,hi,hz0,hz1,hz2⟩:=info_parts ZaT;have HSM:=Zaa hn.2;have hn1:=hn.1;clear hn
 by_cases hL:Xl=[]
 . subst hL
   obtain⟨a,cap,rfl⟩:=hv.form;clear hv
   have hmk:∀ u:World,(Instr.makeSlice 59 (.int .i64 0) (.int .i64 0)).run prog u=.ok (.slice (some ⟨u.heap.size,0,none⟩) 0 0) (u.alloc (.cells (madeCells (Value.cells (.agg #[.int .i64 0,.slice none 0 0])) 0) 170)):=fun u=>by
    have h:=run_make (P:=prog) u 59 170 i0 _ underlying59 hi hz0 .i64 .i64 0 0 (by omega) (by omega) (by omega) (by omega)
    simpa [hz1] using h
   go_enter func69,ntmps69;go_wp2
   go_loop [4] (fun i=>i=.int .i64 0) (fun _=>0)
   case atStart=>rfl
   case round=>
    subst hrel;go_wp2;go_ret;exact⟨_,rfl,Zb_.alloc Zl_ _,Or.inl ⟨_,_,rfl,rfl⟩⟩
 . obtain⟨b,off,cap,rfl,hm,hbw,_,hc⟩:=hv.full hL
   clear hv;have HM:Hd (Xl.length<=maxLen):=hm;unfold maxLen at hm
   have hmk:∀ u:World,(Instr.makeSlice 59 (.int .i64 (Xl.length:Int)) (.int .i64 (Xl.length:Int))).run prog u=.ok (.slice (some ⟨u.heap.size,0,none⟩) Xl.length Xl.length) (u.alloc (.cells (madeCells (Value.cells (.agg #[.int .i64 0,.slice none 0 0])) (Xl.length*2)) 170)):=fun u=>by
    have h:=run_make (P:=prog) u 59 170 i0 _ underlying59 hi hz0 .i64 .i64 Xl.length Xl.length (by omega) (by omega) (by rw [hz2];omega) (by omega);rw [hz1] at h
    simpa using h
   clear hi hz0 hz1 hz2;go_enter func69,ntmps69;go_wp2;clear hmk
   go_loopw [4] (fun i wr=>∃ (k:Nat) (c:Nat->Nat),i=.int .i64 k/\k<=Xl.length/\Zw_ w wr/\Za1 wr w.heap.size Xl k c) (fun i _=>Xl.length - (intOf i).toNat)
   case atStart=>exact⟨0,_,rfl,by omega,Zb_.alloc Zl_ _,Za1.new w Xl _⟩
   case round=>
    obtain⟨k,c,rfl,hk,hb,hf⟩:=hrel
    by_cases hlt:k < Xl.length
    . obtain⟨hs,vv0,hc,hv0⟩:=hc k hlt
      have HB:=Zaa hb;have HF:=Zaa hf;have HSZ:=Zaa hs;obtain⟨x0,y0,rfl⟩:=hv0.form;obtain⟨c0,c1⟩:=hc.below hb hbw;have HV0:=Zaa (hv0.below hb);clear hv0;clear hc hb hf hs;go_wp2_with fail;refine (ZiV 0 _ Xl[k] _ ⟨_,_,rfl,⟨HV0.o.mono Zz_⟩⟩ (HSM.o k hlt)).mono ?_;rintro e w1 ⟨s0,t0,rfl,hb1,hO0⟩;rw [show (raL Xl[k] s0 t0).toArray=#[.int .i64 Xl[k].ix,.slice s0 Xl[k].fr.length t0] from rfl];have hf1:=HF.o.below hb1;have hB:Hd (Zw_ w w1):=HB.o.trans (hb1.mono HB.o.size);have HST:=Zaa (hf1.step hlt HSZ.o w1.heap.size (Nat.le_trans HF.o.2.2.1 hb1.size) Zl_ (Nat.le_trans HF.o.2.2.1 hb1.size) (hO0.wide HF.o.2.2.1 Zl_));have hfr:=hf1.free;obtain⟨o0,ho0⟩:=hf1.there (k*2) (by omega);obtain⟨o1,ho1⟩:=hf1.there (k*2+1) (by omega);clear hf1 hb1 HF HB c0 c1;go_wp2;go_roundw
      . 
       exact⟨k+1,_,by go_num,by omega,((hB.o.setCell Zl_ _).setCell Zl_ _),HST.o⟩
      . simp [intOf];omega
    . have e:k=Xl.length:=by omega
      go_wp2;go_ret;exact⟨_,rfl,hb,hf.own e hL HM.o⟩
end
theorem Zce.own {wr:World}{B:Nat}{Xl:List Zy_}{k:Nat} (h:Zce wr B Xl k) (hk:Xl.length<=k) (hne:Xl≠[]) (hm:Xl.length<=maxLen):ZaX B wr.heap.size wr (.slice (some ⟨B,0,none⟩) Xl.length Xl.length) Xl:=by
 obtain⟨f,hr,hall⟩:=h
 refine Or.inr ⟨B,0,Xl.length,rfl,hne,hm,Nat.le_refl _,hr.lt,fun i hi=>by
  obtain⟨hz,h0⟩:=hall i hi (by omega);exact⟨hz,by rw [Nat.zero_add,hr.cell hi,h0]⟩,Nat.le_refl _,hr.lt,fun i=>hr.frozen _⟩
theorem Zhr (lo:Nat) (v:Value) (Xl:List Zy_) (w:World) (hv:Zbf lo w v Xl) (hn:Zbo Xl) :
 Calls prog 66 #[v] w fun e w'=>∃ v',e=.returned v'/\Zw_ w w'/\ZaX w.heap.size w'.heap.size w' v' Xl:=by
 unfold Zbo at hn
 by_cases hL:Xl=[]
 . subst hL
   obtain⟨a,cap,rfl⟩:=hv.form;clear hv
   have hmk:∀ u:World,(Instr.makeSlice 50 (.int .i64 0) (.int .i64 0)).run prog u=.ok (.slice (some ⟨u.heap.size,0,none⟩) 0 0) (u.alloc (.cells (madeCells #[.string ⟨#[]⟩] 0) 9)):=
    fun u=>run_make_row' 50 9 (.string ⟨#[]⟩) 16 underlying50 Tryz.infoRts rfl .i64 .i64 0 (by omega) (by omega) u
   go_enter func66,ntmps66;go_wp2
   go_loop [4] (fun i=>i=.int .i64 0) (fun _=>0)
   case atStart=>rfl
   case round=>
    subst hrel;go_wp2;go_ret;exact⟨_,rfl,Zb_.alloc Zl_ _,Or.inl ⟨_,_,rfl,rfl⟩⟩
 . obtain⟨b,off,cap,rfl,hm,hbw,_,hc⟩:=hv.full hL
   clear hv;have HM:Hd (Xl.length<=maxLen):=hm;unfold maxLen at hm
   have hmk:∀ u:World,(Instr.makeSlice 50 (.int .i64 (Xl.length:Int)) (.int .i64 (Xl.length:Int))).run prog u=.ok (.slice (some ⟨u.heap.size,0,none⟩) Xl.length Xl.length) (u.alloc (.cells (madeCells #[.string ⟨#[]⟩] Xl.length) 9)):=
    fun u=>run_make_row' 50 9 (.string ⟨#[]⟩) 16 underlying50 Tryz.infoRts rfl .i64 .i64 Xl.length (by omega) (by omega) u
   go_enter func66,ntmps66;go_wp2;clear hmk
   go_loopw [4] (fun i wr=>∃ k:Nat,i=.int .i64 k/\k<=Xl.length/\Zw_ w wr/\Zce wr w.heap.size Xl k) (fun i _=>Xl.length - (intOf i).toNat)
   case atStart=>exact⟨0,rfl,by omega,Zb_.alloc Zl_ _,⟨_,World.rowIs_made w (.string ⟨#[]⟩) Xl.length 9,fun i _ h=>by omega⟩⟩
   case round=>
    obtain⟨k,rfl,hk,hb,hf⟩:=hrel
    by_cases hlt:k < Xl.length
    . obtain⟨hz,hck⟩:=hc k hlt
      rw [<- hb.cell (p:=⟨b,off+k,none⟩) hbw] at hck;obtain⟨v0,hold⟩:=hf.there k hlt;have hfz:=hf.free k;have HZ:=Zaa hz;have HF:=Zaa hf;have HB:=Zaa hb;clear hz hf hb;go_wp2;go_roundw
      . exact⟨k+1,by go_num,by omega,HB.o.setCell Zl_ _,HF.o.step hlt HZ.o⟩
      . simp [intOf];omega
    . go_wp2
      go_ret;exact⟨_,rfl,hb,hf.own (by omega) hL HM.o⟩
end Go.Proofs.YtdeammfdkaomlaaGreat
