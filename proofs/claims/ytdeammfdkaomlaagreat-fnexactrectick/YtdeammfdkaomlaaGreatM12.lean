import Derived.Test.YtdeammfdkaomlaaGreatM06
import Derived.Test.YtdeammfdkaomlaaGreatM08
set_option maxHeartbeats 16000000
set_option maxRecDepth 100000
open Go.Proofs.Tryz
namespace Go.Proofs.YtdeammfdkaomlaaGreat
open Go.RowKit Go.Deep
theorem ZiW (lo:Nat) (cs:List Value) (U:Rm) (w:World) (h:RmC lo w cs U) (hn:Zd0 U) :
 Calls prog 133 #[.agg cs.toArray] w
  fun e w'=>∃ b0 m0,e=.returned (.agg (rmL U b0 m0).toArray)/\Zw_ w w'/\Zap w.heap.size w'.heap.size w' (.slice b0 U.sl.length m0) U.sl:=by
 obtain⟨a0,k0,rfl,h⟩:=h
 show Calls prog 133 #[.agg #[.int .i64 U.kd,.int .i64 U.fr,.int .i64 U.tt,.int .i64 U.ba,.int .i64 U.ix,.int .i64 U.kn,.string U.tx,.slice a0 U.sl.length k0]] w _
 have HL:=Zaa h;have hn0:=hn;clear h;go_enter func133,ntmps133;go_wp2_with fail
 obtain⟨wz,hwz,FX,FR,FO,HB⟩:∃ wz,wz=((w.alloc (.cells #[.int .i64 U.kd,.int .i64 U.fr,.int .i64 U.tt,.int .i64 U.ba,.int .i64 U.ix,.int .i64 U.kn,.string U.tx,.slice a0 U.sl.length k0] 156)).alloc (.cells #[.int .i64 0,.int .i64 0,.int .i64 0,.int .i64 0,.int .i64 0,.int .i64 0,.string ⟨#[]⟩,.slice none 0 0] 102)).alloc (.cells #[.int .i64 U.kd,.int .i64 U.fr,.int .i64 U.tt,.int .i64 U.ba,.int .i64 U.ix,.int .i64 U.kn,.string U.tx,.slice none 0 0] 102)/\
  Hd (Box wz w.heap.size #[.int .i64 U.kd,.int .i64 U.fr,.int .i64 U.tt,.int .i64 U.ba,.int .i64 U.ix,.int .i64 U.kn,.string U.tx,.slice a0 U.sl.length k0])/\Hd (Box wz (w.heap.size+1) #[.int .i64 0,.int .i64 0,.int .i64 0,.int .i64 0,.int .i64 0,.int .i64 0,.string ⟨#[]⟩,.slice none 0 0])/\Hd (Box wz (w.heap.size+1+1) #[.int .i64 U.kd,.int .i64 U.fr,.int .i64 U.tt,.int .i64 U.ba,.int .i64 U.ix,.int .i64 U.kn,.string U.tx,.slice none 0 0])/\Hd (Zw_ w wz):=
  ⟨_,rfl,((Box.new w _ _ _ rfl).on (Zab _ _)).on (Zab _ _),(Box.new _ _ _ _ (by simp)).on (Zab _ _),Box.new _ _ _ _ (by simp),((Zab _ _).trans ((Zab _ _).mono (by simp))).trans ((Zab _ _).mono (by simp;omega))⟩
 rw [<- hwz];clear hwz;generalize wz=v0 at*;have hz0:w.heap.size+3<=v0.heap.size:=by have:=FO.o.lt;omega
 refine (ZdG lo _ U.sl _ ((HL.o.below HB.o).l0) hn0).mono ?_;rintro e x0 ⟨u,rfl,hb,hs⟩;obtain⟨b0,m0,rfl⟩:=hs.form;have N0:=Zaa (hs.wide hz0 Zl_);replace FX:=Zaa (FX.o.on hb);replace FR:=Zaa (FR.o.on hb);replace FO:=Zaa (FO.o.on hb);replace HB:=Zaa (bt HB.o hb);clear hb hs hz0;have g0:=FO.o.cell;have g1:=FO.o.free;have g2:=FR.o.cell;have g3:=FR.o.free;have g4:=FX.o.cell;go_wp2;refine bodyPost_ret (v:=.agg #[.int .i64 U.kd,.int .i64 U.fr,.int .i64 U.tt,.int .i64 U.ba,.int .i64 U.ix,.int .i64 U.kn,.string U.tx,.slice b0 U.sl.length m0]) (by simp [results,results133,go_sem,g2]) rfl ⟨b0,m0,rfl,?_,?_⟩
 . repeat (refine Below.setCell ?_ (by simp only [];omega) _)
   exact HB.o
 . refine Zap.wide (lo:=w.heap.size+3) (hi:=x0.heap.size) ?_ (by omega) (by simp [World.setCell])
   repeat (refine Zap.set ?_ (by simp only [];omega) _)
   exact N0.o
variable {Xl:List Rm} {wr w1:World} {B k:Nat}
theorem Zbd.full {lo:Nat}{w:World}{v:Value} (h:Zbd lo w v Xl) (hne:Xl≠[]):∃ (b off cap:Nat),v=.slice (some ⟨b,off,none⟩) Xl.length cap/\Xl.length<=maxLen/\b < w.heap.size/\Xl.length<=cap/\
 ∀ i (h:i < Xl.length),Zgp Xl[i]/\∃ vv0,Zco w b (off+i*8) Xl[i] vv0/\Zat lo w vv0 Xl[i].sl:=by
 rcases h with ⟨_,_,_,h⟩ | ⟨b,off,cap,h1,_,h3,h4,_,h6,h7⟩
 . exact absurd h hne
 . refine⟨b,off,cap,h1,h3,h4,h6,fun i hi=>?_⟩
   obtain⟨cs,hr,a0,k0,rfl,hf⟩:=h7 i hi;exact⟨⟨hf.s0⟩,.slice a0 Xl[i].sl.length k0,⟨hr 0 _ rfl,hr 1 _ rfl,hr 2 _ rfl,hr 3 _ rfl,hr 4 _ rfl,hr 5 _ rfl,hr 6 _ rfl,hr 7 _ rfl⟩,hf.l0⟩
def Za2 (wr:World) (B:Nat) (Xl:List Rm) (k:Nat) (c:Nat->Nat):Prop:=
 B < c 0/\(∀ i,i < k->c i<=c (i+1))/\c k<=wr.heap.size/\∃ f,wr.rowIs B 102 (Xl.length*8) f/\∀ i (h:i < Xl.length),i < k->Zgp Xl[i]/\∃ (vv0:Value),(c i)<=(c (i+1))/\f (i*8)=.int .i64 Xl[i].kd/\f (i*8+1)=.int .i64 Xl[i].fr/\f (i*8+2)=.int .i64 Xl[i].tt/\f (i*8+3)=.int .i64 Xl[i].ba/\f (i*8+4)=.int .i64 Xl[i].ix/\f (i*8+5)=.int .i64 Xl[i].kn/\f (i*8+6)=.string Xl[i].tx/\f (i*8+7)=vv0/\Zap (c i) (c (i+1)) wr vv0 Xl[i].sl
theorem Za2.le {c:Nat->Nat} (h:Za2 wr B Xl k c) {i:Nat}:∀ {j:Nat},i<=j->j<=k->c i<=c j:=by
 intro j
 induction j with
 | zero=>intro hij _;have:i=0:=by omega
         subst this;exact Nat.le_refl _
 | succ j ih=>
  intro hij hjn
  by_cases e:i=j+1
  . subst e;exact Nat.le_refl _
  . exact Nat.le_trans (ih (by omega) (by omega)) (h.2.1 j (by omega))
theorem Za2.below {c:Nat->Nat} (h:Za2 wr B Xl k c) (hb:Below wr.heap.size wr w1):Za2 w1 B Xl k c:=by
 obtain⟨g1,g2,g3,f,hr,hall⟩:=h;refine⟨g1,g2,Nat.le_trans g3 hb.size,f,hr.of_block (hb.block B hr.lt),fun i hi hik=>?_⟩;obtain⟨hz,vv0,q0,h0,h1,h2,h3,h4,h5,h6,h7,l0⟩:=hall i hi hik;exact⟨hz,vv0,q0,h0,h1,h2,h3,h4,h5,h6,h7,l0.below hb⟩
theorem Za2.free {c:Nat->Nat} (h:Za2 wr B Xl k c) (i:Nat):wr.frozen? ⟨B,i,none⟩=false:=by
 obtain⟨_,_,_,f,hr,_⟩:=h;exact hr.frozen i
theorem Za2.there {c:Nat->Nat} (h:Za2 wr B Xl k c) (i:Nat) (hi:i < Xl.length*8):∃ v,wr.cell? ⟨B,i,none⟩=some v:=by
 obtain⟨_,_,_,f,hr,_⟩:=h;exact⟨_,hr.cell hi⟩
theorem Za2.step {c:Nat->Nat}{vv0:Value} (h:Za2 w1 B Xl k c) (hk:k < Xl.length) (hz:Zgp Xl[k]) (d:Nat) (hd0:c k<=d) (hd:d<=w1.heap.size) (r0:(c k)<=d) (e0:Zap (c k) d w1 vv0 Xl[k].sl) :
 Za2 ((((((((w1.setCell ⟨B,k*8,none⟩ (.int .i64 Xl[k].kd)).setCell ⟨B,k*8+1,none⟩ (.int .i64 Xl[k].fr)).setCell ⟨B,k*8+2,none⟩ (.int .i64 Xl[k].tt)).setCell ⟨B,k*8+3,none⟩ (.int .i64 Xl[k].ba)).setCell ⟨B,k*8+4,none⟩ (.int .i64 Xl[k].ix)).setCell ⟨B,k*8+5,none⟩ (.int .i64 Xl[k].kn)).setCell ⟨B,k*8+6,none⟩ (.string Xl[k].tx)).setCell ⟨B,k*8+7,none⟩ (vv0)) B Xl (k+1) (fun j=>if j<=k then c j else d):=by
 have hle:=fun i (hi:i<=k)=>h.le (i:=0) (j:=i) Zz_ hi
 have hle2:=fun i (hi:i < k)=>h.le (i:=i+1) (j:=k) (by omega) Zl_
 obtain⟨g1,g2,g3,f,hr,hall⟩:=h;have hts:Zad B (B+1) w1 ((((((((w1.setCell ⟨B,k*8,none⟩ (.int .i64 Xl[k].kd)).setCell ⟨B,k*8+1,none⟩ (.int .i64 Xl[k].fr)).setCell ⟨B,k*8+2,none⟩ (.int .i64 Xl[k].tt)).setCell ⟨B,k*8+3,none⟩ (.int .i64 Xl[k].ba)).setCell ⟨B,k*8+4,none⟩ (.int .i64 Xl[k].ix)).setCell ⟨B,k*8+5,none⟩ (.int .i64 Xl[k].kn)).setCell ⟨B,k*8+6,none⟩ (.string Xl[k].tx)).setCell ⟨B,k*8+7,none⟩ (vv0)):=(((((((Zad.setB B _ _ _).trans (Zad.setB B _ _ _)).trans (Zad.setB B _ _ _)).trans (Zad.setB B _ _ _)).trans (Zad.setB B _ _ _)).trans (Zad.setB B _ _ _)).trans (Zad.setB B _ _ _)).trans (Zad.setB B _ _ _);refine⟨by simpa using g1,fun i hi=>?_,?_,_,((((((((hr.set _ _).set _ _).set _ _).set _ _).set _ _).set _ _).set _ _).set _ _),fun i hi hik=>?_⟩
 . dsimp only
   by_cases e:i=k
   . subst e;rw [if_pos Zl_,if_neg (by omega)];exact hd0
   . rw [if_pos (by omega),if_pos (by omega)];exact g2 i (by omega)
 . dsimp only;rw [if_neg (by omega)];exact Nat.le_trans hd hts.size
 by_cases e:i=k
 . subst e
   dsimp only;rw [if_pos Zl_,if_neg (by omega)];have hb0:=hle i Zl_;exact⟨hz,vv0,r0,by simp,by simp,by simp,by simp,by simp,by simp,by simp,by simp,e0.touch hts (by omega)⟩
 . dsimp only
   rw [if_pos (by omega),if_pos (by omega)];have hb0:=hle i (by omega);obtain⟨hz,vv0,q0,h0,h1,h2,h3,h4,h5,h6,h7,l0⟩:=hall i hi (by omega);refine⟨hz,vv0,q0,?_,?_,?_,?_,?_,?_,?_,?_,l0.touch hts (by omega)⟩
   . rw [if_neg (by omega),if_neg (by omega),if_neg (by omega),if_neg (by omega),if_neg (by omega),if_neg (by omega),if_neg (by omega),if_neg (by omega)];exact h0
   . rw [if_neg (by omega),if_neg (by omega),if_neg (by omega),if_neg (by omega),if_neg (by omega),if_neg (by omega),if_neg (by omega),if_neg (by omega)];exact h1
   . rw [if_neg (by omega),if_neg (by omega),if_neg (by omega),if_neg (by omega),if_neg (by omega),if_neg (by omega),if_neg (by omega),if_neg (by omega)];exact h2
   . rw [if_neg (by omega),if_neg (by omega),if_neg (by omega),if_neg (by omega),if_neg (by omega),if_neg (by omega),if_neg (by omega),if_neg (by omega)];exact h3
   . rw [if_neg (by omega),if_neg (by omega),if_neg (by omega),if_neg (by omega),if_neg (by omega),if_neg (by omega),if_neg (by omega),if_neg (by omega)];exact h4
   . rw [if_neg (by omega),if_neg (by omega),if_neg (by omega),if_neg (by omega),if_neg (by omega),if_neg (by omega),if_neg (by omega),if_neg (by omega)];exact h5
   . rw [if_neg (by omega),if_neg (by omega),if_neg (by omega),if_neg (by omega),if_neg (by omega),if_neg (by omega),if_neg (by omega),if_neg (by omega)];exact h6
   . rw [if_neg (by omega),if_neg (by omega),if_neg (by omega),if_neg (by omega),if_neg (by omega),if_neg (by omega),if_neg (by omega),if_neg (by omega)];exact h7
theorem Za2.own {c:Nat->Nat} (h:Za2 wr B Xl k c) (hk:k=Xl.length) (hne:Xl≠[]) (hm:Xl.length<=maxLen):Zbm B wr.heap.size wr (.slice (some ⟨B,0,none⟩) Xl.length Xl.length) Xl:=by
 subst hk;have hle:=fun i (hi:i<=Xl.length)=>h.le (i:=0) (j:=i) Zz_ hi
 have hle2:=fun i (hi:i < Xl.length)=>h.le (i:=i+1) (j:=Xl.length) (by omega) Zl_
 have hle3:=fun i j (hi:i < j) (hj:j < Xl.length)=>h.le (i:=i+1) (j:=j) (by omega) (by omega)
 obtain⟨g1,g2,g3,f,hr,hall⟩:=h;have h0:0 < Xl.length:=List.length_pos_iff.2 hne
 refine Or.inr ⟨B,0,Xl.length,fun i=>(c i,c (i+1)),fun i=>if h:i < Xl.length then Xl[i] else Xl[0],rfl,hne,hm,Nat.le_refl _,fun i hi=>by simp [hi],hr.lt,Nat.le_refl _,hr.lt,fun i hi=>⟨by have:=hle i (by omega);simp only [];omega,by have:=hle2 i hi;simp only [];omega,Or.inl (by have:=hle i (by omega);simp only [];omega)⟩,fun i j hi hj hne=>by
  rcases Nat.lt_or_ge i j with h | h
  . exact Or.inl (hle3 i j h hj)
  . exact Or.inr (hle3 j i (by omega) hi),fun i=>hr.frozen i,fun i hi=>?_⟩
 obtain⟨hz,vv0,q0,h0,h1,h2,h3,h4,h5,h6,h7,l0⟩:=hall i hi hi;simp only [hi,dif_pos];rw [Nat.zero_add];exact⟨hz,vv0,q0,⟨by rw [hr.cell (by omega),h0],by rw [hr.cell (by omega),h1],by rw [hr.cell (by omega),h2],by rw [hr.cell (by omega),h3],by rw [hr.cell (by omega),h4],by rw [hr.cell (by omega),h5],by rw [hr.cell (by omega),h6],by rw [hr.cell (by omega),h7]⟩,l0⟩
theorem Za2.new (w:World) (Xl:List Rm) (z:Array Value):Za2 (w.alloc (.cells (madeCells z (Xl.length*8)) 102)) w.heap.size Xl 0 (fun _=>w.heap.size+1):=by
 refine⟨Nat.lt_succ_self _,fun i hi=>by omega,by simp,fun i=>(madeCells z (Xl.length*8)).getD i default,?_,fun i _ h=>by omega⟩;have:=World.rowIs_alloc w (madeCells z (Xl.length*8)) 102 (fun i=>(madeCells z (Xl.length*8)).getD i default) (fun i hi=>by simp [Array.getD,hi])
 rwa [size_madeCells] at this
theorem Zhq (lo:Nat) (v:Value) (Xl:List Rm) (w:World) (hv:Zbd lo w v Xl) (hn:ZbJ Xl) :
 Calls prog 65 #[v] w fun e w'=>∃ v',e=.returned v'/\Zw_ w w'/\Zbm w.heap.size w'.heap.size w' v' Xl:=by
 obtain⟨i0,hi,hz0,hz1,hz2⟩:=info_parts Zcz;have HSM:=Zaa hn.2;have hn1:=hn.1;clear hn
 by_cases hL:Xl=[]
 . subst hL
   obtain⟨a,cap,rfl⟩:=hv.form;clear hv
   have hmk:∀ u:World,(Instr.makeSlice 32 (.int .i64 0) (.int .i64 0)).run prog u=.ok (.slice (some ⟨u.heap.size,0,none⟩) 0 0) (u.alloc (.cells (madeCells (Value.cells (.agg #[.int .i64 0,.int .i64 0,.int .i64 0,.int .i64 0,.int .i64 0,.int .i64 0,.string ⟨#[]⟩,.slice none 0 0])) 0) 102)):=fun u=>by
    have h:=run_make (P:=prog) u 32 102 i0 _ underlying32 hi hz0 .i64 .i64 0 0 (by omega) (by omega) (by omega) (by omega)
    simpa [hz1] using h
   go_enter func65,ntmps65;go_wp2
   go_loop [4] (fun i=>i=.int .i64 0) (fun _=>0)
   case atStart=>rfl
   case round=>
    subst hrel;go_wp2;go_ret;exact⟨_,rfl,Zb_.alloc Zl_ _,Or.inl ⟨_,_,rfl,rfl⟩⟩
 . obtain⟨b,off,cap,rfl,hm,hbw,_,hc⟩:=hv.full hL
   clear hv;have HM:Hd (Xl.length<=maxLen):=hm;unfold maxLen at hm
   have hmk:∀ u:World,(Instr.makeSlice 32 (.int .i64 (Xl.length:Int)) (.int .i64 (Xl.length:Int))).run prog u=.ok (.slice (some ⟨u.heap.size,0,none⟩) Xl.length Xl.length) (u.alloc (.cells (madeCells (Value.cells (.agg #[.int .i64 0,.int .i64 0,.int .i64 0,.int .i64 0,.int .i64 0,.int .i64 0,.string ⟨#[]⟩,.slice none 0 0])) (Xl.length*8)) 102)):=fun u=>by
    have h:=run_make (P:=prog) u 32 102 i0 _ underlying32 hi hz0 .i64 .i64 Xl.length Xl.length (by omega) (by omega) (by rw [hz2];omega) (by omega);rw [hz1] at h
    simpa using h
   clear hi hz0 hz1 hz2;go_enter func65,ntmps65;go_wp2;clear hmk
   go_loopw [4] (fun i wr=>∃ (k:Nat) (c:Nat->Nat),i=.int .i64 k/\k<=Xl.length/\Zw_ w wr/\Za2 wr w.heap.size Xl k c) (fun i _=>Xl.length - (intOf i).toNat)
   case atStart=>exact⟨0,_,rfl,by omega,Zb_.alloc Zl_ _,Za2.new w Xl _⟩
   case round=>
    obtain⟨k,c,rfl,hk,hb,hf⟩:=hrel
    by_cases hlt:k < Xl.length
    . obtain⟨hs,vv0,hc,hv0⟩:=hc k hlt
      have HB:=Zaa hb;have HF:=Zaa hf;have HSZ:=Zaa hs;obtain⟨x0,y0,rfl⟩:=hv0.form;obtain⟨c0,c1,c2,c3,c4,c5,c6,c7⟩:=hc.below hb hbw;have HV0:=Zaa (hv0.below hb);clear hv0;clear hc hb hf hs;go_wp2_with fail;refine (ZiW 0 _ Xl[k] _ ⟨_,_,rfl,⟨HV0.o.mono Zz_,HSZ.o.s0⟩⟩ (HSM.o k hlt)).mono ?_;rintro e w1 ⟨s0,t0,rfl,hb1,hO0⟩;rw [show (rmL Xl[k] s0 t0).toArray=#[.int .i64 Xl[k].kd,.int .i64 Xl[k].fr,.int .i64 Xl[k].tt,.int .i64 Xl[k].ba,.int .i64 Xl[k].ix,.int .i64 Xl[k].kn,.string Xl[k].tx,.slice s0 Xl[k].sl.length t0] from rfl];have hf1:=HF.o.below hb1;have hB:Hd (Zw_ w w1):=HB.o.trans (hb1.mono HB.o.size);have HST:=Zaa (hf1.step hlt HSZ.o w1.heap.size (Nat.le_trans HF.o.2.2.1 hb1.size) Zl_ (Nat.le_trans HF.o.2.2.1 hb1.size) (hO0.wide HF.o.2.2.1 Zl_));have hfr:=hf1.free
      obtain⟨o0,ho0⟩:=hf1.there (k*8) (by omega);obtain⟨o1,ho1⟩:=hf1.there (k*8+1) (by omega);obtain⟨o2,ho2⟩:=hf1.there (k*8+2) (by omega);obtain⟨o3,ho3⟩:=hf1.there (k*8+3) (by omega);obtain⟨o4,ho4⟩:=hf1.there (k*8+4) (by omega);obtain⟨o5,ho5⟩:=hf1.there (k*8+5) (by omega);obtain⟨o6,ho6⟩:=hf1.there (k*8+6) (by omega);obtain⟨o7,ho7⟩:=hf1.there (k*8+7) (by omega);clear hf1 hb1 HF HB c0 c1 c2 c3 c4 c5 c6 c7;go_wp2;go_roundw
      . 
       exact⟨k+1,_,by go_num,by omega,((((((((hB.o.setCell Zl_ _).setCell Zl_ _).setCell Zl_ _).setCell Zl_ _).setCell Zl_ _).setCell Zl_ _).setCell Zl_ _).setCell Zl_ _),HST.o⟩
      . simp [intOf];omega
    . have e:k=Xl.length:=by omega
      go_wp2;go_ret;exact⟨_,rfl,hb,hf.own e hL HM.o⟩
end Go.Proofs.YtdeammfdkaomlaaGreat
