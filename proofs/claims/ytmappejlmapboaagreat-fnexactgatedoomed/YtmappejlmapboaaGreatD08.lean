import Derived.Test.YtmappejlmapboaaGreatD06
import Derived.Test.YtmappejlmapboaaGreatD07
set_option maxHeartbeats 16000000
set_option maxRecDepth 100000
open Go.Proofs.Tryz
namespace Go.Proofs.YtmappejlmapboaaGreat
open Go.RowKit Go.Deep
section
variable {lo B k hi n:Nat} {w wr w1 w':World} {v:Value} {Ms:List Md}
theorem Tryz.info133:(prog.info? 133).map (fun i=>(i.zero,i.size,i.bytes))=some (some (.agg #[.string ⟨#[]⟩,.string ⟨#[]⟩,.string ⟨#[]⟩,.string ⟨#[]⟩,.string ⟨#[]⟩,.string ⟨#[]⟩]),6,96):=by kernel_rfl
theorem Zbe.setCell (h:Zbe lo w v Ms) {p:Addr} (hp:p.block < lo) (u:Value):Zbe lo (w.setCell p u) v Ms:=by
 rcases h with h | ⟨b,off,cap,h1,h2,h3,h4,h5,h6,h7⟩
 . exact Or.inl h
 . refine Or.inr ⟨b,off,cap,h1,h2,h3,by simpa [World.setCell] using h4,h5,h6,fun i hi=>?_⟩
   obtain⟨hs,hc⟩:=h7 i hi;have e:∀ o,(w.setCell p u).cell? ⟨b,o,none⟩=w.cell? ⟨b,o,none⟩:=fun o=>Zar _ _ _ _ (by show b≠p.block;omega)
   exact⟨hs,by rw [e];exact hc.c0,by rw [e];exact hc.c1,by rw [e];exact hc.c2,by rw [e];exact hc.c3,by rw [e];exact hc.c4,by rw [e];exact hc.c5⟩
def ZbE (wr:World) (B:Nat) (Ms:List Md) (k:Nat):Prop:=
 ∃ f,wr.rowIs B 133 (Ms.length*6) f/\∀ i (h:i < Ms.length),i < k->Zeq Ms[i]/\f (i*6)=.string Ms[i].kind/\f (i*6+1)=.string Ms[i].field/\f (i*6+2)=.string Ms[i].wh/\f (i*6+3)=.string Ms[i].is/\f (i*6+4)=.string Ms[i].put/\f (i*6+5)=.string Ms[i].fr
theorem ZbE.below (h:ZbE wr B Ms k) (hb:Below wr.heap.size wr w1):ZbE w1 B Ms k:=by
 obtain⟨f,hr,hall⟩:=h;exact⟨f,hr.of_block (hb.block B hr.lt),hall⟩
theorem ZbE.free (h:ZbE wr B Ms k) (i:Nat):wr.frozen? ⟨B,i,none⟩=false:=by
 obtain⟨f,hr,_⟩:=h;exact hr.frozen i
theorem ZbE.there (h:ZbE wr B Ms k) (i:Nat) (hi:i < Ms.length*6):∃ v,wr.cell? ⟨B,i,none⟩=some v:=by
 obtain⟨f,hr,_⟩:=h;exact⟨_,hr.cell hi⟩
theorem ZbE.lt (h:ZbE wr B Ms k):B < wr.heap.size:=by
 obtain⟨f,hr,_⟩:=h;exact hr.lt
theorem ZbE.step (h:ZbE w1 B Ms k) (hk:k < Ms.length) (hz:Zeq Ms[k]) :
 ZbE ((((((w1.setCell ⟨B,k*6,none⟩ (.string Ms[k].kind)).setCell ⟨B,k*6+1,none⟩ (.string Ms[k].field)).setCell ⟨B,k*6+2,none⟩ (.string Ms[k].wh)).setCell ⟨B,k*6+3,none⟩ (.string Ms[k].is)).setCell ⟨B,k*6+4,none⟩ (.string Ms[k].put)).setCell ⟨B,k*6+5,none⟩ (.string Ms[k].fr)) B Ms (k+1):=by
 obtain⟨f,hr,hall⟩:=h;refine⟨_,((((((hr.set _ _).set _ _).set _ _).set _ _).set _ _).set _ _),fun i hi hik=>?_⟩
 by_cases e:i=k
 . subst e
   exact⟨hz,by simp,by simp,by simp,by simp,by simp,by simp⟩
 . obtain⟨hz',h0,h1,h2,h3,h4,h5⟩:=hall i hi (by omega)
   refine⟨hz',?_,?_,?_,?_,?_,?_⟩
   . rw [if_neg (by omega),if_neg (by omega),if_neg (by omega),if_neg (by omega),if_neg (by omega),if_neg (by omega)];exact h0
   . rw [if_neg (by omega),if_neg (by omega),if_neg (by omega),if_neg (by omega),if_neg (by omega),if_neg (by omega)];exact h1
   . rw [if_neg (by omega),if_neg (by omega),if_neg (by omega),if_neg (by omega),if_neg (by omega),if_neg (by omega)];exact h2
   . rw [if_neg (by omega),if_neg (by omega),if_neg (by omega),if_neg (by omega),if_neg (by omega),if_neg (by omega)];exact h3
   . rw [if_neg (by omega),if_neg (by omega),if_neg (by omega),if_neg (by omega),if_neg (by omega),if_neg (by omega)];exact h4
   . rw [if_neg (by omega),if_neg (by omega),if_neg (by omega),if_neg (by omega),if_neg (by omega),if_neg (by omega)];exact h5
def Zrz (lo hi:Nat) (w:World) (v:Value) (n:Nat):Prop:=
 (∃ (a:Option Addr) (cap:Nat),v=.slice a 0 cap/\n=0)\/
 ∃ (b off cap:Nat),v=.slice (some ⟨b,off,none⟩) n cap/\0 < n/\n<=maxLen/\lo<=b/\b < hi/\b < w.heap.size/\(∀ i,i < n*6->(w.cell? ⟨b,off+i,none⟩).isSome=true)/\∀ i,w.frozen? ⟨b,i,none⟩=false
theorem Zrz.kept {lo' hi':Nat} (h:Zrz lo hi w v n) (k:ZbS lo' hi' w w'):Zrz lo hi w' v n:=by
 rcases h with h | ⟨b,off,cap,h1,h2,h3,h4,h5,h6,h7,h8⟩
 . exact Or.inl h
 . exact Or.inr ⟨b,off,cap,h1,h2,h3,h4,h5,Zk_ h6 k.touch.size,fun i hi'=>k.there _ h6 (h7 i hi'),fun i=>(k.frz _ h6).trans (h8 i)⟩
theorem Zrz.below (h:Zrz lo hi w v n) (hb:Zw_ w w'):Zrz lo hi w' v n:=h.kept (ZbS.below (lo:=0) (hi:=0) hb)
theorem ZbE.done (h:ZbE wr B Ms k) (hk:Ms.length<=k) (hne:Ms≠[]) (hm:Ms.length<=maxLen):Zbe B wr (.slice (some ⟨B,0,none⟩) Ms.length Ms.length) Ms/\Zrz B wr.heap.size wr (.slice (some ⟨B,0,none⟩) Ms.length Ms.length) Ms.length:=by
 refine⟨?_,Or.inr ⟨B,0,Ms.length,rfl,List.length_pos_iff.2 hne,hm,Nat.le_refl _,h.lt,h.lt,fun i hi=>?_,h.free⟩⟩
 . obtain⟨f,hr,hall⟩:=h
   refine Or.inr ⟨B,0,Ms.length,rfl,hne,hm,hr.lt,Nat.le_refl _,Nat.le_refl _,fun i hi=>?_⟩;obtain⟨hz,h0,h1,h2,h3,h4,h5⟩:=hall i hi (by omega);rw [Nat.zero_add];exact⟨hz,by rw [hr.cell (by omega),h0],by rw [hr.cell (by omega),h1],by rw [hr.cell (by omega),h2],by rw [hr.cell (by omega),h3],by rw [hr.cell (by omega),h4],by rw [hr.cell (by omega),h5]⟩
 . obtain⟨v,hv⟩:=h.there i hi;rw [Nat.zero_add,hv];rfl
theorem ZbE.new (w:World) (Ms:List Md) (z:Array Value):ZbE (w.alloc (.cells (madeCells z (Ms.length*6)) 133)) w.heap.size Ms 0:=by
 refine⟨fun i=>(madeCells z (Ms.length*6)).getD i default,?_,fun i _ h=>by omega⟩;have:=World.rowIs_alloc w (madeCells z (Ms.length*6)) 133 (fun i=>(madeCells z (Ms.length*6)).getD i default) (fun i hi=>by simp [Array.getD,hi])
 rwa [size_madeCells] at this
theorem Zjq (lo:Nat) (v:Value) (Ms:List Md) (w:World) (hv:Zbe lo w v Ms) (hn:Ms.length<=1048576) :
 Calls prog 37 #[v] w fun e w'=>∃ v',e=.returned v'/\Zw_ w w'/\Zbe w.heap.size w' v' Ms/\Zrz w.heap.size w'.heap.size w' v' Ms.length:=by
 obtain⟨i0,hi,hz0,hz1,hz2⟩:=info_parts Tryz.info133
 by_cases hL:Ms=[]
 . subst hL
   obtain⟨a,cap,rfl⟩:=hv.form;clear hv
   have hmk:∀ u:World,(Instr.makeSlice 38 (.int .i64 0) (.int .i64 0)).run prog u=.ok (.slice (some ⟨u.heap.size,0,none⟩) 0 0) (u.alloc (.cells (madeCells (Value.cells (.agg #[.string ⟨#[]⟩,.string ⟨#[]⟩,.string ⟨#[]⟩,.string ⟨#[]⟩,.string ⟨#[]⟩,.string ⟨#[]⟩])) 0) 133)):=fun u=>by
    have h:=run_make (P:=prog) u 38 133 i0 _ underlying38 hi hz0 .i64 .i64 0 0 (by omega) (by omega) (by omega) (by omega)
    simpa [hz1] using h
   go_enter func37,ntmps37;go_wp2
   go_loop [4] (fun i=>i=.int .i64 0) (fun _=>0)
   case atStart=>rfl
   case round=>
    subst hrel;go_wp2;go_ret;exact⟨_,rfl,Zb_.alloc Zl_ _,Or.inl ⟨_,_,rfl,rfl⟩,Or.inl ⟨_,_,rfl,rfl⟩⟩
 . obtain⟨b,off,cap,rfl,hm,hbw,_,hc⟩:=hv.full hL
   clear hv;have HM:Hd (Ms.length<=maxLen):=hm;unfold maxLen at hm
   have hmk:∀ u:World,(Instr.makeSlice 38 (.int .i64 (Ms.length:Int)) (.int .i64 (Ms.length:Int))).run prog u=.ok (.slice (some ⟨u.heap.size,0,none⟩) Ms.length Ms.length) (u.alloc (.cells (madeCells (Value.cells (.agg #[.string ⟨#[]⟩,.string ⟨#[]⟩,.string ⟨#[]⟩,.string ⟨#[]⟩,.string ⟨#[]⟩,.string ⟨#[]⟩])) (Ms.length*6)) 133)):=fun u=>by
    have h:=run_make (P:=prog) u 38 133 i0 _ underlying38 hi hz0 .i64 .i64 Ms.length Ms.length (by omega) (by omega) (by rw [hz2];omega) (by omega);rw [hz1] at h
    simpa using h
   clear hi hz0 hz1 hz2;go_enter func37,ntmps37;go_wp2;clear hmk
   go_loopw [4] (fun i wr=>∃ k:Nat,i=.int .i64 k/\k<=Ms.length/\Zw_ w wr/\ZbE wr w.heap.size Ms k) (fun i _=>Ms.length - (intOf i).toNat)
   case atStart=>exact⟨0,rfl,by omega,Zb_.alloc Zl_ _,ZbE.new w Ms _⟩
   case round=>
    obtain⟨k,rfl,hk,hb,hf⟩:=hrel
    by_cases hlt:k < Ms.length
    . obtain⟨hsz,hcell⟩:=hc k hlt
      obtain⟨c0,c1,c2,c3,c4,c5⟩:=hcell.below hb hbw;clear hcell;go_wp2_with fail;refine (Zo9 _ _ _ _ _ _ _).mono ?_;rintro e w1 ⟨rfl,hb1⟩;have hf1:=hf.below hb1;have HST:=Zab (hf1.step hlt hsz);have hB:Hd (Zw_ w w1):=hb.trans (hb1.mono hb.size);have hfr:=hf1.free;obtain⟨o0,ho0⟩:=hf1.there (k*6) (by omega);obtain⟨o1,ho1⟩:=hf1.there (k*6+1) (by omega);obtain⟨o2,ho2⟩:=hf1.there (k*6+2) (by omega);obtain⟨o3,ho3⟩:=hf1.there (k*6+3) (by omega);obtain⟨o4,ho4⟩:=hf1.there (k*6+4) (by omega);obtain⟨o5,ho5⟩:=hf1.there (k*6+5) (by omega);clear hf hf1 hb1 hb c0 c1 c2 c3 c4 c5;go_wp2;go_roundw
      . 
       exact⟨k+1,by go_num,by omega,((((((hB.o.setCell Zl_ _).setCell Zl_ _).setCell Zl_ _).setCell Zl_ _).setCell Zl_ _).setCell Zl_ _),HST.o⟩
      . simp [intOf];omega
    . go_wp2
      go_ret;have hd:=hf.done (by omega) hL HM.o;exact⟨_,rfl,hb,hd.1,hd.2⟩
theorem Zmj (lo hi:Nat) (v:Value) (n:Nat) (k:Int) (w:World) (hv:Zrz lo hi w v n) (h0:0<=k) (hn:n<=1048576) (hk:k<=1500000000000000000) :
 Calls prog 53 #[v,.int .i64 k] w fun e w'=>∃ r:Int,e=.returned (.int .i64 r)/\k<=r/\r<=1600000000000000000/\ZbS lo hi w w':=by
 rcases hv with ⟨a,cap,rfl,rfl⟩ | ⟨b,off,cap,rfl,hne,hm,hlo,hhi,hbw,hcs,hfr⟩
 . go_enter func53,ntmps53
   go_wp2
   go_loop [5,1] (fun i q=>i=.int .i64 0/\q=.int .i64 k) (fun _ _=>0)
   case atStart=>exact⟨rfl,rfl⟩
   case round=>
    obtain⟨rfl,rfl⟩:=hrel;go_wp2;go_ret;exact⟨k,rfl,by omega,by omega,ZbS.refl _ _ _⟩
 . unfold maxLen at hm
   have HC:=Zab hcs;have HFR:=Zab hfr;clear hcs hfr
   have hput:∀ (W:World) (j c:Nat) (u:Value),ZbS lo hi w W->j < n->c < 6->ZbS lo hi w (W.setCell ⟨b,off+j*6+c,none⟩ u):=fun W j c u hW hj hc=>
    hW.trans (ZbS.setCell lo hi W _ u ⟨hlo,hhi⟩ (hW.there _ hbw (by rw [Nat.add_assoc];exact HC.o _ (by omega))))
   have hput0:∀ (W:World) (j:Nat) (u:Value),ZbS lo hi w W->j < n->ZbS lo hi w (W.setCell ⟨b,off+j*6,none⟩ u):=fun W j u hW hj=>hput W j 0 u hW hj (by omega)
   have hget:∀ (W:World) (j c:Nat),ZbS lo hi w W->j < n->c < 6->∃ u,W.cell? ⟨b,off+j*6+c,none⟩=some u:=fun W j c hW hj hc=>
    Option.isSome_iff_exists.1 (hW.there _ hbw (by rw [Nat.add_assoc];exact HC.o _ (by omega)))
   have hfree:∀ (W:World),ZbS lo hi w W->∀ i,W.frozen? ⟨b,i,none⟩=false:=fun W hW i=>(hW.frz _ hbw).trans (HFR.o i)
   have HP:=Zab hput;have HP0:=Zab hput0;have HG:=Zab hget;have HF:=Zab hfree;clear hput hput0 hget hfree;go_enter func53,ntmps53;go_wp2
   go_loopw [5,1] (fun i q wr=>∃ (j:Nat),i=.int .i64 j/\q=.int .i64 (k+j*6)/\j<=n/\ZbS lo hi w wr) (fun i _ _=>n - (intOf i).toNat)
   case atStart=>exact⟨0,rfl,by simp,by omega,ZbS.refl _ _ _⟩
   case round=>
    obtain⟨j,rfl,rfl,hj,hkp⟩:=hrel;have HK:=Zab hkp;clear hkp
    by_cases hlt:j < n
    . go_wp2_with fail
      refine (Zal _ _ (by omega)).mono ?_;rintro e w1 ⟨rfl,hb1⟩;have HK1:=Zab (HK.o.trans (ZbS.below hb1));clear hb1 HK;obtain⟨u0,g0⟩:=HG.o w1 j 0 HK1.o hlt (by omega);rw [Nat.add_zero] at g0;have gf:=HF.o w1 HK1.o;go_wp2_with fail;have HX1:=Zab (HP0.o w1 j (.string (mtB (k+j*6))) HK1.o hlt);clear g0 gf HK1;refine (Zal _ _ (by omega)).mono ?_;rintro e w2 ⟨rfl,hb2⟩;have HK2:=Zab (HX1.o.trans (ZbS.below hb2));clear hb2 HX1;obtain⟨u1,g1⟩:=HG.o w2 j 1 HK2.o hlt (by omega);have gf:=HF.o w2 HK2.o;go_wp2_with fail;have HX2:=Zab (HP.o w2 j 1 (.string (mtB (k+j*6+1))) HK2.o hlt (by omega));clear g1 gf HK2;refine (Zal _ _ (by omega)).mono ?_;rintro e w3 ⟨rfl,hb3⟩;have HK3:=Zab (HX2.o.trans (ZbS.below hb3));clear hb3 HX2;obtain⟨u2,g2⟩:=HG.o w3 j 2 HK3.o hlt (by omega);have gf:=HF.o w3 HK3.o;go_wp2_with fail
      have HX3:=Zab (HP.o w3 j 2 (.string (mtB (k+j*6+1+1))) HK3.o hlt (by omega));clear g2 gf HK3;refine (Zal _ _ (by omega)).mono ?_;rintro e w4 ⟨rfl,hb4⟩;have HK4:=Zab (HX3.o.trans (ZbS.below hb4));clear hb4 HX3;obtain⟨u3,g3⟩:=HG.o w4 j 3 HK4.o hlt (by omega);have gf:=HF.o w4 HK4.o;go_wp2_with fail;have HX4:=Zab (HP.o w4 j 3 (.string (mtB (k+j*6+1+1+1))) HK4.o hlt (by omega));clear g3 gf HK4;refine (Zal _ _ (by omega)).mono ?_;rintro e w5 ⟨rfl,hb5⟩;have HK5:=Zab (HX4.o.trans (ZbS.below hb5));clear hb5 HX4;obtain⟨u4,g4⟩:=HG.o w5 j 4 HK5.o hlt (by omega);have gf:=HF.o w5 HK5.o;go_wp2_with fail;have HX5:=Zab (HP.o w5 j 4 (.string (mtB (k+j*6+1+1+1+1))) HK5.o hlt (by omega));clear g4 gf HK5;refine (Zal _ _ (by omega)).mono ?_;rintro e w6 ⟨rfl,hb6⟩;have HK6:=Zab (HX5.o.trans (ZbS.below hb6));clear hb6 HX5
      obtain⟨u5,g5⟩:=HG.o w6 j 5 HK6.o hlt (by omega);have gf:=HF.o w6 HK6.o;have HX6:=Zab (HP.o w6 j 5 (.string (mtB (k+j*6+1+1+1+1+1))) HK6.o hlt (by omega));go_wp2;go_roundw
      . exact⟨j+1,by go_num,by go_num,by omega,HX6.o⟩
      . simp [intOf];omega
    . have e:j=n:=by omega
      subst e;go_wp2;go_ret;exact⟨_,rfl,by omega,by omega,HK.o⟩
end
variable {w w' wr w1:World} {b o lo B k:Nat} {v:Value}
structure Le where
 tm:Zy_
 re:Zy_
 mo:Int
 fr:Int
variable {x:Le} {Xl:List Le}
structure ZeG (x:Le):Prop where
 s0:x.tm.size<=maxLen
 s1:x.re.size<=maxLen
def Zhv (x:Le):Prop:=x=x
structure ZcT (w:World) (b o:Nat) (x:Le):Prop where
 c0:w.cell? ⟨b,o,none⟩=some (.string x.tm)
 c1:w.cell? ⟨b,o+1,none⟩=some (.string x.re)
 c2:w.cell? ⟨b,o+2,none⟩=some (.int .i64 x.mo)
 c3:w.cell? ⟨b,o+3,none⟩=some (.int .i64 x.fr)
theorem ZcT.below (h:ZcT w b o x ) {m:Nat} (hb:Below m w w') (hlt:b < m):ZcT w' b o x:=by
 have e:∀ o,w'.cell? ⟨b,o,none⟩=w.cell? ⟨b,o,none⟩:=fun o=>hb.cell (p:=⟨b,o,none⟩) hlt
 exact⟨by rw [e];exact h.c0,by rw [e];exact h.c1,by rw [e];exact h.c2,by rw [e];exact h.c3⟩
theorem ZcT.set (h:ZcT w b o x ) {p:Addr} (hp:b≠p.block) (u:Value):ZcT (w.setCell p u) b o x:=by
 have e:∀ o,(w.setCell p u).cell? ⟨b,o,none⟩=w.cell? ⟨b,o,none⟩:=fun o=>Zar _ _ _ _ hp
 exact⟨by rw [e];exact h.c0,by rw [e];exact h.c1,by rw [e];exact h.c2,by rw [e];exact h.c3⟩
def ZbJ (lo:Nat) (w:World) (v:Value) (Xl:List Le):Prop:=
 (∃ (a:Option Addr) (cap:Nat),v=.slice a 0 cap/\Xl=[])\/
 ∃ (b off cap:Nat),v=.slice (some ⟨b,off,none⟩) Xl.length cap/\Xl≠[]/\Xl.length<=maxLen/\b < w.heap.size/\lo<=b/\Xl.length<=cap/\
  ∀ i (h:i < Xl.length),ZeG Xl[i]/\ZcT w b (off+i*4) Xl[i]
theorem ZbJ.below (h:ZbJ lo w v Xl) (hb:Zw_ w w'):ZbJ lo w' v Xl:=by
 rcases h with h | ⟨b,off,cap,h1,h2,h3,h4,h5,h6,h7⟩
 . exact Or.inl h
 . refine Or.inr ⟨b,off,cap,h1,h2,h3,Zk_ h4 hb.size,h5,h6,fun i hi=>?_⟩
   obtain⟨hs,hc⟩:=h7 i hi;exact⟨hs,hc.below hb h4⟩
theorem ZbJ.mono {lo':Nat} (h:ZbJ lo w v Xl) (hl:lo'<=lo):ZbJ lo' w v Xl:=by
 rcases h with h | ⟨b,off,cap,h1,h2,h3,h4,h5,h6,h7⟩
 . exact Or.inl h
 . refine Or.inr ⟨b,off,cap,h1,h2,h3,h4,Nat.le_trans hl h5,h6,fun i hi=>?_⟩
   obtain⟨hs,hc⟩:=h7 i hi;exact⟨hs,hc⟩
theorem ZbJ.set (h:ZbJ lo w v Xl) {p:Addr} (hp:p.block < lo) (u:Value):ZbJ lo (w.setCell p u) v Xl:=by
 rcases h with h | ⟨b,off,cap,h1,h2,h3,h4,h5,h6,h7⟩
 . exact Or.inl h
 . refine Or.inr ⟨b,off,cap,h1,h2,h3,by simpa [World.setCell] using h4,h5,h6,fun i hi=>?_⟩
   obtain⟨hs,hc⟩:=h7 i hi;exact⟨hs,hc.set (by omega) u⟩
theorem ZbJ.form (h:ZbJ lo w v Xl):∃ a cap,v=.slice a Xl.length cap:=by
 rcases h with ⟨a,cap,h,rfl⟩ | ⟨b,off,cap,h,_⟩
 . exact⟨a,cap,h⟩
 . exact⟨_,cap,h⟩
theorem ZbJ.max (h:ZbJ lo w v Xl):Xl.length<=maxLen:=by
 rcases h with ⟨a,cap,h,rfl⟩ | ⟨b,off,cap,h,_,h3,_⟩
 . exact Nat.zero_le _
 . exact h3
theorem ZbJ.full (h:ZbJ lo w v Xl) (hne:Xl≠[]):∃ (b off cap:Nat),v=.slice (some ⟨b,off,none⟩) Xl.length cap/\Xl.length<=maxLen/\b < w.heap.size/\Xl.length<=cap/\
 ∀ i (h:i < Xl.length),ZeG Xl[i]/\ZcT w b (off+i*4) Xl[i]:=by
 rcases h with ⟨_,_,_,h⟩ | ⟨b,off,cap,h1,_,h3,h4,_,h6,h7⟩
 . exact absurd h hne
 . exact⟨b,off,cap,h1,h3,h4,h6,h7⟩
theorem ZbJ.full' {a:Option Addr}{n cap:Nat} (h:ZbJ lo w (.slice a n cap) Xl) (hL:0 < Xl.length) :
 ∃ b off,a=some ⟨b,off,none⟩/\b < w.heap.size/\lo<=b/\∀ i (h:i < Xl.length),ZeG Xl[i]/\ZcT w b (off+i*4) Xl[i]:=by
 rcases h with ⟨a',cap',h,rfl⟩ | ⟨b',off',cap',h1,h2,h3,h4,h5,h6,h7⟩
 . simp at hL
 . injection h1 with e1 e2 e3
   exact⟨b',off',e1,h4,h5,h7⟩
def Ze4 (Xl:List Le):Prop:=Xl.length<=1048576/\∀ i (h:i < Xl.length),Zhv Xl[i]
def Zui (Xl:List Le) (left r:Int):Prop:= -1<=r/\r<=left/\(0<=r->Ze4 Xl)
theorem Zsj (x:Le) (left:Int) (w:World) (h0:0<=left) (h1:left<=1048576) (hz:ZeG x) :
 Calls prog 79 #[.agg #[.string x.tm,.string x.re,.int .i64 x.mo,.int .i64 x.fr],.int .i64 left] w
  fun e w'=>∃ r:Int,e=.returned (.int .i64 r)/\Zw_ w w'/\-1<=r/\r<=left/\(0<=r->Zhv x):=by
 obtain⟨s0,s1⟩:=hz;unfold maxLen at s0 s1;go_enter func79,ntmps79;go_wp2
 all_goals go_ret
 all_goals exact⟨_,rfl,Zb_.alloc Zl_ _,by omega,by omega,fun _=>rfl⟩
theorem Znm (x:Le) (w:World) :
 Calls prog 91 #[.agg #[.string x.tm,.string x.re,.int .i64 x.mo,.int .i64 x.fr]] w fun e w'=>e=.returned (.agg #[.string x.tm,.string x.re,.int .i64 x.mo,.int .i64 x.fr])/\Zw_ w w':=by
 go_enter func91,ntmps91;go_wp2;refine bodyPost_ret (v:=.agg #[.string x.tm,.string x.re,.int .i64 x.mo,.int .i64 x.fr]) (by simp [results,results91,go_sem]) rfl ⟨rfl,?_⟩
 repeat (refine Below.setCell ?_ (by simp) _)
 exact ((Zb_.alloc Zl_ _).alloc (by simp) _).alloc (by simp;omega) _
theorem Zp8 (x:Le) (w:World) :
 Calls prog 102 #[.agg #[.string x.tm,.string x.re,.int .i64 x.mo,.int .i64 x.fr],.agg #[.string x.tm,.string x.re,.int .i64 x.mo,.int .i64 x.fr]] w fun e w'=>e=.returned (.bool true)/\Zw_ w w':=by
 go_enter func102,ntmps102;go_wp2;go_ret;exact⟨rfl,(Zb_.alloc Zl_ _).alloc (by simp) _⟩
theorem Zq7 (lo:Nat) (v:Value) (Xl:List Le) (left:Int) (w:World) (h0:0<=left) (h1:left<=1048576) (hv:ZbJ lo w v Xl) :
 Calls prog 32 #[v,.int .i64 left] w fun e w'=>∃ r:Int,e=.returned (.int .i64 r)/\Zw_ w w'/\Zui Xl left r:=by
 rcases hv with ⟨a,cap,rfl,rfl⟩ | ⟨b,off,cap,rfl,hne,hm,hbw,_,_,hc⟩
 . go_enter func32,ntmps32
   go_wp2
   go_loop [1,5] (fun l i=>∃ r:Int,l=.int .i64 r/\0<=r/\r<=left/\i=.int .i64 0) (fun _ _=>0)
   case atStart=>exact⟨_,rfl,by omega,by omega,rfl⟩
   case round=>
    obtain⟨r,rfl,hr0,hr1,rfl⟩:=hrel;go_wp2;go_ret;exact⟨r,rfl,Below.refl _ _,by omega,by omega,fun _=>⟨by simp,fun i h=>by simp at h⟩⟩
 . unfold maxLen at hm
   by_cases hle:(Xl.length:Int)<=left
   . go_enter func32,ntmps32
     go_wp2
     go_loopw [1,5] (fun l i wr=>∃ (r:Int) (k:Nat),l=.int .i64 r/\0<=r/\r<=left/\i=.int .i64 k/\k<=Xl.length/\Zw_ w wr/\∀ j (hj:j < Xl.length),j < k->Zhv Xl[j]) (fun _ i _=>Xl.length - (intOf i).toNat)
     case atStart=>exact⟨_,0,rfl,by omega,by omega,rfl,by omega,Below.refl _ _,fun j _ h=>by omega⟩
     case round=>
      obtain⟨r,k,rfl,hr0,hr1,rfl,hk,hb,hall⟩:=hrel;have HA:=Zab hall;clear hall
      by_cases hlt:k < Xl.length
      . obtain⟨hs,hc⟩:=hc k hlt
        obtain⟨c0,c1,c2,c3⟩:=hc.below hb hbw;clear hc;go_wp2_with fail;refine (Zsj _ _ _ hr0 (by omega) hs).mono ?_;rintro e w1 ⟨r1,rfl,hb1,q0,q1,q2⟩;have HQ2:=Zab q2;have hB:Hd (Zw_ w w1):=hb.trans (hb1.mono hb.size);clear hb1 c0 c1 c2 c3 hb q2
        by_cases hneg:r1 < 0
        . go_wp2
          go_ret;exact⟨-1,rfl,hB.o,by omega,by omega,fun h=>by omega⟩
        . have HL:Hd (Zhv Xl[k]):=HQ2.o (by omega)
          clear HQ2;go_wp2;go_roundw
          case rel=>exact⟨_,k+1,rfl,by omega,by omega,by go_num,by omega,hB.o,fun j hj h=>by
                     by_cases e:j=k
                     . subst e;exact HL.o
                     . exact HA.o j hj (by omega)⟩
          . simp [intOf];omega
      . go_wp2
        go_ret;exact⟨r,rfl,hb,by omega,by omega,fun _=>⟨by omega,fun j hj=>HA.o j hj (by omega)⟩⟩
   . go_enter func32,ntmps32
     go_wp2;go_ret;exact⟨-1,rfl,Below.refl _ _,by omega,by omega,fun h=>by omega⟩
theorem Zn4 (lo lo':Nat) (v v':Value) (Xl:List Le) (w:World) (hv:ZbJ lo w v Xl) (hv':ZbJ lo' w v' Xl) :
 Calls prog 50 #[v,v'] w fun e w'=>e=.returned (.bool true)/\Zw_ w w':=by
 by_cases hL:Xl=[]
 . subst hL
   obtain⟨a,cap,rfl⟩:=hv.form;obtain⟨a',cap',rfl⟩:=hv'.form;clear hv hv';go_enter func50,ntmps50;go_wp2
   go_loop [5] (fun i=>i=.int .i64 0) (fun _=>0)
   case atStart=>rfl
   case round=>
    subst hrel;go_wp2;go_ret;exact⟨rfl,Below.refl _ _⟩
 . obtain⟨b,off,cap,rfl,hm,hbw,_,hc⟩:=hv.full hL
   obtain⟨b',off',cap',rfl,_,hbw',_,hc'⟩:=hv'.full hL;clear hv hv';unfold maxLen at hm;go_enter func50,ntmps50;go_wp2
   go_loopw [5] (fun i wr=>∃ k:Nat,i=.int .i64 k/\k<=Xl.length/\Zw_ w wr) (fun i _=>Xl.length - (intOf i).toNat)
   case atStart=>exact⟨0,rfl,by omega,Below.refl _ _⟩
   case round=>
    obtain⟨k,rfl,hk,hb⟩:=hrel
    by_cases hlt:k < Xl.length
    . obtain⟨hs,hc⟩:=hc k hlt
      obtain⟨ht,hd⟩:=hc' k hlt;obtain⟨c0,c1,c2,c3⟩:=hc.below hb hbw;obtain⟨d0,d1,d2,d3⟩:=hd.below hb hbw';clear hc hd hs ht;have HB:=Zab hb;clear hb;go_wp2
      go_region_with (go_at_call 102;refine (Zp8 _ _ ).mono ?_;rintro e w1 ⟨rfl,hb1⟩;have hB:Hd (Zw_ w w1):=(HB.o.drew).trans (hb1.mono HB.o.size);clear hb1)
      all_goals go_wp2
      all_goals go_roundw
      all_goals first
       | (case rel=>exact⟨k+1,by go_num,by omega,hB.o⟩)
       | (case measure=>simp [intOf];omega)
    . go_wp2
      go_ret;exact⟨rfl,hb⟩
theorem Tryz.info142:(prog.info? 142).map (fun i=>(i.zero,i.size,i.bytes))=some (some (.agg #[.string ⟨#[]⟩,.string ⟨#[]⟩,.int .i64 0,.int .i64 0]),4,48):=by kernel_rfl
def ZbZ (wr:World) (B:Nat) (Xl:List Le) (k:Nat):Prop:=
 ∃ f,wr.rowIs B 142 (Xl.length*4) f/\∀ i (h:i < Xl.length),i < k->ZeG Xl[i]/\f (i*4)=.string Xl[i].tm/\f (i*4+1)=.string Xl[i].re/\f (i*4+2)=.int .i64 Xl[i].mo/\f (i*4+3)=.int .i64 Xl[i].fr
theorem ZbZ.below (h:ZbZ wr B Xl k) (hb:Below wr.heap.size wr w1):ZbZ w1 B Xl k:=by
 obtain⟨f,hr,hall⟩:=h;refine⟨f,hr.of_block (hb.block B hr.lt),fun i hi hik=>?_⟩;obtain⟨hz,h0,h1,h2,h3⟩:=hall i hi hik;exact⟨hz,h0,h1,h2,h3⟩
theorem ZbZ.free (h:ZbZ wr B Xl k) (i:Nat):wr.frozen? ⟨B,i,none⟩=false:=by
 obtain⟨f,hr,_⟩:=h;exact hr.frozen i
theorem ZbZ.there (h:ZbZ wr B Xl k) (i:Nat) (hi:i < Xl.length*4):∃ v,wr.cell? ⟨B,i,none⟩=some v:=by
 obtain⟨f,hr,_⟩:=h;exact⟨_,hr.cell hi⟩
theorem ZbZ.step (h:ZbZ w1 B Xl k) (hk:k < Xl.length) (hz:ZeG Xl[k]) :
 ZbZ ((((w1.setCell ⟨B,k*4,none⟩ (.string Xl[k].tm)).setCell ⟨B,k*4+1,none⟩ (.string Xl[k].re)).setCell ⟨B,k*4+2,none⟩ (.int .i64 Xl[k].mo)).setCell ⟨B,k*4+3,none⟩ (.int .i64 Xl[k].fr)) B Xl (k+1):=by
 obtain⟨f,hr,hall⟩:=h;refine⟨_,((((hr.set _ _).set _ _).set _ _).set _ _),fun i hi hik=>?_⟩
 by_cases e:i=k
 . subst e
   refine⟨hz,by simp,by simp,by simp,by simp⟩
 . obtain⟨hz',h0,h1,h2,h3⟩:=hall i hi (by omega)
   refine⟨hz',?_,?_,?_,?_⟩
   . rw [if_neg (by omega),if_neg (by omega),if_neg (by omega),if_neg (by omega)];exact h0
   . rw [if_neg (by omega),if_neg (by omega),if_neg (by omega),if_neg (by omega)];exact h1
   . rw [if_neg (by omega),if_neg (by omega),if_neg (by omega),if_neg (by omega)];exact h2
   . rw [if_neg (by omega),if_neg (by omega),if_neg (by omega),if_neg (by omega)];exact h3
theorem ZbZ.done (h:ZbZ wr B Xl k) (hk:Xl.length<=k) (hne:Xl≠[]) (hm:Xl.length<=maxLen):ZbJ B wr (.slice (some ⟨B,0,none⟩) Xl.length Xl.length) Xl:=by
 obtain⟨f,hr,hall⟩:=h;refine Or.inr ⟨B,0,Xl.length,rfl,hne,hm,hr.lt,Nat.le_refl _,Nat.le_refl _,fun i hi=>?_⟩;obtain⟨hz,h0,h1,h2,h3⟩:=hall i hi (by omega);rw [Nat.zero_add];exact⟨hz,⟨by rw [hr.cell (by omega),h0],by rw [hr.cell (by omega),h1],by rw [hr.cell (by omega),h2],by rw [hr.cell (by omega),h3]⟩⟩
theorem ZbZ.new (w:World) (Xl:List Le) (z:Array Value):ZbZ (w.alloc (.cells (madeCells z (Xl.length*4)) 142)) w.heap.size Xl 0:=by
 refine⟨fun i=>(madeCells z (Xl.length*4)).getD i default,?_,fun i _ h=>by omega⟩;have:=World.rowIs_alloc w (madeCells z (Xl.length*4)) 142 (fun i=>(madeCells z (Xl.length*4)).getD i default) (fun i hi=>by simp [Array.getD,hi])
 rwa [size_madeCells] at this
theorem Zrm (lo:Nat) (v:Value) (Xl:List Le) (w:World) (hv:ZbJ lo w v Xl) (hn:Ze4 Xl) :
 Calls prog 41 #[v] w fun e w'=>∃ v',e=.returned v'/\Zw_ w w'/\ZbJ w.heap.size w' v' Xl:=by
 obtain⟨i0,hi,hz0,hz1,hz2⟩:=info_parts Tryz.info142;have hn1:=hn.1;clear hn
 by_cases hL:Xl=[]
 . subst hL
   obtain⟨a,cap,rfl⟩:=hv.form;clear hv
   have hmk:∀ u:World,(Instr.makeSlice 45 (.int .i64 0) (.int .i64 0)).run prog u=.ok (.slice (some ⟨u.heap.size,0,none⟩) 0 0) (u.alloc (.cells (madeCells (Value.cells (.agg #[.string ⟨#[]⟩,.string ⟨#[]⟩,.int .i64 0,.int .i64 0])) 0) 142)):=fun u=>by
    have h:=run_make (P:=prog) u 45 142 i0 _ underlying45 hi hz0 .i64 .i64 0 0 (by omega) (by omega) (by omega) (by omega)
    simpa [hz1] using h
   go_enter func41,ntmps41;go_wp2
   go_loop [4] (fun i=>i=.int .i64 0) (fun _=>0)
   case atStart=>rfl
   case round=>
    subst hrel;go_wp2;go_ret;exact⟨_,rfl,Zb_.alloc Zl_ _,Or.inl ⟨_,_,rfl,rfl⟩⟩
 . obtain⟨b,off,cap,rfl,hm,hbw,_,hc⟩:=hv.full hL
   clear hv;have HM:Hd (Xl.length<=maxLen):=hm;unfold maxLen at hm
   have hmk:∀ u:World,(Instr.makeSlice 45 (.int .i64 (Xl.length:Int)) (.int .i64 (Xl.length:Int))).run prog u=.ok (.slice (some ⟨u.heap.size,0,none⟩) Xl.length Xl.length) (u.alloc (.cells (madeCells (Value.cells (.agg #[.string ⟨#[]⟩,.string ⟨#[]⟩,.int .i64 0,.int .i64 0])) (Xl.length*4)) 142)):=fun u=>by
    have h:=run_make (P:=prog) u 45 142 i0 _ underlying45 hi hz0 .i64 .i64 Xl.length Xl.length (by omega) (by omega) (by rw [hz2];omega) (by omega);rw [hz1] at h
    simpa using h
   clear hi hz0 hz1 hz2;go_enter func41,ntmps41;go_wp2;clear hmk
   go_loopw [4] (fun i wr=>∃ k:Nat,i=.int .i64 k/\k<=Xl.length/\Zw_ w wr/\ZbZ wr w.heap.size Xl k) (fun i _=>Xl.length - (intOf i).toNat)
   case atStart=>exact⟨0,rfl,by omega,Zb_.alloc Zl_ _,ZbZ.new w Xl _⟩
   case round=>
    obtain⟨k,rfl,hk,hb,hf⟩:=hrel
    by_cases hlt:k < Xl.length
    . obtain⟨hs,hc⟩:=hc k hlt
      obtain⟨c0,c1,c2,c3⟩:=hc.below hb hbw
      have hBl:w.heap.size < wr.heap.size:=by
       obtain⟨_,hr,_⟩:=hf;exact hr.lt
      clear hc;go_wp2_with fail;refine (Znm _ _ ).mono ?_;rintro e w1 ⟨rfl,hb1⟩;have hf1:=hf.below hb1;have HST:=Zab (hf1.step hlt hs );have hB:Hd (Zw_ w w1):=hb.trans (hb1.mono hb.size);have hfr:=hf1.free;obtain⟨o0,ho0⟩:=hf1.there (k*4) (by omega);obtain⟨o1,ho1⟩:=hf1.there (k*4+1) (by omega);obtain⟨o2,ho2⟩:=hf1.there (k*4+2) (by omega);obtain⟨o3,ho3⟩:=hf1.there (k*4+3) (by omega);clear hf hf1 hb1 hb c0 c1 c2 c3;go_wp2;go_roundw
      . 
       exact⟨k+1,by go_num,by omega,((((hB.o.setCell Zl_ _).setCell Zl_ _).setCell Zl_ _).setCell Zl_ _),HST.o⟩
      . simp [intOf];omega
    . go_wp2
      go_ret;exact⟨_,rfl,hb,hf.done (by omega) hL HM.o⟩
end Go.Proofs.YtmappejlmapboaaGreat
