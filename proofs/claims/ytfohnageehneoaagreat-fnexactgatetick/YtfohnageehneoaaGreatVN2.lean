import Derived.Test.YtfohnageehneoaaGreatVNA
import Derived.Test.YtfohnageehneoaaGreatVK25
set_option maxHeartbeats 16000000
set_option maxRecDepth 100000
open Go.Proofs.Tryz
namespace Go.Proofs.YtfohnageehneoaaGreat
open Go.RowKit Go.Deep
theorem Tryz.info166:(prog.info? 166).map (fun i=>(i.zero,i.size,i.bytes))=some (some (.agg #[.string ⟨#[]⟩,.string ⟨#[]⟩,.string ⟨#[]⟩,.string ⟨#[]⟩,.string ⟨#[]⟩,.string ⟨#[]⟩]),6,96):=by kernel_rfl
theorem Zbf.setCell {lo:Nat} {w:World} {v:Value} {Ms:List Md} (h:Zbf lo w v Ms) {p:Addr} (hp:p.block < lo) (u:Value):Zbf lo (w.setCell p u) v Ms:=by
 rcases h with h | ⟨b,off,cap,h1,h2,h3,h4,h5,h6,h7⟩
 · exact Or.inl h
 · refine Or.inr ⟨b,off,cap,h1,h2,h3,by simpa [World.setCell] using h4,h5,h6,fun i hi=>?_⟩
   obtain⟨hs,hc⟩:=h7 i hi;have e:∀ o,(w.setCell p u).cell? ⟨b,o,none⟩=w.cell? ⟨b,o,none⟩:=fun o=>Zaq _ _ _ _ (by show b≠p.block;omega)
   exact⟨hs,by rw [e];exact hc.c0,by rw [e];exact hc.c1,by rw [e];exact hc.c2,by rw [e];exact hc.c3,by rw [e];exact hc.c4,by rw [e];exact hc.c5⟩
def ZbA (wr:World) (B:Nat) (Ms:List Md) (k:Nat):Prop:=
 ∃ f,wr.rowIs B 166 (Ms.length*6) f∧∀ i (h:i < Ms.length),i < k→Zd9 Ms[i]∧f (i*6)=.string Ms[i].kind∧f (i*6+1)=.string Ms[i].field∧f (i*6+2)=.string Ms[i].wh∧f (i*6+3)=.string Ms[i].is∧f (i*6+4)=.string Ms[i].put∧f (i*6+5)=.string Ms[i].fr
theorem ZbA.below {wr w1:World} {B:Nat} {Ms:List Md} {k:Nat} (h:ZbA wr B Ms k) (hb:Below wr.heap.size wr w1):ZbA w1 B Ms k:=by
 obtain⟨f,hr,hall⟩:=h;exact⟨f,hr.of_block (hb.block B hr.lt),hall⟩
theorem ZbA.free {wr:World} {B:Nat} {Ms:List Md} {k:Nat} (h:ZbA wr B Ms k) (i:Nat):wr.frozen? ⟨B,i,none⟩=false:=by
 obtain⟨f,hr,_⟩:=h;exact hr.frozen i
theorem ZbA.there {wr:World} {B:Nat} {Ms:List Md} {k:Nat} (h:ZbA wr B Ms k) (i:Nat) (hi:i < Ms.length*6):∃ v,wr.cell? ⟨B,i,none⟩=some v:=by
 obtain⟨f,hr,_⟩:=h;exact⟨_,hr.cell hi⟩
theorem ZbA.lt {wr:World} {B:Nat} {Ms:List Md} {k:Nat} (h:ZbA wr B Ms k):B < wr.heap.size:=by
 obtain⟨f,hr,_⟩:=h;exact hr.lt
theorem ZbA.step {w1:World} {B:Nat} {Ms:List Md} {k:Nat} (h:ZbA w1 B Ms k) (hk:k < Ms.length) (hz:Zd9 Ms[k]) :
 ZbA ((((((w1.setCell ⟨B,k*6,none⟩ (.string Ms[k].kind)).setCell ⟨B,k*6+1,none⟩ (.string Ms[k].field)).setCell ⟨B,k*6+2,none⟩ (.string Ms[k].wh)).setCell ⟨B,k*6+3,none⟩ (.string Ms[k].is)).setCell ⟨B,k*6+4,none⟩ (.string Ms[k].put)).setCell ⟨B,k*6+5,none⟩ (.string Ms[k].fr)) B Ms (k+1):=by
 obtain⟨f,hr,hall⟩:=h;refine⟨_,((((((hr.set _ _).set _ _).set _ _).set _ _).set _ _).set _ _),fun i hi hik=>?_⟩
 by_cases e:i=k
 · subst e
   exact⟨hz,by simp,by simp,by simp,by simp,by simp,by simp⟩
 · obtain⟨hz',h0,h1,h2,h3,h4,h5⟩:=hall i hi (by omega)
   refine⟨hz',?_,?_,?_,?_,?_,?_⟩
   · rw [if_neg (by omega),if_neg (by omega),if_neg (by omega),if_neg (by omega),if_neg (by omega),if_neg (by omega)];exact h0
   · rw [if_neg (by omega),if_neg (by omega),if_neg (by omega),if_neg (by omega),if_neg (by omega),if_neg (by omega)];exact h1
   · rw [if_neg (by omega),if_neg (by omega),if_neg (by omega),if_neg (by omega),if_neg (by omega),if_neg (by omega)];exact h2
   · rw [if_neg (by omega),if_neg (by omega),if_neg (by omega),if_neg (by omega),if_neg (by omega),if_neg (by omega)];exact h3
   · rw [if_neg (by omega),if_neg (by omega),if_neg (by omega),if_neg (by omega),if_neg (by omega),if_neg (by omega)];exact h4
   · rw [if_neg (by omega),if_neg (by omega),if_neg (by omega),if_neg (by omega),if_neg (by omega),if_neg (by omega)];exact h5
def ZpK (lo hi:Nat) (w:World) (v:Value) (n:Nat):Prop:=
 (∃ (a:Option Addr) (cap:Nat),v=.slice a 0 cap∧n=0)∨
 ∃ (b off cap:Nat),v=.slice (some ⟨b,off,none⟩) n cap∧0 < n∧n≤maxLen∧lo≤b∧b < hi∧b < w.heap.size∧(∀ i,i < n*6→(w.cell? ⟨b,off+i,none⟩).isSome=true)∧∀ i,w.frozen? ⟨b,i,none⟩=false
theorem ZpK.kept {lo hi lo' hi':Nat} {w w':World} {v:Value} {n:Nat} (h:ZpK lo hi w v n) (k:ZbS lo' hi' w w'):ZpK lo hi w' v n:=by
 rcases h with h | ⟨b,off,cap,h1,h2,h3,h4,h5,h6,h7,h8⟩
 · exact Or.inl h
 · exact Or.inr ⟨b,off,cap,h1,h2,h3,h4,h5,Zk_ h6 k.touch.size,fun i hi'=>k.there _ h6 (h7 i hi'),fun i=>(k.frz _ h6).trans (h8 i)⟩
theorem ZpK.below {lo hi:Nat} {w w':World} {v:Value} {n:Nat} (h:ZpK lo hi w v n) (hb:Zw_ w w'):ZpK lo hi w' v n:=h.kept (ZbS.below (lo:=0) (hi:=0) hb)
theorem ZbA.done {wr:World} {B:Nat} {Ms:List Md} {k:Nat} (h:ZbA wr B Ms k) (hk:Ms.length≤k) (hne:Ms≠[]) (hm:Ms.length≤maxLen):Zbf B wr (.slice (some ⟨B,0,none⟩) Ms.length Ms.length) Ms∧ZpK B wr.heap.size wr (.slice (some ⟨B,0,none⟩) Ms.length Ms.length) Ms.length:=by
 refine⟨?_,Or.inr ⟨B,0,Ms.length,rfl,List.length_pos_iff.2 hne,hm,Nat.le_refl _,h.lt,h.lt,fun i hi=>?_,h.free⟩⟩
 · obtain⟨f,hr,hall⟩:=h
   refine Or.inr ⟨B,0,Ms.length,rfl,hne,hm,hr.lt,Nat.le_refl _,Nat.le_refl _,fun i hi=>?_⟩;obtain⟨hz,h0,h1,h2,h3,h4,h5⟩:=hall i hi (by omega);rw [Nat.zero_add];exact⟨hz,by rw [hr.cell (by omega),h0],by rw [hr.cell (by omega),h1],by rw [hr.cell (by omega),h2],by rw [hr.cell (by omega),h3],by rw [hr.cell (by omega),h4],by rw [hr.cell (by omega),h5]⟩
 · obtain⟨v,hv⟩:=h.there i hi;rw [Nat.zero_add,hv];rfl
theorem ZbA.new (w:World) (Ms:List Md) (z:Array Value):ZbA (w.alloc (.cells (madeCells z (Ms.length*6)) 166)) w.heap.size Ms 0:=by
 refine⟨fun i=>(madeCells z (Ms.length*6)).getD i default,?_,fun i _ h=>by omega⟩;have:=World.rowIs_alloc w (madeCells z (Ms.length*6)) 166 (fun i=>(madeCells z (Ms.length*6)).getD i default) (fun i hi=>by simp [Array.getD,hi])
 rwa [size_madeCells] at this
theorem Zh7 (lo:Nat) (v:Value) (Ms:List Md) (w:World) (hv:Zbf lo w v Ms) (hn:Ms.length≤1048576) :
 Calls prog 42 #[v] w fun e w'=>∃ v',e=.returned v'∧Zw_ w w'∧Zbf w.heap.size w' v' Ms∧ZpK w.heap.size w'.heap.size w' v' Ms.length:=by
 obtain⟨i0,hi,hz0,hz1,hz2⟩:=info_parts Tryz.info166
 by_cases hL:Ms=[]
 · subst hL
   obtain⟨a,cap,rfl⟩:=hv.form;clear hv
   have hmk:∀ u:World,(Instr.makeSlice 44 (.int .i64 0) (.int .i64 0)).run prog u=.ok (.slice (some ⟨u.heap.size,0,none⟩) 0 0) (u.alloc (.cells (madeCells (Value.cells (.agg #[.string ⟨#[]⟩,.string ⟨#[]⟩,.string ⟨#[]⟩,.string ⟨#[]⟩,.string ⟨#[]⟩,.string ⟨#[]⟩])) 0) 166)):=fun u=>by
    have h:=run_make (P:=prog) u 44 166 i0 _ underlying44 hi hz0 .i64 .i64 0 0 (by omega) (by omega) (by omega) (by omega)
    simpa [hz1] using h
   go_enter func42,ntmps42;go_wp2
   go_loop [4] (fun i=>i=.int .i64 0) (fun _=>0)
   case atStart=>rfl
   case round=>
    subst hrel;go_wp2;go_ret;exact⟨_,rfl,Zb_.alloc Zl_ _,Or.inl ⟨_,_,rfl,rfl⟩,Or.inl ⟨_,_,rfl,rfl⟩⟩
 · obtain⟨b,off,cap,rfl,hm,hbw,_,hc⟩:=hv.full hL
   clear hv;have HM:Hid (Ms.length≤maxLen):=hm;unfold maxLen at hm
   have hmk:∀ u:World,(Instr.makeSlice 44 (.int .i64 (Ms.length:Int)) (.int .i64 (Ms.length:Int))).run prog u=.ok (.slice (some ⟨u.heap.size,0,none⟩) Ms.length Ms.length) (u.alloc (.cells (madeCells (Value.cells (.agg #[.string ⟨#[]⟩,.string ⟨#[]⟩,.string ⟨#[]⟩,.string ⟨#[]⟩,.string ⟨#[]⟩,.string ⟨#[]⟩])) (Ms.length*6)) 166)):=fun u=>by
    have h:=run_make (P:=prog) u 44 166 i0 _ underlying44 hi hz0 .i64 .i64 Ms.length Ms.length (by omega) (by omega) (by rw [hz2];omega) (by omega);rw [hz1] at h
    simpa using h
   clear hi hz0 hz1 hz2;go_enter func42,ntmps42;go_wp2;clear hmk
   go_loopw [4] (fun i wr=>∃ k:Nat,i=.int .i64 k∧k≤Ms.length∧Zw_ w wr∧ZbA wr w.heap.size Ms k) (fun i _=>Ms.length - (intOf i).toNat)
   case atStart=>exact⟨0,rfl,by omega,Zb_.alloc Zl_ _,ZbA.new w Ms _⟩
   case round=>
    obtain⟨k,rfl,hk,hb,hf⟩:=hrel
    by_cases hlt:k < Ms.length
    · obtain⟨hsz,hcell⟩:=hc k hlt
      obtain⟨c0,c1,c2,c3,c4,c5⟩:=hcell.below hb hbw;clear hcell;go_wp2_with fail;refine (Zng _ _ _ _ _ _ _).mono ?_;rintro e w1 ⟨rfl,hb1⟩;have hf1:=hf.below hb1;have HST:=Zab (hf1.step hlt hsz);have hB:Hid (Zw_ w w1):=hb.trans (hb1.mono hb.size);have hfr:=hf1.free;obtain⟨o0,ho0⟩:=hf1.there (k*6) (by omega);obtain⟨o1,ho1⟩:=hf1.there (k*6+1) (by omega);obtain⟨o2,ho2⟩:=hf1.there (k*6+2) (by omega);obtain⟨o3,ho3⟩:=hf1.there (k*6+3) (by omega);obtain⟨o4,ho4⟩:=hf1.there (k*6+4) (by omega);obtain⟨o5,ho5⟩:=hf1.there (k*6+5) (by omega);clear hf hf1 hb1 hb c0 c1 c2 c3 c4 c5;go_wp2;go_roundw
      case rel=>
       exact⟨k+1,by go_num,by omega,((((((hB.out.setCell Zl_ _).setCell Zl_ _).setCell Zl_ _).setCell Zl_ _).setCell Zl_ _).setCell Zl_ _),HST.out⟩
      case measure=>simp [intOf];omega
    · go_wp2
      go_ret;have hd:=hf.done (by omega) hL HM.out;exact⟨_,rfl,hb,hd.1,hd.2⟩
theorem ZkR (lo hi:Nat) (v:Value) (n:Nat) (k:Int) (w:World) (hv:ZpK lo hi w v n) (h0:0≤k) (hn:n≤1048576) (hk:k≤1500000000000000000) :
 Calls prog 59 #[v,.int .i64 k] w fun e w'=>∃ r:Int,e=.returned (.int .i64 r)∧k≤r∧r≤1600000000000000000∧ZbS lo hi w w':=by
 rcases hv with ⟨a,cap,rfl,rfl⟩ | ⟨b,off,cap,rfl,hne,hm,hlo,hhi,hbw,hcs,hfr⟩
 · go_enter func59,ntmps59
   go_wp2
   go_loop [5,1] (fun i q=>i=.int .i64 0∧q=.int .i64 k) (fun _ _=>0)
   case atStart=>exact⟨rfl,rfl⟩
   case round=>
    obtain⟨rfl,rfl⟩:=hrel;go_wp2;go_ret;exact⟨k,rfl,by omega,by omega,ZbS.refl _ _ _⟩
 · unfold maxLen at hm
   have HC:=Zab hcs;have HFR:=Zab hfr;clear hcs hfr
   have hput:∀ (W:World) (j c:Nat) (u:Value),ZbS lo hi w W→j < n→c < 6→ZbS lo hi w (W.setCell ⟨b,off+j*6+c,none⟩ u):=fun W j c u hW hj hc=>
    hW.trans (ZbS.setCell lo hi W _ u ⟨hlo,hhi⟩ (hW.there _ hbw (by rw [Nat.add_assoc];exact HC.out _ (by omega))))
   have hput0:∀ (W:World) (j:Nat) (u:Value),ZbS lo hi w W→j < n→ZbS lo hi w (W.setCell ⟨b,off+j*6,none⟩ u):=fun W j u hW hj=>hput W j 0 u hW hj (by omega)
   have hget:∀ (W:World) (j c:Nat),ZbS lo hi w W→j < n→c < 6→∃ u,W.cell? ⟨b,off+j*6+c,none⟩=some u:=fun W j c hW hj hc=>
    Option.isSome_iff_exists.1 (hW.there _ hbw (by rw [Nat.add_assoc];exact HC.out _ (by omega)))
   have hfree:∀ (W:World),ZbS lo hi w W→∀ i,W.frozen? ⟨b,i,none⟩=false:=fun W hW i=>(hW.frz _ hbw).trans (HFR.out i)
   have HP:=Zab hput;have HP0:=Zab hput0;have HG:=Zab hget;have HF:=Zab hfree;clear hput hput0 hget hfree;go_enter func59,ntmps59;go_wp2
   go_loopw [5,1] (fun i q wr=>∃ (j:Nat),i=.int .i64 j∧q=.int .i64 (k+j*6)∧j≤n∧ZbS lo hi w wr) (fun i _ _=>n - (intOf i).toNat)
   case atStart=>exact⟨0,rfl,by simp,by omega,ZbS.refl _ _ _⟩
   case round=>
    obtain⟨j,rfl,rfl,hj,hkp⟩:=hrel;have HK:=Zab hkp;clear hkp
    by_cases hlt:j < n
    · go_wp2_with fail
      refine (Zah _ _ (by omega)).mono ?_;rintro e w1 ⟨rfl,hb1⟩;have HK1:=Zab (HK.out.trans (ZbS.below hb1));clear hb1 HK;obtain⟨u0,g0⟩:=HG.out w1 j 0 HK1.out hlt (by omega);rw [Nat.add_zero] at g0;have gf:=HF.out w1 HK1.out;go_wp2_with fail;have HX1:=Zab (HP0.out w1 j (.string (mtB (k+j*6))) HK1.out hlt);clear g0 gf HK1;refine (Zah _ _ (by omega)).mono ?_;rintro e w2 ⟨rfl,hb2⟩;have HK2:=Zab (HX1.out.trans (ZbS.below hb2));clear hb2 HX1;obtain⟨u1,g1⟩:=HG.out w2 j 1 HK2.out hlt (by omega);have gf:=HF.out w2 HK2.out;go_wp2_with fail;have HX2:=Zab (HP.out w2 j 1 (.string (mtB (k+j*6+1))) HK2.out hlt (by omega));clear g1 gf HK2;refine (Zah _ _ (by omega)).mono ?_;rintro e w3 ⟨rfl,hb3⟩;have HK3:=Zab (HX2.out.trans (ZbS.below hb3));clear hb3 HX2;obtain⟨u2,g2⟩:=HG.out w3 j 2 HK3.out hlt (by omega);have gf:=HF.out w3 HK3.out;go_wp2_with fail
      have HX3:=Zab (HP.out w3 j 2 (.string (mtB (k+j*6+1+1))) HK3.out hlt (by omega));clear g2 gf HK3;refine (Zah _ _ (by omega)).mono ?_;rintro e w4 ⟨rfl,hb4⟩;have HK4:=Zab (HX3.out.trans (ZbS.below hb4));clear hb4 HX3;obtain⟨u3,g3⟩:=HG.out w4 j 3 HK4.out hlt (by omega);have gf:=HF.out w4 HK4.out;go_wp2_with fail;have HX4:=Zab (HP.out w4 j 3 (.string (mtB (k+j*6+1+1+1))) HK4.out hlt (by omega));clear g3 gf HK4;refine (Zah _ _ (by omega)).mono ?_;rintro e w5 ⟨rfl,hb5⟩;have HK5:=Zab (HX4.out.trans (ZbS.below hb5));clear hb5 HX4;obtain⟨u4,g4⟩:=HG.out w5 j 4 HK5.out hlt (by omega);have gf:=HF.out w5 HK5.out;go_wp2_with fail;have HX5:=Zab (HP.out w5 j 4 (.string (mtB (k+j*6+1+1+1+1))) HK5.out hlt (by omega));clear g4 gf HK5;refine (Zah _ _ (by omega)).mono ?_;rintro e w6 ⟨rfl,hb6⟩;have HK6:=Zab (HX5.out.trans (ZbS.below hb6));clear hb6 HX5
      obtain⟨u5,g5⟩:=HG.out w6 j 5 HK6.out hlt (by omega);have gf:=HF.out w6 HK6.out;have HX6:=Zab (HP.out w6 j 5 (.string (mtB (k+j*6+1+1+1+1+1))) HK6.out hlt (by omega));go_wp2;go_roundw
      case rel=>exact⟨j+1,by go_num,by go_num,by omega,HX6.out⟩
      case measure=>simp [intOf];omega
    · have e:j=n:=by omega
      subst e;go_wp2;go_ret;exact⟨_,rfl,by omega,by omega,HK.out⟩
end Go.Proofs.YtfohnageehneoaaGreat
