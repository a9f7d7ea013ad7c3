import Derived.Test.YtmappejlmapboaaGreatG09
import Derived.DeepKeys4
import Derived.Maps.RangeWalk
import Derived.Maps.OwnOps
set_option maxHeartbeats 16000000
set_option maxRecDepth 100000
open Go.Proofs.Tryz
namespace Go.Proofs.YtmappejlmapboaaGreat
section
open Go.RowKit Go.Deep
variable {lo B k hi n:Nat} {w wr w1 w':World} {v:Value} {Ms:List Md}
theorem Tryz.info133:(prog.info? 133).map (fun i=>(i.zero,i.size,i.bytes))=some (some (.agg #[.string ⟨#[]⟩,.string ⟨#[]⟩,.string ⟨#[]⟩,.string ⟨#[]⟩,.string ⟨#[]⟩,.string ⟨#[]⟩]),6,96):=by kernel_rfl
theorem Zbc.setCell (h:Zbc lo w v Ms) {p:Addr} (hp:p.block < lo) (u:Value):Zbc lo (w.setCell p u) v Ms:=by
 rcases h with h | ⟨b,off,cap,h1,h2,h3,h4,h5,h6,h7⟩
 . exact Or.inl h
 . refine Or.inr ⟨b,off,cap,h1,h2,h3,by simpa [World.setCell] using h4,h5,h6,fun i hi=>?_⟩
   obtain⟨hs,hc⟩:=h7 i hi;have e:∀ o,(w.setCell p u).cell? ⟨b,o,none⟩=w.cell? ⟨b,o,none⟩:=fun o=>Zar _ _ _ _ (by show b≠p.block;omega)
   exact⟨hs,by rw [e];exact hc.c0,by rw [e];exact hc.c1,by rw [e];exact hc.c2,by rw [e];exact hc.c3,by rw [e];exact hc.c4,by rw [e];exact hc.c5⟩
def ZbD (wr:World) (B:Nat) (Ms:List Md) (k:Nat):Prop:=
 ∃ f,wr.rowIs B 133 (Ms.length*6) f/\∀ i (h:i < Ms.length),i < k->Zeb Ms[i]/\f (i*6)=.string Ms[i].kind/\f (i*6+1)=.string Ms[i].field/\f (i*6+2)=.string Ms[i].wh/\f (i*6+3)=.string Ms[i].is/\f (i*6+4)=.string Ms[i].put/\f (i*6+5)=.string Ms[i].fr
theorem ZbD.below (h:ZbD wr B Ms k) (hb:Below wr.heap.size wr w1):ZbD w1 B Ms k:=by
 obtain⟨f,hr,hall⟩:=h;exact⟨f,hr.of_block (hb.block B hr.lt),hall⟩
theorem ZbD.free (h:ZbD wr B Ms k) (i:Nat):wr.frozen? ⟨B,i,none⟩=false:=by
 obtain⟨f,hr,_⟩:=h;exact hr.frozen i
theorem ZbD.there (h:ZbD wr B Ms k) (i:Nat) (hi:i < Ms.length*6):∃ v,wr.cell? ⟨B,i,none⟩=some v:=by
 obtain⟨f,hr,_⟩:=h;exact⟨_,hr.cell hi⟩
theorem ZbD.lt (h:ZbD wr B Ms k):B < wr.heap.size:=by
 obtain⟨f,hr,_⟩:=h;exact hr.lt
theorem ZbD.step (h:ZbD w1 B Ms k) (hk:k < Ms.length) (hz:Zeb Ms[k]) :
 ZbD ((((((w1.setCell ⟨B,k*6,none⟩ (.string Ms[k].kind)).setCell ⟨B,k*6+1,none⟩ (.string Ms[k].field)).setCell ⟨B,k*6+2,none⟩ (.string Ms[k].wh)).setCell ⟨B,k*6+3,none⟩ (.string Ms[k].is)).setCell ⟨B,k*6+4,none⟩ (.string Ms[k].put)).setCell ⟨B,k*6+5,none⟩ (.string Ms[k].fr)) B Ms (k+1):=by
 obtain⟨f,hr,hall⟩:=h;refine⟨_,((((((hr.set _ _).set _ _).set _ _).set _ _).set _ _).set _ _),fun i hi hik=>?_⟩
 by_cases e:i=k
 . subst e
   exact⟨hz,by simp,by simp,by simp,by simp,by simp,by simp⟩
 . obtain⟨hz',h0,h1,h2,h3,h4,h5⟩:=hall i hi (by omega)
   refine⟨hz',?_,?_,?_,?_,?_,?_⟩
   . rw [if_neg (by omega),if_neg (by omega),if_neg (by omega),if_neg (by omega),if_neg (by omega),if_neg (by omega)];exact h0
   . rw [if_neg (by omega),if_neg (by omega),if_neg (by omega),if_neg (by omega),if_neg (by omega),if_neg (by omega)];exact h1
   . rw [if_neg (by omega),if_neg (by omega),if_neg (by omega),if_neg (by omega),if_neg (by omega),if_neg (by omega)];exact h2
   . rw [if_neg (by omega),if_neg (by omega),if_neg (by omega),if_neg (by omega),if_neg (by omega),if_neg (by omega)];exact h3
   . rw [if_neg (by omega),if_neg (by omega),if_neg (by omega),if_neg (by omega),if_neg (by omega),if_neg (by omega)];exact h4
   . rw [if_neg (by omega),if_neg (by omega),if_neg (by omega),if_neg (by omega),if_neg (by omega),if_neg (by omega)];exact h5
def ZqC (lo hi:Nat) (w:World) (v:Value) (n:Nat):Prop:=
 (∃ (a:Option Addr) (cap:Nat),v=.slice a 0 cap/\n=0)\/
 ∃ (b off cap:Nat),v=.slice (some ⟨b,off,none⟩) n cap/\0 < n/\n<=maxLen/\lo<=b/\b < hi/\b < w.heap.size/\(∀ i,i < n*6->(w.cell? ⟨b,off+i,none⟩).isSome=true)/\∀ i,w.frozen? ⟨b,i,none⟩=false
theorem ZqC.kept {lo' hi':Nat} (h:ZqC lo hi w v n) (k:ZbQ lo' hi' w w'):ZqC lo hi w' v n:=by
 rcases h with h | ⟨b,off,cap,h1,h2,h3,h4,h5,h6,h7,h8⟩
 . exact Or.inl h
 . exact Or.inr ⟨b,off,cap,h1,h2,h3,h4,h5,Zk_ h6 k.touch.size,fun i hi'=>k.there _ h6 (h7 i hi'),fun i=>(k.frz _ h6).trans (h8 i)⟩
theorem ZqC.below (h:ZqC lo hi w v n) (hb:Zw_ w w'):ZqC lo hi w' v n:=h.kept (ZbQ.below (lo:=0) (hi:=0) hb)
theorem ZbD.done (h:ZbD wr B Ms k) (hk:Ms.length<=k) (hne:Ms≠[]) (hm:Ms.length<=maxLen):Zbc B wr (.slice (some ⟨B,0,none⟩) Ms.length Ms.length) Ms/\ZqC B wr.heap.size wr (.slice (some ⟨B,0,none⟩) Ms.length Ms.length) Ms.length:=by
 refine⟨?_,Or.inr ⟨B,0,Ms.length,rfl,List.length_pos_iff.2 hne,hm,Nat.le_refl _,h.lt,h.lt,fun i hi=>?_,h.free⟩⟩
 . obtain⟨f,hr,hall⟩:=h
   refine Or.inr ⟨B,0,Ms.length,rfl,hne,hm,hr.lt,Nat.le_refl _,Nat.le_refl _,fun i hi=>?_⟩;obtain⟨hz,h0,h1,h2,h3,h4,h5⟩:=hall i hi (by omega);rw [Nat.zero_add];exact⟨hz,by rw [hr.cell (by omega),h0],by rw [hr.cell (by omega),h1],by rw [hr.cell (by omega),h2],by rw [hr.cell (by omega),h3],by rw [hr.cell (by omega),h4],by rw [hr.cell (by omega),h5]⟩
 . obtain⟨v,hv⟩:=h.there i hi;rw [Nat.zero_add,hv];rfl
theorem ZbD.new (w:World) (Ms:List Md) (z:Array Value):ZbD (w.alloc (.cells (madeCells z (Ms.length*6)) 133)) w.heap.size Ms 0:=by
 refine⟨fun i=>(madeCells z (Ms.length*6)).getD i default,?_,fun i _ h=>by omega⟩;have:=World.rowIs_alloc w (madeCells z (Ms.length*6)) 133 (fun i=>(madeCells z (Ms.length*6)).getD i default) (fun i hi=>by simp [Array.getD,hi])
 rwa [size_madeCells] at this
theorem ZiS (lo:Nat) (v:Value) (Ms:List Md) (w:World) (hv:Zbc lo w v Ms) (hn:Ms.length<=1048576) :
 Calls prog 37 #[v] w fun e w'=>∃ v',e=.returned v'/\Zw_ w w'/\Zbc w.heap.size w' v' Ms/\ZqC w.heap.size w'.heap.size w' v' Ms.length:=by
 obtain⟨i0,hi,hz0,hz1,hz2⟩:=info_parts Tryz.info133
 by_cases hL:Ms=[]
 . subst hL
   obtain⟨a,cap,rfl⟩:=hv.form;clear hv
   have hmk:∀ u:World,(Instr.makeSlice 38 (.int .i64 0) (.int .i64 0)).run prog u=.ok (.slice (some ⟨u.heap.size,0,none⟩) 0 0) (u.alloc (.cells (madeCells (Value.cells (.agg #[.string ⟨#[]⟩,.string ⟨#[]⟩,.string ⟨#[]⟩,.string ⟨#[]⟩,.string ⟨#[]⟩,.string ⟨#[]⟩])) 0) 133)):=fun u=>by
    have h:=run_make (P:=prog) u 38 133 i0 _ underlying38 hi hz0 .i64 .i64 0 0 (by omega) (by omega) (by omega) (by omega)
    simpa [hz1] using h
   go_enter func37,ntmps37;go_wp2
   go_loop [4] (fun i=>i=.int .i64 0) (fun _=>0)
   case atStart=>rfl
   case round=>
    subst hrel;go_wp2;go_ret;exact⟨_,rfl,Zb_.alloc Zl_ _,Or.inl ⟨_,_,rfl,rfl⟩,Or.inl ⟨_,_,rfl,rfl⟩⟩
 . obtain⟨b,off,cap,rfl,hm,hbw,_,hc⟩:=hv.full hL
   clear hv;have HM:Hd (Ms.length<=maxLen):=hm;unfold maxLen at hm
   have hmk:∀ u:World,(Instr.makeSlice 38 (.int .i64 (Ms.length:Int)) (.int .i64 (Ms.length:Int))).run prog u=.ok (.slice (some ⟨u.heap.size,0,none⟩) Ms.length Ms.length) (u.alloc (.cells (madeCells (Value.cells (.agg #[.string ⟨#[]⟩,.string ⟨#[]⟩,.string ⟨#[]⟩,.string ⟨#[]⟩,.string ⟨#[]⟩,.string ⟨#[]⟩])) (Ms.length*6)) 133)):=fun u=>by
    have h:=run_make (P:=prog) u 38 133 i0 _ underlying38 hi hz0 .i64 .i64 Ms.length Ms.length (by omega) (by omega) (by rw [hz2];omega) (by omega);rw [hz1] at h
    simpa using h
   clear hi hz0 hz1 hz2;go_enter func37,ntmps37;go_wp2;clear hmk
   go_loopw [4] (fun i wr=>∃ k:Nat,i=.int .i64 k/\k<=Ms.length/\Zw_ w wr/\ZbD wr w.heap.size Ms k) (fun i _=>Ms.length - (intOf i).toNat)
   case atStart=>exact⟨0,rfl,by omega,Zb_.alloc Zl_ _,ZbD.new w Ms _⟩
   case round=>
    obtain⟨k,rfl,hk,hb,hf⟩:=hrel
    by_cases hlt:k < Ms.length
    . obtain⟨hsz,hcell⟩:=hc k hlt
      obtain⟨c0,c1,c2,c3,c4,c5⟩:=hcell.below hb hbw;clear hcell;go_wp2_with fail;refine (Zn5 _ _ _ _ _ _ _).mono ?_;rintro e w1 ⟨rfl,hb1⟩;have hf1:=hf.below hb1;have HST:=Zab (hf1.step hlt hsz);have hB:Hd (Zw_ w w1):=hb.trans (hb1.mono hb.size);have hfr:=hf1.free;obtain⟨o0,ho0⟩:=hf1.there (k*6) (by omega);obtain⟨o1,ho1⟩:=hf1.there (k*6+1) (by omega);obtain⟨o2,ho2⟩:=hf1.there (k*6+2) (by omega);obtain⟨o3,ho3⟩:=hf1.there (k*6+3) (by omega);obtain⟨o4,ho4⟩:=hf1.there (k*6+4) (by omega);obtain⟨o5,ho5⟩:=hf1.there (k*6+5) (by omega);clear hf hf1 hb1 hb c0 c1 c2 c3 c4 c5;go_wp2;go_roundw
      . 
       exact⟨k+1,by go_num,by omega,((((((hB.o.setCell Zl_ _).setCell Zl_ _).setCell Zl_ _).setCell Zl_ _).setCell Zl_ _).setCell Zl_ _),HST.o⟩
      . simp [intOf];omega
    . go_wp2
      go_ret;have hd:=hf.done (by omega) hL HM.o;exact⟨_,rfl,hb,hd.1,hd.2⟩
theorem ZlE (lo hi:Nat) (v:Value) (n:Nat) (k:Int) (w:World) (hv:ZqC lo hi w v n) (h0:0<=k) (hn:n<=1048576) (hk:k<=1500000000000000000) :
 Calls prog 53 #[v,.int .i64 k] w fun e w'=>∃ r:Int,e=.returned (.int .i64 r)/\k<=r/\r<=1600000000000000000/\ZbQ lo hi w w':=by
 rcases hv with ⟨a,cap,rfl,rfl⟩ | ⟨b,off,cap,rfl,hne,hm,hlo,hhi,hbw,hcs,hfr⟩
 . go_enter func53,ntmps53
   go_wp2
   go_loop [5,1] (fun i q=>i=.int .i64 0/\q=.int .i64 k) (fun _ _=>0)
   case atStart=>exact⟨rfl,rfl⟩
   case round=>
    obtain⟨rfl,rfl⟩:=hrel;go_wp2;go_ret;exact⟨k,rfl,by omega,by omega,ZbQ.refl _ _ _⟩
 . unfold maxLen at hm
   have HC:=Zab hcs;have HFR:=Zab hfr;clear hcs hfr
   have hput:∀ (W:World) (j c:Nat) (u:Value),ZbQ lo hi w W->j < n->c < 6->ZbQ lo hi w (W.setCell ⟨b,off+j*6+c,none⟩ u):=fun W j c u hW hj hc=>
    hW.trans (ZbQ.setCell lo hi W _ u ⟨hlo,hhi⟩ (hW.there _ hbw (by rw [Nat.add_assoc];exact HC.o _ (by omega))))
   have hput0:∀ (W:World) (j:Nat) (u:Value),ZbQ lo hi w W->j < n->ZbQ lo hi w (W.setCell ⟨b,off+j*6,none⟩ u):=fun W j u hW hj=>hput W j 0 u hW hj (by omega)
   have hget:∀ (W:World) (j c:Nat),ZbQ lo hi w W->j < n->c < 6->∃ u,W.cell? ⟨b,off+j*6+c,none⟩=some u:=fun W j c hW hj hc=>
    Option.isSome_iff_exists.1 (hW.there _ hbw (by rw [Nat.add_assoc];exact HC.o _ (by omega)))
   have hfree:∀ (W:World),ZbQ lo hi w W->∀ i,W.frozen? ⟨b,i,none⟩=false:=fun W hW i=>(hW.frz _ hbw).trans (HFR.o i)
   have HP:=Zab hput;have HP0:=Zab hput0;have HG:=Zab hget;have HF:=Zab hfree;clear hput hput0 hget hfree;go_enter func53,ntmps53;go_wp2
   go_loopw [5,1] (fun i q wr=>∃ (j:Nat),i=.int .i64 j/\q=.int .i64 (k+j*6)/\j<=n/\ZbQ lo hi w wr) (fun i _ _=>n - (intOf i).toNat)
   case atStart=>exact⟨0,rfl,by simp,by omega,ZbQ.refl _ _ _⟩
   case round=>
    obtain⟨j,rfl,rfl,hj,hkp⟩:=hrel;have HK:=Zab hkp;clear hkp
    by_cases hlt:j < n
    . go_wp2_with fail
      refine (Zal _ _ (by omega)).mono ?_;rintro e w1 ⟨rfl,hb1⟩;have HK1:=Zab (HK.o.trans (ZbQ.below hb1));clear hb1 HK;obtain⟨u0,g0⟩:=HG.o w1 j 0 HK1.o hlt (by omega);rw [Nat.add_zero] at g0;have gf:=HF.o w1 HK1.o;go_wp2_with fail;have HX1:=Zab (HP0.o w1 j (.string (mtB (k+j*6))) HK1.o hlt);clear g0 gf HK1;refine (Zal _ _ (by omega)).mono ?_;rintro e w2 ⟨rfl,hb2⟩;have HK2:=Zab (HX1.o.trans (ZbQ.below hb2));clear hb2 HX1;obtain⟨u1,g1⟩:=HG.o w2 j 1 HK2.o hlt (by omega);have gf:=HF.o w2 HK2.o;go_wp2_with fail;have HX2:=Zab (HP.o w2 j 1 (.string (mtB (k+j*6+1))) HK2.o hlt (by omega));clear g1 gf HK2;refine (Zal _ _ (by omega)).mono ?_;rintro e w3 ⟨rfl,hb3⟩;have HK3:=Zab (HX2.o.trans (ZbQ.below hb3));clear hb3 HX2;obtain⟨u2,g2⟩:=HG.o w3 j 2 HK3.o hlt (by omega);have gf:=HF.o w3 HK3.o;go_wp2_with fail
      have HX3:=Zab (HP.o w3 j 2 (.string (mtB (k+j*6+1+1))) HK3.o hlt (by omega));clear g2 gf HK3;refine (Zal _ _ (by omega)).mono ?_;rintro e w4 ⟨rfl,hb4⟩;have HK4:=Zab (HX3.o.trans (ZbQ.below hb4));clear hb4 HX3;obtain⟨u3,g3⟩:=HG.o w4 j 3 HK4.o hlt (by omega);have gf:=HF.o w4 HK4.o;go_wp2_with fail;have HX4:=Zab (HP.o w4 j 3 (.string (mtB (k+j*6+1+1+1))) HK4.o hlt (by omega));clear g3 gf HK4;refine (Zal _ _ (by omega)).mono ?_;rintro e w5 ⟨rfl,hb5⟩;have HK5:=Zab (HX4.o.trans (ZbQ.below hb5));clear hb5 HX4;obtain⟨u4,g4⟩:=HG.o w5 j 4 HK5.o hlt (by omega);have gf:=HF.o w5 HK5.o;go_wp2_with fail;have HX5:=Zab (HP.o w5 j 4 (.string (mtB (k+j*6+1+1+1+1))) HK5.o hlt (by omega));clear g4 gf HK5;refine (Zal _ _ (by omega)).mono ?_;rintro e w6 ⟨rfl,hb6⟩;have HK6:=Zab (HX5.o.trans (ZbQ.below hb6));clear hb6 HX5
      obtain⟨u5,g5⟩:=HG.o w6 j 5 HK6.o hlt (by omega);have gf:=HF.o w6 HK6.o;have HX6:=Zab (HP.o w6 j 5 (.string (mtB (k+j*6+1+1+1+1+1))) HK6.o hlt (by omega));go_wp2;go_roundw
      . exact⟨j+1,by go_num,by go_num,by omega,HX6.o⟩
      . simp [intOf];omega
    . have e:j=n:=by omega
      subst e;go_wp2;go_ret;exact⟨_,rfl,by omega,by omega,HK.o⟩
end
section
open Go.RowKit Go.Deep Go.Maps Go.ChangeMaps Go.MapKept
variable {P:Program} {k s:TypeId}
def ZbG (a b:Zy_):Lit:=.string (keyBytes [.string a.data.toList,.string b.data.toList])
structure Zet (P:Program) (k s:TypeId):Prop where
 ex:∃ f0 f1:Field,P.underlying k=some (.struct #[f0,f1])/\f0.type=s/\f1.type=s/\f0.offset=0/\f1.offset=1/\f0.name≠ "_"/\f1.name≠ "_"
 ty:P.keyType k=true
 cs:P.cellsOf k=2
 st:P.underlying s=some .string
 one:P.cellsOf s=1
 sz:0 < P.types.size
theorem Zet.mk' (h:Zet P k s) {a b:Zy_} (ha:a.size<=maxLen) (hb:b.size<=maxLen):keyOf P k (.agg #[.string a,.string b])=some (ZbG a b):=by
 obtain⟨f0,f1,hu,h0,h1,o0,o1,n0,n1⟩:=h.ex;obtain⟨n,hn⟩:∃ n,P.types.size=n+1:=⟨P.types.size - 1,by have:=h.sz;omega⟩
 simp [keyOf,hu,h.ty,Value.formed,h.cs,hn,Program.keyLits,h.st,h.one,Value.cells,ha,hb,ZbG,h0,h1,o0,o1,n0,n1]
theorem Zet.wide (h:Zet P k s):(match P.underlying k with | some (.array _ _) | some (.struct _)=>true | _=>false)=true:=by
 obtain⟨f0,f1,hu,-⟩:=h.ex;rw [hu]
theorem Zmj (hs:P.underlying s=some .string) {d:Nat} {cs:List Value} {L:List Lit} (h:P.keyLits (d+1) s cs=some L):∃ a:Zy_,cs=[.string a]/\L=[.string a.data.toList]/\a.size<=maxLen:=by
 unfold Program.keyLits at h;rw [hs] at h
 split at h <;> simp_all
theorem Zet.inv (h:Zet P k s) {key:Value} {kl:Lit} (hk:keyOf P k key=some kl):∃ a b:Zy_,key=.agg #[.string a,.string b]/\kl=ZbG a b/\a.size<=maxLen/\b.size<=maxLen:=by
 obtain⟨f0,f1,hu,h0,h1,o0,o1,n0,n1⟩:=h.ex;obtain⟨n,hn⟩:∃ n,P.types.size=n+1:=⟨P.types.size - 1,by have:=h.sz;omega⟩
 obtain⟨xs,L,rfl,hL,rfl⟩:=keyOf_top h.wide hk;obtain⟨xs⟩:=xs;rw [hn] at hL;unfold Program.keyLits at hL;rw [hu] at hL;simp only [h.cs] at hL
 split at hL
 . rename_i hc
   obtain⟨hl,-⟩:=hc
   match xs,hl with
   | [c0,c1],_=>
    simp only [List.mapM_cons,List.mapM_nil,h0,h1,o0,o1,h.one,List.drop_zero,List.take_succ_cons,List.take_zero,List.drop_succ_cons,Option.map_eq_some_iff] at hL;obtain⟨M,hM,rfl⟩:=hL
    cases e0:P.keyLits (n+1) s [c0] with
    | none=>simp [e0] at hM
    | some L0=>
     cases e1:P.keyLits (n+1) s [c1] with
     | none=>simp [e0,e1] at hM
     | some L1=>
      obtain⟨a,ea,rfl,sa⟩:=Zmj h.st e0;obtain⟨b,eb,rfl,sb⟩:=Zmj h.st e1;injection ea with ea
      injection eb with eb
      subst ea eb;simp [e0,e1] at hM;subst hM;exact⟨a,b,rfl,rfl,sa,sb⟩
 . cases hL
theorem Zet.inj (h:Zet P k s) (K:WideMaps.KeyLaw P k) {a b a' b':Zy_} (ha:a.size<=maxLen) (hb:b.size<=maxLen) (ha':a'.size<=maxLen) (hb':b'.size<=maxLen) (e:ZbG a b=ZbG a' b'):a=a'/\b=b':=by
 have e:=K.inj (h.mk' ha hb) (e ▸ h.mk' ha' hb')
 simpa using e
theorem Zeu:Zet prog 251 9:=
 ⟨⟨_,_,underlying251,rfl,rfl,rfl,rfl,by decide,by decide⟩,by kernel_rfl,by kernel_rfl,underlying9,by kernel_rfl,of_decide_eq_true (by kernel_rfl)⟩
theorem ZoA:laidOutB prog=true:=by kernel_rfl
theorem ZsX:(251:TypeId) < prog.types.size:=of_decide_eq_true (by kernel_rfl)
theorem ZtA:prog.keyTypeAt 2 251=true:=by kernel_rfl
theorem Zgt:WideMaps.KeyLaw prog 251:=deep_law_laid ZoA (by decide) ZsX ZtA Zeu.wide
theorem Zi0:Keyed prog 251:=Keyed.of_law Zgt
theorem Zi1 (w:World):(zeroValue 3).run prog w=.ok (.int .i64 0) w:=by kernel_rfl
end
section
open Go.RowKit Go.Deep
theorem ZkD (X:World) (cs:Array Value) (t:TypeId) (g i:Nat) (hg:X.heap.size=g):(X.alloc (.cells cs t)).cell? ⟨g,i,none⟩=cs[i]?:=by subst hg;simp
theorem ZoW:∀ (L:List Int) (n:Nat),(ff L n).1=0->ff L n=(0,0)
 | [],_,_=>rfl
 | c :: r,n,h=>by
  unfold ff at h |-
  by_cases h0:c=0
  . rw [if_pos h0] at h |-;exact ZoW r (n+1) h
  . rw [if_neg h0] at h;exact absurd h h0
theorem ZgT (w:World):Calls prog 271 #[] w fun e w'=>e=.returned (.slice (some ⟨w.heap.size,0,none⟩) 5 5)/\w'=w.alloc (.cells #[.func (.func 287) #[] #[],.func (.func 288) #[] #[],.func (.func 289) #[] #[],.func (.func 290) #[] #[],.func (.func 291) #[] #[]] 289):=by
 go_enter func271,ntmps271;go_wp2;go_ret;exact⟨rfl,rfl⟩
section
variable (kd kind nm team:Zy_) (vv hv fv:Value) (en:Bool) (ver:Int) (V Ho:List Zy_) (Fs:List Fd) (w:World) (lo:Nat)
def Zk3 (Fs:List Fd) (nm team:Zy_) (V Ho:List Zy_) (ver:Int):Bool:=(Zap nm&&Zap team)&&(decide (V.length=Fs.length)&&((decide (Ho.length<=3)&&Zor Ho)&&inB 0 1000000 ver))
def ZaP (Fs:List Fd) (nm team:Zy_) (V Ho:List Zy_) (ver:Int):Int×Int:=if Zk3 Fs nm team V Ho ver=true then ff (Zbe Fs V) 0 else (1,0)
theorem Zhb (hV:Zaf w vv V) (hH:Zaf w hv Ho) (hF:Zau lo w fv Fs) (s2:nm.size<=maxLen) (s3:team.size<=maxLen) :
 Calls prog 241 #[.agg #[.string kd,fv],.agg #[.string kind,.string nm,.string team,vv,.bool en,hv,.int .i64 ver]] w
  fun e w'=>e=.returned (Zlf (ZaP Fs nm team V Ho ver))/\Zw_ w w':=by
 have HV:=Zab hV;have HH:=Zab hH;have HF:=Zab hF
 obtain⟨a,cap,rfl⟩:∃ a cap,vv=.slice a V.length cap:=by
  rcases hV with ⟨a,cap,h,rfl⟩ | ⟨b,off,cap,h,_⟩
  . exact⟨_,_,h⟩
  . exact⟨_,_,h⟩
 obtain⟨a',cap',rfl⟩:∃ a cap,hv=.slice a Ho.length cap:=by
  rcases hH with ⟨a,cap,h,rfl⟩ | ⟨b,off,cap,h,_⟩
  . exact⟨_,_,h⟩
  . exact⟨_,_,h⟩
 obtain⟨a1,cap1,rfl⟩:=hF.form;clear hV hH hF;have HW:∀ o o',Hd (Zw_ w ((w.alloc o).alloc o')):=fun o o'=>(Zb_.alloc Zl_ _).alloc (by simp) _
 go_enter func241,ntmps241;go_wp2_with fail;refine (ZgT _).mono ?_;rintro e w1 ⟨rfl,hw1⟩
 have G0:Hd (∀ i,w1.cell? ⟨w.heap.size+1+1,i,none⟩=(#[.func (.func 287) #[] #[],.func (.func 288) #[] #[],.func (.func 289) #[] #[],.func (.func 290) #[] #[],.func (.func 291) #[] #[]]:Array Value)[i]?):=fun i=>by
  rw [hw1];exact ZkD _ _ _ _ _ (by simp)
 have G1:Hd (∀ i,w1.cell? ⟨w.heap.size,i,none⟩=(#[.string kd,.slice a1 Fs.length cap1]:Array Value)[i]?):=fun i=>by
  rw [hw1,World.cell?_alloc_lt _ _ _ (by simp;omega),World.cell?_alloc_lt _ _ _ (by simp)];simp
 have G2:Hd (∀ i,w1.cell? ⟨w.heap.size+1,i,none⟩=(#[.string kind,.string nm,.string team,.slice a V.length cap,.bool en,.slice a' Ho.length cap',.int .i64 ver]:Array Value)[i]?):=fun i=>by
  rw [hw1,World.cell?_alloc_lt _ _ _ (by simp)];simp
 have HB1:Hd (Zw_ w w1):=by rw [hw1];exact (HW _ _).o.alloc (by simp;omega) _
 have hz1:w1.heap.size=w.heap.size+3:=by rw [hw1];simp
 simp only [World.size_alloc];clear hw1;go_wp2
 go_loopw [10] (fun i wr=>(i=.int .i64 0/\Below w1.heap.size w1 wr)\/(i=.int .i64 1/\Below w1.heap.size w1 wr/\(Zap nm&&Zap team)=true)\/(i=.int .i64 2/\Below w1.heap.size w1 wr/\(Zap nm&&Zap team)=true/\decide (V.length=Fs.length)=true)\/(i=.int .i64 3/\Below w1.heap.size w1 wr/\(Zap nm&&Zap team)=true/\decide (V.length=Fs.length)=true/\(decide (Ho.length<=3)&&Zor Ho)=true)\/(i=.int .i64 4/\Below w1.heap.size w1 wr/\(Zap nm&&Zap team)=true/\decide (V.length=Fs.length)=true/\(decide (Ho.length<=3)&&Zor Ho)=true/\inB 0 1000000 ver=true)\/(i=.int .i64 5/\Below w1.heap.size w1 wr/\(Zap nm&&Zap team)=true/\decide (V.length=Fs.length)=true/\(decide (Ho.length<=3)&&Zor Ho)=true/\inB 0 1000000 ver=true/\ff (Zbe Fs V) 0=(0,0))) (fun i _=>5 - (intOf i).toNat)
 case atStart=>exact Or.inl ⟨rfl,Below.refl _ _⟩
 case round=>
  rcases hrel with ⟨rfl,hb⟩ | ⟨rfl,hb,d0⟩ | ⟨rfl,hb,d0,d1⟩ | ⟨rfl,hb,d0,d1,d2⟩ | ⟨rfl,hb,d0,d1,d2,d3⟩ | ⟨rfl,hb,d0,d1,d2,d3,d4⟩
  . have HBB:=Zab hb
    have HBr:Hd (Zw_ w wr):=HB1.o.trans (hb.mono (by omega))
    have q1:∀ i,wr.cell? ⟨w.heap.size,i,none⟩=(#[.string kd,.slice a1 Fs.length cap1]:Array Value)[i]?:=fun i=>by
     rw [hb.cell (p:=⟨w.heap.size,i,none⟩) (by simp only [];omega)];exact G1.o i
    have q2:∀ i,wr.cell? ⟨w.heap.size+1,i,none⟩=(#[.string kind,.string nm,.string team,.slice a V.length cap,.bool en,.slice a' Ho.length cap',.int .i64 ver]:Array Value)[i]?:=fun i=>by
     rw [hb.cell (p:=⟨w.heap.size+1,i,none⟩) (by simp only [];omega)];exact G2.o i
    have q0:wr.cell? ⟨w.heap.size+1+1,0,none⟩=some (.func (.func 287) #[] #[]):=by
     rw [hb.cell (p:=⟨w.heap.size+1+1,0,none⟩) (by simp only [];omega)];exact G0.o 0
    clear hb;go_wp2_with fail;refine (ZhU _ _ _ _ _ _ _ _ _ _ s2 s3).mono ?_;rintro e w2 ⟨he,hb2⟩;have HB2:Hd (Zw_ w w2):=HBr.o.trans (hb2.mono HBr.o.size);have HB3:Hd (Below w1.heap.size w1 w2):=HBB.o.trans (hb2.mono HBB.o.size);clear hb2 q0 q1 q2
    cases hc:(Zap nm&&Zap team) with
    | true=>
     have HC:=Zab hc;rw [hc] at he;have he':e=.returned .nilIface:=he;subst he';clear hc he;go_wp2;go_roundw
     . exact Or.inr (Or.inl ⟨by go_num,HB3.o,HC.o⟩)
     . simp [intOf]
    | false=>
     have HX:Hd (ZaP Fs nm team V Ho ver=(1,0)):=by unfold Hd ZaP Zk3;rw [hc];simp
     rw [hc] at he;have he':e=.returned (.iface 347 (.agg #[.int .i64 1,.int .i64 0])):=he;subst he';clear hc he;go_wp2;go_ret;exact⟨by rw [HX.o];rfl,HB2.o⟩
  . have HBB:=Zab hb
    have HBr:Hd (Zw_ w wr):=HB1.o.trans (hb.mono (by omega))
    have q1:∀ i,wr.cell? ⟨w.heap.size,i,none⟩=(#[.string kd,.slice a1 Fs.length cap1]:Array Value)[i]?:=fun i=>by
     rw [hb.cell (p:=⟨w.heap.size,i,none⟩) (by simp only [];omega)];exact G1.o i
    have q2:∀ i,wr.cell? ⟨w.heap.size+1,i,none⟩=(#[.string kind,.string nm,.string team,.slice a V.length cap,.bool en,.slice a' Ho.length cap',.int .i64 ver]:Array Value)[i]?:=fun i=>by
     rw [hb.cell (p:=⟨w.heap.size+1,i,none⟩) (by simp only [];omega)];exact G2.o i
    have q0:wr.cell? ⟨w.heap.size+1+1,1,none⟩=some (.func (.func 288) #[] #[]):=by
     rw [hb.cell (p:=⟨w.heap.size+1+1,1,none⟩) (by simp only [];omega)];exact G0.o 1
    have D0:=Zab d0;clear hb d0;go_wp2_with fail;refine (Zi3 _ _ _ _ _ _ _ _ _ _ _ _ _ _).mono ?_;rintro e w2 ⟨he,hb2⟩;have HB2:Hd (Zw_ w w2):=HBr.o.trans (hb2.mono HBr.o.size);have HB3:Hd (Below w1.heap.size w1 w2):=HBB.o.trans (hb2.mono HBB.o.size);clear hb2 q0 q1 q2
    cases hc:decide (V.length=Fs.length) with
    | true=>
     have HC:=Zab hc;rw [hc] at he;have he':e=.returned .nilIface:=he;subst he';clear hc he;go_wp2;go_roundw
     . exact Or.inr (Or.inr (Or.inl ⟨by go_num,HB3.o,D0.o,HC.o⟩))
     . simp [intOf]
    | false=>
     have HX:Hd (ZaP Fs nm team V Ho ver=(1,0)):=by unfold Hd ZaP Zk3;rw [D0.o,hc];simp
     rw [hc] at he;have he':e=.returned (.iface 347 (.agg #[.int .i64 1,.int .i64 0])):=he;subst he';clear hc he;go_wp2;go_ret;exact⟨by rw [HX.o];rfl,HB2.o⟩
  . have HBB:=Zab hb
    have HBr:Hd (Zw_ w wr):=HB1.o.trans (hb.mono (by omega))
    have q1:∀ i,wr.cell? ⟨w.heap.size,i,none⟩=(#[.string kd,.slice a1 Fs.length cap1]:Array Value)[i]?:=fun i=>by
     rw [hb.cell (p:=⟨w.heap.size,i,none⟩) (by simp only [];omega)];exact G1.o i
    have q2:∀ i,wr.cell? ⟨w.heap.size+1,i,none⟩=(#[.string kind,.string nm,.string team,.slice a V.length cap,.bool en,.slice a' Ho.length cap',.int .i64 ver]:Array Value)[i]?:=fun i=>by
     rw [hb.cell (p:=⟨w.heap.size+1,i,none⟩) (by simp only [];omega)];exact G2.o i
    have q0:wr.cell? ⟨w.heap.size+1+1,2,none⟩=some (.func (.func 289) #[] #[]):=by
     rw [hb.cell (p:=⟨w.heap.size+1+1,2,none⟩) (by simp only [];omega)];exact G0.o 2
    have D0:=Zab d0;have D1:=Zab d1;clear hb d0 d1;go_wp2_with fail;refine (ZhT _ _ _ _ _ _ _ _ _ Ho _ (HH.o.below HBr.o)).mono ?_;rintro e w2 ⟨he,hb2⟩;have HB2:Hd (Zw_ w w2):=HBr.o.trans (hb2.mono HBr.o.size);have HB3:Hd (Below w1.heap.size w1 w2):=HBB.o.trans (hb2.mono HBB.o.size);clear hb2 q0 q1 q2
    cases hc:(decide (Ho.length<=3)&&Zor Ho) with
    | true=>
     have HC:=Zab hc;rw [hc] at he;have he':e=.returned .nilIface:=he;subst he';clear hc he;go_wp2;go_roundw
     . exact Or.inr (Or.inr (Or.inr (Or.inl ⟨by go_num,HB3.o,D0.o,D1.o,HC.o⟩)))
     . simp [intOf]
    | false=>
     have HX:Hd (ZaP Fs nm team V Ho ver=(1,0)):=by unfold Hd ZaP Zk3;rw [D0.o,D1.o,hc];simp
     rw [hc] at he;have he':e=.returned (.iface 347 (.agg #[.int .i64 1,.int .i64 0])):=he;subst he';clear hc he;go_wp2;go_ret;exact⟨by rw [HX.o];rfl,HB2.o⟩
  . have HBB:=Zab hb
    have HBr:Hd (Zw_ w wr):=HB1.o.trans (hb.mono (by omega))
    have q1:∀ i,wr.cell? ⟨w.heap.size,i,none⟩=(#[.string kd,.slice a1 Fs.length cap1]:Array Value)[i]?:=fun i=>by
     rw [hb.cell (p:=⟨w.heap.size,i,none⟩) (by simp only [];omega)];exact G1.o i
    have q2:∀ i,wr.cell? ⟨w.heap.size+1,i,none⟩=(#[.string kind,.string nm,.string team,.slice a V.length cap,.bool en,.slice a' Ho.length cap',.int .i64 ver]:Array Value)[i]?:=fun i=>by
     rw [hb.cell (p:=⟨w.heap.size+1,i,none⟩) (by simp only [];omega)];exact G2.o i
    have q0:wr.cell? ⟨w.heap.size+1+1,3,none⟩=some (.func (.func 290) #[] #[]):=by
     rw [hb.cell (p:=⟨w.heap.size+1+1,3,none⟩) (by simp only [];omega)];exact G0.o 3
    have D0:=Zab d0;have D1:=Zab d1;have D2:=Zab d2;clear hb d0 d1 d2;go_wp2_with fail;refine (ZgQ _ _ _ _ _ _ _ _ _ _).mono ?_;rintro e w2 ⟨he,hb2⟩;have HB2:Hd (Zw_ w w2):=HBr.o.trans (hb2.mono HBr.o.size);have HB3:Hd (Below w1.heap.size w1 w2):=HBB.o.trans (hb2.mono HBB.o.size);clear hb2 q0 q1 q2
    cases hc:inB 0 1000000 ver with
    | true=>
     have HC:=Zab hc;rw [hc] at he;have he':e=.returned .nilIface:=he;subst he';clear hc he;go_wp2;go_roundw
     . exact Or.inr (Or.inr (Or.inr (Or.inr (Or.inl ⟨by go_num,HB3.o,D0.o,D1.o,D2.o,HC.o⟩))))
     . simp [intOf]
    | false=>
     have HX:Hd (ZaP Fs nm team V Ho ver=(1,0)):=by unfold Hd ZaP Zk3;rw [D0.o,D1.o,D2.o,hc];simp
     rw [hc] at he;have he':e=.returned (.iface 347 (.agg #[.int .i64 1,.int .i64 0])):=he;subst he';clear hc he;go_wp2;go_ret;exact⟨by rw [HX.o];rfl,HB2.o⟩
  . have HBB:=Zab hb
    have HBr:Hd (Zw_ w wr):=HB1.o.trans (hb.mono (by omega))
    have q1:∀ i,wr.cell? ⟨w.heap.size,i,none⟩=(#[.string kd,.slice a1 Fs.length cap1]:Array Value)[i]?:=fun i=>by
     rw [hb.cell (p:=⟨w.heap.size,i,none⟩) (by simp only [];omega)];exact G1.o i
    have q2:∀ i,wr.cell? ⟨w.heap.size+1,i,none⟩=(#[.string kind,.string nm,.string team,.slice a V.length cap,.bool en,.slice a' Ho.length cap',.int .i64 ver]:Array Value)[i]?:=fun i=>by
     rw [hb.cell (p:=⟨w.heap.size+1,i,none⟩) (by simp only [];omega)];exact G2.o i
    have q0:wr.cell? ⟨w.heap.size+1+1,4,none⟩=some (.func (.func 291) #[] #[]):=by
     rw [hb.cell (p:=⟨w.heap.size+1+1,4,none⟩) (by simp only [];omega)];exact G0.o 4
    have D0:=Zab d0;have D1:=Zab d1;have D2:=Zab d2;have D3:=Zab d3;clear hb d0 d1 d2 d3;have HC:Hd (V.length=Fs.length):=by have:=D1.o;unfold Hd;simpa using this
    go_wp2_with fail;refine (Zha _ _ _ _ _ _ _ _ _ V Fs _ lo (HV.o.below HBr.o) (HF.o.below HBr.o) HC.o).mono ?_;rintro e w2 ⟨he,hb2⟩;have HB2:Hd (Zw_ w w2):=HBr.o.trans (hb2.mono HBr.o.size);have HB3:Hd (Below w1.heap.size w1 w2):=HBB.o.trans (hb2.mono HBB.o.size);clear hb2 q0 q1 q2
    by_cases hc:(ff (Zbe Fs V) 0).1=0
    . have he':e=.returned .nilIface:=by rw [he];unfold Zlf;rw [if_pos hc]
      have HC:Hd (ff (Zbe Fs V) 0=(0,0)):=ZoW _ _ hc;subst he';clear hc;go_wp2;go_roundw
      . exact Or.inr (Or.inr (Or.inr (Or.inr (Or.inr (⟨by go_num,HB3.o,D0.o,D1.o,D2.o,D3.o,HC.o⟩)))))
      . simp [intOf]
    . have HX:Hd (ZaP Fs nm team V Ho ver=ff (Zbe Fs V) 0):=by unfold Hd ZaP Zk3;rw [D0.o,D1.o,D2.o,D3.o];rfl
      have he':e=.returned (.iface 347 (.agg #[.int .i64 (ff (Zbe Fs V) 0).1,.int .i64 (ff (Zbe Fs V) 0).2])):=by rw [he];unfold Zlf;rw [if_neg hc]
      have HC:Hd (Zlf (ff (Zbe Fs V) 0)=.iface 347 (.agg #[.int .i64 (ff (Zbe Fs V) 0).1,.int .i64 (ff (Zbe Fs V) 0).2])):=if_neg hc;subst he';generalize (ff (Zbe Fs V) 0).1=p1 at HC hc |-;generalize (ff (Zbe Fs V) 0).2=p2 at HC |-;clear hc he;go_wp2;go_ret;exact⟨by rw [HX.o,HC.o];rfl,HB2.o⟩
  . have HBB:=Zab hb
    have HBr:Hd (Zw_ w wr):=HB1.o.trans (hb.mono (by omega))
    have q1:∀ i,wr.cell? ⟨w.heap.size,i,none⟩=(#[.string kd,.slice a1 Fs.length cap1]:Array Value)[i]?:=fun i=>by
     rw [hb.cell (p:=⟨w.heap.size,i,none⟩) (by simp only [];omega)];exact G1.o i
    have q2:∀ i,wr.cell? ⟨w.heap.size+1,i,none⟩=(#[.string kind,.string nm,.string team,.slice a V.length cap,.bool en,.slice a' Ho.length cap',.int .i64 ver]:Array Value)[i]?:=fun i=>by
     rw [hb.cell (p:=⟨w.heap.size+1,i,none⟩) (by simp only [];omega)];exact G2.o i
    have D0:=Zab d0;have D1:=Zab d1;have D2:=Zab d2;have D3:=Zab d3;have D4:=Zab d4;clear hb d0 d1 d2 d3 d4;have HX:Hd (ZaP Fs nm team V Ho ver=(0,0)):=by unfold Hd ZaP Zk3;rw [D0.o,D1.o,D2.o,D3.o];exact D4.o
    clear D0 D1 D2 D3 D4;go_wp2;go_ret;exact⟨by rw [HX.o];rfl,HBr.o⟩
end
end
open Go.RowKit Go.Deep
theorem ZtJ (X:World) (o:Obj):Below X.heap.size X (X.alloc o):=Zb_.alloc Zl_ _
theorem btz {a b c:World} (h:Below a.heap.size a b) (k:Below b.heap.size b c):Below a.heap.size a c:=h.trans (k.mono h.size)
theorem Zaf.formz {w:World}{v:Value}{L:List Zy_} (h:Zaf w v L):∃ a cap,v=.slice a L.length cap:=by
 rcases h with ⟨a,cap,h,rfl⟩ | ⟨b,off,cap,h,_⟩
 . exact⟨_,_,h⟩
 . exact⟨_,_,h⟩
end Go.Proofs.YtmappejlmapboaaGreat
