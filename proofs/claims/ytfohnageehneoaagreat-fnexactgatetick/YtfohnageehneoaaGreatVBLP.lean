import Derived.Test.YtfohnageehneoaaGreatVTA
set_option maxHeartbeats 16000000
set_option maxRecDepth 100000
open Go.Proofs.Tryz
namespace Go.Proofs.YtfohnageehneoaaGreat
open Go.RowKit Go.Deep
structure Le where
 tm:Zy_
 re:Zy_
 mo:Int
 fr:Int
structure Zdt (x:Le):Prop where
 s0:x.tm.size≤maxLen
 s1:x.re.size≤maxLen
def ZgK (x:Le):Prop:=x=x
structure ZcX (w:World) (b o:Nat) (x:Le):Prop where
 c0:w.cell? ⟨b,o,none⟩=some (.string x.tm)
 c1:w.cell? ⟨b,o+1,none⟩=some (.string x.re)
 c2:w.cell? ⟨b,o+2,none⟩=some (.int .i64 x.mo)
 c3:w.cell? ⟨b,o+3,none⟩=some (.int .i64 x.fr)
theorem ZcX.below {w w':World} {b o:Nat} {x:Le} (h:ZcX w b o x ) {m:Nat} (hb:Below m w w') (hlt:b < m):ZcX w' b o x:=by
 have e:∀ o,w'.cell? ⟨b,o,none⟩=w.cell? ⟨b,o,none⟩:=fun o=>hb.cell (p:=⟨b,o,none⟩) hlt
 exact⟨by rw [e];exact h.c0,by rw [e];exact h.c1,by rw [e];exact h.c2,by rw [e];exact h.c3⟩
theorem ZcX.set {w:World} {b o:Nat} {x:Le} (h:ZcX w b o x ) {p:Addr} (hp:b≠p.block) (u:Value):ZcX (w.setCell p u) b o x:=by
 have e:∀ o,(w.setCell p u).cell? ⟨b,o,none⟩=w.cell? ⟨b,o,none⟩:=fun o=>Zaq _ _ _ _ hp
 exact⟨by rw [e];exact h.c0,by rw [e];exact h.c1,by rw [e];exact h.c2,by rw [e];exact h.c3⟩
def ZbB (lo:Nat) (w:World) (v:Value) (Xl:List Le):Prop:=
 (∃ (a:Option Addr) (cap:Nat),v=.slice a 0 cap∧Xl=[])∨
 ∃ (b off cap:Nat),v=.slice (some ⟨b,off,none⟩) Xl.length cap∧Xl≠[]∧Xl.length≤maxLen∧b < w.heap.size∧lo≤b∧Xl.length≤cap∧
  ∀ i (h:i < Xl.length),Zdt Xl[i]∧ZcX w b (off+i*4) Xl[i]
theorem ZbB.below {lo:Nat} {w w':World} {v:Value} {Xl:List Le} (h:ZbB lo w v Xl) (hb:Zw_ w w'):ZbB lo w' v Xl:=by
 rcases h with h | ⟨b,off,cap,h1,h2,h3,h4,h5,h6,h7⟩
 · exact Or.inl h
 · refine Or.inr ⟨b,off,cap,h1,h2,h3,Zk_ h4 hb.size,h5,h6,fun i hi=>?_⟩
   obtain⟨hs,hc⟩:=h7 i hi;exact⟨hs,hc.below hb h4⟩
theorem ZbB.mono {lo lo':Nat} {w:World} {v:Value} {Xl:List Le} (h:ZbB lo w v Xl) (hl:lo'≤lo):ZbB lo' w v Xl:=by
 rcases h with h | ⟨b,off,cap,h1,h2,h3,h4,h5,h6,h7⟩
 · exact Or.inl h
 · refine Or.inr ⟨b,off,cap,h1,h2,h3,h4,Nat.le_trans hl h5,h6,fun i hi=>?_⟩
   obtain⟨hs,hc⟩:=h7 i hi;exact⟨hs,hc⟩
theorem ZbB.set {lo:Nat} {w:World} {v:Value} {Xl:List Le} (h:ZbB lo w v Xl) {p:Addr} (hp:p.block < lo) (u:Value):ZbB lo (w.setCell p u) v Xl:=by
 rcases h with h | ⟨b,off,cap,h1,h2,h3,h4,h5,h6,h7⟩
 · exact Or.inl h
 · refine Or.inr ⟨b,off,cap,h1,h2,h3,by simpa [World.setCell] using h4,h5,h6,fun i hi=>?_⟩
   obtain⟨hs,hc⟩:=h7 i hi;exact⟨hs,hc.set (by omega) u⟩
theorem ZbB.form {lo:Nat} {w:World} {v:Value} {Xl:List Le} (h:ZbB lo w v Xl):∃ a cap,v=.slice a Xl.length cap:=by
 rcases h with ⟨a,cap,h,rfl⟩ | ⟨b,off,cap,h,_⟩
 · exact⟨a,cap,h⟩
 · exact⟨_,cap,h⟩
theorem ZbB.max {lo:Nat} {w:World} {v:Value} {Xl:List Le} (h:ZbB lo w v Xl):Xl.length≤maxLen:=by
 rcases h with ⟨a,cap,h,rfl⟩ | ⟨b,off,cap,h,_,h3,_⟩
 · exact Nat.zero_le _
 · exact h3
theorem ZbB.full {lo:Nat} {w:World} {v:Value} {Xl:List Le} (h:ZbB lo w v Xl) (hne:Xl≠[]):∃ (b off cap:Nat),v=.slice (some ⟨b,off,none⟩) Xl.length cap∧Xl.length≤maxLen∧b < w.heap.size∧Xl.length≤cap∧
 ∀ i (h:i < Xl.length),Zdt Xl[i]∧ZcX w b (off+i*4) Xl[i]:=by
 rcases h with ⟨_,_,_,h⟩ | ⟨b,off,cap,h1,_,h3,h4,_,h6,h7⟩
 · exact absurd h hne
 · exact⟨b,off,cap,h1,h3,h4,h6,h7⟩
theorem ZbB.full' {lo:Nat} {w:World} {a:Option Addr} {n cap:Nat} {Xl:List Le} (h:ZbB lo w (.slice a n cap) Xl) (hL:0 < Xl.length) :
 ∃ b off,a=some ⟨b,off,none⟩∧b < w.heap.size∧lo≤b∧∀ i (h:i < Xl.length),Zdt Xl[i]∧ZcX w b (off+i*4) Xl[i]:=by
 rcases h with ⟨a',cap',h,rfl⟩ | ⟨b',off',cap',h1,h2,h3,h4,h5,h6,h7⟩
 · simp at hL
 · injection h1 with e1 e2 e3
   exact⟨b',off',e1,h4,h5,h7⟩
def Zd4 (Xl:List Le):Prop:=Xl.length≤1048576∧∀ i (h:i < Xl.length),ZgK Xl[i]
def ZsZ (Xl:List Le) (left r:Int):Prop:= -1≤r∧r≤left∧(0≤r→Zd4 Xl)
theorem Zqu (x:Le) (left:Int) (w:World) (h0:0≤left) (h1:left≤1048576) (hz:Zdt x) :
 Calls prog 91 #[.agg #[.string x.tm,.string x.re,.int .i64 x.mo,.int .i64 x.fr],.int .i64 left] w
  fun e w'=>∃ r:Int,e=.returned (.int .i64 r)∧Zw_ w w'∧-1≤r∧r≤left∧(0≤r→ZgK x):=by
 obtain⟨s0,s1⟩:=hz;unfold maxLen at s0 s1;go_enter func91,ntmps91;go_wp2
 all_goals go_ret
 all_goals exact⟨_,rfl,Zb_.alloc Zl_ _,by omega,by omega,fun _=>rfl⟩
theorem ZlZ (x:Le) (w:World) :
 Calls prog 105 #[.agg #[.string x.tm,.string x.re,.int .i64 x.mo,.int .i64 x.fr]] w fun e w'=>e=.returned (.agg #[.string x.tm,.string x.re,.int .i64 x.mo,.int .i64 x.fr])∧Zw_ w w':=by
 go_enter func105,ntmps105;go_wp2;refine bodyPost_ret (v:=.agg #[.string x.tm,.string x.re,.int .i64 x.mo,.int .i64 x.fr]) (by simp [results,results105,go_sem]) rfl ⟨rfl,?_⟩
 repeat (refine Below.setCell ?_ (by simp) _)
 exact ((Zb_.alloc Zl_ _).alloc (by simp) _).alloc (by simp;omega) _
theorem ZpB (x:Le) (w:World) :
 Calls prog 116 #[.agg #[.string x.tm,.string x.re,.int .i64 x.mo,.int .i64 x.fr],.agg #[.string x.tm,.string x.re,.int .i64 x.mo,.int .i64 x.fr]] w fun e w'=>e=.returned (.bool true)∧Zw_ w w':=by
 go_enter func116,ntmps116;go_wp2;go_ret;exact⟨rfl,(Zb_.alloc Zl_ _).alloc (by simp) _⟩
theorem ZoS (lo:Nat) (v:Value) (Xl:List Le) (left:Int) (w:World) (h0:0≤left) (h1:left≤1048576) (hv:ZbB lo w v Xl) :
 Calls prog 32 #[v,.int .i64 left] w fun e w'=>∃ r:Int,e=.returned (.int .i64 r)∧Zw_ w w'∧ZsZ Xl left r:=by
 rcases hv with ⟨a,cap,rfl,rfl⟩ | ⟨b,off,cap,rfl,hne,hm,hbw,_,_,hc⟩
 · go_enter func32,ntmps32
   go_wp2
   go_loop [1,5] (fun l i=>∃ r:Int,l=.int .i64 r∧0≤r∧r≤left∧i=.int .i64 0) (fun _ _=>0)
   case atStart=>exact⟨_,rfl,by omega,by omega,rfl⟩
   case round=>
    obtain⟨r,rfl,hr0,hr1,rfl⟩:=hrel;go_wp2;go_ret;exact⟨r,rfl,Below.refl _ _,by omega,by omega,fun _=>⟨by simp,fun i h=>by simp at h⟩⟩
 · unfold maxLen at hm
   by_cases hle:(Xl.length:Int)≤left
   · go_enter func32,ntmps32
     go_wp2
     go_loopw [1,5] (fun l i wr=>∃ (r:Int) (k:Nat),l=.int .i64 r∧0≤r∧r≤left∧i=.int .i64 k∧k≤Xl.length∧Zw_ w wr∧∀ j (hj:j < Xl.length),j < k→ZgK Xl[j]) (fun _ i _=>Xl.length - (intOf i).toNat)
     case atStart=>exact⟨_,0,rfl,by omega,by omega,rfl,by omega,Below.refl _ _,fun j _ h=>by omega⟩
     case round=>
      obtain⟨r,k,rfl,hr0,hr1,rfl,hk,hb,hall⟩:=hrel;have HA:=Zab hall;clear hall
      by_cases hlt:k < Xl.length
      · obtain⟨hs,hc⟩:=hc k hlt
        obtain⟨c0,c1,c2,c3⟩:=hc.below hb hbw;clear hc;go_wp2_with fail;refine (Zqu _ _ _ hr0 (by omega) hs).mono ?_;rintro e w1 ⟨r1,rfl,hb1,q0,q1,q2⟩;have HQ2:=Zab q2;have hB:Hid (Zw_ w w1):=hb.trans (hb1.mono hb.size);clear hb1 c0 c1 c2 c3 hb q2
        by_cases hneg:r1 < 0
        · go_wp2
          go_ret;exact⟨-1,rfl,hB.out,by omega,by omega,fun h=>by omega⟩
        · have HL:Hid (ZgK Xl[k]):=HQ2.out (by omega)
          clear HQ2;go_wp2;go_roundw
          case rel=>exact⟨_,k+1,rfl,by omega,by omega,by go_num,by omega,hB.out,fun j hj h=>by
                     by_cases e:j=k
                     · subst e;exact HL.out
                     · exact HA.out j hj (by omega)⟩
          case measure=>simp [intOf];omega
      · go_wp2
        go_ret;exact⟨r,rfl,hb,by omega,by omega,fun _=>⟨by omega,fun j hj=>HA.out j hj (by omega)⟩⟩
   · go_enter func32,ntmps32
     go_wp2;go_ret;exact⟨-1,rfl,Below.refl _ _,by omega,by omega,fun h=>by omega⟩
theorem Znz (lo lo':Nat) (v v':Value) (Xl:List Le) (w:World) (hv:ZbB lo w v Xl) (hv':ZbB lo' w v' Xl) :
 Calls prog 53 #[v,v'] w fun e w'=>e=.returned (.bool true)∧Zw_ w w':=by
 by_cases hL:Xl=[]
 · subst hL
   obtain⟨a,cap,rfl⟩:=hv.form;obtain⟨a',cap',rfl⟩:=hv'.form;clear hv hv';go_enter func53,ntmps53;go_wp2
   go_loop [5] (fun i=>i=.int .i64 0) (fun _=>0)
   case atStart=>rfl
   case round=>
    subst hrel;go_wp2;go_ret;exact⟨rfl,Below.refl _ _⟩
 · obtain⟨b,off,cap,rfl,hm,hbw,_,hc⟩:=hv.full hL
   obtain⟨b',off',cap',rfl,_,hbw',_,hc'⟩:=hv'.full hL;clear hv hv';unfold maxLen at hm;go_enter func53,ntmps53;go_wp2
   go_loopw [5] (fun i wr=>∃ k:Nat,i=.int .i64 k∧k≤Xl.length∧Zw_ w wr) (fun i _=>Xl.length - (intOf i).toNat)
   case atStart=>exact⟨0,rfl,by omega,Below.refl _ _⟩
   case round=>
    obtain⟨k,rfl,hk,hb⟩:=hrel
    by_cases hlt:k < Xl.length
    · obtain⟨hs,hc⟩:=hc k hlt
      obtain⟨ht,hd⟩:=hc' k hlt;obtain⟨c0,c1,c2,c3⟩:=hc.below hb hbw;obtain⟨d0,d1,d2,d3⟩:=hd.below hb hbw';clear hc hd hs ht;have HB:=Zab hb;clear hb;go_wp2
      go_region_with (go_at_call 116;refine (ZpB _ _ ).mono ?_;rintro e w1 ⟨rfl,hb1⟩;have hB:Hid (Zw_ w w1):=(HB.out.drew).trans (hb1.mono HB.out.size);clear hb1)
      all_goals go_wp2
      all_goals go_roundw
      all_goals first
       | (case rel=>exact⟨k+1,by go_num,by omega,hB.out⟩)
       | (case measure=>simp [intOf];omega)
    · go_wp2
      go_ret;exact⟨rfl,hb⟩
theorem Tryz.info92:(prog.info? 92).map (fun i=>(i.zero,i.size,i.bytes))=some (some (.agg #[.string ⟨#[]⟩,.string ⟨#[]⟩,.int .i64 0,.int .i64 0]),4,48):=by kernel_rfl
def Zb4 (wr:World) (B:Nat) (Xl:List Le) (k:Nat):Prop:=
 ∃ f,wr.rowIs B 92 (Xl.length*4) f∧∀ i (h:i < Xl.length),i < k→Zdt Xl[i]∧f (i*4)=.string Xl[i].tm∧f (i*4+1)=.string Xl[i].re∧f (i*4+2)=.int .i64 Xl[i].mo∧f (i*4+3)=.int .i64 Xl[i].fr
theorem Zb4.below {wr w1:World} {B:Nat} {Xl:List Le} {k:Nat} (h:Zb4 wr B Xl k) (hb:Below wr.heap.size wr w1):Zb4 w1 B Xl k:=by
 obtain⟨f,hr,hall⟩:=h;refine⟨f,hr.of_block (hb.block B hr.lt),fun i hi hik=>?_⟩;obtain⟨hz,h0,h1,h2,h3⟩:=hall i hi hik;exact⟨hz,h0,h1,h2,h3⟩
theorem Zb4.free {wr:World} {B:Nat} {Xl:List Le} {k:Nat} (h:Zb4 wr B Xl k) (i:Nat):wr.frozen? ⟨B,i,none⟩=false:=by
 obtain⟨f,hr,_⟩:=h;exact hr.frozen i
theorem Zb4.there {wr:World} {B:Nat} {Xl:List Le} {k:Nat} (h:Zb4 wr B Xl k) (i:Nat) (hi:i < Xl.length*4):∃ v,wr.cell? ⟨B,i,none⟩=some v:=by
 obtain⟨f,hr,_⟩:=h;exact⟨_,hr.cell hi⟩
theorem Zb4.step {w1:World} {B:Nat} {Xl:List Le} {k:Nat} (h:Zb4 w1 B Xl k) (hk:k < Xl.length) (hz:Zdt Xl[k]) :
 Zb4 ((((w1.setCell ⟨B,k*4,none⟩ (.string Xl[k].tm)).setCell ⟨B,k*4+1,none⟩ (.string Xl[k].re)).setCell ⟨B,k*4+2,none⟩ (.int .i64 Xl[k].mo)).setCell ⟨B,k*4+3,none⟩ (.int .i64 Xl[k].fr)) B Xl (k+1):=by
 obtain⟨f,hr,hall⟩:=h;refine⟨_,((((hr.set _ _).set _ _).set _ _).set _ _),fun i hi hik=>?_⟩
 by_cases e:i=k
 · subst e
   refine⟨hz,by simp,by simp,by simp,by simp⟩
 · obtain⟨hz',h0,h1,h2,h3⟩:=hall i hi (by omega)
   refine⟨hz',?_,?_,?_,?_⟩
   · rw [if_neg (by omega),if_neg (by omega),if_neg (by omega),if_neg (by omega)];exact h0
   · rw [if_neg (by omega),if_neg (by omega),if_neg (by omega),if_neg (by omega)];exact h1
   · rw [if_neg (by omega),if_neg (by omega),if_neg (by omega),if_neg (by omega)];exact h2
   · rw [if_neg (by omega),if_neg (by omega),if_neg (by omega),if_neg (by omega)];exact h3
theorem Zb4.done {wr:World} {B:Nat} {Xl:List Le} {k:Nat} (h:Zb4 wr B Xl k) (hk:Xl.length≤k) (hne:Xl≠[]) (hm:Xl.length≤maxLen):ZbB B wr (.slice (some ⟨B,0,none⟩) Xl.length Xl.length) Xl:=by
 obtain⟨f,hr,hall⟩:=h;refine Or.inr ⟨B,0,Xl.length,rfl,hne,hm,hr.lt,Nat.le_refl _,Nat.le_refl _,fun i hi=>?_⟩;obtain⟨hz,h0,h1,h2,h3⟩:=hall i hi (by omega);rw [Nat.zero_add];exact⟨hz,⟨by rw [hr.cell (by omega),h0],by rw [hr.cell (by omega),h1],by rw [hr.cell (by omega),h2],by rw [hr.cell (by omega),h3]⟩⟩
theorem Zb4.new (w:World) (Xl:List Le) (z:Array Value):Zb4 (w.alloc (.cells (madeCells z (Xl.length*4)) 92)) w.heap.size Xl 0:=by
 refine⟨fun i=>(madeCells z (Xl.length*4)).getD i default,?_,fun i _ h=>by omega⟩;have:=World.rowIs_alloc w (madeCells z (Xl.length*4)) 92 (fun i=>(madeCells z (Xl.length*4)).getD i default) (fun i hi=>by simp [Array.getD,hi])
 rwa [size_madeCells] at this
theorem Zo3 (lo:Nat) (v:Value) (Xl:List Le) (w:World) (hv:ZbB lo w v Xl) (hn:Zd4 Xl) :
 Calls prog 46 #[v] w fun e w'=>∃ v',e=.returned v'∧Zw_ w w'∧ZbB w.heap.size w' v' Xl:=by
 obtain⟨i0,hi,hz0,hz1,hz2⟩:=info_parts Tryz.info92;have hn1:=hn.1;clear hn
 by_cases hL:Xl=[]
 · subst hL
   obtain⟨a,cap,rfl⟩:=hv.form;clear hv
   have hmk:∀ u:World,(Instr.makeSlice 37 (.int .i64 0) (.int .i64 0)).run prog u=.ok (.slice (some ⟨u.heap.size,0,none⟩) 0 0) (u.alloc (.cells (madeCells (Value.cells (.agg #[.string ⟨#[]⟩,.string ⟨#[]⟩,.int .i64 0,.int .i64 0])) 0) 92)):=fun u=>by
    have h:=run_make (P:=prog) u 37 92 i0 _ underlying37 hi hz0 .i64 .i64 0 0 (by omega) (by omega) (by omega) (by omega)
    simpa [hz1] using h
   go_enter func46,ntmps46;go_wp2
   go_loop [4] (fun i=>i=.int .i64 0) (fun _=>0)
   case atStart=>rfl
   case round=>
    subst hrel;go_wp2;go_ret;exact⟨_,rfl,Zb_.alloc Zl_ _,Or.inl ⟨_,_,rfl,rfl⟩⟩
 · obtain⟨b,off,cap,rfl,hm,hbw,_,hc⟩:=hv.full hL
   clear hv;have HM:Hid (Xl.length≤maxLen):=hm;unfold maxLen at hm
   have hmk:∀ u:World,(Instr.makeSlice 37 (.int .i64 (Xl.length:Int)) (.int .i64 (Xl.length:Int))).run prog u=.ok (.slice (some ⟨u.heap.size,0,none⟩) Xl.length Xl.length) (u.alloc (.cells (madeCells (Value.cells (.agg #[.string ⟨#[]⟩,.string ⟨#[]⟩,.int .i64 0,.int .i64 0])) (Xl.length*4)) 92)):=fun u=>by
    have h:=run_make (P:=prog) u 37 92 i0 _ underlying37 hi hz0 .i64 .i64 Xl.length Xl.length (by omega) (by omega) (by rw [hz2];omega) (by omega);rw [hz1] at h
    simpa using h
   clear hi hz0 hz1 hz2;go_enter func46,ntmps46;go_wp2;clear hmk
   go_loopw [4] (fun i wr=>∃ k:Nat,i=.int .i64 k∧k≤Xl.length∧Zw_ w wr∧Zb4 wr w.heap.size Xl k) (fun i _=>Xl.length - (intOf i).toNat)
   case atStart=>exact⟨0,rfl,by omega,Zb_.alloc Zl_ _,Zb4.new w Xl _⟩
   case round=>
    obtain⟨k,rfl,hk,hb,hf⟩:=hrel
    by_cases hlt:k < Xl.length
    · obtain⟨hs,hc⟩:=hc k hlt
      obtain⟨c0,c1,c2,c3⟩:=hc.below hb hbw
      have hBl:w.heap.size < wr.heap.size:=by
       obtain⟨_,hr,_⟩:=hf;exact hr.lt
      clear hc;go_wp2_with fail;refine (ZlZ _ _ ).mono ?_;rintro e w1 ⟨rfl,hb1⟩;have hf1:=hf.below hb1;have HST:=Zab (hf1.step hlt hs );have hB:Hid (Zw_ w w1):=hb.trans (hb1.mono hb.size);have hfr:=hf1.free;obtain⟨o0,ho0⟩:=hf1.there (k*4) (by omega);obtain⟨o1,ho1⟩:=hf1.there (k*4+1) (by omega);obtain⟨o2,ho2⟩:=hf1.there (k*4+2) (by omega);obtain⟨o3,ho3⟩:=hf1.there (k*4+3) (by omega);clear hf hf1 hb1 hb c0 c1 c2 c3;go_wp2;go_roundw
      case rel=>
       exact⟨k+1,by go_num,by omega,((((hB.out.setCell Zl_ _).setCell Zl_ _).setCell Zl_ _).setCell Zl_ _),HST.out⟩
      case measure=>simp [intOf];omega
    · go_wp2
      go_ret;exact⟨_,rfl,hb,hf.done (by omega) hL HM.out⟩
structure Pu where
 dr:Zy_
 tm:Zy_
 re:Zy_
 am:Int
 un:Int
structure Zcr (x:Pu):Prop where
 s0:x.dr.size≤maxLen
 s1:x.tm.size≤maxLen
 s2:x.re.size≤maxLen
def Zhs (x:Pu):Prop:=x=x
structure ZcQ (w:World) (b o:Nat) (x:Pu):Prop where
 c0:w.cell? ⟨b,o,none⟩=some (.string x.dr)
 c1:w.cell? ⟨b,o+1,none⟩=some (.string x.tm)
 c2:w.cell? ⟨b,o+2,none⟩=some (.string x.re)
 c3:w.cell? ⟨b,o+3,none⟩=some (.int .i64 x.am)
 c4:w.cell? ⟨b,o+4,none⟩=some (.int .i64 x.un)
theorem ZcQ.below {w w':World} {b o:Nat} {x:Pu} (h:ZcQ w b o x ) {m:Nat} (hb:Below m w w') (hlt:b < m):ZcQ w' b o x:=by
 have e:∀ o,w'.cell? ⟨b,o,none⟩=w.cell? ⟨b,o,none⟩:=fun o=>hb.cell (p:=⟨b,o,none⟩) hlt
 exact⟨by rw [e];exact h.c0,by rw [e];exact h.c1,by rw [e];exact h.c2,by rw [e];exact h.c3,by rw [e];exact h.c4⟩
theorem ZcQ.set {w:World} {b o:Nat} {x:Pu} (h:ZcQ w b o x ) {p:Addr} (hp:b≠p.block) (u:Value):ZcQ (w.setCell p u) b o x:=by
 have e:∀ o,(w.setCell p u).cell? ⟨b,o,none⟩=w.cell? ⟨b,o,none⟩:=fun o=>Zaq _ _ _ _ hp
 exact⟨by rw [e];exact h.c0,by rw [e];exact h.c1,by rw [e];exact h.c2,by rw [e];exact h.c3,by rw [e];exact h.c4⟩
def ZbK (lo:Nat) (w:World) (v:Value) (Xl:List Pu):Prop:=
 (∃ (a:Option Addr) (cap:Nat),v=.slice a 0 cap∧Xl=[])∨
 ∃ (b off cap:Nat),v=.slice (some ⟨b,off,none⟩) Xl.length cap∧Xl≠[]∧Xl.length≤maxLen∧b < w.heap.size∧lo≤b∧Xl.length≤cap∧
  ∀ i (h:i < Xl.length),Zcr Xl[i]∧ZcQ w b (off+i*5) Xl[i]
theorem ZbK.below {lo:Nat} {w w':World} {v:Value} {Xl:List Pu} (h:ZbK lo w v Xl) (hb:Zw_ w w'):ZbK lo w' v Xl:=by
 rcases h with h | ⟨b,off,cap,h1,h2,h3,h4,h5,h6,h7⟩
 · exact Or.inl h
 · refine Or.inr ⟨b,off,cap,h1,h2,h3,Zk_ h4 hb.size,h5,h6,fun i hi=>?_⟩
   obtain⟨hs,hc⟩:=h7 i hi;exact⟨hs,hc.below hb h4⟩
theorem ZbK.mono {lo lo':Nat} {w:World} {v:Value} {Xl:List Pu} (h:ZbK lo w v Xl) (hl:lo'≤lo):ZbK lo' w v Xl:=by
 rcases h with h | ⟨b,off,cap,h1,h2,h3,h4,h5,h6,h7⟩
 · exact Or.inl h
 · refine Or.inr ⟨b,off,cap,h1,h2,h3,h4,Nat.le_trans hl h5,h6,fun i hi=>?_⟩
   obtain⟨hs,hc⟩:=h7 i hi;exact⟨hs,hc⟩
theorem ZbK.set {lo:Nat} {w:World} {v:Value} {Xl:List Pu} (h:ZbK lo w v Xl) {p:Addr} (hp:p.block < lo) (u:Value):ZbK lo (w.setCell p u) v Xl:=by
 rcases h with h | ⟨b,off,cap,h1,h2,h3,h4,h5,h6,h7⟩
 · exact Or.inl h
 · refine Or.inr ⟨b,off,cap,h1,h2,h3,by simpa [World.setCell] using h4,h5,h6,fun i hi=>?_⟩
   obtain⟨hs,hc⟩:=h7 i hi;exact⟨hs,hc.set (by omega) u⟩
theorem ZbK.form {lo:Nat} {w:World} {v:Value} {Xl:List Pu} (h:ZbK lo w v Xl):∃ a cap,v=.slice a Xl.length cap:=by
 rcases h with ⟨a,cap,h,rfl⟩ | ⟨b,off,cap,h,_⟩
 · exact⟨a,cap,h⟩
 · exact⟨_,cap,h⟩
theorem ZbK.max {lo:Nat} {w:World} {v:Value} {Xl:List Pu} (h:ZbK lo w v Xl):Xl.length≤maxLen:=by
 rcases h with ⟨a,cap,h,rfl⟩ | ⟨b,off,cap,h,_,h3,_⟩
 · exact Nat.zero_le _
 · exact h3
theorem ZbK.full {lo:Nat} {w:World} {v:Value} {Xl:List Pu} (h:ZbK lo w v Xl) (hne:Xl≠[]):∃ (b off cap:Nat),v=.slice (some ⟨b,off,none⟩) Xl.length cap∧Xl.length≤maxLen∧b < w.heap.size∧Xl.length≤cap∧
 ∀ i (h:i < Xl.length),Zcr Xl[i]∧ZcQ w b (off+i*5) Xl[i]:=by
 rcases h with ⟨_,_,_,h⟩ | ⟨b,off,cap,h1,_,h3,h4,_,h6,h7⟩
 · exact absurd h hne
 · exact⟨b,off,cap,h1,h3,h4,h6,h7⟩
theorem ZbK.full' {lo:Nat} {w:World} {a:Option Addr} {n cap:Nat} {Xl:List Pu} (h:ZbK lo w (.slice a n cap) Xl) (hL:0 < Xl.length) :
 ∃ b off,a=some ⟨b,off,none⟩∧b < w.heap.size∧lo≤b∧∀ i (h:i < Xl.length),Zcr Xl[i]∧ZcQ w b (off+i*5) Xl[i]:=by
 rcases h with ⟨a',cap',h,rfl⟩ | ⟨b',off',cap',h1,h2,h3,h4,h5,h6,h7⟩
 · simp at hL
 · injection h1 with e1 e2 e3
   exact⟨b',off',e1,h4,h5,h7⟩
def ZdW (Xl:List Pu):Prop:=Xl.length≤1048576∧∀ i (h:i < Xl.length),Zhs Xl[i]
def Zte (Xl:List Pu) (left r:Int):Prop:= -1≤r∧r≤left∧(0≤r→ZdW Xl)
theorem Zqr (x:Pu) (left:Int) (w:World) (h0:0≤left) (h1:left≤1048576) (hz:Zcr x) :
 Calls prog 92 #[.agg #[.string x.dr,.string x.tm,.string x.re,.int .i64 x.am,.int .i64 x.un],.int .i64 left] w
  fun e w'=>∃ r:Int,e=.returned (.int .i64 r)∧Zw_ w w'∧-1≤r∧r≤left∧(0≤r→Zhs x):=by
 obtain⟨s0,s1,s2⟩:=hz;unfold maxLen at s0 s1 s2;go_enter func92,ntmps92;go_wp2
 all_goals go_ret
 all_goals exact⟨_,rfl,Zb_.alloc Zl_ _,by omega,by omega,fun _=>rfl⟩
theorem ZlN (x:Pu) (w:World) :
 Calls prog 106 #[.agg #[.string x.dr,.string x.tm,.string x.re,.int .i64 x.am,.int .i64 x.un]] w fun e w'=>e=.returned (.agg #[.string x.dr,.string x.tm,.string x.re,.int .i64 x.am,.int .i64 x.un])∧Zw_ w w':=by
 go_enter func106,ntmps106;go_wp2;refine bodyPost_ret (v:=.agg #[.string x.dr,.string x.tm,.string x.re,.int .i64 x.am,.int .i64 x.un]) (by simp [results,results106,go_sem]) rfl ⟨rfl,?_⟩
 repeat (refine Below.setCell ?_ (by simp) _)
 exact ((Zb_.alloc Zl_ _).alloc (by simp) _).alloc (by simp;omega) _
theorem Zpl (x:Pu) (w:World) :
 Calls prog 117 #[.agg #[.string x.dr,.string x.tm,.string x.re,.int .i64 x.am,.int .i64 x.un],.agg #[.string x.dr,.string x.tm,.string x.re,.int .i64 x.am,.int .i64 x.un]] w fun e w'=>e=.returned (.bool true)∧Zw_ w w':=by
 go_enter func117,ntmps117;go_wp2;go_ret;exact⟨rfl,(Zb_.alloc Zl_ _).alloc (by simp) _⟩
theorem ZpG (lo:Nat) (v:Value) (Xl:List Pu) (left:Int) (w:World) (h0:0≤left) (h1:left≤1048576) (hv:ZbK lo w v Xl) :
 Calls prog 33 #[v,.int .i64 left] w fun e w'=>∃ r:Int,e=.returned (.int .i64 r)∧Zw_ w w'∧Zte Xl left r:=by
 rcases hv with ⟨a,cap,rfl,rfl⟩ | ⟨b,off,cap,rfl,hne,hm,hbw,_,_,hc⟩
 · go_enter func33,ntmps33
   go_wp2
   go_loop [1,5] (fun l i=>∃ r:Int,l=.int .i64 r∧0≤r∧r≤left∧i=.int .i64 0) (fun _ _=>0)
   case atStart=>exact⟨_,rfl,by omega,by omega,rfl⟩
   case round=>
    obtain⟨r,rfl,hr0,hr1,rfl⟩:=hrel;go_wp2;go_ret;exact⟨r,rfl,Below.refl _ _,by omega,by omega,fun _=>⟨by simp,fun i h=>by simp at h⟩⟩
 · unfold maxLen at hm
   by_cases hle:(Xl.length:Int)≤left
   · go_enter func33,ntmps33
     go_wp2
     go_loopw [1,5] (fun l i wr=>∃ (r:Int) (k:Nat),l=.int .i64 r∧0≤r∧r≤left∧i=.int .i64 k∧k≤Xl.length∧Zw_ w wr∧∀ j (hj:j < Xl.length),j < k→Zhs Xl[j]) (fun _ i _=>Xl.length - (intOf i).toNat)
     case atStart=>exact⟨_,0,rfl,by omega,by omega,rfl,by omega,Below.refl _ _,fun j _ h=>by omega⟩
     case round=>
      obtain⟨r,k,rfl,hr0,hr1,rfl,hk,hb,hall⟩:=hrel;have HA:=Zab hall;clear hall
      by_cases hlt:k < Xl.length
      · obtain⟨hs,hc⟩:=hc k hlt
        obtain⟨c0,c1,c2,c3,c4⟩:=hc.below hb hbw;clear hc;go_wp2_with fail;refine (Zqr _ _ _ hr0 (by omega) hs).mono ?_;rintro e w1 ⟨r1,rfl,hb1,q0,q1,q2⟩;have HQ2:=Zab q2;have hB:Hid (Zw_ w w1):=hb.trans (hb1.mono hb.size);clear hb1 c0 c1 c2 c3 c4 hb q2
        by_cases hneg:r1 < 0
        · go_wp2
          go_ret;exact⟨-1,rfl,hB.out,by omega,by omega,fun h=>by omega⟩
        · have HL:Hid (Zhs Xl[k]):=HQ2.out (by omega)
          clear HQ2;go_wp2;go_roundw
          case rel=>exact⟨_,k+1,rfl,by omega,by omega,by go_num,by omega,hB.out,fun j hj h=>by
                     by_cases e:j=k
                     · subst e;exact HL.out
                     · exact HA.out j hj (by omega)⟩
          case measure=>simp [intOf];omega
      · go_wp2
        go_ret;exact⟨r,rfl,hb,by omega,by omega,fun _=>⟨by omega,fun j hj=>HA.out j hj (by omega)⟩⟩
   · go_enter func33,ntmps33
     go_wp2;go_ret;exact⟨-1,rfl,Below.refl _ _,by omega,by omega,fun h=>by omega⟩
theorem Zni (lo lo':Nat) (v v':Value) (Xl:List Pu) (w:World) (hv:ZbK lo w v Xl) (hv':ZbK lo' w v' Xl) :
 Calls prog 54 #[v,v'] w fun e w'=>e=.returned (.bool true)∧Zw_ w w':=by
 by_cases hL:Xl=[]
 · subst hL
   obtain⟨a,cap,rfl⟩:=hv.form;obtain⟨a',cap',rfl⟩:=hv'.form;clear hv hv';go_enter func54,ntmps54;go_wp2
   go_loop [5] (fun i=>i=.int .i64 0) (fun _=>0)
   case atStart=>rfl
   case round=>
    subst hrel;go_wp2;go_ret;exact⟨rfl,Below.refl _ _⟩
 · obtain⟨b,off,cap,rfl,hm,hbw,_,hc⟩:=hv.full hL
   obtain⟨b',off',cap',rfl,_,hbw',_,hc'⟩:=hv'.full hL;clear hv hv';unfold maxLen at hm;go_enter func54,ntmps54;go_wp2
   go_loopw [5] (fun i wr=>∃ k:Nat,i=.int .i64 k∧k≤Xl.length∧Zw_ w wr) (fun i _=>Xl.length - (intOf i).toNat)
   case atStart=>exact⟨0,rfl,by omega,Below.refl _ _⟩
   case round=>
    obtain⟨k,rfl,hk,hb⟩:=hrel
    by_cases hlt:k < Xl.length
    · obtain⟨hs,hc⟩:=hc k hlt
      obtain⟨ht,hd⟩:=hc' k hlt;obtain⟨c0,c1,c2,c3,c4⟩:=hc.below hb hbw;obtain⟨d0,d1,d2,d3,d4⟩:=hd.below hb hbw';clear hc hd hs ht;have HB:=Zab hb;clear hb;go_wp2
      go_region_with (go_at_call 117;refine (Zpl _ _ ).mono ?_;rintro e w1 ⟨rfl,hb1⟩;have hB:Hid (Zw_ w w1):=(HB.out.drew).trans (hb1.mono HB.out.size);clear hb1)
      all_goals go_wp2
      all_goals go_roundw
      all_goals first
       | (case rel=>exact⟨k+1,by go_num,by omega,hB.out⟩)
       | (case measure=>simp [intOf];omega)
    · go_wp2
      go_ret;exact⟨rfl,hb⟩
theorem Tryz.info94:(prog.info? 94).map (fun i=>(i.zero,i.size,i.bytes))=some (some (.agg #[.string ⟨#[]⟩,.string ⟨#[]⟩,.string ⟨#[]⟩,.int .i64 0,.int .i64 0]),5,64):=by kernel_rfl
def Zb1 (wr:World) (B:Nat) (Xl:List Pu) (k:Nat):Prop:=
 ∃ f,wr.rowIs B 94 (Xl.length*5) f∧∀ i (h:i < Xl.length),i < k→Zcr Xl[i]∧f (i*5)=.string Xl[i].dr∧f (i*5+1)=.string Xl[i].tm∧f (i*5+2)=.string Xl[i].re∧f (i*5+3)=.int .i64 Xl[i].am∧f (i*5+4)=.int .i64 Xl[i].un
theorem Zb1.below {wr w1:World} {B:Nat} {Xl:List Pu} {k:Nat} (h:Zb1 wr B Xl k) (hb:Below wr.heap.size wr w1):Zb1 w1 B Xl k:=by
 obtain⟨f,hr,hall⟩:=h;refine⟨f,hr.of_block (hb.block B hr.lt),fun i hi hik=>?_⟩;obtain⟨hz,h0,h1,h2,h3,h4⟩:=hall i hi hik;exact⟨hz,h0,h1,h2,h3,h4⟩
theorem Zb1.free {wr:World} {B:Nat} {Xl:List Pu} {k:Nat} (h:Zb1 wr B Xl k) (i:Nat):wr.frozen? ⟨B,i,none⟩=false:=by
 obtain⟨f,hr,_⟩:=h;exact hr.frozen i
theorem Zb1.there {wr:World} {B:Nat} {Xl:List Pu} {k:Nat} (h:Zb1 wr B Xl k) (i:Nat) (hi:i < Xl.length*5):∃ v,wr.cell? ⟨B,i,none⟩=some v:=by
 obtain⟨f,hr,_⟩:=h;exact⟨_,hr.cell hi⟩
theorem Zb1.step {w1:World} {B:Nat} {Xl:List Pu} {k:Nat} (h:Zb1 w1 B Xl k) (hk:k < Xl.length) (hz:Zcr Xl[k]) :
 Zb1 (((((w1.setCell ⟨B,k*5,none⟩ (.string Xl[k].dr)).setCell ⟨B,k*5+1,none⟩ (.string Xl[k].tm)).setCell ⟨B,k*5+2,none⟩ (.string Xl[k].re)).setCell ⟨B,k*5+3,none⟩ (.int .i64 Xl[k].am)).setCell ⟨B,k*5+4,none⟩ (.int .i64 Xl[k].un)) B Xl (k+1):=by
 obtain⟨f,hr,hall⟩:=h;refine⟨_,(((((hr.set _ _).set _ _).set _ _).set _ _).set _ _),fun i hi hik=>?_⟩
 by_cases e:i=k
 · subst e
   refine⟨hz,by simp,by simp,by simp,by simp,by simp⟩
 · obtain⟨hz',h0,h1,h2,h3,h4⟩:=hall i hi (by omega)
   refine⟨hz',?_,?_,?_,?_,?_⟩
   · rw [if_neg (by omega),if_neg (by omega),if_neg (by omega),if_neg (by omega),if_neg (by omega)];exact h0
   · rw [if_neg (by omega),if_neg (by omega),if_neg (by omega),if_neg (by omega),if_neg (by omega)];exact h1
   · rw [if_neg (by omega),if_neg (by omega),if_neg (by omega),if_neg (by omega),if_neg (by omega)];exact h2
   · rw [if_neg (by omega),if_neg (by omega),if_neg (by omega),if_neg (by omega),if_neg (by omega)];exact h3
   · rw [if_neg (by omega),if_neg (by omega),if_neg (by omega),if_neg (by omega),if_neg (by omega)];exact h4
theorem Zb1.done {wr:World} {B:Nat} {Xl:List Pu} {k:Nat} (h:Zb1 wr B Xl k) (hk:Xl.length≤k) (hne:Xl≠[]) (hm:Xl.length≤maxLen):ZbK B wr (.slice (some ⟨B,0,none⟩) Xl.length Xl.length) Xl:=by
 obtain⟨f,hr,hall⟩:=h;refine Or.inr ⟨B,0,Xl.length,rfl,hne,hm,hr.lt,Nat.le_refl _,Nat.le_refl _,fun i hi=>?_⟩;obtain⟨hz,h0,h1,h2,h3,h4⟩:=hall i hi (by omega);rw [Nat.zero_add];exact⟨hz,⟨by rw [hr.cell (by omega),h0],by rw [hr.cell (by omega),h1],by rw [hr.cell (by omega),h2],by rw [hr.cell (by omega),h3],by rw [hr.cell (by omega),h4]⟩⟩
theorem Zb1.new (w:World) (Xl:List Pu) (z:Array Value):Zb1 (w.alloc (.cells (madeCells z (Xl.length*5)) 94)) w.heap.size Xl 0:=by
 refine⟨fun i=>(madeCells z (Xl.length*5)).getD i default,?_,fun i _ h=>by omega⟩;have:=World.rowIs_alloc w (madeCells z (Xl.length*5)) 94 (fun i=>(madeCells z (Xl.length*5)).getD i default) (fun i hi=>by simp [Array.getD,hi])
 rwa [size_madeCells] at this
theorem Zpy (lo:Nat) (v:Value) (Xl:List Pu) (w:World) (hv:ZbK lo w v Xl) (hn:ZdW Xl) :
 Calls prog 47 #[v] w fun e w'=>∃ v',e=.returned v'∧Zw_ w w'∧ZbK w.heap.size w' v' Xl:=by
 obtain⟨i0,hi,hz0,hz1,hz2⟩:=info_parts Tryz.info94;have hn1:=hn.1;clear hn
 by_cases hL:Xl=[]
 · subst hL
   obtain⟨a,cap,rfl⟩:=hv.form;clear hv
   have hmk:∀ u:World,(Instr.makeSlice 38 (.int .i64 0) (.int .i64 0)).run prog u=.ok (.slice (some ⟨u.heap.size,0,none⟩) 0 0) (u.alloc (.cells (madeCells (Value.cells (.agg #[.string ⟨#[]⟩,.string ⟨#[]⟩,.string ⟨#[]⟩,.int .i64 0,.int .i64 0])) 0) 94)):=fun u=>by
    have h:=run_make (P:=prog) u 38 94 i0 _ underlying38 hi hz0 .i64 .i64 0 0 (by omega) (by omega) (by omega) (by omega)
    simpa [hz1] using h
   go_enter func47,ntmps47;go_wp2
   go_loop [4] (fun i=>i=.int .i64 0) (fun _=>0)
   case atStart=>rfl
   case round=>
    subst hrel;go_wp2;go_ret;exact⟨_,rfl,Zb_.alloc Zl_ _,Or.inl ⟨_,_,rfl,rfl⟩⟩
 · obtain⟨b,off,cap,rfl,hm,hbw,_,hc⟩:=hv.full hL
   clear hv;have HM:Hid (Xl.length≤maxLen):=hm;unfold maxLen at hm
   have hmk:∀ u:World,(Instr.makeSlice 38 (.int .i64 (Xl.length:Int)) (.int .i64 (Xl.length:Int))).run prog u=.ok (.slice (some ⟨u.heap.size,0,none⟩) Xl.length Xl.length) (u.alloc (.cells (madeCells (Value.cells (.agg #[.string ⟨#[]⟩,.string ⟨#[]⟩,.string ⟨#[]⟩,.int .i64 0,.int .i64 0])) (Xl.length*5)) 94)):=fun u=>by
    have h:=run_make (P:=prog) u 38 94 i0 _ underlying38 hi hz0 .i64 .i64 Xl.length Xl.length (by omega) (by omega) (by rw [hz2];omega) (by omega);rw [hz1] at h
    simpa using h
   clear hi hz0 hz1 hz2;go_enter func47,ntmps47;go_wp2;clear hmk
   go_loopw [4] (fun i wr=>∃ k:Nat,i=.int .i64 k∧k≤Xl.length∧Zw_ w wr∧Zb1 wr w.heap.size Xl k) (fun i _=>Xl.length - (intOf i).toNat)
   case atStart=>exact⟨0,rfl,by omega,Zb_.alloc Zl_ _,Zb1.new w Xl _⟩
   case round=>
    obtain⟨k,rfl,hk,hb,hf⟩:=hrel
    by_cases hlt:k < Xl.length
    · obtain⟨hs,hc⟩:=hc k hlt
      obtain⟨c0,c1,c2,c3,c4⟩:=hc.below hb hbw
      have hBl:w.heap.size < wr.heap.size:=by
       obtain⟨_,hr,_⟩:=hf;exact hr.lt
      clear hc;go_wp2_with fail;refine (ZlN _ _ ).mono ?_;rintro e w1 ⟨rfl,hb1⟩;have hf1:=hf.below hb1;have HST:=Zab (hf1.step hlt hs );have hB:Hid (Zw_ w w1):=hb.trans (hb1.mono hb.size);have hfr:=hf1.free;obtain⟨o0,ho0⟩:=hf1.there (k*5) (by omega);obtain⟨o1,ho1⟩:=hf1.there (k*5+1) (by omega);obtain⟨o2,ho2⟩:=hf1.there (k*5+2) (by omega);obtain⟨o3,ho3⟩:=hf1.there (k*5+3) (by omega);obtain⟨o4,ho4⟩:=hf1.there (k*5+4) (by omega);clear hf hf1 hb1 hb c0 c1 c2 c3 c4;go_wp2;go_roundw
      case rel=>
       exact⟨k+1,by go_num,by omega,(((((hB.out.setCell Zl_ _).setCell Zl_ _).setCell Zl_ _).setCell Zl_ _).setCell Zl_ _),HST.out⟩
      case measure=>simp [intOf];omega
    · go_wp2
      go_ret;exact⟨_,rfl,hb,hf.done (by omega) hL HM.out⟩
end Go.Proofs.YtfohnageehneoaaGreat
