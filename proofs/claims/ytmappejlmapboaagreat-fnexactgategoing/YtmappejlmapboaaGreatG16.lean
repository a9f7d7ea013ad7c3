import Derived.Test.YtmappejlmapboaaGreatG11
set_option maxHeartbeats 16000000
set_option maxRecDepth 100000
open Go.Proofs.Tryz
namespace Go.Proofs.YtmappejlmapboaaGreat
open Go.RowKit Go.Deep
section
variable {w w' wr w1:World} {b o lo B k:Nat} {v:Value}
structure Le where
 tm:Zy_
 re:Zy_
 mo:Int
 fr:Int
variable {x:Le} {Xl:List Le}
structure Zeo (x:Le):Prop where
 s0:x.tm.size<=maxLen
 s1:x.re.size<=maxLen
def Zg3 (x:Le):Prop:=x=x
structure ZcN (w:World) (b o:Nat) (x:Le):Prop where
 c0:w.cell? ⟨b,o,none⟩=some (.string x.tm)
 c1:w.cell? ⟨b,o+1,none⟩=some (.string x.re)
 c2:w.cell? ⟨b,o+2,none⟩=some (.int .i64 x.mo)
 c3:w.cell? ⟨b,o+3,none⟩=some (.int .i64 x.fr)
theorem ZcN.below (h:ZcN w b o x ) {m:Nat} (hb:Below m w w') (hlt:b < m):ZcN w' b o x:=by
 have e:∀ o,w'.cell? ⟨b,o,none⟩=w.cell? ⟨b,o,none⟩:=fun o=>hb.cell (p:=⟨b,o,none⟩) hlt
 exact⟨by rw [e];exact h.c0,by rw [e];exact h.c1,by rw [e];exact h.c2,by rw [e];exact h.c3⟩
theorem ZcN.set (h:ZcN w b o x ) {p:Addr} (hp:b≠p.block) (u:Value):ZcN (w.setCell p u) b o x:=by
 have e:∀ o,(w.setCell p u).cell? ⟨b,o,none⟩=w.cell? ⟨b,o,none⟩:=fun o=>Zar _ _ _ _ hp
 exact⟨by rw [e];exact h.c0,by rw [e];exact h.c1,by rw [e];exact h.c2,by rw [e];exact h.c3⟩
def ZbH (lo:Nat) (w:World) (v:Value) (Xl:List Le):Prop:=
 (∃ (a:Option Addr) (cap:Nat),v=.slice a 0 cap/\Xl=[])\/
 ∃ (b off cap:Nat),v=.slice (some ⟨b,off,none⟩) Xl.length cap/\Xl≠[]/\Xl.length<=maxLen/\b < w.heap.size/\lo<=b/\Xl.length<=cap/\
  ∀ i (h:i < Xl.length),Zeo Xl[i]/\ZcN w b (off+i*4) Xl[i]
theorem ZbH.below (h:ZbH lo w v Xl) (hb:Zw_ w w'):ZbH lo w' v Xl:=by
 rcases h with h | ⟨b,off,cap,h1,h2,h3,h4,h5,h6,h7⟩
 . exact Or.inl h
 . refine Or.inr ⟨b,off,cap,h1,h2,h3,Zk_ h4 hb.size,h5,h6,fun i hi=>?_⟩
   obtain⟨hs,hc⟩:=h7 i hi;exact⟨hs,hc.below hb h4⟩
theorem ZbH.mono {lo':Nat} (h:ZbH lo w v Xl) (hl:lo'<=lo):ZbH lo' w v Xl:=by
 rcases h with h | ⟨b,off,cap,h1,h2,h3,h4,h5,h6,h7⟩
 . exact Or.inl h
 . refine Or.inr ⟨b,off,cap,h1,h2,h3,h4,Nat.le_trans hl h5,h6,fun i hi=>?_⟩
   obtain⟨hs,hc⟩:=h7 i hi;exact⟨hs,hc⟩
theorem ZbH.set (h:ZbH lo w v Xl) {p:Addr} (hp:p.block < lo) (u:Value):ZbH lo (w.setCell p u) v Xl:=by
 rcases h with h | ⟨b,off,cap,h1,h2,h3,h4,h5,h6,h7⟩
 . exact Or.inl h
 . refine Or.inr ⟨b,off,cap,h1,h2,h3,by simpa [World.setCell] using h4,h5,h6,fun i hi=>?_⟩
   obtain⟨hs,hc⟩:=h7 i hi;exact⟨hs,hc.set (by omega) u⟩
theorem ZbH.form (h:ZbH lo w v Xl):∃ a cap,v=.slice a Xl.length cap:=by
 rcases h with ⟨a,cap,h,rfl⟩ | ⟨b,off,cap,h,_⟩
 . exact⟨a,cap,h⟩
 . exact⟨_,cap,h⟩
theorem ZbH.max (h:ZbH lo w v Xl):Xl.length<=maxLen:=by
 rcases h with ⟨a,cap,h,rfl⟩ | ⟨b,off,cap,h,_,h3,_⟩
 . exact Nat.zero_le _
 . exact h3
theorem ZbH.full (h:ZbH lo w v Xl) (hne:Xl≠[]):∃ (b off cap:Nat),v=.slice (some ⟨b,off,none⟩) Xl.length cap/\Xl.length<=maxLen/\b < w.heap.size/\Xl.length<=cap/\
 ∀ i (h:i < Xl.length),Zeo Xl[i]/\ZcN w b (off+i*4) Xl[i]:=by
 rcases h with ⟨_,_,_,h⟩ | ⟨b,off,cap,h1,_,h3,h4,_,h6,h7⟩
 . exact absurd h hne
 . exact⟨b,off,cap,h1,h3,h4,h6,h7⟩
theorem ZbH.full' {a:Option Addr}{n cap:Nat} (h:ZbH lo w (.slice a n cap) Xl) (hL:0 < Xl.length) :
 ∃ b off,a=some ⟨b,off,none⟩/\b < w.heap.size/\lo<=b/\∀ i (h:i < Xl.length),Zeo Xl[i]/\ZcN w b (off+i*4) Xl[i]:=by
 rcases h with ⟨a',cap',h,rfl⟩ | ⟨b',off',cap',h1,h2,h3,h4,h5,h6,h7⟩
 . simp at hL
 . injection h1 with e1 e2 e3
   exact⟨b',off',e1,h4,h5,h7⟩
def ZeO (Xl:List Le):Prop:=Xl.length<=1048576/\∀ i (h:i < Xl.length),Zg3 Xl[i]
def Ztv (Xl:List Le) (left r:Int):Prop:= -1<=r/\r<=left/\(0<=r->ZeO Xl)
theorem Zrx (x:Le) (left:Int) (w:World) (h0:0<=left) (h1:left<=1048576) (hz:Zeo x) :
 Calls prog 79 #[.agg #[.string x.tm,.string x.re,.int .i64 x.mo,.int .i64 x.fr],.int .i64 left] w
  fun e w'=>∃ r:Int,e=.returned (.int .i64 r)/\Zw_ w w'/\-1<=r/\r<=left/\(0<=r->Zg3 x):=by
 obtain⟨s0,s1⟩:=hz;unfold maxLen at s0 s1;go_enter func79,ntmps79;go_wp2
 all_goals go_ret
 all_goals exact⟨_,rfl,Zb_.alloc Zl_ _,by omega,by omega,fun _=>rfl⟩
theorem ZmC (x:Le) (w:World) :
 Calls prog 91 #[.agg #[.string x.tm,.string x.re,.int .i64 x.mo,.int .i64 x.fr]] w fun e w'=>e=.returned (.agg #[.string x.tm,.string x.re,.int .i64 x.mo,.int .i64 x.fr])/\Zw_ w w':=by
 go_enter func91,ntmps91;go_wp2;refine bodyPost_ret (v:=.agg #[.string x.tm,.string x.re,.int .i64 x.mo,.int .i64 x.fr]) (by simp [results,results91,go_sem]) rfl ⟨rfl,?_⟩
 repeat (refine Below.setCell ?_ (by simp) _)
 exact ((Zb_.alloc Zl_ _).alloc (by simp) _).alloc (by simp;omega) _
theorem ZoT (x:Le) (w:World) :
 Calls prog 102 #[.agg #[.string x.tm,.string x.re,.int .i64 x.mo,.int .i64 x.fr],.agg #[.string x.tm,.string x.re,.int .i64 x.mo,.int .i64 x.fr]] w fun e w'=>e=.returned (.bool true)/\Zw_ w w':=by
 go_enter func102,ntmps102;go_wp2;go_ret;exact⟨rfl,(Zb_.alloc Zl_ _).alloc (by simp) _⟩
theorem Zqa (lo:Nat) (v:Value) (Xl:List Le) (left:Int) (w:World) (h0:0<=left) (h1:left<=1048576) (hv:ZbH lo w v Xl) :
 Calls prog 32 #[v,.int .i64 left] w fun e w'=>∃ r:Int,e=.returned (.int .i64 r)/\Zw_ w w'/\Ztv Xl left r:=by
 rcases hv with ⟨a,cap,rfl,rfl⟩ | ⟨b,off,cap,rfl,hne,hm,hbw,_,_,hc⟩
 . go_enter func32,ntmps32
   go_wp2
   go_loop [1,5] (fun l i=>∃ r:Int,l=.int .i64 r/\0<=r/\r<=left/\i=.int .i64 0) (fun _ _=>0)
   case atStart=>exact⟨_,rfl,by omega,by omega,rfl⟩
   case round=>
    obtain⟨r,rfl,hr0,hr1,rfl⟩:=hrel;go_wp2;go_ret;exact⟨r,rfl,Below.refl _ _,by omega,by omega,fun _=>⟨by simp,fun i h=>by simp at h⟩⟩
 . unfold maxLen at hm
   by_cases hle:(Xl.length:Int)<=left
   . go_enter func32,ntmps32
     go_wp2
     go_loopw [1,5] (fun l i wr=>∃ (r:Int) (k:Nat),l=.int .i64 r/\0<=r/\r<=left/\i=.int .i64 k/\k<=Xl.length/\Zw_ w wr/\∀ j (hj:j < Xl.length),j < k->Zg3 Xl[j]) (fun _ i _=>Xl.length - (intOf i).toNat)
     case atStart=>exact⟨_,0,rfl,by omega,by omega,rfl,by omega,Below.refl _ _,fun j _ h=>by omega⟩
     case round=>
      obtain⟨r,k,rfl,hr0,hr1,rfl,hk,hb,hall⟩:=hrel;have HA:=Zab hall;clear hall
      by_cases hlt:k < Xl.length
      . obtain⟨hs,hc⟩:=hc k hlt
        obtain⟨c0,c1,c2,c3⟩:=hc.below hb hbw;clear hc;go_wp2_with fail;refine (Zrx _ _ _ hr0 (by omega) hs).mono ?_;rintro e w1 ⟨r1,rfl,hb1,q0,q1,q2⟩;have HQ2:=Zab q2;have hB:Hd (Zw_ w w1):=hb.trans (hb1.mono hb.size);clear hb1 c0 c1 c2 c3 hb q2
        by_cases hneg:r1 < 0
        . go_wp2
          go_ret;exact⟨-1,rfl,hB.o,by omega,by omega,fun h=>by omega⟩
        . have HL:Hd (Zg3 Xl[k]):=HQ2.o (by omega)
          clear HQ2;go_wp2;go_roundw
          case rel=>exact⟨_,k+1,rfl,by omega,by omega,by go_num,by omega,hB.o,fun j hj h=>by
                     by_cases e:j=k
                     . subst e;exact HL.o
                     . exact HA.o j hj (by omega)⟩
          . simp [intOf];omega
      . go_wp2
        go_ret;exact⟨r,rfl,hb,by omega,by omega,fun _=>⟨by omega,fun j hj=>HA.o j hj (by omega)⟩⟩
   . go_enter func32,ntmps32
     go_wp2;go_ret;exact⟨-1,rfl,Below.refl _ _,by omega,by omega,fun h=>by omega⟩
theorem ZmY (lo lo':Nat) (v v':Value) (Xl:List Le) (w:World) (hv:ZbH lo w v Xl) (hv':ZbH lo' w v' Xl) :
 Calls prog 50 #[v,v'] w fun e w'=>e=.returned (.bool true)/\Zw_ w w':=by
 by_cases hL:Xl=[]
 . subst hL
   obtain⟨a,cap,rfl⟩:=hv.form;obtain⟨a',cap',rfl⟩:=hv'.form;clear hv hv';go_enter func50,ntmps50;go_wp2
   go_loop [5] (fun i=>i=.int .i64 0) (fun _=>0)
   case atStart=>rfl
   case round=>
    subst hrel;go_wp2;go_ret;exact⟨rfl,Below.refl _ _⟩
 . obtain⟨b,off,cap,rfl,hm,hbw,_,hc⟩:=hv.full hL
   obtain⟨b',off',cap',rfl,_,hbw',_,hc'⟩:=hv'.full hL;clear hv hv';unfold maxLen at hm;go_enter func50,ntmps50;go_wp2
   go_loopw [5] (fun i wr=>∃ k:Nat,i=.int .i64 k/\k<=Xl.length/\Zw_ w wr) (fun i _=>Xl.length - (intOf i).toNat)
   case atStart=>exact⟨0,rfl,by omega,Below.refl _ _⟩
   case round=>
    obtain⟨k,rfl,hk,hb⟩:=hrel
    by_cases hlt:k < Xl.length
    . obtain⟨hs,hc⟩:=hc k hlt
      obtain⟨ht,hd⟩:=hc' k hlt;obtain⟨c0,c1,c2,c3⟩:=hc.below hb hbw;obtain⟨d0,d1,d2,d3⟩:=hd.below hb hbw';clear hc hd hs ht;have HB:=Zab hb;clear hb;go_wp2
      go_region_with (go_at_call 102;refine (ZoT _ _ ).mono ?_;rintro e w1 ⟨rfl,hb1⟩;have hB:Hd (Zw_ w w1):=(HB.o.drew).trans (hb1.mono HB.o.size);clear hb1)
      all_goals go_wp2
      all_goals go_roundw
      all_goals first
       | (case rel=>exact⟨k+1,by go_num,by omega,hB.o⟩)
       | (case measure=>simp [intOf];omega)
    . go_wp2
      go_ret;exact⟨rfl,hb⟩
theorem Tryz.info142:(prog.info? 142).map (fun i=>(i.zero,i.size,i.bytes))=some (some (.agg #[.string ⟨#[]⟩,.string ⟨#[]⟩,.int .i64 0,.int .i64 0]),4,48):=by kernel_rfl
def ZbX (wr:World) (B:Nat) (Xl:List Le) (k:Nat):Prop:=
 ∃ f,wr.rowIs B 142 (Xl.length*4) f/\∀ i (h:i < Xl.length),i < k->Zeo Xl[i]/\f (i*4)=.string Xl[i].tm/\f (i*4+1)=.string Xl[i].re/\f (i*4+2)=.int .i64 Xl[i].mo/\f (i*4+3)=.int .i64 Xl[i].fr
theorem ZbX.below (h:ZbX wr B Xl k) (hb:Below wr.heap.size wr w1):ZbX w1 B Xl k:=by
 obtain⟨f,hr,hall⟩:=h;refine⟨f,hr.of_block (hb.block B hr.lt),fun i hi hik=>?_⟩;obtain⟨hz,h0,h1,h2,h3⟩:=hall i hi hik;exact⟨hz,h0,h1,h2,h3⟩
theorem ZbX.free (h:ZbX wr B Xl k) (i:Nat):wr.frozen? ⟨B,i,none⟩=false:=by
 obtain⟨f,hr,_⟩:=h;exact hr.frozen i
theorem ZbX.there (h:ZbX wr B Xl k) (i:Nat) (hi:i < Xl.length*4):∃ v,wr.cell? ⟨B,i,none⟩=some v:=by
 obtain⟨f,hr,_⟩:=h;exact⟨_,hr.cell hi⟩
theorem ZbX.step (h:ZbX w1 B Xl k) (hk:k < Xl.length) (hz:Zeo Xl[k]) :
 ZbX ((((w1.setCell ⟨B,k*4,none⟩ (.string Xl[k].tm)).setCell ⟨B,k*4+1,none⟩ (.string Xl[k].re)).setCell ⟨B,k*4+2,none⟩ (.int .i64 Xl[k].mo)).setCell ⟨B,k*4+3,none⟩ (.int .i64 Xl[k].fr)) B Xl (k+1):=by
 obtain⟨f,hr,hall⟩:=h;refine⟨_,((((hr.set _ _).set _ _).set _ _).set _ _),fun i hi hik=>?_⟩
 by_cases e:i=k
 . subst e
   refine⟨hz,by simp,by simp,by simp,by simp⟩
 . obtain⟨hz',h0,h1,h2,h3⟩:=hall i hi (by omega)
   refine⟨hz',?_,?_,?_,?_⟩
   . rw [if_neg (by omega),if_neg (by omega),if_neg (by omega),if_neg (by omega)];exact h0
   . rw [if_neg (by omega),if_neg (by omega),if_neg (by omega),if_neg (by omega)];exact h1
   . rw [if_neg (by omega),if_neg (by omega),if_neg (by omega),if_neg (by omega)];exact h2
   . rw [if_neg (by omega),if_neg (by omega),if_neg (by omega),if_neg (by omega)];exact h3
theorem ZbX.done (h:ZbX wr B Xl k) (hk:Xl.length<=k) (hne:Xl≠[]) (hm:Xl.length<=maxLen):ZbH B wr (.slice (some ⟨B,0,none⟩) Xl.length Xl.length) Xl:=by
 obtain⟨f,hr,hall⟩:=h;refine Or.inr ⟨B,0,Xl.length,rfl,hne,hm,hr.lt,Nat.le_refl _,Nat.le_refl _,fun i hi=>?_⟩;obtain⟨hz,h0,h1,h2,h3⟩:=hall i hi (by omega);rw [Nat.zero_add];exact⟨hz,⟨by rw [hr.cell (by omega),h0],by rw [hr.cell (by omega),h1],by rw [hr.cell (by omega),h2],by rw [hr.cell (by omega),h3]⟩⟩
theorem ZbX.new (w:World) (Xl:List Le) (z:Array Value):ZbX (w.alloc (.cells (madeCells z (Xl.length*4)) 142)) w.heap.size Xl 0:=by
 refine⟨fun i=>(madeCells z (Xl.length*4)).getD i default,?_,fun i _ h=>by omega⟩;have:=World.rowIs_alloc w (madeCells z (Xl.length*4)) 142 (fun i=>(madeCells z (Xl.length*4)).getD i default) (fun i hi=>by simp [Array.getD,hi])
 rwa [size_madeCells] at this
theorem Zqp (lo:Nat) (v:Value) (Xl:List Le) (w:World) (hv:ZbH lo w v Xl) (hn:ZeO Xl) :
 Calls prog 41 #[v] w fun e w'=>∃ v',e=.returned v'/\Zw_ w w'/\ZbH w.heap.size w' v' Xl:=by
 obtain⟨i0,hi,hz0,hz1,hz2⟩:=info_parts Tryz.info142;have hn1:=hn.1;clear hn
 by_cases hL:Xl=[]
 . subst hL
   obtain⟨a,cap,rfl⟩:=hv.form;clear hv
   have hmk:∀ u:World,(Instr.makeSlice 45 (.int .i64 0) (.int .i64 0)).run prog u=.ok (.slice (some ⟨u.heap.size,0,none⟩) 0 0) (u.alloc (.cells (madeCells (Value.cells (.agg #[.string ⟨#[]⟩,.string ⟨#[]⟩,.int .i64 0,.int .i64 0])) 0) 142)):=fun u=>by
    have h:=run_make (P:=prog) u 45 142 i0 _ underlying45 hi hz0 .i64 .i64 0 0 (by omega) (by omega) (by omega) (by omega)
    simpa [hz1] using h
   go_enter func41,ntmps41;go_wp2
   go_loop [4] (fun i=>i=.int .i64 0) (fun _=>0)
   case atStart=>rfl
   case round=>
    subst hrel;go_wp2;go_ret;exact⟨_,rfl,Zb_.alloc Zl_ _,Or.inl ⟨_,_,rfl,rfl⟩⟩
 . obtain⟨b,off,cap,rfl,hm,hbw,_,hc⟩:=hv.full hL
   clear hv;have HM:Hd (Xl.length<=maxLen):=hm;unfold maxLen at hm
   have hmk:∀ u:World,(Instr.makeSlice 45 (.int .i64 (Xl.length:Int)) (.int .i64 (Xl.length:Int))).run prog u=.ok (.slice (some ⟨u.heap.size,0,none⟩) Xl.length Xl.length) (u.alloc (.cells (madeCells (Value.cells (.agg #[.string ⟨#[]⟩,.string ⟨#[]⟩,.int .i64 0,.int .i64 0])) (Xl.length*4)) 142)):=fun u=>by
    have h:=run_make (P:=prog) u 45 142 i0 _ underlying45 hi hz0 .i64 .i64 Xl.length Xl.length (by omega) (by omega) (by rw [hz2];omega) (by omega);rw [hz1] at h
    simpa using h
   clear hi hz0 hz1 hz2;go_enter func41,ntmps41;go_wp2;clear hmk
   go_loopw [4] (fun i wr=>∃ k:Nat,i=.int .i64 k/\k<=Xl.length/\Zw_ w wr/\ZbX wr w.heap.size Xl k) (fun i _=>Xl.length - (intOf i).toNat)
   case atStart=>exact⟨0,rfl,by omega,Zb_.alloc Zl_ _,ZbX.new w Xl _⟩
   case round=>
    obtain⟨k,rfl,hk,hb,hf⟩:=hrel
    by_cases hlt:k < Xl.length
    . obtain⟨hs,hc⟩:=hc k hlt
      obtain⟨c0,c1,c2,c3⟩:=hc.below hb hbw
      have hBl:w.heap.size < wr.heap.size:=by
       obtain⟨_,hr,_⟩:=hf;exact hr.lt
      clear hc;go_wp2_with fail;refine (ZmC _ _ ).mono ?_;rintro e w1 ⟨rfl,hb1⟩;have hf1:=hf.below hb1;have HST:=Zab (hf1.step hlt hs );have hB:Hd (Zw_ w w1):=hb.trans (hb1.mono hb.size);have hfr:=hf1.free;obtain⟨o0,ho0⟩:=hf1.there (k*4) (by omega);obtain⟨o1,ho1⟩:=hf1.there (k*4+1) (by omega);obtain⟨o2,ho2⟩:=hf1.there (k*4+2) (by omega);obtain⟨o3,ho3⟩:=hf1.there (k*4+3) (by omega);clear hf hf1 hb1 hb c0 c1 c2 c3;go_wp2;go_roundw
      . 
       exact⟨k+1,by go_num,by omega,((((hB.o.setCell Zl_ _).setCell Zl_ _).setCell Zl_ _).setCell Zl_ _),HST.o⟩
      . simp [intOf];omega
    . go_wp2
      go_ret;exact⟨_,rfl,hb,hf.done (by omega) hL HM.o⟩
end
variable {w w' wr w1:World} {b o lo B k:Nat} {v:Value}
structure Pu where
 dr:Zy_
 tm:Zy_
 re:Zy_
 am:Int
 un:Int
variable {x:Pu} {Xl:List Pu}
structure Zer (x:Pu):Prop where
 s0:x.dr.size<=maxLen
 s1:x.tm.size<=maxLen
 s2:x.re.size<=maxLen
def Zg5 (x:Pu):Prop:=x=x
structure ZcO (w:World) (b o:Nat) (x:Pu):Prop where
 c0:w.cell? ⟨b,o,none⟩=some (.string x.dr)
 c1:w.cell? ⟨b,o+1,none⟩=some (.string x.tm)
 c2:w.cell? ⟨b,o+2,none⟩=some (.string x.re)
 c3:w.cell? ⟨b,o+3,none⟩=some (.int .i64 x.am)
 c4:w.cell? ⟨b,o+4,none⟩=some (.int .i64 x.un)
theorem ZcO.below (h:ZcO w b o x ) {m:Nat} (hb:Below m w w') (hlt:b < m):ZcO w' b o x:=by
 have e:∀ o,w'.cell? ⟨b,o,none⟩=w.cell? ⟨b,o,none⟩:=fun o=>hb.cell (p:=⟨b,o,none⟩) hlt
 exact⟨by rw [e];exact h.c0,by rw [e];exact h.c1,by rw [e];exact h.c2,by rw [e];exact h.c3,by rw [e];exact h.c4⟩
theorem ZcO.set (h:ZcO w b o x ) {p:Addr} (hp:b≠p.block) (u:Value):ZcO (w.setCell p u) b o x:=by
 have e:∀ o,(w.setCell p u).cell? ⟨b,o,none⟩=w.cell? ⟨b,o,none⟩:=fun o=>Zar _ _ _ _ hp
 exact⟨by rw [e];exact h.c0,by rw [e];exact h.c1,by rw [e];exact h.c2,by rw [e];exact h.c3,by rw [e];exact h.c4⟩
def Zb7 (lo:Nat) (w:World) (v:Value) (Xl:List Pu):Prop:=
 (∃ (a:Option Addr) (cap:Nat),v=.slice a 0 cap/\Xl=[])\/
 ∃ (b off cap:Nat),v=.slice (some ⟨b,off,none⟩) Xl.length cap/\Xl≠[]/\Xl.length<=maxLen/\b < w.heap.size/\lo<=b/\Xl.length<=cap/\
  ∀ i (h:i < Xl.length),Zer Xl[i]/\ZcO w b (off+i*5) Xl[i]
theorem Zb7.below (h:Zb7 lo w v Xl) (hb:Zw_ w w'):Zb7 lo w' v Xl:=by
 rcases h with h | ⟨b,off,cap,h1,h2,h3,h4,h5,h6,h7⟩
 . exact Or.inl h
 . refine Or.inr ⟨b,off,cap,h1,h2,h3,Zk_ h4 hb.size,h5,h6,fun i hi=>?_⟩
   obtain⟨hs,hc⟩:=h7 i hi;exact⟨hs,hc.below hb h4⟩
theorem Zb7.mono {lo':Nat} (h:Zb7 lo w v Xl) (hl:lo'<=lo):Zb7 lo' w v Xl:=by
 rcases h with h | ⟨b,off,cap,h1,h2,h3,h4,h5,h6,h7⟩
 . exact Or.inl h
 . refine Or.inr ⟨b,off,cap,h1,h2,h3,h4,Nat.le_trans hl h5,h6,fun i hi=>?_⟩
   obtain⟨hs,hc⟩:=h7 i hi;exact⟨hs,hc⟩
theorem Zb7.set (h:Zb7 lo w v Xl) {p:Addr} (hp:p.block < lo) (u:Value):Zb7 lo (w.setCell p u) v Xl:=by
 rcases h with h | ⟨b,off,cap,h1,h2,h3,h4,h5,h6,h7⟩
 . exact Or.inl h
 . refine Or.inr ⟨b,off,cap,h1,h2,h3,by simpa [World.setCell] using h4,h5,h6,fun i hi=>?_⟩
   obtain⟨hs,hc⟩:=h7 i hi;exact⟨hs,hc.set (by omega) u⟩
theorem Zb7.form (h:Zb7 lo w v Xl):∃ a cap,v=.slice a Xl.length cap:=by
 rcases h with ⟨a,cap,h,rfl⟩ | ⟨b,off,cap,h,_⟩
 . exact⟨a,cap,h⟩
 . exact⟨_,cap,h⟩
theorem Zb7.max (h:Zb7 lo w v Xl):Xl.length<=maxLen:=by
 rcases h with ⟨a,cap,h,rfl⟩ | ⟨b,off,cap,h,_,h3,_⟩
 . exact Nat.zero_le _
 . exact h3
theorem Zb7.full (h:Zb7 lo w v Xl) (hne:Xl≠[]):∃ (b off cap:Nat),v=.slice (some ⟨b,off,none⟩) Xl.length cap/\Xl.length<=maxLen/\b < w.heap.size/\Xl.length<=cap/\
 ∀ i (h:i < Xl.length),Zer Xl[i]/\ZcO w b (off+i*5) Xl[i]:=by
 rcases h with ⟨_,_,_,h⟩ | ⟨b,off,cap,h1,_,h3,h4,_,h6,h7⟩
 . exact absurd h hne
 . exact⟨b,off,cap,h1,h3,h4,h6,h7⟩
theorem Zb7.full' {a:Option Addr}{n cap:Nat} (h:Zb7 lo w (.slice a n cap) Xl) (hL:0 < Xl.length) :
 ∃ b off,a=some ⟨b,off,none⟩/\b < w.heap.size/\lo<=b/\∀ i (h:i < Xl.length),Zer Xl[i]/\ZcO w b (off+i*5) Xl[i]:=by
 rcases h with ⟨a',cap',h,rfl⟩ | ⟨b',off',cap',h1,h2,h3,h4,h5,h6,h7⟩
 . simp at hL
 . injection h1 with e1 e2 e3
   exact⟨b',off',e1,h4,h5,h7⟩
def ZeP (Xl:List Pu):Prop:=Xl.length<=1048576/\∀ i (h:i < Xl.length),Zg5 Xl[i]
def Zty (Xl:List Pu) (left r:Int):Prop:= -1<=r/\r<=left/\(0<=r->ZeP Xl)
theorem Zrz (x:Pu) (left:Int) (w:World) (h0:0<=left) (h1:left<=1048576) (hz:Zer x) :
 Calls prog 80 #[.agg #[.string x.dr,.string x.tm,.string x.re,.int .i64 x.am,.int .i64 x.un],.int .i64 left] w
  fun e w'=>∃ r:Int,e=.returned (.int .i64 r)/\Zw_ w w'/\-1<=r/\r<=left/\(0<=r->Zg5 x):=by
 obtain⟨s0,s1,s2⟩:=hz;unfold maxLen at s0 s1 s2;go_enter func80,ntmps80;go_wp2
 all_goals go_ret
 all_goals exact⟨_,rfl,Zb_.alloc Zl_ _,by omega,by omega,fun _=>rfl⟩
theorem ZmD (x:Pu) (w:World) :
 Calls prog 92 #[.agg #[.string x.dr,.string x.tm,.string x.re,.int .i64 x.am,.int .i64 x.un]] w fun e w'=>e=.returned (.agg #[.string x.dr,.string x.tm,.string x.re,.int .i64 x.am,.int .i64 x.un])/\Zw_ w w':=by
 go_enter func92,ntmps92;go_wp2;refine bodyPost_ret (v:=.agg #[.string x.dr,.string x.tm,.string x.re,.int .i64 x.am,.int .i64 x.un]) (by simp [results,results92,go_sem]) rfl ⟨rfl,?_⟩
 repeat (refine Below.setCell ?_ (by simp) _)
 exact ((Zb_.alloc Zl_ _).alloc (by simp) _).alloc (by simp;omega) _
theorem ZoV (x:Pu) (w:World) :
 Calls prog 103 #[.agg #[.string x.dr,.string x.tm,.string x.re,.int .i64 x.am,.int .i64 x.un],.agg #[.string x.dr,.string x.tm,.string x.re,.int .i64 x.am,.int .i64 x.un]] w fun e w'=>e=.returned (.bool true)/\Zw_ w w':=by
 go_enter func103,ntmps103;go_wp2;go_ret;exact⟨rfl,(Zb_.alloc Zl_ _).alloc (by simp) _⟩
theorem Zqe (lo:Nat) (v:Value) (Xl:List Pu) (left:Int) (w:World) (h0:0<=left) (h1:left<=1048576) (hv:Zb7 lo w v Xl) :
 Calls prog 33 #[v,.int .i64 left] w fun e w'=>∃ r:Int,e=.returned (.int .i64 r)/\Zw_ w w'/\Zty Xl left r:=by
 rcases hv with ⟨a,cap,rfl,rfl⟩ | ⟨b,off,cap,rfl,hne,hm,hbw,_,_,hc⟩
 . go_enter func33,ntmps33
   go_wp2
   go_loop [1,5] (fun l i=>∃ r:Int,l=.int .i64 r/\0<=r/\r<=left/\i=.int .i64 0) (fun _ _=>0)
   case atStart=>exact⟨_,rfl,by omega,by omega,rfl⟩
   case round=>
    obtain⟨r,rfl,hr0,hr1,rfl⟩:=hrel;go_wp2;go_ret;exact⟨r,rfl,Below.refl _ _,by omega,by omega,fun _=>⟨by simp,fun i h=>by simp at h⟩⟩
 . unfold maxLen at hm
   by_cases hle:(Xl.length:Int)<=left
   . go_enter func33,ntmps33
     go_wp2
     go_loopw [1,5] (fun l i wr=>∃ (r:Int) (k:Nat),l=.int .i64 r/\0<=r/\r<=left/\i=.int .i64 k/\k<=Xl.length/\Zw_ w wr/\∀ j (hj:j < Xl.length),j < k->Zg5 Xl[j]) (fun _ i _=>Xl.length - (intOf i).toNat)
     case atStart=>exact⟨_,0,rfl,by omega,by omega,rfl,by omega,Below.refl _ _,fun j _ h=>by omega⟩
     case round=>
      obtain⟨r,k,rfl,hr0,hr1,rfl,hk,hb,hall⟩:=hrel;have HA:=Zab hall;clear hall
      by_cases hlt:k < Xl.length
      . obtain⟨hs,hc⟩:=hc k hlt
        obtain⟨c0,c1,c2,c3,c4⟩:=hc.below hb hbw;clear hc;go_wp2_with fail;refine (Zrz _ _ _ hr0 (by omega) hs).mono ?_;rintro e w1 ⟨r1,rfl,hb1,q0,q1,q2⟩;have HQ2:=Zab q2;have hB:Hd (Zw_ w w1):=hb.trans (hb1.mono hb.size);clear hb1 c0 c1 c2 c3 c4 hb q2
        by_cases hneg:r1 < 0
        . go_wp2
          go_ret;exact⟨-1,rfl,hB.o,by omega,by omega,fun h=>by omega⟩
        . have HL:Hd (Zg5 Xl[k]):=HQ2.o (by omega)
          clear HQ2;go_wp2;go_roundw
          case rel=>exact⟨_,k+1,rfl,by omega,by omega,by go_num,by omega,hB.o,fun j hj h=>by
                     by_cases e:j=k
                     . subst e;exact HL.o
                     . exact HA.o j hj (by omega)⟩
          . simp [intOf];omega
      . go_wp2
        go_ret;exact⟨r,rfl,hb,by omega,by omega,fun _=>⟨by omega,fun j hj=>HA.o j hj (by omega)⟩⟩
   . go_enter func33,ntmps33
     go_wp2;go_ret;exact⟨-1,rfl,Below.refl _ _,by omega,by omega,fun h=>by omega⟩
theorem Zm2 (lo lo':Nat) (v v':Value) (Xl:List Pu) (w:World) (hv:Zb7 lo w v Xl) (hv':Zb7 lo' w v' Xl) :
 Calls prog 51 #[v,v'] w fun e w'=>e=.returned (.bool true)/\Zw_ w w':=by
 by_cases hL:Xl=[]
 . subst hL
   obtain⟨a,cap,rfl⟩:=hv.form;obtain⟨a',cap',rfl⟩:=hv'.form;clear hv hv';go_enter func51,ntmps51;go_wp2
   go_loop [5] (fun i=>i=.int .i64 0) (fun _=>0)
   case atStart=>rfl
   case round=>
    subst hrel;go_wp2;go_ret;exact⟨rfl,Below.refl _ _⟩
 . obtain⟨b,off,cap,rfl,hm,hbw,_,hc⟩:=hv.full hL
   obtain⟨b',off',cap',rfl,_,hbw',_,hc'⟩:=hv'.full hL;clear hv hv';unfold maxLen at hm;go_enter func51,ntmps51;go_wp2
   go_loopw [5] (fun i wr=>∃ k:Nat,i=.int .i64 k/\k<=Xl.length/\Zw_ w wr) (fun i _=>Xl.length - (intOf i).toNat)
   case atStart=>exact⟨0,rfl,by omega,Below.refl _ _⟩
   case round=>
    obtain⟨k,rfl,hk,hb⟩:=hrel
    by_cases hlt:k < Xl.length
    . obtain⟨hs,hc⟩:=hc k hlt
      obtain⟨ht,hd⟩:=hc' k hlt;obtain⟨c0,c1,c2,c3,c4⟩:=hc.below hb hbw;obtain⟨d0,d1,d2,d3,d4⟩:=hd.below hb hbw';clear hc hd hs ht;have HB:=Zab hb;clear hb;go_wp2
      go_region_with (go_at_call 103;refine (ZoV _ _ ).mono ?_;rintro e w1 ⟨rfl,hb1⟩;have hB:Hd (Zw_ w w1):=(HB.o.drew).trans (hb1.mono HB.o.size);clear hb1)
      all_goals go_wp2
      all_goals go_roundw
      all_goals first
       | (case rel=>exact⟨k+1,by go_num,by omega,hB.o⟩)
       | (case measure=>simp [intOf];omega)
    . go_wp2
      go_ret;exact⟨rfl,hb⟩
theorem Tryz.info144:(prog.info? 144).map (fun i=>(i.zero,i.size,i.bytes))=some (some (.agg #[.string ⟨#[]⟩,.string ⟨#[]⟩,.string ⟨#[]⟩,.int .i64 0,.int .i64 0]),5,64):=by kernel_rfl
def ZbZ (wr:World) (B:Nat) (Xl:List Pu) (k:Nat):Prop:=
 ∃ f,wr.rowIs B 144 (Xl.length*5) f/\∀ i (h:i < Xl.length),i < k->Zer Xl[i]/\f (i*5)=.string Xl[i].dr/\f (i*5+1)=.string Xl[i].tm/\f (i*5+2)=.string Xl[i].re/\f (i*5+3)=.int .i64 Xl[i].am/\f (i*5+4)=.int .i64 Xl[i].un
theorem ZbZ.below (h:ZbZ wr B Xl k) (hb:Below wr.heap.size wr w1):ZbZ w1 B Xl k:=by
 obtain⟨f,hr,hall⟩:=h;refine⟨f,hr.of_block (hb.block B hr.lt),fun i hi hik=>?_⟩;obtain⟨hz,h0,h1,h2,h3,h4⟩:=hall i hi hik;exact⟨hz,h0,h1,h2,h3,h4⟩
theorem ZbZ.free (h:ZbZ wr B Xl k) (i:Nat):wr.frozen? ⟨B,i,none⟩=false:=by
 obtain⟨f,hr,_⟩:=h;exact hr.frozen i
theorem ZbZ.there (h:ZbZ wr B Xl k) (i:Nat) (hi:i < Xl.length*5):∃ v,wr.cell? ⟨B,i,none⟩=some v:=by
 obtain⟨f,hr,_⟩:=h;exact⟨_,hr.cell hi⟩
theorem ZbZ.step (h:ZbZ w1 B Xl k) (hk:k < Xl.length) (hz:Zer Xl[k]) :
 ZbZ (((((w1.setCell ⟨B,k*5,none⟩ (.string Xl[k].dr)).setCell ⟨B,k*5+1,none⟩ (.string Xl[k].tm)).setCell ⟨B,k*5+2,none⟩ (.string Xl[k].re)).setCell ⟨B,k*5+3,none⟩ (.int .i64 Xl[k].am)).setCell ⟨B,k*5+4,none⟩ (.int .i64 Xl[k].un)) B Xl (k+1):=by
 obtain⟨f,hr,hall⟩:=h;refine⟨_,(((((hr.set _ _).set _ _).set _ _).set _ _).set _ _),fun i hi hik=>?_⟩
 by_cases e:i=k
 . subst e
   refine⟨hz,by simp,by simp,by simp,by simp,by simp⟩
 . obtain⟨hz',h0,h1,h2,h3,h4⟩:=hall i hi (by omega)
   refine⟨hz',?_,?_,?_,?_,?_⟩
   . rw [if_neg (by omega),if_neg (by omega),if_neg (by omega),if_neg (by omega),if_neg (by omega)];exact h0
   . rw [if_neg (by omega),if_neg (by omega),if_neg (by omega),if_neg (by omega),if_neg (by omega)];exact h1
   . rw [if_neg (by omega),if_neg (by omega),if_neg (by omega),if_neg (by omega),if_neg (by omega)];exact h2
   . rw [if_neg (by omega),if_neg (by omega),if_neg (by omega),if_neg (by omega),if_neg (by omega)];exact h3
   . rw [if_neg (by omega),if_neg (by omega),if_neg (by omega),if_neg (by omega),if_neg (by omega)];exact h4
theorem ZbZ.done (h:ZbZ wr B Xl k) (hk:Xl.length<=k) (hne:Xl≠[]) (hm:Xl.length<=maxLen):Zb7 B wr (.slice (some ⟨B,0,none⟩) Xl.length Xl.length) Xl:=by
 obtain⟨f,hr,hall⟩:=h;refine Or.inr ⟨B,0,Xl.length,rfl,hne,hm,hr.lt,Nat.le_refl _,Nat.le_refl _,fun i hi=>?_⟩;obtain⟨hz,h0,h1,h2,h3,h4⟩:=hall i hi (by omega);rw [Nat.zero_add];exact⟨hz,⟨by rw [hr.cell (by omega),h0],by rw [hr.cell (by omega),h1],by rw [hr.cell (by omega),h2],by rw [hr.cell (by omega),h3],by rw [hr.cell (by omega),h4]⟩⟩
theorem ZbZ.new (w:World) (Xl:List Pu) (z:Array Value):ZbZ (w.alloc (.cells (madeCells z (Xl.length*5)) 144)) w.heap.size Xl 0:=by
 refine⟨fun i=>(madeCells z (Xl.length*5)).getD i default,?_,fun i _ h=>by omega⟩;have:=World.rowIs_alloc w (madeCells z (Xl.length*5)) 144 (fun i=>(madeCells z (Xl.length*5)).getD i default) (fun i hi=>by simp [Array.getD,hi])
 rwa [size_madeCells] at this
theorem Zqs (lo:Nat) (v:Value) (Xl:List Pu) (w:World) (hv:Zb7 lo w v Xl) (hn:ZeP Xl) :
 Calls prog 42 #[v] w fun e w'=>∃ v',e=.returned v'/\Zw_ w w'/\Zb7 w.heap.size w' v' Xl:=by
 obtain⟨i0,hi,hz0,hz1,hz2⟩:=info_parts Tryz.info144;have hn1:=hn.1;clear hn
 by_cases hL:Xl=[]
 . subst hL
   obtain⟨a,cap,rfl⟩:=hv.form;clear hv
   have hmk:∀ u:World,(Instr.makeSlice 46 (.int .i64 0) (.int .i64 0)).run prog u=.ok (.slice (some ⟨u.heap.size,0,none⟩) 0 0) (u.alloc (.cells (madeCells (Value.cells (.agg #[.string ⟨#[]⟩,.string ⟨#[]⟩,.string ⟨#[]⟩,.int .i64 0,.int .i64 0])) 0) 144)):=fun u=>by
    have h:=run_make (P:=prog) u 46 144 i0 _ underlying46 hi hz0 .i64 .i64 0 0 (by omega) (by omega) (by omega) (by omega)
    simpa [hz1] using h
   go_enter func42,ntmps42;go_wp2
   go_loop [4] (fun i=>i=.int .i64 0) (fun _=>0)
   case atStart=>rfl
   case round=>
    subst hrel;go_wp2;go_ret;exact⟨_,rfl,Zb_.alloc Zl_ _,Or.inl ⟨_,_,rfl,rfl⟩⟩
 . obtain⟨b,off,cap,rfl,hm,hbw,_,hc⟩:=hv.full hL
   clear hv;have HM:Hd (Xl.length<=maxLen):=hm;unfold maxLen at hm
   have hmk:∀ u:World,(Instr.makeSlice 46 (.int .i64 (Xl.length:Int)) (.int .i64 (Xl.length:Int))).run prog u=.ok (.slice (some ⟨u.heap.size,0,none⟩) Xl.length Xl.length) (u.alloc (.cells (madeCells (Value.cells (.agg #[.string ⟨#[]⟩,.string ⟨#[]⟩,.string ⟨#[]⟩,.int .i64 0,.int .i64 0])) (Xl.length*5)) 144)):=fun u=>by
    have h:=run_make (P:=prog) u 46 144 i0 _ underlying46 hi hz0 .i64 .i64 Xl.length Xl.length (by omega) (by omega) (by rw [hz2];omega) (by omega);rw [hz1] at h
    simpa using h
   clear hi hz0 hz1 hz2;go_enter func42,ntmps42;go_wp2;clear hmk
   go_loopw [4] (fun i wr=>∃ k:Nat,i=.int .i64 k/\k<=Xl.length/\Zw_ w wr/\ZbZ wr w.heap.size Xl k) (fun i _=>Xl.length - (intOf i).toNat)
   case atStart=>exact⟨0,rfl,by omega,Zb_.alloc Zl_ _,ZbZ.new w Xl _⟩
   case round=>
    obtain⟨k,rfl,hk,hb,hf⟩:=hrel
    by_cases hlt:k < Xl.length
    . obtain⟨hs,hc⟩:=hc k hlt
      obtain⟨c0,c1,c2,c3,c4⟩:=hc.below hb hbw
      have hBl:w.heap.size < wr.heap.size:=by
       obtain⟨_,hr,_⟩:=hf;exact hr.lt
      clear hc;go_wp2_with fail;refine (ZmD _ _ ).mono ?_;rintro e w1 ⟨rfl,hb1⟩;have hf1:=hf.below hb1;have HST:=Zab (hf1.step hlt hs );have hB:Hd (Zw_ w w1):=hb.trans (hb1.mono hb.size);have hfr:=hf1.free;obtain⟨o0,ho0⟩:=hf1.there (k*5) (by omega);obtain⟨o1,ho1⟩:=hf1.there (k*5+1) (by omega);obtain⟨o2,ho2⟩:=hf1.there (k*5+2) (by omega);obtain⟨o3,ho3⟩:=hf1.there (k*5+3) (by omega);obtain⟨o4,ho4⟩:=hf1.there (k*5+4) (by omega);clear hf hf1 hb1 hb c0 c1 c2 c3 c4;go_wp2;go_roundw
      . 
       exact⟨k+1,by go_num,by omega,(((((hB.o.setCell Zl_ _).setCell Zl_ _).setCell Zl_ _).setCell Zl_ _).setCell Zl_ _),HST.o⟩
      . simp [intOf];omega
    . go_wp2
      go_ret;exact⟨_,rfl,hb,hf.done (by omega) hL HM.o⟩
end Go.Proofs.YtmappejlmapboaaGreat
