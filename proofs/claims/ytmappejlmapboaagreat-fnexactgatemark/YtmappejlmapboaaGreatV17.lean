import Derived.Test.YtmappejlmapboaaGreatV15
set_option maxHeartbeats 16000000
set_option maxRecDepth 100000
open Go.Proofs.Tryz
namespace Go.Proofs.YtmappejlmapboaaGreat
open Go.RowKit Go.Deep
section
variable {w w' wr w1:World} {b o lo B k:Nat} {v:Value}
structure Pu where
 dr:Zy_
 tm:Zy_
 re:Zy_
 am:Int
 un:Int
variable {x:Pu} {Xl:List Pu}
structure ZdX (x:Pu):Prop where
 s0:x.dr.size<=maxLen
 s1:x.tm.size<=maxLen
 s2:x.re.size<=maxLen
def Zgv (x:Pu):Prop:=x=x
structure Zcz (w:World) (b o:Nat) (x:Pu):Prop where
 c0:w.cell? ⟨b,o,none⟩=some (.string x.dr)
 c1:w.cell? ⟨b,o+1,none⟩=some (.string x.tm)
 c2:w.cell? ⟨b,o+2,none⟩=some (.string x.re)
 c3:w.cell? ⟨b,o+3,none⟩=some (.int .i64 x.am)
 c4:w.cell? ⟨b,o+4,none⟩=some (.int .i64 x.un)
theorem Zcz.below (h:Zcz w b o x ) {m:Nat} (hb:Below m w w') (hlt:b < m):Zcz w' b o x:=by
 have e:∀ o,w'.cell? ⟨b,o,none⟩=w.cell? ⟨b,o,none⟩:=fun o=>hb.cell (p:=⟨b,o,none⟩) hlt
 exact⟨by rw [e];exact h.c0,by rw [e];exact h.c1,by rw [e];exact h.c2,by rw [e];exact h.c3,by rw [e];exact h.c4⟩
theorem Zcz.set (h:Zcz w b o x ) {p:Addr} (hp:b≠p.block) (u:Value):Zcz (w.setCell p u) b o x:=by
 have e:∀ o,(w.setCell p u).cell? ⟨b,o,none⟩=w.cell? ⟨b,o,none⟩:=fun o=>Zar _ _ _ _ hp
 exact⟨by rw [e];exact h.c0,by rw [e];exact h.c1,by rw [e];exact h.c2,by rw [e];exact h.c3,by rw [e];exact h.c4⟩
def ZbV (lo:Nat) (w:World) (v:Value) (Xl:List Pu):Prop:=
 (∃ (a:Option Addr) (cap:Nat),v=.slice a 0 cap/\Xl=[])\/
 ∃ (b off cap:Nat),v=.slice (some ⟨b,off,none⟩) Xl.length cap/\Xl≠[]/\Xl.length<=maxLen/\b < w.heap.size/\lo<=b/\Xl.length<=cap/\
  ∀ i (h:i < Xl.length),ZdX Xl[i]/\Zcz w b (off+i*5) Xl[i]
theorem ZbV.below (h:ZbV lo w v Xl) (hb:Zw_ w w'):ZbV lo w' v Xl:=by
 rcases h with h | ⟨b,off,cap,h1,h2,h3,h4,h5,h6,h7⟩
 . exact Or.inl h
 . refine Or.inr ⟨b,off,cap,h1,h2,h3,Zk_ h4 hb.size,h5,h6,fun i hi=>?_⟩
   obtain⟨hs,hc⟩:=h7 i hi;exact⟨hs,hc.below hb h4⟩
theorem ZbV.mono {lo':Nat} (h:ZbV lo w v Xl) (hl:lo'<=lo):ZbV lo' w v Xl:=by
 rcases h with h | ⟨b,off,cap,h1,h2,h3,h4,h5,h6,h7⟩
 . exact Or.inl h
 . refine Or.inr ⟨b,off,cap,h1,h2,h3,h4,Nat.le_trans hl h5,h6,fun i hi=>?_⟩
   obtain⟨hs,hc⟩:=h7 i hi;exact⟨hs,hc⟩
theorem ZbV.set (h:ZbV lo w v Xl) {p:Addr} (hp:p.block < lo) (u:Value):ZbV lo (w.setCell p u) v Xl:=by
 rcases h with h | ⟨b,off,cap,h1,h2,h3,h4,h5,h6,h7⟩
 . exact Or.inl h
 . refine Or.inr ⟨b,off,cap,h1,h2,h3,by simpa [World.setCell] using h4,h5,h6,fun i hi=>?_⟩
   obtain⟨hs,hc⟩:=h7 i hi;exact⟨hs,hc.set (by omega) u⟩
theorem ZbV.form (h:ZbV lo w v Xl):∃ a cap,v=.slice a Xl.length cap:=by
 rcases h with ⟨a,cap,h,rfl⟩ | ⟨b,off,cap,h,_⟩
 . exact⟨a,cap,h⟩
 . exact⟨_,cap,h⟩
theorem ZbV.max (h:ZbV lo w v Xl):Xl.length<=maxLen:=by
 rcases h with ⟨a,cap,h,rfl⟩ | ⟨b,off,cap,h,_,h3,_⟩
 . exact Nat.zero_le _
 . exact h3
theorem ZbV.full (h:ZbV lo w v Xl) (hne:Xl≠[]):∃ (b off cap:Nat),v=.slice (some ⟨b,off,none⟩) Xl.length cap/\Xl.length<=maxLen/\b < w.heap.size/\Xl.length<=cap/\
 ∀ i (h:i < Xl.length),ZdX Xl[i]/\Zcz w b (off+i*5) Xl[i]:=by
 rcases h with ⟨_,_,_,h⟩ | ⟨b,off,cap,h1,_,h3,h4,_,h6,h7⟩
 . exact absurd h hne
 . exact⟨b,off,cap,h1,h3,h4,h6,h7⟩
theorem ZbV.full' {a:Option Addr}{n cap:Nat} (h:ZbV lo w (.slice a n cap) Xl) (hL:0 < Xl.length) :
 ∃ b off,a=some ⟨b,off,none⟩/\b < w.heap.size/\lo<=b/\∀ i (h:i < Xl.length),ZdX Xl[i]/\Zcz w b (off+i*5) Xl[i]:=by
 rcases h with ⟨a',cap',h,rfl⟩ | ⟨b',off',cap',h1,h2,h3,h4,h5,h6,h7⟩
 . simp at hL
 . injection h1 with e1 e2 e3
   exact⟨b',off',e1,h4,h5,h7⟩
def Zek (Xl:List Pu):Prop:=Xl.length<=1048576/\∀ i (h:i < Xl.length),Zgv Xl[i]
def Zr9 (Xl:List Pu) (left r:Int):Prop:= -1<=r/\r<=left/\(0<=r->Zek Xl)
theorem Zp1 (x:Pu) (left:Int) (w:World) (h0:0<=left) (h1:left<=1048576) (hz:ZdX x) :
 Calls prog 80 #[.agg #[.string x.dr,.string x.tm,.string x.re,.int .i64 x.am,.int .i64 x.un],.int .i64 left] w
  fun e w'=>∃ r:Int,e=.returned (.int .i64 r)/\Zw_ w w'/\-1<=r/\r<=left/\(0<=r->Zgv x):=by
 obtain⟨s0,s1,s2⟩:=hz;unfold maxLen at s0 s1 s2;go_enter func80,ntmps80;go_wp2
 all_goals go_ret
 all_goals exact⟨_,rfl,Zb_.alloc Zl_ _,by omega,by omega,fun _=>rfl⟩
theorem Zlp (x:Pu) (w:World) :
 Calls prog 92 #[.agg #[.string x.dr,.string x.tm,.string x.re,.int .i64 x.am,.int .i64 x.un]] w fun e w'=>e=.returned (.agg #[.string x.dr,.string x.tm,.string x.re,.int .i64 x.am,.int .i64 x.un])/\Zw_ w w':=by
 go_enter func92,ntmps92;go_wp2;refine bodyPost_ret (v:=.agg #[.string x.dr,.string x.tm,.string x.re,.int .i64 x.am,.int .i64 x.un]) (by simp [results,results92,go_sem]) rfl ⟨rfl,?_⟩
 repeat (refine Below.setCell ?_ (by simp) _)
 exact ((Zb_.alloc Zl_ _).alloc (by simp) _).alloc (by simp;omega) _
theorem ZnA (x:Pu) (w:World) :
 Calls prog 103 #[.agg #[.string x.dr,.string x.tm,.string x.re,.int .i64 x.am,.int .i64 x.un],.agg #[.string x.dr,.string x.tm,.string x.re,.int .i64 x.am,.int .i64 x.un]] w fun e w'=>e=.returned (.bool true)/\Zw_ w w':=by
 go_enter func103,ntmps103;go_wp2;go_ret;exact⟨rfl,(Zb_.alloc Zl_ _).alloc (by simp) _⟩
theorem Zox (lo:Nat) (v:Value) (Xl:List Pu) (left:Int) (w:World) (h0:0<=left) (h1:left<=1048576) (hv:ZbV lo w v Xl) :
 Calls prog 33 #[v,.int .i64 left] w fun e w'=>∃ r:Int,e=.returned (.int .i64 r)/\Zw_ w w'/\Zr9 Xl left r:=by
 rcases hv with ⟨a,cap,rfl,rfl⟩ | ⟨b,off,cap,rfl,hne,hm,hbw,_,_,hc⟩
 . go_enter func33,ntmps33
   go_wp2
   go_loop [1,5] (fun l i=>∃ r:Int,l=.int .i64 r/\0<=r/\r<=left/\i=.int .i64 0) (fun _ _=>0)
   case atStart=>exact⟨_,rfl,by omega,by omega,rfl⟩
   case round=>
    obtain⟨r,rfl,hr0,hr1,rfl⟩:=hrel;go_wp2;go_ret;exact⟨r,rfl,Below.refl _ _,by omega,by omega,fun _=>⟨by simp,fun i h=>by simp at h⟩⟩
 . unfold maxLen at hm
   by_cases hle:(Xl.length:Int)<=left
   . go_enter func33,ntmps33
     go_wp2
     go_loopw [1,5] (fun l i wr=>∃ (r:Int) (k:Nat),l=.int .i64 r/\0<=r/\r<=left/\i=.int .i64 k/\k<=Xl.length/\Zw_ w wr/\∀ j (hj:j < Xl.length),j < k->Zgv Xl[j]) (fun _ i _=>Xl.length - (intOf i).toNat)
     case atStart=>exact⟨_,0,rfl,by omega,by omega,rfl,by omega,Below.refl _ _,fun j _ h=>by omega⟩
     case round=>
      obtain⟨r,k,rfl,hr0,hr1,rfl,hk,hb,hall⟩:=hrel;have HA:=Zab hall;clear hall
      by_cases hlt:k < Xl.length
      . obtain⟨hs,hc⟩:=hc k hlt
        obtain⟨c0,c1,c2,c3,c4⟩:=hc.below hb hbw;clear hc;go_wp2_with fail;refine (Zp1 _ _ _ hr0 (by omega) hs).mono ?_;rintro e w1 ⟨r1,rfl,hb1,q0,q1,q2⟩;have HQ2:=Zab q2;have hB:Hd (Zw_ w w1):=hb.trans (hb1.mono hb.size);clear hb1 c0 c1 c2 c3 c4 hb q2
        by_cases hneg:r1 < 0
        . go_wp2
          go_ret;exact⟨-1,rfl,hB.o,by omega,by omega,fun h=>by omega⟩
        . have HL:Hd (Zgv Xl[k]):=HQ2.o (by omega)
          clear HQ2;go_wp2;go_roundw
          case rel=>exact⟨_,k+1,rfl,by omega,by omega,by go_num,by omega,hB.o,fun j hj h=>by
                     by_cases e:j=k
                     . subst e;exact HL.o
                     . exact HA.o j hj (by omega)⟩
          . simp [intOf];omega
      . go_wp2
        go_ret;exact⟨r,rfl,hb,by omega,by omega,fun _=>⟨by omega,fun j hj=>HA.o j hj (by omega)⟩⟩
   . go_enter func33,ntmps33
     go_wp2;go_ret;exact⟨-1,rfl,Below.refl _ _,by omega,by omega,fun h=>by omega⟩
theorem ZlM (lo lo':Nat) (v v':Value) (Xl:List Pu) (w:World) (hv:ZbV lo w v Xl) (hv':ZbV lo' w v' Xl) :
 Calls prog 51 #[v,v'] w fun e w'=>e=.returned (.bool true)/\Zw_ w w':=by
 by_cases hL:Xl=[]
 . subst hL
   obtain⟨a,cap,rfl⟩:=hv.form;obtain⟨a',cap',rfl⟩:=hv'.form;clear hv hv';go_enter func51,ntmps51;go_wp2
   go_loop [5] (fun i=>i=.int .i64 0) (fun _=>0)
   case atStart=>rfl
   case round=>
    subst hrel;go_wp2;go_ret;exact⟨rfl,Below.refl _ _⟩
 . obtain⟨b,off,cap,rfl,hm,hbw,_,hc⟩:=hv.full hL
   obtain⟨b',off',cap',rfl,_,hbw',_,hc'⟩:=hv'.full hL;clear hv hv';unfold maxLen at hm;go_enter func51,ntmps51;go_wp2
   go_loopw [5] (fun i wr=>∃ k:Nat,i=.int .i64 k/\k<=Xl.length/\Zw_ w wr) (fun i _=>Xl.length - (intOf i).toNat)
   case atStart=>exact⟨0,rfl,by omega,Below.refl _ _⟩
   case round=>
    obtain⟨k,rfl,hk,hb⟩:=hrel
    by_cases hlt:k < Xl.length
    . obtain⟨hs,hc⟩:=hc k hlt
      obtain⟨ht,hd⟩:=hc' k hlt;obtain⟨c0,c1,c2,c3,c4⟩:=hc.below hb hbw;obtain⟨d0,d1,d2,d3,d4⟩:=hd.below hb hbw';clear hc hd hs ht;have HB:=Zab hb;clear hb;go_wp2
      go_region_with (go_at_call 103;refine (ZnA _ _ ).mono ?_;rintro e w1 ⟨rfl,hb1⟩;have hB:Hd (Zw_ w w1):=(HB.o.drew).trans (hb1.mono HB.o.size);clear hb1)
      all_goals go_wp2
      all_goals go_roundw
      all_goals first
       | (case rel=>exact⟨k+1,by go_num,by omega,hB.o⟩)
       | (case measure=>simp [intOf];omega)
    . go_wp2
      go_ret;exact⟨rfl,hb⟩
theorem Tryz.info144:(prog.info? 144).map (fun i=>(i.zero,i.size,i.bytes))=some (some (.agg #[.string ⟨#[]⟩,.string ⟨#[]⟩,.string ⟨#[]⟩,.int .i64 0,.int .i64 0]),5,64):=by kernel_rfl
def ZbO (wr:World) (B:Nat) (Xl:List Pu) (k:Nat):Prop:=
 ∃ f,wr.rowIs B 144 (Xl.length*5) f/\∀ i (h:i < Xl.length),i < k->ZdX Xl[i]/\f (i*5)=.string Xl[i].dr/\f (i*5+1)=.string Xl[i].tm/\f (i*5+2)=.string Xl[i].re/\f (i*5+3)=.int .i64 Xl[i].am/\f (i*5+4)=.int .i64 Xl[i].un
theorem ZbO.below (h:ZbO wr B Xl k) (hb:Below wr.heap.size wr w1):ZbO w1 B Xl k:=by
 obtain⟨f,hr,hall⟩:=h;refine⟨f,hr.of_block (hb.block B hr.lt),fun i hi hik=>?_⟩;obtain⟨hz,h0,h1,h2,h3,h4⟩:=hall i hi hik;exact⟨hz,h0,h1,h2,h3,h4⟩
theorem ZbO.free (h:ZbO wr B Xl k) (i:Nat):wr.frozen? ⟨B,i,none⟩=false:=by
 obtain⟨f,hr,_⟩:=h;exact hr.frozen i
theorem ZbO.there (h:ZbO wr B Xl k) (i:Nat) (hi:i < Xl.length*5):∃ v,wr.cell? ⟨B,i,none⟩=some v:=by
 obtain⟨f,hr,_⟩:=h;exact⟨_,hr.cell hi⟩
theorem ZbO.step (h:ZbO w1 B Xl k) (hk:k < Xl.length) (hz:ZdX Xl[k]) :
 ZbO (((((w1.setCell ⟨B,k*5,none⟩ (.string Xl[k].dr)).setCell ⟨B,k*5+1,none⟩ (.string Xl[k].tm)).setCell ⟨B,k*5+2,none⟩ (.string Xl[k].re)).setCell ⟨B,k*5+3,none⟩ (.int .i64 Xl[k].am)).setCell ⟨B,k*5+4,none⟩ (.int .i64 Xl[k].un)) B Xl (k+1):=by
 obtain⟨f,hr,hall⟩:=h;refine⟨_,(((((hr.set _ _).set _ _).set _ _).set _ _).set _ _),fun i hi hik=>?_⟩
 by_cases e:i=k
 . subst e
   refine⟨hz,by simp,by simp,by simp,by simp,by simp⟩
 . obtain⟨hz',h0,h1,h2,h3,h4⟩:=hall i hi (by omega)
   refine⟨hz',?_,?_,?_,?_,?_⟩
   . rw [if_neg (by omega),if_neg (by omega),if_neg (by omega),if_neg (by omega),if_neg (by omega)];exact h0
   . rw [if_neg (by omega),if_neg (by omega),if_neg (by omega),if_neg (by omega),if_neg (by omega)];exact h1
   . rw [if_neg (by omega),if_neg (by omega),if_neg (by omega),if_neg (by omega),if_neg (by omega)];exact h2
   . rw [if_neg (by omega),if_neg (by omega),if_neg (by omega),if_neg (by omega),if_neg (by omega)];exact h3
   . rw [if_neg (by omega),if_neg (by omega),if_neg (by omega),if_neg (by omega),if_neg (by omega)];exact h4
theorem ZbO.done (h:ZbO wr B Xl k) (hk:Xl.length<=k) (hne:Xl≠[]) (hm:Xl.length<=maxLen):ZbV B wr (.slice (some ⟨B,0,none⟩) Xl.length Xl.length) Xl:=by
 obtain⟨f,hr,hall⟩:=h;refine Or.inr ⟨B,0,Xl.length,rfl,hne,hm,hr.lt,Nat.le_refl _,Nat.le_refl _,fun i hi=>?_⟩;obtain⟨hz,h0,h1,h2,h3,h4⟩:=hall i hi (by omega);rw [Nat.zero_add];exact⟨hz,⟨by rw [hr.cell (by omega),h0],by rw [hr.cell (by omega),h1],by rw [hr.cell (by omega),h2],by rw [hr.cell (by omega),h3],by rw [hr.cell (by omega),h4]⟩⟩
theorem ZbO.new (w:World) (Xl:List Pu) (z:Array Value):ZbO (w.alloc (.cells (madeCells z (Xl.length*5)) 144)) w.heap.size Xl 0:=by
 refine⟨fun i=>(madeCells z (Xl.length*5)).getD i default,?_,fun i _ h=>by omega⟩;have:=World.rowIs_alloc w (madeCells z (Xl.length*5)) 144 (fun i=>(madeCells z (Xl.length*5)).getD i default) (fun i hi=>by simp [Array.getD,hi])
 rwa [size_madeCells] at this
theorem ZoL (lo:Nat) (v:Value) (Xl:List Pu) (w:World) (hv:ZbV lo w v Xl) (hn:Zek Xl) :
 Calls prog 42 #[v] w fun e w'=>∃ v',e=.returned v'/\Zw_ w w'/\ZbV w.heap.size w' v' Xl:=by
 obtain⟨i0,hi,hz0,hz1,hz2⟩:=info_parts Tryz.info144;have hn1:=hn.1;clear hn
 by_cases hL:Xl=[]
 . subst hL
   obtain⟨a,cap,rfl⟩:=hv.form;clear hv
   have hmk:∀ u:World,(Instr.makeSlice 46 (.int .i64 0) (.int .i64 0)).run prog u=.ok (.slice (some ⟨u.heap.size,0,none⟩) 0 0) (u.alloc (.cells (madeCells (Value.cells (.agg #[.string ⟨#[]⟩,.string ⟨#[]⟩,.string ⟨#[]⟩,.int .i64 0,.int .i64 0])) 0) 144)):=fun u=>by
    have h:=run_make (P:=prog) u 46 144 i0 _ underlying46 hi hz0 .i64 .i64 0 0 (by omega) (by omega) (by omega) (by omega)
    simpa [hz1] using h
   go_enter func42,ntmps42;go_wp2
   go_loop [4] (fun i=>i=.int .i64 0) (fun _=>0)
   case atStart=>rfl
   case round=>
    subst hrel;go_wp2;go_ret;exact⟨_,rfl,Zb_.alloc Zl_ _,Or.inl ⟨_,_,rfl,rfl⟩⟩
 . obtain⟨b,off,cap,rfl,hm,hbw,_,hc⟩:=hv.full hL
   clear hv;have HM:Hd (Xl.length<=maxLen):=hm;unfold maxLen at hm
   have hmk:∀ u:World,(Instr.makeSlice 46 (.int .i64 (Xl.length:Int)) (.int .i64 (Xl.length:Int))).run prog u=.ok (.slice (some ⟨u.heap.size,0,none⟩) Xl.length Xl.length) (u.alloc (.cells (madeCells (Value.cells (.agg #[.string ⟨#[]⟩,.string ⟨#[]⟩,.string ⟨#[]⟩,.int .i64 0,.int .i64 0])) (Xl.length*5)) 144)):=fun u=>by
    have h:=run_make (P:=prog) u 46 144 i0 _ underlying46 hi hz0 .i64 .i64 Xl.length Xl.length (by omega) (by omega) (by rw [hz2];omega) (by omega);rw [hz1] at h
    simpa using h
   clear hi hz0 hz1 hz2;go_enter func42,ntmps42;go_wp2;clear hmk
   go_loopw [4] (fun i wr=>∃ k:Nat,i=.int .i64 k/\k<=Xl.length/\Zw_ w wr/\ZbO wr w.heap.size Xl k) (fun i _=>Xl.length - (intOf i).toNat)
   case atStart=>exact⟨0,rfl,by omega,Zb_.alloc Zl_ _,ZbO.new w Xl _⟩
   case round=>
    obtain⟨k,rfl,hk,hb,hf⟩:=hrel
    by_cases hlt:k < Xl.length
    . obtain⟨hs,hc⟩:=hc k hlt
      obtain⟨c0,c1,c2,c3,c4⟩:=hc.below hb hbw
      have hBl:w.heap.size < wr.heap.size:=by
       obtain⟨_,hr,_⟩:=hf;exact hr.lt
      clear hc;go_wp2_with fail;refine (Zlp _ _ ).mono ?_;rintro e w1 ⟨rfl,hb1⟩;have hf1:=hf.below hb1;have HST:=Zab (hf1.step hlt hs );have hB:Hd (Zw_ w w1):=hb.trans (hb1.mono hb.size);have hfr:=hf1.free;obtain⟨o0,ho0⟩:=hf1.there (k*5) (by omega);obtain⟨o1,ho1⟩:=hf1.there (k*5+1) (by omega);obtain⟨o2,ho2⟩:=hf1.there (k*5+2) (by omega);obtain⟨o3,ho3⟩:=hf1.there (k*5+3) (by omega);obtain⟨o4,ho4⟩:=hf1.there (k*5+4) (by omega);clear hf hf1 hb1 hb c0 c1 c2 c3 c4;go_wp2;go_roundw
      . 
       exact⟨k+1,by go_num,by omega,(((((hB.o.setCell Zl_ _).setCell Zl_ _).setCell Zl_ _).setCell Zl_ _).setCell Zl_ _),HST.o⟩
      . simp [intOf];omega
    . go_wp2
      go_ret;exact⟨_,rfl,hb,hf.done (by omega) hL HM.o⟩
end
theorem ZiN (lo:Nat) (v:Value) (Ts:List Tm) (w:World) (hv:Zbh lo w v Ts) :
 Calls prog 125 #[v] w fun e w'=>e=.returned (.bool (Zbl Ts))/\Zw_ w w':=by
 by_cases h12:¬ Ts.length<=12
 . have HR:=Zab (ZjN h12)
   have hmx:=hv.max;unfold maxLen at hmx;obtain⟨a,cap,rfl⟩:=hv.form;go_enter func125,ntmps125;go_wp2;go_ret;exact⟨Zaa HR.o.symm,Below.refl _ _⟩
 replace h12:Ts.length<=12:=by omega
 by_cases hL:Ts=[]
 . subst hL
   obtain⟨a,cap,rfl⟩:=hv.form;clear hv;go_enter func125,ntmps125;go_wp2
   go_loop [3] (fun i=>i=.int .i64 0) (fun _=>0)
   case atStart=>rfl
   case round=>
    subst hrel;go_wp2;go_ret;exact⟨Zaa (by rfl),Below.refl _ _⟩
 . have HV:=Zab hv
   obtain⟨b,off,cap,rfl,hm,hbw,_,hc⟩:=hv.full hL;clear hv hm;have H12:=Zab h12;have h12i:decide ((12:Int) < (Ts.length:Int))=false:=by simp;omega
   go_enter func125,ntmps125;go_wp2
   go_loopw [3] (fun i wr=>∃ k:Nat,i=.int .i64 k/\k<=Ts.length/\Zw_ w wr/\∀ i,i < k->ZcY Ts i=true) (fun i _=>Ts.length - (intOf i).toNat)
   case atStart=>exact⟨0,rfl,by omega,Below.refl _ _,fun i h=>by omega⟩
   case round=>
    obtain⟨k,rfl,hk,hb,hall⟩:=hrel;have HA:=Zab hall;have HB:=Zab hb;clear hall hb
    by_cases hlt:k < Ts.length
    . obtain⟨hsz,hcell⟩:=hc k hlt
      have HSZ:=Zab hsz;obtain⟨c0,c1⟩:=hcell.below HB.o hbw;clear hcell hsz;have HFr:∀ o n,Hd (Zbh lo ((wr.alloc o).drewN n) (.slice (some ⟨b,off,none⟩) Ts.length cap) Ts):=fun o n=>HV.o.below (below_drewN (HB.o.alloc HB.o.size _) _)
      cases hn:Zap Ts[k].nm with
      | false=>
       go_wp2
       go_quiet (first|(go_at_call 132;exact (Zae _ _ HSZ.o.s0).mono fun _ _ h=>⟨h.1,_,h.2⟩)|(go_at_call 127;exact (Za8 lo _ Ts _ _ (HFr _ _).o).mono fun _ _ h=>⟨h.1,_,h.2⟩))
       go_wp2;go_ret;exact⟨Zaa (Zbi hlt (by rw [Zay hlt];simp [hn])).symm,below_drewN (HB.o.alloc HB.o.size _) _⟩
      | true=>
       cases k with
       | zero=>
        have c0:wr.cell? ⟨b,off,none⟩=some (.string Ts[0].nm):=by simpa using c0
        have c1:wr.cell? ⟨b,off+1,none⟩=some (.string Ts[0].ov):=by simpa using c1
        cases hoe:Ts[0].ov.toList.isEmpty with
        | true=>
         have HOK:Hd (ZaQ Ts 5 Ts[0].nm=false->∀ i,i < 0+1->ZcY Ts i=true):=fun h i hi=>by
          by_cases e:i=0
          . subst e;rw [Zay hlt,h];simp [hn,hoe]
          . exact HA.o i (by omega)
         have HNO:Hd (ZaQ Ts 5 Ts[0].nm=true->Zbl Ts=false):=fun h=>Zbi hlt (by rw [Zay hlt,h];simp)
         have HNE:Hd (Ts[0].nm.toList.isEmpty=false):=ZcH (by
          have:=hn;unfold Zap at this;rw [Bool.and_eq_true,Zf2] at this;have:=this.1;simp at this
          omega)
         go_wp2
         go_quiet (first|(go_at_call 132;exact (Zae _ _ HSZ.o.s0).mono fun _ _ h=>⟨h.1,_,h.2⟩)|(go_at_call 127;exact (Za8 lo _ Ts _ _ (HFr _ _).o).mono fun _ _ h=>⟨h.1,_,h.2⟩))
         try simp only [hn]
         try simp only [hoe]
         go_wp2
         go_loop [5,6] (fun x n=>∃ (q:Nat) (a':Zy_),x=.string a'/\n=.int .i64 q/\q<=5/\((a'.toList.isEmpty=true/\ZaQ Ts 5 Ts[0].nm=false)\/(a'.toList.isEmpty=false/\ZaQ Ts 5 Ts[0].nm=ZaQ Ts (5 - q) a'))) (fun _ n=>5 - (intOf n).toNat)
         case atStart=>exact⟨0,_,rfl,rfl,by omega,Or.inr ⟨HNE.o,rfl⟩⟩
         case round=>
          obtain⟨q,a',rfl,rfl,hq,hqq⟩:=hrel
          rcases hqq with ⟨hae,hd⟩ | ⟨hae,hd⟩
          . have HD:=Zab hd
            clear hd
            by_cases h5:q<=4
            all_goals
             go_wp2;go_roundw
             . first | exact⟨0+1,by go_num,by omega,below_drewN (HB.o.alloc HB.o.size _) _,HOK.o HD.o⟩|((repeat apply Exists.intro);exact⟨⟨0+1,by go_num,by omega,below_drewN (HB.o.alloc HB.o.size _) _,HOK.o HD.o⟩,rfl⟩)
             . simp [intOf];omega
          . have HD:=Zab hd
            clear hd
            by_cases h5:q<=4
            . have HS:Hd (ZaQ Ts 5 Ts[0].nm=if (ovB Ts a').toList.isEmpty then false else ZaQ Ts (5 - (q+1)) (ovB Ts a')):=by
               unfold Hd;rw [HD.o,show 5 - q=(5 - (q+1))+1 from by omega]
               rfl
              clear HD;go_wp2_with fail;refine (Zdk lo _ Ts a' _ (HFr _ _).o).mono ?_;rintro e w1 ⟨rfl,rfl⟩;go_wp2
              go_round
              . 
               have hnx:((ovB Ts a').toList.isEmpty=true/\ZaQ Ts 5 Ts[0].nm=false)\/((ovB Ts a').toList.isEmpty=false/\ZaQ Ts 5 Ts[0].nm=ZaQ Ts (5 - (q+1)) (ovB Ts a')):=by
                cases he:(ovB Ts a').toList.isEmpty with
                | true=>exact Or.inl ⟨rfl,by rw [HS.o,if_pos he]⟩
                | false=>exact Or.inr ⟨rfl,by rw [HS.o,if_neg (by simp [he])]⟩
               first
                | exact⟨q+1,_,rfl,by go_num,by omega,hnx⟩
                | (refine⟨trivial,?_⟩
                   (repeat apply Exists.intro)
                   exact⟨⟨q+1,_,rfl,by go_num,by omega,hnx⟩,rfl⟩)
                | ((repeat apply Exists.intro)
                   exact⟨⟨q+1,_,rfl,by go_num,by omega,hnx⟩,rfl⟩)
              . simp [intOf];omega
            . have HR:Hd (Zbl Ts=false):=HNO.o (by rw [HD.o,show 5 - q=0 from by omega];rfl)
              go_wp2;go_ret;exact⟨Zaa HR.o.symm,below_drewN (HB.o.alloc HB.o.size _) _⟩
        | false=>
         cases hht:ZfI Ts Ts[0].ov with
         | false=>
          go_wp2
          go_quiet (first|(go_at_call 132;exact (Zae _ _ HSZ.o.s0).mono fun _ _ h=>⟨h.1,_,h.2⟩)|(go_at_call 127;exact (Za8 lo _ Ts _ _ (HFr _ _).o).mono fun _ _ h=>⟨h.1,_,h.2⟩))
          go_wp2;go_ret;exact⟨Zaa (Zbi hlt (by rw [Zay hlt];simp [hoe,hht])).symm,below_drewN (HB.o.alloc HB.o.size _) _⟩
         | true=>
          have HOK:Hd (ZaQ Ts 5 Ts[0].nm=false->∀ i,i < 0+1->ZcY Ts i=true):=fun h i hi=>by
           by_cases e:i=0
           . subst e;rw [Zay hlt,h];simp [hn,hoe,hht]
           . exact HA.o i (by omega)
          have HNO:Hd (ZaQ Ts 5 Ts[0].nm=true->Zbl Ts=false):=fun h=>Zbi hlt (by rw [Zay hlt,h];simp)
          have HNE:Hd (Ts[0].nm.toList.isEmpty=false):=ZcH (by
           have:=hn;unfold Zap at this;rw [Bool.and_eq_true,Zf2] at this;have:=this.1;simp at this
           omega)
          go_wp2
          go_quiet (first|(go_at_call 132;exact (Zae _ _ HSZ.o.s0).mono fun _ _ h=>⟨h.1,_,h.2⟩)|(go_at_call 127;exact (Za8 lo _ Ts _ _ (HFr _ _).o).mono fun _ _ h=>⟨h.1,_,h.2⟩))
          try simp only [hn]
          try simp only [hoe]
          try simp only [hht]
          go_wp2
          go_loop [5,6] (fun x n=>∃ (q:Nat) (a':Zy_),x=.string a'/\n=.int .i64 q/\q<=5/\((a'.toList.isEmpty=true/\ZaQ Ts 5 Ts[0].nm=false)\/(a'.toList.isEmpty=false/\ZaQ Ts 5 Ts[0].nm=ZaQ Ts (5 - q) a'))) (fun _ n=>5 - (intOf n).toNat)
          case atStart=>exact⟨0,_,rfl,rfl,by omega,Or.inr ⟨HNE.o,rfl⟩⟩
          case round=>
           obtain⟨q,a',rfl,rfl,hq,hqq⟩:=hrel
           rcases hqq with ⟨hae,hd⟩ | ⟨hae,hd⟩
           . have HD:=Zab hd
             clear hd
             by_cases h5:q<=4
             all_goals
              go_wp2;go_roundw
              . first | exact⟨0+1,by go_num,by omega,below_drewN (HB.o.alloc HB.o.size _) _,HOK.o HD.o⟩|((repeat apply Exists.intro);exact⟨⟨0+1,by go_num,by omega,below_drewN (HB.o.alloc HB.o.size _) _,HOK.o HD.o⟩,rfl⟩)
              . simp [intOf];omega
           . have HD:=Zab hd
             clear hd
             by_cases h5:q<=4
             . have HS:Hd (ZaQ Ts 5 Ts[0].nm=if (ovB Ts a').toList.isEmpty then false else ZaQ Ts (5 - (q+1)) (ovB Ts a')):=by
                unfold Hd;rw [HD.o,show 5 - q=(5 - (q+1))+1 from by omega]
                rfl
               clear HD;go_wp2_with fail;refine (Zdk lo _ Ts a' _ (HFr _ _).o).mono ?_;rintro e w1 ⟨rfl,rfl⟩;go_wp2
               go_round
               . 
                have hnx:((ovB Ts a').toList.isEmpty=true/\ZaQ Ts 5 Ts[0].nm=false)\/((ovB Ts a').toList.isEmpty=false/\ZaQ Ts 5 Ts[0].nm=ZaQ Ts (5 - (q+1)) (ovB Ts a')):=by
                 cases he:(ovB Ts a').toList.isEmpty with
                 | true=>exact Or.inl ⟨rfl,by rw [HS.o,if_pos he]⟩
                 | false=>exact Or.inr ⟨rfl,by rw [HS.o,if_neg (by simp [he])]⟩
                first
                 | exact⟨q+1,_,rfl,by go_num,by omega,hnx⟩
                 | (refine⟨trivial,?_⟩
                    (repeat apply Exists.intro)
                    exact⟨⟨q+1,_,rfl,by go_num,by omega,hnx⟩,rfl⟩)
                 | ((repeat apply Exists.intro)
                    exact⟨⟨q+1,_,rfl,by go_num,by omega,hnx⟩,rfl⟩)
               . simp [intOf];omega
             . have HR:Hd (Zbl Ts=false):=HNO.o (by rw [HD.o,show 5 - q=0 from by omega];rfl)
               go_wp2;go_ret;exact⟨Zaa HR.o.symm,below_drewN (HB.o.alloc HB.o.size _) _⟩
       | succ j=>
        have HBE:Hd (((Ts[j+1 - 1]?.map Tm.nm).getD ⟨#[]⟩)=Ts[j].nm):=Zi1 hlt;have hcj:wr.cell? ⟨b,off+j*2,none⟩=some (.string Ts[j].nm):=by rw [HB.o.cell (p:=⟨b,_,none⟩) hbw];exact (hc j (by omega)).2.c0
        have hjw:IntKind.i64.wrap (j:Int)=j:=by rw [IntKind.wrap_i64];omega
        have hjl:j < Ts.length:=by omega
        have hdl:decide ((j:Int)+1 < (Ts.length:Int))=true:=by simp;omega
        have hbo:b < wr.heap.size:=Zk_ hbw HB.o.size
        have cj2:∀ o,(wr.alloc o).cell? ⟨b,off+j*2,none⟩=some (.string Ts[j].nm):=fun o=>by rw [((Below.refl wr.heap.size wr).alloc Zl_ o).cell (p:=⟨b,_,none⟩) hbo];exact hcj
        have cj3:∀ o n,((wr.alloc o).drewN n).cell? ⟨b,off+j*2,none⟩=some (.string Ts[j].nm):=fun o n=>cj2 o
        cases hls:Op.bytesLess Ts[j].nm.toList Ts[j+1].nm.toList with
        | false=>
         go_wp2
         go_quiet (first|(go_at_call 132;exact (Zae _ _ HSZ.o.s0).mono fun _ _ h=>⟨h.1,_,h.2⟩)|(go_at_call 127;exact (Za8 lo _ Ts _ _ (HFr _ _).o).mono fun _ _ h=>⟨h.1,_,h.2⟩))
         go_wp2;go_ret;exact⟨Zaa (Zbi hlt (by rw [Zay hlt];rw [HBE.o,hls];simp)).symm,below_drewN (HB.o.alloc HB.o.size _) _⟩
        | true=>
         cases hoe:Ts[j+1].ov.toList.isEmpty with
         | true=>
          have HOK:Hd (ZaQ Ts 5 Ts[j+1].nm=false->∀ i,i < j+1+1->ZcY Ts i=true):=fun h i hi=>by
           by_cases e:i=j+1
           . subst e;rw [Zay hlt,h];rw [HBE.o,hls];simp [hn,hoe]
           . exact HA.o i (by omega)
          have HNO:Hd (ZaQ Ts 5 Ts[j+1].nm=true->Zbl Ts=false):=fun h=>Zbi hlt (by rw [Zay hlt,h];simp)
          have HNE:Hd (Ts[j+1].nm.toList.isEmpty=false):=ZcH (by
           have:=hn;unfold Zap at this;rw [Bool.and_eq_true,Zf2] at this;have:=this.1;simp at this
           omega)
          go_wp2
          go_quiet (first|(go_at_call 132;exact (Zae _ _ HSZ.o.s0).mono fun _ _ h=>⟨h.1,_,h.2⟩)|(go_at_call 127;exact (Za8 lo _ Ts _ _ (HFr _ _).o).mono fun _ _ h=>⟨h.1,_,h.2⟩))
          try simp only [hn]
          try simp only [hoe]
          try simp only [hls]
          go_wp2
          go_loop [5,6] (fun x n=>∃ (q:Nat) (a':Zy_),x=.string a'/\n=.int .i64 q/\q<=5/\((a'.toList.isEmpty=true/\ZaQ Ts 5 Ts[j+1].nm=false)\/(a'.toList.isEmpty=false/\ZaQ Ts 5 Ts[j+1].nm=ZaQ Ts (5 - q) a'))) (fun _ n=>5 - (intOf n).toNat)
          case atStart=>exact⟨0,_,rfl,rfl,by omega,Or.inr ⟨HNE.o,rfl⟩⟩
          case round=>
           obtain⟨q,a',rfl,rfl,hq,hqq⟩:=hrel
           rcases hqq with ⟨hae,hd⟩ | ⟨hae,hd⟩
           . have HD:=Zab hd
             clear hd
             by_cases h5:q<=4
             all_goals
              go_wp2;go_roundw
              . first | exact⟨j+1+1,by go_num,by omega,below_drewN (HB.o.alloc HB.o.size _) _,HOK.o HD.o⟩|((repeat apply Exists.intro);exact⟨⟨j+1+1,by go_num,by omega,below_drewN (HB.o.alloc HB.o.size _) _,HOK.o HD.o⟩,rfl⟩)
              . simp [intOf];omega
           . have HD:=Zab hd
             clear hd
             by_cases h5:q<=4
             . have HS:Hd (ZaQ Ts 5 Ts[j+1].nm=if (ovB Ts a').toList.isEmpty then false else ZaQ Ts (5 - (q+1)) (ovB Ts a')):=by
                unfold Hd;rw [HD.o,show 5 - q=(5 - (q+1))+1 from by omega]
                rfl
               clear HD;go_wp2_with fail;refine (Zdk lo _ Ts a' _ (HFr _ _).o).mono ?_;rintro e w1 ⟨rfl,rfl⟩;go_wp2
               go_round
               . 
                have hnx:((ovB Ts a').toList.isEmpty=true/\ZaQ Ts 5 Ts[j+1].nm=false)\/((ovB Ts a').toList.isEmpty=false/\ZaQ Ts 5 Ts[j+1].nm=ZaQ Ts (5 - (q+1)) (ovB Ts a')):=by
                 cases he:(ovB Ts a').toList.isEmpty with
                 | true=>exact Or.inl ⟨rfl,by rw [HS.o,if_pos he]⟩
                 | false=>exact Or.inr ⟨rfl,by rw [HS.o,if_neg (by simp [he])]⟩
                first
                 | exact⟨q+1,_,rfl,by go_num,by omega,hnx⟩
                 | (refine⟨trivial,?_⟩
                    (repeat apply Exists.intro)
                    exact⟨⟨q+1,_,rfl,by go_num,by omega,hnx⟩,rfl⟩)
                 | ((repeat apply Exists.intro)
                    exact⟨⟨q+1,_,rfl,by go_num,by omega,hnx⟩,rfl⟩)
               . simp [intOf];omega
             . have HR:Hd (Zbl Ts=false):=HNO.o (by rw [HD.o,show 5 - q=0 from by omega];rfl)
               go_wp2;go_ret;exact⟨Zaa HR.o.symm,below_drewN (HB.o.alloc HB.o.size _) _⟩
         | false=>
          cases hht:ZfI Ts Ts[j+1].ov with
          | false=>
           go_wp2
           go_quiet (first|(go_at_call 132;exact (Zae _ _ HSZ.o.s0).mono fun _ _ h=>⟨h.1,_,h.2⟩)|(go_at_call 127;exact (Za8 lo _ Ts _ _ (HFr _ _).o).mono fun _ _ h=>⟨h.1,_,h.2⟩))
           go_wp2;go_ret;exact⟨Zaa (Zbi hlt (by rw [Zay hlt];simp [hoe,hht])).symm,below_drewN (HB.o.alloc HB.o.size _) _⟩
          | true=>
           have HOK:Hd (ZaQ Ts 5 Ts[j+1].nm=false->∀ i,i < j+1+1->ZcY Ts i=true):=fun h i hi=>by
            by_cases e:i=j+1
            . subst e;rw [Zay hlt,h];rw [HBE.o,hls];simp [hn,hoe,hht]
            . exact HA.o i (by omega)
           have HNO:Hd (ZaQ Ts 5 Ts[j+1].nm=true->Zbl Ts=false):=fun h=>Zbi hlt (by rw [Zay hlt,h];simp)
           have HNE:Hd (Ts[j+1].nm.toList.isEmpty=false):=ZcH (by
            have:=hn;unfold Zap at this;rw [Bool.and_eq_true,Zf2] at this;have:=this.1;simp at this
            omega)
           go_wp2
           go_quiet (first|(go_at_call 132;exact (Zae _ _ HSZ.o.s0).mono fun _ _ h=>⟨h.1,_,h.2⟩)|(go_at_call 127;exact (Za8 lo _ Ts _ _ (HFr _ _).o).mono fun _ _ h=>⟨h.1,_,h.2⟩))
           try simp only [hn]
           try simp only [hoe]
           try simp only [hht]
           try simp only [hls]
           go_wp2
           go_loop [5,6] (fun x n=>∃ (q:Nat) (a':Zy_),x=.string a'/\n=.int .i64 q/\q<=5/\((a'.toList.isEmpty=true/\ZaQ Ts 5 Ts[j+1].nm=false)\/(a'.toList.isEmpty=false/\ZaQ Ts 5 Ts[j+1].nm=ZaQ Ts (5 - q) a'))) (fun _ n=>5 - (intOf n).toNat)
           case atStart=>exact⟨0,_,rfl,rfl,by omega,Or.inr ⟨HNE.o,rfl⟩⟩
           case round=>
            obtain⟨q,a',rfl,rfl,hq,hqq⟩:=hrel
            rcases hqq with ⟨hae,hd⟩ | ⟨hae,hd⟩
            . have HD:=Zab hd
              clear hd
              by_cases h5:q<=4
              all_goals
               go_wp2;go_roundw
               . first | exact⟨j+1+1,by go_num,by omega,below_drewN (HB.o.alloc HB.o.size _) _,HOK.o HD.o⟩|((repeat apply Exists.intro);exact⟨⟨j+1+1,by go_num,by omega,below_drewN (HB.o.alloc HB.o.size _) _,HOK.o HD.o⟩,rfl⟩)
               . simp [intOf];omega
            . have HD:=Zab hd
              clear hd
              by_cases h5:q<=4
              . have HS:Hd (ZaQ Ts 5 Ts[j+1].nm=if (ovB Ts a').toList.isEmpty then false else ZaQ Ts (5 - (q+1)) (ovB Ts a')):=by
                 unfold Hd;rw [HD.o,show 5 - q=(5 - (q+1))+1 from by omega]
                 rfl
                clear HD;go_wp2_with fail;refine (Zdk lo _ Ts a' _ (HFr _ _).o).mono ?_;rintro e w1 ⟨rfl,rfl⟩;go_wp2
                go_round
                . 
                 have hnx:((ovB Ts a').toList.isEmpty=true/\ZaQ Ts 5 Ts[j+1].nm=false)\/((ovB Ts a').toList.isEmpty=false/\ZaQ Ts 5 Ts[j+1].nm=ZaQ Ts (5 - (q+1)) (ovB Ts a')):=by
                  cases he:(ovB Ts a').toList.isEmpty with
                  | true=>exact Or.inl ⟨rfl,by rw [HS.o,if_pos he]⟩
                  | false=>exact Or.inr ⟨rfl,by rw [HS.o,if_neg (by simp [he])]⟩
                 first
                  | exact⟨q+1,_,rfl,by go_num,by omega,hnx⟩
                  | (refine⟨trivial,?_⟩
                     (repeat apply Exists.intro)
                     exact⟨⟨q+1,_,rfl,by go_num,by omega,hnx⟩,rfl⟩)
                  | ((repeat apply Exists.intro)
                     exact⟨⟨q+1,_,rfl,by go_num,by omega,hnx⟩,rfl⟩)
                . simp [intOf];omega
              . have HR:Hd (Zbl Ts=false):=HNO.o (by rw [HD.o,show 5 - q=0 from by omega];rfl)
                go_wp2;go_ret;exact⟨Zaa HR.o.symm,below_drewN (HB.o.alloc HB.o.size _) _⟩
    . have HR:Hd (Zbl Ts=true):=ZjO H12.o (by omega) HA.o
      go_wp2;go_ret;exact⟨Zaa HR.o.symm,HB.o⟩
end Go.Proofs.YtmappejlmapboaaGreat
