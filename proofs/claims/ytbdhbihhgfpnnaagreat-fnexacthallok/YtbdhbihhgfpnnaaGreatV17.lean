import Derived.Test.YtbdhbihhgfpnnaaGreatV16
import Derived.Deep.MidRow
set_option maxHeartbeats 16000000
set_option maxRecDepth 100000
open Go.Proofs.Tryz
namespace Go.Proofs.YtbdhbihhgfpnnaaGreat
open Go.RowKit Go.Deep
section
variable {w w' wr w1:World} {b o lo B k:Nat} {v:Value}
structure Pu where
 dr:Zy_
 tm:Zy_
 re:Zy_
 am:Int
 un:Int
variable {x:Pu} {Xl:List Pu}
structure Zfw (x:Pu):Prop where
 s0:x.dr.size<=maxLen
 s1:x.tm.size<=maxLen
 s2:x.re.size<=maxLen
def Zh2 (x:Pu):Prop:=x=x
structure Zdg (w:World) (b o:Nat) (x:Pu):Prop where
 c0:w.cell? ⟨b,o,none⟩=some (.string x.dr)
 c1:w.cell? ⟨b,o+1,none⟩=some (.string x.tm)
 c2:w.cell? ⟨b,o+2,none⟩=some (.string x.re)
 c3:w.cell? ⟨b,o+3,none⟩=some (.int .i64 x.am)
 c4:w.cell? ⟨b,o+4,none⟩=some (.int .i64 x.un)
theorem Zdg.below (h:Zdg w b o x ) {m:Nat} (hb:Below m w w') (hlt:b < m):Zdg w' b o x:=by
 have e:∀ o,w'.cell? ⟨b,o,none⟩=w.cell? ⟨b,o,none⟩:=fun o=>hb.cell (p:=⟨b,o,none⟩) hlt
 exact⟨by rw [e];exact h.c0,by rw [e];exact h.c1,by rw [e];exact h.c2,by rw [e];exact h.c3,by rw [e];exact h.c4⟩
theorem Zdg.set (h:Zdg w b o x ) {p:Addr} (hp:b≠p.block) (u:Value):Zdg (w.setCell p u) b o x:=by
 have e:∀ o,(w.setCell p u).cell? ⟨b,o,none⟩=w.cell? ⟨b,o,none⟩:=fun o=>ZaA _ _ _ _ hp
 exact⟨by rw [e];exact h.c0,by rw [e];exact h.c1,by rw [e];exact h.c2,by rw [e];exact h.c3,by rw [e];exact h.c4⟩
def Zca (lo:Nat) (w:World) (v:Value) (Xl:List Pu):Prop:=
 (∃ (a:Option Addr) (cap:Nat),v=.slice a 0 cap/\Xl=[])\/
 ∃ (b off cap:Nat),v=.slice (some ⟨b,off,none⟩) Xl.length cap/\Xl≠[]/\Xl.length<=maxLen/\b < w.heap.size/\lo<=b/\Xl.length<=cap/\
  ∀ i (h:i < Xl.length),Zfw Xl[i]/\Zdg w b (off+i*5) Xl[i]
theorem Zca.below (h:Zca lo w v Xl) (hb:Zw_ w w'):Zca lo w' v Xl:=by
 rcases h with h | ⟨b,off,cap,h1,h2,h3,h4,h5,h6,h7⟩
 . exact Or.inl h
 . refine Or.inr ⟨b,off,cap,h1,h2,h3,Zk_ h4 hb.size,h5,h6,fun i hi=>?_⟩
   obtain⟨hs,hc⟩:=h7 i hi;exact⟨hs,hc.below hb h4⟩
theorem Zca.mono {lo':Nat} (h:Zca lo w v Xl) (hl:lo'<=lo):Zca lo' w v Xl:=by
 rcases h with h | ⟨b,off,cap,h1,h2,h3,h4,h5,h6,h7⟩
 . exact Or.inl h
 . refine Or.inr ⟨b,off,cap,h1,h2,h3,h4,Nat.le_trans hl h5,h6,fun i hi=>?_⟩
   obtain⟨hs,hc⟩:=h7 i hi;exact⟨hs,hc⟩
theorem Zca.set (h:Zca lo w v Xl) {p:Addr} (hp:p.block < lo) (u:Value):Zca lo (w.setCell p u) v Xl:=by
 rcases h with h | ⟨b,off,cap,h1,h2,h3,h4,h5,h6,h7⟩
 . exact Or.inl h
 . refine Or.inr ⟨b,off,cap,h1,h2,h3,by simpa [World.setCell] using h4,h5,h6,fun i hi=>?_⟩
   obtain⟨hs,hc⟩:=h7 i hi;exact⟨hs,hc.set (by omega) u⟩
theorem Zca.form (h:Zca lo w v Xl):∃ a cap,v=.slice a Xl.length cap:=by
 rcases h with ⟨a,cap,h,rfl⟩ | ⟨b,off,cap,h,_⟩
 . exact⟨a,cap,h⟩
 . exact⟨_,cap,h⟩
theorem Zca.max (h:Zca lo w v Xl):Xl.length<=maxLen:=by
 rcases h with ⟨a,cap,h,rfl⟩ | ⟨b,off,cap,h,_,h3,_⟩
 . exact Nat.zero_le _
 . exact h3
theorem Zca.full (h:Zca lo w v Xl) (hne:Xl≠[]):∃ (b off cap:Nat),v=.slice (some ⟨b,off,none⟩) Xl.length cap/\Xl.length<=maxLen/\b < w.heap.size/\Xl.length<=cap/\
 ∀ i (h:i < Xl.length),Zfw Xl[i]/\Zdg w b (off+i*5) Xl[i]:=by
 rcases h with ⟨_,_,_,h⟩ | ⟨b,off,cap,h1,_,h3,h4,_,h6,h7⟩
 . exact absurd h hne
 . exact⟨b,off,cap,h1,h3,h4,h6,h7⟩
theorem Zca.full' {a:Option Addr}{n cap:Nat} (h:Zca lo w (.slice a n cap) Xl) (hL:0 < Xl.length) :
 ∃ b off,a=some ⟨b,off,none⟩/\b < w.heap.size/\lo<=b/\∀ i (h:i < Xl.length),Zfw Xl[i]/\Zdg w b (off+i*5) Xl[i]:=by
 rcases h with ⟨a',cap',h,rfl⟩ | ⟨b',off',cap',h1,h2,h3,h4,h5,h6,h7⟩
 . simp at hL
 . injection h1 with e1 e2 e3
   exact⟨b',off',e1,h4,h5,h7⟩
def Zh3 (Xl:List Pu):Prop:=Xl.length<=1048576/\∀ i (h:i < Xl.length),Zh2 Xl[i]
def ZsC (Xl:List Pu) (left r:Int):Prop:= -1<=r/\r<=left/\(0<=r->Zh3 Xl)
theorem Zpz (x:Pu) (left:Int) (w:World) (h0:0<=left) (h1:left<=1048576) (hz:Zfw x) :
 Calls prog 91 #[.agg #[.string x.dr,.string x.tm,.string x.re,.int .i64 x.am,.int .i64 x.un],.int .i64 left] w
  fun e w'=>∃ r:Int,e=.returned (.int .i64 r)/\Zw_ w w'/\-1<=r/\r<=left/\(0<=r->Zh2 x):=by
 obtain⟨s0,s1,s2⟩:=hz;unfold maxLen at s0 s1 s2;go_enter func91,ntmps91;go_wp2
 all_goals go_ret
 all_goals exact⟨_,rfl,Zb_.alloc Zl_ _,by omega,by omega,fun _=>rfl⟩
theorem ZpK (x:Pu) (w:World) :
 Calls prog 114 #[.agg #[.string x.dr,.string x.tm,.string x.re,.int .i64 x.am,.int .i64 x.un]] w fun e w'=>e=.returned (.agg #[.string x.dr,.string x.tm,.string x.re,.int .i64 x.am,.int .i64 x.un])/\Zw_ w w':=by
 go_enter func114,ntmps114;go_wp2;refine bodyPost_ret (v:=.agg #[.string x.dr,.string x.tm,.string x.re,.int .i64 x.am,.int .i64 x.un]) (by simp [results,results114,go_sem]) rfl ⟨rfl,?_⟩
 repeat (refine Below.setCell ?_ (by simp) _)
 exact ((Zb_.alloc Zl_ _).alloc (by simp) _).alloc (by simp;omega) _
theorem Zns (x:Pu) (w:World) :
 Calls prog 142 #[.agg #[.string x.dr,.string x.tm,.string x.re,.int .i64 x.am,.int .i64 x.un],.agg #[.string x.dr,.string x.tm,.string x.re,.int .i64 x.am,.int .i64 x.un]] w fun e w'=>e=.returned (.bool true)/\Zw_ w w':=by
 go_enter func142,ntmps142;go_wp2;go_ret;exact⟨rfl,(Zb_.alloc Zl_ _).alloc (by simp) _⟩
theorem Zom (lo:Nat) (v:Value) (Xl:List Pu) (left:Int) (w:World) (h0:0<=left) (h1:left<=1048576) (hv:Zca lo w v Xl) :
 Calls prog 38 #[v,.int .i64 left] w fun e w'=>∃ r:Int,e=.returned (.int .i64 r)/\Zw_ w w'/\ZsC Xl left r:=by
 rcases hv with ⟨a,cap,rfl,rfl⟩ | ⟨b,off,cap,rfl,hne,hm,hbw,_,_,hc⟩
 . go_enter func38,ntmps38
   go_wp2
   go_loop [1,5] (fun l i=>∃ r:Int,l=.int .i64 r/\0<=r/\r<=left/\i=.int .i64 0) (fun _ _=>0)
   case atStart=>exact⟨_,rfl,by omega,by omega,rfl⟩
   case round=>
    obtain⟨r,rfl,hr0,hr1,rfl⟩:=hrel;go_wp2;go_ret;exact⟨r,rfl,Below.refl _ _,by omega,by omega,fun _=>⟨by simp,fun i h=>by simp at h⟩⟩
 . unfold maxLen at hm
   by_cases hle:(Xl.length:Int)<=left
   . go_enter func38,ntmps38
     go_wp2
     go_loopw [1,5] (fun l i wr=>∃ (r:Int) (k:Nat),l=.int .i64 r/\0<=r/\r<=left/\i=.int .i64 k/\k<=Xl.length/\Zw_ w wr/\∀ j (hj:j < Xl.length),j < k->Zh2 Xl[j]) (fun _ i _=>Xl.length - (intOf i).toNat)
     case atStart=>exact⟨_,0,rfl,by omega,by omega,rfl,by omega,Below.refl _ _,fun j _ h=>by omega⟩
     case round=>
      obtain⟨r,k,rfl,hr0,hr1,rfl,hk,hb,hall⟩:=hrel;have HA:=Zab hall;clear hall
      by_cases hlt:k < Xl.length
      . obtain⟨hs,hc⟩:=hc k hlt
        obtain⟨c0,c1,c2,c3,c4⟩:=hc.below hb hbw;clear hc;go_wp2_with fail;refine (Zpz _ _ _ hr0 (by omega) hs).mono ?_;rintro e w1 ⟨r1,rfl,hb1,q0,q1,q2⟩;have HQ2:=Zab q2;have hB:Hd (Zw_ w w1):=hb.trans (hb1.mono hb.size);clear hb1 c0 c1 c2 c3 c4 hb q2
        by_cases hneg:r1 < 0
        . go_wp2
          go_ret;exact⟨-1,rfl,hB.o,by omega,by omega,fun h=>by omega⟩
        . have HL:Hd (Zh2 Xl[k]):=HQ2.o (by omega)
          clear HQ2;go_wp2;go_roundw
          case rel=>exact⟨_,k+1,rfl,by omega,by omega,by go_num,by omega,hB.o,fun j hj h=>by
                     by_cases e:j=k
                     . subst e;exact HL.o
                     . exact HA.o j hj (by omega)⟩
          . simp [intOf];omega
      . go_wp2
        go_ret;exact⟨r,rfl,hb,by omega,by omega,fun _=>⟨by omega,fun j hj=>HA.o j hj (by omega)⟩⟩
   . go_enter func38,ntmps38
     go_wp2;go_ret;exact⟨-1,rfl,Below.refl _ _,by omega,by omega,fun h=>by omega⟩
theorem ZlR (lo lo':Nat) (v v':Value) (Xl:List Pu) (w:World) (hv:Zca lo w v Xl) (hv':Zca lo' w v' Xl) :
 Calls prog 84 #[v,v'] w fun e w'=>e=.returned (.bool true)/\Zw_ w w':=by
 by_cases hL:Xl=[]
 . subst hL
   obtain⟨a,cap,rfl⟩:=hv.form;obtain⟨a',cap',rfl⟩:=hv'.form;clear hv hv';go_enter func84,ntmps84;go_wp2
   go_loop [5] (fun i=>i=.int .i64 0) (fun _=>0)
   case atStart=>rfl
   case round=>
    subst hrel;go_wp2;go_ret;exact⟨rfl,Below.refl _ _⟩
 . obtain⟨b,off,cap,rfl,hm,hbw,_,hc⟩:=hv.full hL
   obtain⟨b',off',cap',rfl,_,hbw',_,hc'⟩:=hv'.full hL;clear hv hv';unfold maxLen at hm;go_enter func84,ntmps84;go_wp2
   go_loopw [5] (fun i wr=>∃ k:Nat,i=.int .i64 k/\k<=Xl.length/\Zw_ w wr) (fun i _=>Xl.length - (intOf i).toNat)
   case atStart=>exact⟨0,rfl,by omega,Below.refl _ _⟩
   case round=>
    obtain⟨k,rfl,hk,hb⟩:=hrel
    by_cases hlt:k < Xl.length
    . obtain⟨hs,hc⟩:=hc k hlt
      obtain⟨ht,hd⟩:=hc' k hlt;obtain⟨c0,c1,c2,c3,c4⟩:=hc.below hb hbw;obtain⟨d0,d1,d2,d3,d4⟩:=hd.below hb hbw';clear hc hd hs ht;have HB:=Zab hb;clear hb;go_wp2
      go_region_with (go_at_call 142;refine (Zns _ _ ).mono ?_;rintro e w1 ⟨rfl,hb1⟩;have hB:Hd (Zw_ w w1):=(HB.o.drew).trans (hb1.mono HB.o.size);clear hb1)
      all_goals go_wp2
      all_goals go_roundw
      all_goals first
       | (case rel=>exact⟨k+1,by go_num,by omega,hB.o⟩)
       | (case measure=>simp [intOf];omega)
    . go_wp2
      go_ret;exact⟨rfl,hb⟩
theorem Tryz.info188:(prog.info? 188).map (fun i=>(i.zero,i.size,i.bytes))=some (some (.agg #[.string ⟨#[]⟩,.string ⟨#[]⟩,.string ⟨#[]⟩,.int .i64 0,.int .i64 0]),5,64):=by kernel_rfl
def ZbT (wr:World) (B:Nat) (Xl:List Pu) (k:Nat):Prop:=
 ∃ f,wr.rowIs B 188 (Xl.length*5) f/\∀ i (h:i < Xl.length),i < k->Zfw Xl[i]/\f (i*5)=.string Xl[i].dr/\f (i*5+1)=.string Xl[i].tm/\f (i*5+2)=.string Xl[i].re/\f (i*5+3)=.int .i64 Xl[i].am/\f (i*5+4)=.int .i64 Xl[i].un
theorem ZbT.below (h:ZbT wr B Xl k) (hb:Below wr.heap.size wr w1):ZbT w1 B Xl k:=by
 obtain⟨f,hr,hall⟩:=h;refine⟨f,hr.of_block (hb.block B hr.lt),fun i hi hik=>?_⟩;obtain⟨hz,h0,h1,h2,h3,h4⟩:=hall i hi hik;exact⟨hz,h0,h1,h2,h3,h4⟩
theorem ZbT.free (h:ZbT wr B Xl k) (i:Nat):wr.frozen? ⟨B,i,none⟩=false:=by
 obtain⟨f,hr,_⟩:=h;exact hr.frozen i
theorem ZbT.there (h:ZbT wr B Xl k) (i:Nat) (hi:i < Xl.length*5):∃ v,wr.cell? ⟨B,i,none⟩=some v:=by
 obtain⟨f,hr,_⟩:=h;exact⟨_,hr.cell hi⟩
theorem ZbT.step (h:ZbT w1 B Xl k) (hk:k < Xl.length) (hz:Zfw Xl[k]) :
 ZbT (((((w1.setCell ⟨B,k*5,none⟩ (.string Xl[k].dr)).setCell ⟨B,k*5+1,none⟩ (.string Xl[k].tm)).setCell ⟨B,k*5+2,none⟩ (.string Xl[k].re)).setCell ⟨B,k*5+3,none⟩ (.int .i64 Xl[k].am)).setCell ⟨B,k*5+4,none⟩ (.int .i64 Xl[k].un)) B Xl (k+1):=by
 obtain⟨f,hr,hall⟩:=h;refine⟨_,(((((hr.set _ _).set _ _).set _ _).set _ _).set _ _),fun i hi hik=>?_⟩
 by_cases e:i=k
 . subst e
   refine⟨hz,by simp,by simp,by simp,by simp,by simp⟩
 . obtain⟨hz',h0,h1,h2,h3,h4⟩:=hall i hi (by omega)
   refine⟨hz',?_,?_,?_,?_,?_⟩
   . rw [if_neg (by omega),if_neg (by omega),if_neg (by omega),if_neg (by omega),if_neg (by omega)];exact h0
   . rw [if_neg (by omega),if_neg (by omega),if_neg (by omega),if_neg (by omega),if_neg (by omega)];exact h1
   . rw [if_neg (by omega),if_neg (by omega),if_neg (by omega),if_neg (by omega),if_neg (by omega)];exact h2
   . rw [if_neg (by omega),if_neg (by omega),if_neg (by omega),if_neg (by omega),if_neg (by omega)];exact h3
   . rw [if_neg (by omega),if_neg (by omega),if_neg (by omega),if_neg (by omega),if_neg (by omega)];exact h4
theorem ZbT.done (h:ZbT wr B Xl k) (hk:Xl.length<=k) (hne:Xl≠[]) (hm:Xl.length<=maxLen):Zca B wr (.slice (some ⟨B,0,none⟩) Xl.length Xl.length) Xl:=by
 obtain⟨f,hr,hall⟩:=h;refine Or.inr ⟨B,0,Xl.length,rfl,hne,hm,hr.lt,Nat.le_refl _,Nat.le_refl _,fun i hi=>?_⟩;obtain⟨hz,h0,h1,h2,h3,h4⟩:=hall i hi (by omega);rw [Nat.zero_add];exact⟨hz,⟨by rw [hr.cell (by omega),h0],by rw [hr.cell (by omega),h1],by rw [hr.cell (by omega),h2],by rw [hr.cell (by omega),h3],by rw [hr.cell (by omega),h4]⟩⟩
theorem ZbT.new (w:World) (Xl:List Pu) (z:Array Value):ZbT (w.alloc (.cells (madeCells z (Xl.length*5)) 188)) w.heap.size Xl 0:=by
 refine⟨fun i=>(madeCells z (Xl.length*5)).getD i default,?_,fun i _ h=>by omega⟩;have:=World.rowIs_alloc w (madeCells z (Xl.length*5)) 188 (fun i=>(madeCells z (Xl.length*5)).getD i default) (fun i hi=>by simp [Array.getD,hi])
 rwa [size_madeCells] at this
theorem ZoC (lo:Nat) (v:Value) (Xl:List Pu) (w:World) (hv:Zca lo w v Xl) (hn:Zh3 Xl) :
 Calls prog 63 #[v] w fun e w'=>∃ v',e=.returned v'/\Zw_ w w'/\Zca w.heap.size w' v' Xl:=by
 obtain⟨i0,hi,hz0,hz1,hz2⟩:=info_parts Tryz.info188;have hn1:=hn.1;clear hn
 by_cases hL:Xl=[]
 . subst hL
   obtain⟨a,cap,rfl⟩:=hv.form;clear hv
   have hmk:∀ u:World,(Instr.makeSlice 48 (.int .i64 0) (.int .i64 0)).run prog u=.ok (.slice (some ⟨u.heap.size,0,none⟩) 0 0) (u.alloc (.cells (madeCells (Value.cells (.agg #[.string ⟨#[]⟩,.string ⟨#[]⟩,.string ⟨#[]⟩,.int .i64 0,.int .i64 0])) 0) 188)):=fun u=>by
    have h:=run_make (P:=prog) u 48 188 i0 _ underlying48 hi hz0 .i64 .i64 0 0 (by omega) (by omega) (by omega) (by omega)
    simpa [hz1] using h
   go_enter func63,ntmps63;go_wp2
   go_loop [4] (fun i=>i=.int .i64 0) (fun _=>0)
   case atStart=>rfl
   case round=>
    subst hrel;go_wp2;go_ret;exact⟨_,rfl,Zb_.alloc Zl_ _,Or.inl ⟨_,_,rfl,rfl⟩⟩
 . obtain⟨b,off,cap,rfl,hm,hbw,_,hc⟩:=hv.full hL
   clear hv;have HM:Hd (Xl.length<=maxLen):=hm;unfold maxLen at hm
   have hmk:∀ u:World,(Instr.makeSlice 48 (.int .i64 (Xl.length:Int)) (.int .i64 (Xl.length:Int))).run prog u=.ok (.slice (some ⟨u.heap.size,0,none⟩) Xl.length Xl.length) (u.alloc (.cells (madeCells (Value.cells (.agg #[.string ⟨#[]⟩,.string ⟨#[]⟩,.string ⟨#[]⟩,.int .i64 0,.int .i64 0])) (Xl.length*5)) 188)):=fun u=>by
    have h:=run_make (P:=prog) u 48 188 i0 _ underlying48 hi hz0 .i64 .i64 Xl.length Xl.length (by omega) (by omega) (by rw [hz2];omega) (by omega);rw [hz1] at h
    simpa using h
   clear hi hz0 hz1 hz2;go_enter func63,ntmps63;go_wp2;clear hmk
   go_loopw [4] (fun i wr=>∃ k:Nat,i=.int .i64 k/\k<=Xl.length/\Zw_ w wr/\ZbT wr w.heap.size Xl k) (fun i _=>Xl.length - (intOf i).toNat)
   case atStart=>exact⟨0,rfl,by omega,Zb_.alloc Zl_ _,ZbT.new w Xl _⟩
   case round=>
    obtain⟨k,rfl,hk,hb,hf⟩:=hrel
    by_cases hlt:k < Xl.length
    . obtain⟨hs,hc⟩:=hc k hlt
      obtain⟨c0,c1,c2,c3,c4⟩:=hc.below hb hbw
      have hBl:w.heap.size < wr.heap.size:=by
       obtain⟨_,hr,_⟩:=hf;exact hr.lt
      clear hc;go_wp2_with fail;refine (ZpK _ _ ).mono ?_;rintro e w1 ⟨rfl,hb1⟩;have hf1:=hf.below hb1;have HST:=Zab (hf1.step hlt hs );have hB:Hd (Zw_ w w1):=hb.trans (hb1.mono hb.size);have hfr:=hf1.free;obtain⟨o0,ho0⟩:=hf1.there (k*5) (by omega);obtain⟨o1,ho1⟩:=hf1.there (k*5+1) (by omega);obtain⟨o2,ho2⟩:=hf1.there (k*5+2) (by omega);obtain⟨o3,ho3⟩:=hf1.there (k*5+3) (by omega);obtain⟨o4,ho4⟩:=hf1.there (k*5+4) (by omega);clear hf hf1 hb1 hb c0 c1 c2 c3 c4;go_wp2;go_roundw
      . 
       exact⟨k+1,by go_num,by omega,(((((hB.o.setCell Zl_ _).setCell Zl_ _).setCell Zl_ _).setCell Zl_ _).setCell Zl_ _),HST.o⟩
      . simp [intOf];omega
    . go_wp2
      go_ret;exact⟨_,rfl,hb,hf.done (by omega) hL HM.o⟩
end
section
structure Bk where
 now:Int
 tick:Int
 given:Int
 os:List Ob
 gs:List Gr
 ls:List Le
 ps:List Pu
structure Za2 (lo:Nat) (w:World) (ov gv lv pv:Value) (B:Bk):Prop where
 obs:Zbv lo w ov B.os
 grs:ZbG lo w gv B.gs
 les:ZbQ lo w lv B.ls
 pus:Zca lo w pv B.ps
theorem Za2.below {lo:Nat}{w w':World}{ov gv lv pv:Value}{B:Bk} (h:Za2 lo w ov gv lv pv B) (hb:Zw_ w w'):Za2 lo w' ov gv lv pv B:=
 ⟨h.obs.below hb,h.grs.below hb,h.les.below hb,h.pus.below hb⟩
theorem Za2.mono {lo lo':Nat}{w:World}{ov gv lv pv:Value}{B:Bk} (h:Za2 lo w ov gv lv pv B) (hl:lo'<=lo):Za2 lo' w ov gv lv pv B:=
 ⟨h.obs.mono hl,h.grs.mono hl,h.les.mono hl,h.pus.mono hl⟩
def Zbl (B:Bk):Prop:=ZcG B.os/\Zf1 B.gs/\Zh1 B.ls/\Zh3 B.ps
section
variable (lo:Nat) (ov gv lv pv:Value) (B:Bk) (w:World)
theorem ZmB (left:Int) (h0:0<=left) (h1:left<=1048576) (h:Za2 lo w ov gv lv pv B) :
 Calls prog 14 #[.agg #[.int .i64 B.now,.int .i64 B.tick,.int .i64 B.given,ov,gv,lv,pv],.int .i64 left] w
  fun e w'=>∃ r:Int,e=.returned (.int .i64 r)/\Zw_ w w'/\-1<=r/\r<=left/\(0<=r->Zbl B):=by
 have HL:=Zab h;obtain⟨a0,k0,rfl⟩:=h.obs.form;obtain⟨a1,k1,rfl⟩:=h.grs.form;obtain⟨a2,k2,rfl⟩:=h.les.form;obtain⟨a3,k3,rfl⟩:=h.pus.form;clear h;go_enter func14,ntmps14;go_wp2_with fail;generalize hWa:w.alloc _=Wa;have HB0:Hd (Zw_ w Wa):=by rw [<- hWa];exact Zac w _
 have HX0:Hd (Box Wa w.heap.size #[.int .i64 B.now,.int .i64 B.tick,.int .i64 B.given,.slice a0 B.os.length k0,.slice a1 B.gs.length k1,.slice a2 B.ls.length k2,.slice a3 B.ps.length k3]):=by rw [<- hWa];exact Box.new _ _ _ _ rfl
 clear hWa;have hr0:(0:Int)<=left:=h0;refine (Zol lo _ B.os _ _ (by omega) (by omega) (HL.o.below HB0.o).obs).mono ?_;rintro e w1 ⟨r1,rfl,hb1,p1,q1,s1⟩;have HX1:=Zab (HX0.o.on hb1);have HB1:Hd (Zw_ w w1):=HB0.o.trans (hb1.mono HB0.o.size);have Q1:=Zab s1;clear hb1 s1 HB0 HX0
 by_cases hn1:r1 < 0
 . go_wp2
   go_ret;exact⟨-1,rfl,HB1.o,by omega,by omega,fun h=>by omega⟩
 have c1:=HX1.o.cell 4;simp at c1;go_wp2_with fail;clear c1;refine (ZjU lo _ B.gs _ _ (by omega) (by omega) (HL.o.below HB1.o).grs).mono ?_;rintro e w2 ⟨r2,rfl,hb2,p2,q2,s2⟩;have HX2:=Zab (HX1.o.on hb2);have HB2:Hd (Zw_ w w2):=HB1.o.trans (hb2.mono HB1.o.size);have Q2:=Zab s2;clear hb2 s2 HB1 HX1
 by_cases hn2:r2 < 0
 . go_wp2
   go_ret;exact⟨-1,rfl,HB2.o,by omega,by omega,fun h=>by omega⟩
 have c2:=HX2.o.cell 5;simp at c2;go_wp2_with fail;clear c2;refine (Zoj lo _ B.ls _ _ (by omega) (by omega) (HL.o.below HB2.o).les).mono ?_;rintro e w3 ⟨r3,rfl,hb3,p3,q3,s3⟩;have HX3:=Zab (HX2.o.on hb3);have HB3:Hd (Zw_ w w3):=HB2.o.trans (hb3.mono HB2.o.size);have Q3:=Zab s3;clear hb3 s3 HB2 HX2
 by_cases hn3:r3 < 0
 . go_wp2
   go_ret;exact⟨-1,rfl,HB3.o,by omega,by omega,fun h=>by omega⟩
 have c3:=HX3.o.cell 6;simp at c3;go_wp2_with fail;clear c3;refine (Zom lo _ B.ps _ _ (by omega) (by omega) (HL.o.below HB3.o).pus).mono ?_;rintro e w4 ⟨r4,rfl,hb4,p4,q4,s4⟩;have HX4:=Zab (HX3.o.on hb4);have HB4:Hd (Zw_ w w4):=HB3.o.trans (hb4.mono HB3.o.size);have Q4:=Zab s4;clear hb4 s4 HB3 HX3
 by_cases hn4:r4 < 0
 . go_wp2
   go_ret;exact⟨-1,rfl,HB4.o,by omega,by omega,fun h=>by omega⟩
 go_wp2;go_ret;exact⟨_,rfl,HB4.o,by omega,by omega,fun h=>⟨Q1.o (by omega),Q2.o (by omega),Q3.o (by omega),Q4.o (by omega)⟩⟩
theorem Zkh (lo':Nat) (ov' gv' lv' pv':Value) (h:Za2 lo w ov gv lv pv B) (h':Za2 lo' w ov' gv' lv' pv' B) :
 Calls prog 32 #[.agg #[.int .i64 B.now,.int .i64 B.tick,.int .i64 B.given,ov,gv,lv,pv],.agg #[.int .i64 B.now,.int .i64 B.tick,.int .i64 B.given,ov',gv',lv',pv']] w fun e w'=>e=.returned (.bool true)/\Zw_ w w':=by
 have HL:=Zab h;have HR:=Zab h';obtain⟨a0,k0,rfl⟩:=h.obs.form;obtain⟨a1,k1,rfl⟩:=h.grs.form;obtain⟨a2,k2,rfl⟩:=h.les.form;obtain⟨a3,k3,rfl⟩:=h.pus.form;obtain⟨d0,md0,rfl⟩:=h'.obs.form;obtain⟨d1,md1,rfl⟩:=h'.grs.form;obtain⟨d2,md2,rfl⟩:=h'.les.form;obtain⟨d3,md3,rfl⟩:=h'.pus.form;clear h h';go_enter func32,ntmps32;go_wp2_with fail;generalize hWa:(World.alloc (w.alloc _) _)=Wa;have HB0:Hd (Zw_ w Wa):=by rw [<- hWa];exact (Zac w _).alloc (by simp) _
 have HX0:Hd (Box Wa w.heap.size #[.int .i64 B.now,.int .i64 B.tick,.int .i64 B.given,.slice a0 B.os.length k0,.slice a1 B.gs.length k1,.slice a2 B.ls.length k2,.slice a3 B.ps.length k3]):=by rw [<- hWa];exact (Box.new _ _ _ _ rfl).on (Zac _ _)
 have HY0:Hd (Box Wa (w.heap.size+1) #[.int .i64 B.now,.int .i64 B.tick,.int .i64 B.given,.slice d0 B.os.length md0,.slice d1 B.gs.length md1,.slice d2 B.ls.length md2,.slice d3 B.ps.length md3]):=by rw [<- hWa];exact Box.new _ _ _ _ (by simp)
 clear hWa;refine (ZlQ lo lo' _ _ B.os _ (HL.o.below HB0.o).obs (HR.o.below HB0.o).obs).mono ?_;rintro e w1 ⟨rfl,hb1⟩;have HX1:=Zab (HX0.o.on hb1);have HY1:=Zab (HY0.o.on hb1);have HB1:Hd (Zw_ w w1):=HB0.o.trans (hb1.mono HB0.o.size);clear hb1 HB0 HX0 HY0;have c1:=HX1.o.cell 4;have e1:=HY1.o.cell 4;simp at c1 e1;go_wp2_with fail;clear c1 e1;refine (Zhy lo lo' _ _ B.gs _ (HL.o.below HB1.o).grs (HR.o.below HB1.o).grs).mono ?_;rintro e w2 ⟨rfl,hb2⟩;have HX2:=Zab (HX1.o.on hb2);have HY2:=Zab (HY1.o.on hb2);have HB2:Hd (Zw_ w w2):=HB1.o.trans (hb2.mono HB1.o.size);clear hb2 HB1 HX1 HY1;have c2:=HX2.o.cell 5;have e2:=HY2.o.cell 5;simp at c2 e2;go_wp2_with fail;clear c2 e2;refine (ZlO lo lo' _ _ B.ls _ (HL.o.below HB2.o).les (HR.o.below HB2.o).les).mono ?_;rintro e w3 ⟨rfl,hb3⟩
 have HX3:=Zab (HX2.o.on hb3);have HY3:=Zab (HY2.o.on hb3);have HB3:Hd (Zw_ w w3):=HB2.o.trans (hb3.mono HB2.o.size);clear hb3 HB2 HX2 HY2;have c3:=HX3.o.cell 6;have e3:=HY3.o.cell 6;simp at c3 e3;go_wp2_with fail;clear c3 e3;refine (ZlR lo lo' _ _ B.ps _ (HL.o.below HB3.o).pus (HR.o.below HB3.o).pus).mono ?_;rintro e w4 ⟨rfl,hb4⟩;have HX4:=Zab (HX3.o.on hb4);have HY4:=Zab (HY3.o.on hb4);have HB4:Hd (Zw_ w w4):=HB3.o.trans (hb4.mono HB3.o.size);clear hb4 HB3 HX3 HY3;go_wp2;go_ret;exact⟨rfl,HB4.o⟩
theorem ZmH (h:Za2 lo w ov gv lv pv B) (hn:Zbl B) :
 Calls prog 23 #[.agg #[.int .i64 B.now,.int .i64 B.tick,.int .i64 B.given,ov,gv,lv,pv]] w
  fun e w'=>∃ b0 m0 b1 m1 b2 m2 b3 m3,e=.returned (.agg #[.int .i64 B.now,.int .i64 B.tick,.int .i64 B.given,.slice b0 B.os.length m0,.slice b1 B.gs.length m1,.slice b2 B.ls.length m2,.slice b3 B.ps.length m3])/\Zw_ w w'/\
   Za2 w.heap.size w' (.slice b0 B.os.length m0) (.slice b1 B.gs.length m1) (.slice b2 B.ls.length m2) (.slice b3 B.ps.length m3) B:=by
 have HL:=Zab h;obtain⟨a0,k0,rfl⟩:=h.obs.form;obtain⟨a1,k1,rfl⟩:=h.grs.form;obtain⟨a2,k2,rfl⟩:=h.les.form;obtain⟨a3,k3,rfl⟩:=h.pus.form;obtain⟨hn0,hn1,hn2,hn3⟩:=hn;clear h;go_enter func23,ntmps23;go_wp2_with fail
 obtain⟨wz,hwz,HX0,HR0,HO0,HB0⟩:∃ wz,wz=((w.alloc (.cells #[.int .i64 B.now,.int .i64 B.tick,.int .i64 B.given,.slice a0 B.os.length k0,.slice a1 B.gs.length k1,.slice a2 B.ls.length k2,.slice a3 B.ps.length k3] 30)).alloc (.cells #[.int .i64 0,.int .i64 0,.int .i64 0,.slice none 0 0,.slice none 0 0,.slice none 0 0,.slice none 0 0] 50)).alloc (.cells #[.int .i64 B.now,.int .i64 B.tick,.int .i64 B.given,.slice none 0 0,.slice none 0 0,.slice none 0 0,.slice none 0 0] 50)/\
  Hd (Box wz w.heap.size #[.int .i64 B.now,.int .i64 B.tick,.int .i64 B.given,.slice a0 B.os.length k0,.slice a1 B.gs.length k1,.slice a2 B.ls.length k2,.slice a3 B.ps.length k3])/\Hd (Box wz (w.heap.size+1) #[.int .i64 0,.int .i64 0,.int .i64 0,.slice none 0 0,.slice none 0 0,.slice none 0 0,.slice none 0 0])/\
  Hd (Box wz (w.heap.size+1+1) #[.int .i64 B.now,.int .i64 B.tick,.int .i64 B.given,.slice none 0 0,.slice none 0 0,.slice none 0 0,.slice none 0 0])/\Hd (Zw_ w wz):=
  ⟨_,rfl,((Box.new w _ _ _ rfl).on (Zac _ _)).on (Zac _ _),(Box.new _ _ _ _ (by simp)).on (Zac _ _),Box.new _ _ _ _ (by simp),((Zac _ _).trans ((Zac _ _).mono (by simp))).trans ((Zac _ _).mono (by simp;omega))⟩
 rw [<- hwz];clear hwz;generalize wz=v0 at*;have hz0:w.heap.size+3<=v0.heap.size:=by have:=HO0.o.lt;omega
 refine (ZoB lo _ B.os _ (HL.o.below HB0.o).obs hn0).mono ?_;rintro e w0 ⟨u0,rfl,hb0,hs0⟩;obtain⟨b0,m0,rfl⟩:=hs0.form;have GX:=Zab (HX0.o.on hb0);have GR:=Zab (HR0.o.on hb0);have GO:=Zab (HO0.o.on hb0);have GB:=Zab (HB0.o.trans (hb0.mono HB0.o.size));have GN:Hd (Zbv (w.heap.size+3) w0 (.slice b0 B.os.length m0) B.os):=hs0.mono hz0;clear hb0 hs0 HX0 HR0 HO0 HB0 hz0;have o0:=GO.o.cell 3;have f0:=GO.o.free 3;have x1:=GX.o.cell 4;simp at o0 f0 x1;go_wp2_with fail;clear o0 f0 x1
 obtain⟨v1,hwq,HX1,HR1,HO1,HB1,HS0⟩:∃ wq,wq=w0.setCell ⟨w.heap.size+1+1,3,none⟩ (.slice b0 B.os.length m0)/\
  Hd (Box wq w.heap.size #[.int .i64 B.now,.int .i64 B.tick,.int .i64 B.given,.slice a0 B.os.length k0,.slice a1 B.gs.length k1,.slice a2 B.ls.length k2,.slice a3 B.ps.length k3])/\Hd (Box wq (w.heap.size+1) #[.int .i64 0,.int .i64 0,.int .i64 0,.slice none 0 0,.slice none 0 0,.slice none 0 0,.slice none 0 0])/\
  Hd (Box wq (w.heap.size+1+1) #[.int .i64 B.now,.int .i64 B.tick,.int .i64 B.given,.slice b0 B.os.length m0,.slice none 0 0,.slice none 0 0,.slice none 0 0])/\Hd (Zw_ w wq)/\Hd (Zbv (w.heap.size+3) wq (.slice b0 B.os.length m0) B.os):=
  ⟨_,rfl,GX.o.setFar (by simp only [];omega) _,GR.o.setFar (by simp only [];omega) _,GO.o.set (k:=3) (.slice b0 B.os.length m0) (by simp),GB.o.setCell (by simp only [];omega) _,GN.o.set (by simp only [];omega) _⟩
 rw [<- hwq];clear hwq GX GR GO GB GN;have hz1:w.heap.size+3<=v1.heap.size:=by have:=HO1.o.lt;omega
 refine (ZjY lo _ B.gs _ (HL.o.below HB1.o).grs hn1).mono ?_;rintro e w1 ⟨u1,rfl,hb1,hs1⟩;obtain⟨b1,m1,rfl⟩:=hs1.form;have GX:=Zab (HX1.o.on hb1);have GR:=Zab (HR1.o.on hb1);have GO:=Zab (HO1.o.on hb1);have GB:=Zab (HB1.o.trans (hb1.mono HB1.o.size));have GN:Hd (ZbG (w.heap.size+3) w1 (.slice b1 B.gs.length m1) B.gs):=hs1.mono hz1;have G0:=Zab (HS0.o.below hb1);clear hb1 hs1 HX1 HR1 HO1 HB1 hz1 HS0;have o0:=GO.o.cell 4;have f0:=GO.o.free 4;have x1:=GX.o.cell 5;simp at o0 f0 x1;go_wp2_with fail;clear o0 f0 x1
 obtain⟨v2,hwq,HX2,HR2,HO2,HB2,HS1,HS0⟩:∃ wq,wq=w1.setCell ⟨w.heap.size+1+1,4,none⟩ (.slice b1 B.gs.length m1)/\
  Hd (Box wq w.heap.size #[.int .i64 B.now,.int .i64 B.tick,.int .i64 B.given,.slice a0 B.os.length k0,.slice a1 B.gs.length k1,.slice a2 B.ls.length k2,.slice a3 B.ps.length k3])/\Hd (Box wq (w.heap.size+1) #[.int .i64 0,.int .i64 0,.int .i64 0,.slice none 0 0,.slice none 0 0,.slice none 0 0,.slice none 0 0])/\
  Hd (Box wq (w.heap.size+1+1) #[.int .i64 B.now,.int .i64 B.tick,.int .i64 B.given,.slice b0 B.os.length m0,.slice b1 B.gs.length m1,.slice none 0 0,.slice none 0 0])/\Hd (Zw_ w wq)/\Hd (ZbG (w.heap.size+3) wq (.slice b1 B.gs.length m1) B.gs)/\Hd (Zbv (w.heap.size+3) wq (.slice b0 B.os.length m0) B.os):=
  ⟨_,rfl,GX.o.setFar (by simp only [];omega) _,GR.o.setFar (by simp only [];omega) _,GO.o.set (k:=4) (.slice b1 B.gs.length m1) (by simp),GB.o.setCell (by simp only [];omega) _,GN.o.set (by simp only [];omega) _,G0.o.set (by simp only [];omega) _⟩
 rw [<- hwq];clear hwq GX GR GO GB GN G0;have hz2:w.heap.size+3<=v2.heap.size:=by have:=HO2.o.lt;omega
 refine (Zoz lo _ B.ls _ (HL.o.below HB2.o).les hn2).mono ?_;rintro e w2 ⟨u2,rfl,hb2,hs2⟩;obtain⟨b2,m2,rfl⟩:=hs2.form;have GX:=Zab (HX2.o.on hb2);have GR:=Zab (HR2.o.on hb2);have GO:=Zab (HO2.o.on hb2);have GB:=Zab (HB2.o.trans (hb2.mono HB2.o.size));have GN:Hd (ZbQ (w.heap.size+3) w2 (.slice b2 B.ls.length m2) B.ls):=hs2.mono hz2;have G0:=Zab (HS0.o.below hb2);have G1:=Zab (HS1.o.below hb2);clear hb2 hs2 HX2 HR2 HO2 HB2 hz2 HS0 HS1;have o0:=GO.o.cell 5;have f0:=GO.o.free 5;have x1:=GX.o.cell 6;simp at o0 f0 x1;go_wp2_with fail;clear o0 f0 x1
 obtain⟨v3,hwq,HX3,HR3,HO3,HB3,HS2,HS0,HS1⟩:∃ wq,wq=w2.setCell ⟨w.heap.size+1+1,5,none⟩ (.slice b2 B.ls.length m2)/\
  Hd (Box wq w.heap.size #[.int .i64 B.now,.int .i64 B.tick,.int .i64 B.given,.slice a0 B.os.length k0,.slice a1 B.gs.length k1,.slice a2 B.ls.length k2,.slice a3 B.ps.length k3])/\Hd (Box wq (w.heap.size+1) #[.int .i64 0,.int .i64 0,.int .i64 0,.slice none 0 0,.slice none 0 0,.slice none 0 0,.slice none 0 0])/\
  Hd (Box wq (w.heap.size+1+1) #[.int .i64 B.now,.int .i64 B.tick,.int .i64 B.given,.slice b0 B.os.length m0,.slice b1 B.gs.length m1,.slice b2 B.ls.length m2,.slice none 0 0])/\Hd (Zw_ w wq)/\Hd (ZbQ (w.heap.size+3) wq (.slice b2 B.ls.length m2) B.ls)/\Hd (Zbv (w.heap.size+3) wq (.slice b0 B.os.length m0) B.os)/\Hd (ZbG (w.heap.size+3) wq (.slice b1 B.gs.length m1) B.gs):=
  ⟨_,rfl,GX.o.setFar (by simp only [];omega) _,GR.o.setFar (by simp only [];omega) _,GO.o.set (k:=5) (.slice b2 B.ls.length m2) (by simp),GB.o.setCell (by simp only [];omega) _,GN.o.set (by simp only [];omega) _,G0.o.set (by simp only [];omega) _,G1.o.set (by simp only [];omega) _⟩
 rw [<- hwq];clear hwq GX GR GO GB GN G0 G1;have hz3:w.heap.size+3<=v3.heap.size:=by have:=HO3.o.lt;omega
 refine (ZoC lo _ B.ps _ (HL.o.below HB3.o).pus hn3).mono ?_;rintro e w3 ⟨u3,rfl,hb3,hs3⟩;obtain⟨b3,m3,rfl⟩:=hs3.form;have GX:=Zab (HX3.o.on hb3);have GR:=Zab (HR3.o.on hb3);have GO:=Zab (HO3.o.on hb3);have GB:=Zab (HB3.o.trans (hb3.mono HB3.o.size));have GN:Hd (Zca (w.heap.size+3) w3 (.slice b3 B.ps.length m3) B.ps):=hs3.mono hz3;have G0:=Zab (HS0.o.below hb3);have G1:=Zab (HS1.o.below hb3);have G2:=Zab (HS2.o.below hb3);clear hb3 hs3 HX3 HR3 HO3 HB3 hz3 HS0 HS1 HS2;have o0:=GO.o.cell 0;have o1:=GO.o.cell 1;have o2:=GO.o.cell 2;have o3:=GO.o.cell 3;have o4:=GO.o.cell 4;have o5:=GO.o.cell 5;have o6:=GO.o.cell 6;have f6:=GO.o.free 6;have r0:=GR.o.cell 0;have g0:=GR.o.free 0;have r1:=GR.o.cell 1;have g1:=GR.o.free 1;have r2:=GR.o.cell 2;have g2:=GR.o.free 2;have r3:=GR.o.cell 3;have g3:=GR.o.free 3;have r4:=GR.o.cell 4
 have g4:=GR.o.free 4;have r5:=GR.o.cell 5;have g5:=GR.o.free 5;have r6:=GR.o.cell 6;have g6:=GR.o.free 6;simp at o0 o1 o2 o3 o4 o5 o6 r0 r1 r2 r3 r4 r5 r6;go_wp2;refine bodyPost_ret (v:=.agg #[.int .i64 B.now,.int .i64 B.tick,.int .i64 B.given,.slice b0 B.os.length m0,.slice b1 B.gs.length m1,.slice b2 B.ls.length m2,.slice b3 B.ps.length m3]) (by simp [results,results23,go_sem,r0,r1,r2,r3,r4,r5,r6]) rfl ⟨_,_,_,_,_,_,_,_,rfl,?_,?_,?_,?_,?_⟩
 . repeat (refine Below.setCell ?_ (by simp only [];omega) _)
   exact GB.o
 . refine Zbv.mono (lo:=w.heap.size+3) ?_ (by omega)
   repeat (refine Zbv.set ?_ (by simp only [];omega) _)
   exact G0.o
 . refine ZbG.mono (lo:=w.heap.size+3) ?_ (by omega)
   repeat (refine ZbG.set ?_ (by simp only [];omega) _)
   exact G1.o
 . refine ZbQ.mono (lo:=w.heap.size+3) ?_ (by omega)
   repeat (refine ZbQ.set ?_ (by simp only [];omega) _)
   exact G2.o
 . refine Zca.mono (lo:=w.heap.size+3) ?_ (by omega)
   repeat (refine Zca.set ?_ (by simp only [];omega) _)
   exact GN.o
end
end
section
variable {n β:Nat} {w:World} {cs:Array Value}
theorem ZjM (b:Nat):∀ (vs:List Value) (o:Nat) (w:World),(w.setCells b o vs).heap.size=w.heap.size
 | [],_,_=>rfl
 | v :: vs,o,w=>(ZjM b vs (o+1) (w.setCell ⟨b,o,none⟩ v)).trans (by simp [World.setCell])
theorem Below.sets {b:Nat} (hb:n<=b):∀ (vs:List Value) (o:Nat) {a w:World},Below n a w->Below n a (w.setCells b o vs)
 | [],_,_,_,h=>h
 | v :: vs,o,_,_,h=>Below.sets hb vs (o+1) (h.setCell hb v)
theorem Box.there (h:Box w β cs) (hn:cs.size=n):w.there β 0 n:=fun j hj=>by
 rw [Nat.zero_add,h.cell j,h.free j];exact⟨by rw [Array.getElem?_eq_getElem (by omega)];rfl,rfl⟩
theorem Box.full {cs':Array Value} (h:Box w β cs) (hs:cs.size=cs'.size):Box (w.setCells β 0 cs'.toList) β cs':=by
 refine⟨by rw [ZjM];exact h.lt,fun i=>?_,fun i=>by rw [World.frozen?_setCells];exact h.free i⟩
 by_cases hi:i < cs'.size
 . have:=World.cell?_setCells_in β cs'.toList 0 w (fun j hj=>(h.there rfl j (by rw [hs];simpa using hj)).1) i (by simpa using hi)
   rw [Nat.zero_add] at this;rw [this,Array.getElem?_eq_getElem hi];simp
 . rw [World.cell?_setCells_out β cs'.toList 0 w ⟨β,i,none⟩ (fun _ _=>Or.inr (by simp;omega)),h.cell i,Array.getElem?_eq_none (by omega),Array.getElem?_eq_none (by omega)]
end
variable {base sz n:Nat} {e:TypeId} {W:World} {v:Value} {cs:List Value}
theorem ZdH (h:W.ownsRow base e sz v n cs) {g:Nat} (hg:v.ownBlock=some g):g < W.heap.size/\base<=g/\∀ i,W.frozen? ⟨g,i,none⟩=false:=by
 rcases h.2 with ⟨hv,_⟩ | ⟨g',cap,cur,hv,h1,h2,_⟩
 . rw [hv] at hg;cases hg
 . rw [hv] at hg
   have e:g'=g:=by simpa [Value.ownBlock] using hg
   subst e;refine⟨?_,h1,fun i=>by simp [World.frozen?,h2]⟩
   rcases Nat.lt_or_ge g' W.heap.size with h | h
   . exact h
   . rw [Array.getElem?_eq_none h] at h2;cases h2
theorem ZeM {w':World} (h:W.ownsRow base e sz v n cs) (hg:W.grownBy w' v.ownBlock) (hb:base<=W.heap.size):Below base W w':=by
 have hlt:=fun g hg=>ZdH h (g:=g) hg
 exact⟨hg.os,hg.tape,hg.output,hg.size,fun k hk=>hg.block k (by omega) fun e=>by have:=(hlt k e.symm).2.1;omega⟩
end Go.Proofs.YtbdhbihhgfpnnaaGreat
