import Derived.Test.YtcfjmagkinpaeaaGreatGAK
import Derived.Deep.MidRow
set_option maxHeartbeats 16000000
set_option maxRecDepth 100000
open Go.Proofs.Tryz
namespace Go.Proofs.YtcfjmagkinpaeaaGreat
open Go.RowKit Go.Deep
structure Wn where
 kd:Zy_
 nm:Zy_
 ve:Int
structure ZfG (x:Wn):Prop where
 s0:x.kd.size≤maxLen
 s1:x.nm.size≤maxLen
def Zh7 (x:Wn):Prop:=x=x
structure Zdr (w:World) (b o:Nat) (x:Wn):Prop where
 c0:w.cell? ⟨b,o,none⟩=some (.string x.kd)
 c1:w.cell? ⟨b,o+1,none⟩=some (.string x.nm)
 c2:w.cell? ⟨b,o+2,none⟩=some (.int .i64 x.ve)
theorem Zdr.below {w w':World} {b o:Nat} {x:Wn} (h:Zdr w b o x ) {m:Nat} (hb:Below m w w') (hlt:b < m):Zdr w' b o x:=by
 have e:∀ o,w'.cell? ⟨b,o,none⟩=w.cell? ⟨b,o,none⟩:=fun o=>hb.cell (p:=⟨b,o,none⟩) hlt
 exact⟨by rw [e];exact h.c0,by rw [e];exact h.c1,by rw [e];exact h.c2⟩
theorem Zdr.set {w:World} {b o:Nat} {x:Wn} (h:Zdr w b o x ) {p:Addr} (hp:b≠p.block) (u:Value):Zdr (w.setCell p u) b o x:=by
 have e:∀ o,(w.setCell p u).cell? ⟨b,o,none⟩=w.cell? ⟨b,o,none⟩:=fun o=>Zar _ _ _ _ hp
 exact⟨by rw [e];exact h.c0,by rw [e];exact h.c1,by rw [e];exact h.c2⟩
def Zca (lo:Nat) (w:World) (v:Value) (Xl:List Wn):Prop:=
 (∃ (a:Option Addr) (cap:Nat),v=.slice a 0 cap∧Xl=[])∨
 ∃ (b off cap:Nat),v=.slice (some ⟨b,off,none⟩) Xl.length cap∧Xl≠[]∧Xl.length≤maxLen∧b < w.heap.size∧lo≤b∧Xl.length≤cap∧
  ∀ i (h:i < Xl.length),ZfG Xl[i]∧Zdr w b (off+i*3) Xl[i]
theorem Zca.below {lo:Nat} {w w':World} {v:Value} {Xl:List Wn} (h:Zca lo w v Xl) (hb:Zw_ w w'):Zca lo w' v Xl:=by
 rcases h with h | ⟨b,off,cap,h1,h2,h3,h4,h5,h6,h7⟩
 · exact Or.inl h
 · refine Or.inr ⟨b,off,cap,h1,h2,h3,Zk_ h4 hb.size,h5,h6,fun i hi=>?_⟩
   obtain⟨hs,hc⟩:=h7 i hi;exact⟨hs,hc.below hb h4⟩
theorem Zca.mono {lo lo':Nat} {w:World} {v:Value} {Xl:List Wn} (h:Zca lo w v Xl) (hl:lo'≤lo):Zca lo' w v Xl:=by
 rcases h with h | ⟨b,off,cap,h1,h2,h3,h4,h5,h6,h7⟩
 · exact Or.inl h
 · refine Or.inr ⟨b,off,cap,h1,h2,h3,h4,Nat.le_trans hl h5,h6,fun i hi=>?_⟩
   obtain⟨hs,hc⟩:=h7 i hi;exact⟨hs,hc⟩
theorem Zca.set {lo:Nat} {w:World} {v:Value} {Xl:List Wn} (h:Zca lo w v Xl) {p:Addr} (hp:p.block < lo) (u:Value):Zca lo (w.setCell p u) v Xl:=by
 rcases h with h | ⟨b,off,cap,h1,h2,h3,h4,h5,h6,h7⟩
 · exact Or.inl h
 · refine Or.inr ⟨b,off,cap,h1,h2,h3,by simpa [World.setCell] using h4,h5,h6,fun i hi=>?_⟩
   obtain⟨hs,hc⟩:=h7 i hi;exact⟨hs,hc.set (by omega) u⟩
theorem Zca.form {lo:Nat} {w:World} {v:Value} {Xl:List Wn} (h:Zca lo w v Xl):∃ a cap,v=.slice a Xl.length cap:=by
 rcases h with ⟨a,cap,h,rfl⟩ | ⟨b,off,cap,h,_⟩
 · exact⟨a,cap,h⟩
 · exact⟨_,cap,h⟩
theorem Zca.full {lo:Nat} {w:World} {v:Value} {Xl:List Wn} (h:Zca lo w v Xl) (hne:Xl≠[]):∃ (b off cap:Nat),v=.slice (some ⟨b,off,none⟩) Xl.length cap∧Xl.length≤maxLen∧b < w.heap.size∧Xl.length≤cap∧
 ∀ i (h:i < Xl.length),ZfG Xl[i]∧Zdr w b (off+i*3) Xl[i]:=by
 rcases h with ⟨_,_,_,h⟩ | ⟨b,off,cap,h1,_,h3,h4,_,h6,h7⟩
 · exact absurd h hne
 · exact⟨b,off,cap,h1,h3,h4,h6,h7⟩
theorem Zca.full' {lo:Nat} {w:World} {a:Option Addr} {n cap:Nat} {Xl:List Wn} (h:Zca lo w (.slice a n cap) Xl) (hL:0 < Xl.length) :
 ∃ b off,a=some ⟨b,off,none⟩∧b < w.heap.size∧lo≤b∧∀ i (h:i < Xl.length),ZfG Xl[i]∧Zdr w b (off+i*3) Xl[i]:=by
 rcases h with ⟨a',cap',h,rfl⟩ | ⟨b',off',cap',h1,h2,h3,h4,h5,h6,h7⟩
 · simp at hL
 · injection h1 with e1 e2 e3
   exact⟨b',off',e1,h4,h5,h7⟩
def Zh8 (Xl:List Wn):Prop:=Xl.length≤1048576∧∀ i (h:i < Xl.length),Zh7 Xl[i]
def Zte (Xl:List Wn) (left r:Int):Prop:= -1≤r∧r≤left∧(0≤r→Zh8 Xl)
theorem Zqq (x:Wn) (left:Int) (w:World) (h0:0≤left) (h1:left≤1048576) (hz:ZfG x) :
 Calls prog 232 #[.agg #[.string x.kd,.string x.nm,.int .i64 x.ve],.int .i64 left] w
  fun e w'=>∃ r:Int,e=.returned (.int .i64 r)∧Zw_ w w'∧-1≤r∧r≤left∧(0≤r→Zh7 x):=by
 obtain⟨s0,s1⟩:=hz;unfold maxLen at s0 s1;go_enter func232,ntmps232;go_wp2
 all_goals go_ret
 all_goals exact⟨_,rfl,Zb_.alloc Zl_ _,by omega,by omega,fun _=>rfl⟩
theorem Zqx (x:Wn) (w:World) :
 Calls prog 234 #[.agg #[.string x.kd,.string x.nm,.int .i64 x.ve]] w fun e w'=>e=.returned (.agg #[.string x.kd,.string x.nm,.int .i64 x.ve])∧Zw_ w w':=by
 go_enter func234,ntmps234;go_wp2;refine bodyPost_ret (v:=.agg #[.string x.kd,.string x.nm,.int .i64 x.ve]) (by simp [results,results234,go_sem]) rfl ⟨rfl,?_⟩
 repeat (refine Below.setCell ?_ (by simp) _)
 exact ((Zb_.alloc Zl_ _).alloc (by simp) _).alloc (by simp;omega) _
theorem Zno (x:Wn) (w:World) :
 Calls prog 244 #[.agg #[.string x.kd,.string x.nm,.int .i64 x.ve],.agg #[.string x.kd,.string x.nm,.int .i64 x.ve]] w fun e w'=>e=.returned (.bool true)∧Zw_ w w':=by
 go_enter func244,ntmps244;go_wp2;go_ret;exact⟨rfl,(Zb_.alloc Zl_ _).alloc (by simp) _⟩
theorem Zox (lo:Nat) (v:Value) (Xl:List Wn) (left:Int) (w:World) (h0:0≤left) (h1:left≤1048576) (hv:Zca lo w v Xl) :
 Calls prog 197 #[v,.int .i64 left] w fun e w'=>∃ r:Int,e=.returned (.int .i64 r)∧Zw_ w w'∧Zte Xl left r:=by
 rcases hv with ⟨a,cap,rfl,rfl⟩ | ⟨b,off,cap,rfl,hne,hm,hbw,_,_,hc⟩
 · go_enter func197,ntmps197
   go_wp2
   go_loop [1,5] (fun l i=>∃ r:Int,l=.int .i64 r∧0≤r∧r≤left∧i=.int .i64 0) (fun _ _=>0)
   case atStart=>exact⟨_,rfl,by omega,by omega,rfl⟩
   case round=>
    obtain⟨r,rfl,hr0,hr1,rfl⟩:=hrel;go_wp2;go_ret;exact⟨r,rfl,Below.refl _ _,by omega,by omega,fun _=>⟨by simp,fun i h=>by simp at h⟩⟩
 · unfold maxLen at hm
   by_cases hle:(Xl.length:Int)≤left
   · go_enter func197,ntmps197
     go_wp2
     go_loopw [1,5] (fun l i wr=>∃ (r:Int) (k:Nat),l=.int .i64 r∧0≤r∧r≤left∧i=.int .i64 k∧k≤Xl.length∧Zw_ w wr∧∀ j (hj:j < Xl.length),j < k→Zh7 Xl[j]) (fun _ i _=>Xl.length - (intOf i).toNat)
     case atStart=>exact⟨_,0,rfl,by omega,by omega,rfl,by omega,Below.refl _ _,fun j _ h=>by omega⟩
     case round=>
      obtain⟨r,k,rfl,hr0,hr1,rfl,hk,hb,hall⟩:=hrel;have HA:=Zab hall;clear hall
      by_cases hlt:k < Xl.length
      · obtain⟨hs,hc⟩:=hc k hlt
        obtain⟨c0,c1,c2⟩:=hc.below hb hbw;clear hc;go_wp2_with fail;refine (Zqq _ _ _ hr0 (by omega) hs).mono ?_;rintro e w1 ⟨r1,rfl,hb1,q0,q1,q2⟩;have HQ2:=Zab q2;have hB:Hid (Zw_ w w1):=hb.trans (hb1.mono hb.size);clear hb1 c0 c1 c2 hb q2
        by_cases hneg:r1 < 0
        · go_wp2
          go_ret;exact⟨-1,rfl,hB.out,by omega,by omega,fun h=>by omega⟩
        · have HL:Hid (Zh7 Xl[k]):=HQ2.out (by omega)
          clear HQ2;go_wp2;go_roundw
          case rel=>exact⟨_,k+1,rfl,by omega,by omega,by go_num,by omega,hB.out,fun j hj h=>by
                     by_cases e:j=k
                     · subst e;exact HL.out
                     · exact HA.out j hj (by omega)⟩
          case measure=>simp [intOf];omega
      · go_wp2
        go_ret;exact⟨r,rfl,hb,by omega,by omega,fun _=>⟨by omega,fun j hj=>HA.out j hj (by omega)⟩⟩
   · go_enter func197,ntmps197
     go_wp2;go_ret;exact⟨-1,rfl,Below.refl _ _,by omega,by omega,fun h=>by omega⟩
theorem ZlW (lo lo':Nat) (v v':Value) (Xl:List Wn) (w:World) (hv:Zca lo w v Xl) (hv':Zca lo' w v' Xl) :
 Calls prog 223 #[v,v'] w fun e w'=>e=.returned (.bool true)∧Zw_ w w':=by
 by_cases hL:Xl=[]
 · subst hL
   obtain⟨a,cap,rfl⟩:=hv.form;obtain⟨a',cap',rfl⟩:=hv'.form;clear hv hv';go_enter func223,ntmps223;go_wp2
   go_loop [5] (fun i=>i=.int .i64 0) (fun _=>0)
   case atStart=>rfl
   case round=>
    subst hrel;go_wp2;go_ret;exact⟨rfl,Below.refl _ _⟩
 · obtain⟨b,off,cap,rfl,hm,hbw,_,hc⟩:=hv.full hL
   obtain⟨b',off',cap',rfl,_,hbw',_,hc'⟩:=hv'.full hL;clear hv hv';unfold maxLen at hm;go_enter func223,ntmps223;go_wp2
   go_loopw [5] (fun i wr=>∃ k:Nat,i=.int .i64 k∧k≤Xl.length∧Zw_ w wr) (fun i _=>Xl.length - (intOf i).toNat)
   case atStart=>exact⟨0,rfl,by omega,Below.refl _ _⟩
   case round=>
    obtain⟨k,rfl,hk,hb⟩:=hrel
    by_cases hlt:k < Xl.length
    · obtain⟨hs,hc⟩:=hc k hlt
      obtain⟨ht,hd⟩:=hc' k hlt;obtain⟨c0,c1,c2⟩:=hc.below hb hbw;obtain⟨d0,d1,d2⟩:=hd.below hb hbw';clear hc hd hs ht;have HB:=Zab hb;clear hb;go_wp2
      go_region_with (go_at_call 244;refine (Zno _ _ ).mono ?_;rintro e w1 ⟨rfl,hb1⟩;have hB:Hid (Zw_ w w1):=(HB.out.drew).trans (hb1.mono HB.out.size);clear hb1)
      all_goals go_wp2
      all_goals go_roundw
      all_goals first
       | (case rel=>exact⟨k+1,by go_num,by omega,hB.out⟩)
       | (case measure=>simp [intOf];omega)
    · go_wp2
      go_ret;exact⟨rfl,hb⟩
theorem Tryz.info195:(prog.info? 195).map (fun i=>(i.zero,i.size,i.bytes))=some (some (.agg #[.string ⟨#[]⟩,.string ⟨#[]⟩,.int .i64 0]),3,40):=by kernel_rfl
def ZbZ (wr:World) (B:Nat) (Xl:List Wn) (k:Nat):Prop:=
 ∃ f,wr.rowIs B 195 (Xl.length*3) f∧∀ i (h:i < Xl.length),i < k→ZfG Xl[i]∧f (i*3)=.string Xl[i].kd∧f (i*3+1)=.string Xl[i].nm∧f (i*3+2)=.int .i64 Xl[i].ve
theorem ZbZ.below {wr w1:World} {B:Nat} {Xl:List Wn} {k:Nat} (h:ZbZ wr B Xl k) (hb:Below wr.heap.size wr w1):ZbZ w1 B Xl k:=by
 obtain⟨f,hr,hall⟩:=h;refine⟨f,hr.of_block (hb.block B hr.lt),fun i hi hik=>?_⟩;obtain⟨hz,h0,h1,h2⟩:=hall i hi hik;exact⟨hz,h0,h1,h2⟩
theorem ZbZ.free {wr:World} {B:Nat} {Xl:List Wn} {k:Nat} (h:ZbZ wr B Xl k) (i:Nat):wr.frozen? ⟨B,i,none⟩=false:=by
 obtain⟨f,hr,_⟩:=h;exact hr.frozen i
theorem ZbZ.there {wr:World} {B:Nat} {Xl:List Wn} {k:Nat} (h:ZbZ wr B Xl k) (i:Nat) (hi:i < Xl.length*3):∃ v,wr.cell? ⟨B,i,none⟩=some v:=by
 obtain⟨f,hr,_⟩:=h;exact⟨_,hr.cell hi⟩
theorem ZbZ.step {w1:World} {B:Nat} {Xl:List Wn} {k:Nat} (h:ZbZ w1 B Xl k) (hk:k < Xl.length) (hz:ZfG Xl[k]) :
 ZbZ (((w1.setCell ⟨B,k*3,none⟩ (.string Xl[k].kd)).setCell ⟨B,k*3+1,none⟩ (.string Xl[k].nm)).setCell ⟨B,k*3+2,none⟩ (.int .i64 Xl[k].ve)) B Xl (k+1):=by
 obtain⟨f,hr,hall⟩:=h;refine⟨_,(((hr.set _ _).set _ _).set _ _),fun i hi hik=>?_⟩
 by_cases e:i=k
 · subst e
   refine⟨hz,by simp,by simp,by simp⟩
 · obtain⟨hz',h0,h1,h2⟩:=hall i hi (by omega)
   refine⟨hz',?_,?_,?_⟩
   · rw [if_neg (by omega),if_neg (by omega),if_neg (by omega)];exact h0
   · rw [if_neg (by omega),if_neg (by omega),if_neg (by omega)];exact h1
   · rw [if_neg (by omega),if_neg (by omega),if_neg (by omega)];exact h2
theorem ZbZ.done {wr:World} {B:Nat} {Xl:List Wn} {k:Nat} (h:ZbZ wr B Xl k) (hk:Xl.length≤k) (hne:Xl≠[]) (hm:Xl.length≤maxLen):Zca B wr (.slice (some ⟨B,0,none⟩) Xl.length Xl.length) Xl:=by
 obtain⟨f,hr,hall⟩:=h;refine Or.inr ⟨B,0,Xl.length,rfl,hne,hm,hr.lt,Nat.le_refl _,Nat.le_refl _,fun i hi=>?_⟩;obtain⟨hz,h0,h1,h2⟩:=hall i hi (by omega);rw [Nat.zero_add];exact⟨hz,⟨by rw [hr.cell (by omega),h0],by rw [hr.cell (by omega),h1],by rw [hr.cell (by omega),h2]⟩⟩
theorem ZbZ.new (w:World) (Xl:List Wn) (z:Array Value):ZbZ (w.alloc (.cells (madeCells z (Xl.length*3)) 195)) w.heap.size Xl 0:=by
 refine⟨fun i=>(madeCells z (Xl.length*3)).getD i default,?_,fun i _ h=>by omega⟩;have:=World.rowIs_alloc w (madeCells z (Xl.length*3)) 195 (fun i=>(madeCells z (Xl.length*3)).getD i default) (fun i hi=>by simp [Array.getD,hi])
 rwa [size_madeCells] at this
theorem ZoP (lo:Nat) (v:Value) (Xl:List Wn) (w:World) (hv:Zca lo w v Xl) (hn:Zh8 Xl) :
 Calls prog 207 #[v] w fun e w'=>∃ v',e=.returned v'∧Zw_ w w'∧Zca w.heap.size w' v' Xl:=by
 obtain⟨i0,hi,hz0,hz1,hz2⟩:=info_parts Tryz.info195;have hn1:=hn.1;clear hn
 by_cases hL:Xl=[]
 · subst hL
   obtain⟨a,cap,rfl⟩:=hv.form;clear hv
   have hmk:∀ u:World,(Instr.makeSlice 123 (.int .i64 0) (.int .i64 0)).run prog u=.ok (.slice (some ⟨u.heap.size,0,none⟩) 0 0) (u.alloc (.cells (madeCells (Value.cells (.agg #[.string ⟨#[]⟩,.string ⟨#[]⟩,.int .i64 0])) 0) 195)):=fun u=>by
    have h:=run_make (P:=prog) u 123 195 i0 _ underlying123 hi hz0 .i64 .i64 0 0 (by omega) (by omega) (by omega) (by omega)
    simpa [hz1] using h
   go_enter func207,ntmps207;go_wp2
   go_loop [4] (fun i=>i=.int .i64 0) (fun _=>0)
   case atStart=>rfl
   case round=>
    subst hrel;go_wp2;go_ret;exact⟨_,rfl,Zb_.alloc Zl_ _,Or.inl ⟨_,_,rfl,rfl⟩⟩
 · obtain⟨b,off,cap,rfl,hm,hbw,_,hc⟩:=hv.full hL
   clear hv;have HM:Hid (Xl.length≤maxLen):=hm;unfold maxLen at hm
   have hmk:∀ u:World,(Instr.makeSlice 123 (.int .i64 (Xl.length:Int)) (.int .i64 (Xl.length:Int))).run prog u=.ok (.slice (some ⟨u.heap.size,0,none⟩) Xl.length Xl.length) (u.alloc (.cells (madeCells (Value.cells (.agg #[.string ⟨#[]⟩,.string ⟨#[]⟩,.int .i64 0])) (Xl.length*3)) 195)):=fun u=>by
    have h:=run_make (P:=prog) u 123 195 i0 _ underlying123 hi hz0 .i64 .i64 Xl.length Xl.length (by omega) (by omega) (by rw [hz2];omega) (by omega);rw [hz1] at h
    simpa using h
   clear hi hz0 hz1 hz2;go_enter func207,ntmps207;go_wp2;clear hmk
   go_loopw [4] (fun i wr=>∃ k:Nat,i=.int .i64 k∧k≤Xl.length∧Zw_ w wr∧ZbZ wr w.heap.size Xl k) (fun i _=>Xl.length - (intOf i).toNat)
   case atStart=>exact⟨0,rfl,by omega,Zb_.alloc Zl_ _,ZbZ.new w Xl _⟩
   case round=>
    obtain⟨k,rfl,hk,hb,hf⟩:=hrel
    by_cases hlt:k < Xl.length
    · obtain⟨hs,hc⟩:=hc k hlt
      obtain⟨c0,c1,c2⟩:=hc.below hb hbw
      have hBl:w.heap.size < wr.heap.size:=by
       obtain⟨_,hr,_⟩:=hf;exact hr.lt
      clear hc;go_wp2_with fail;refine (Zqx _ _ ).mono ?_;rintro e w1 ⟨rfl,hb1⟩;have hf1:=hf.below hb1;have HST:=Zab (hf1.step hlt hs );have hB:Hid (Zw_ w w1):=hb.trans (hb1.mono hb.size);have hfr:=hf1.free;obtain⟨o0,ho0⟩:=hf1.there (k*3) (by omega);obtain⟨o1,ho1⟩:=hf1.there (k*3+1) (by omega);obtain⟨o2,ho2⟩:=hf1.there (k*3+2) (by omega);clear hf hf1 hb1 hb c0 c1 c2;go_wp2;go_roundw
      case rel=>
       exact⟨k+1,by go_num,by omega,(((hB.out.setCell Zl_ _).setCell Zl_ _).setCell Zl_ _),HST.out⟩
      case measure=>simp [intOf];omega
    · go_wp2
      go_ret;exact⟨_,rfl,hb,hf.done (by omega) hL HM.out⟩
structure Sl where
 dr:Zy_
 ak:Ak
 gn:Int
 ws:List Wn
def ZeS (S:Sl):Prop:=Zj0 S.ak∧Zh8 S.ws
structure Zcw (lo:Nat) (w:World) (va ha qa wv:Value) (S:Sl):Prop where
 ak:Za6 lo w va ha qa S.ak
 ws:Zca lo w wv S.ws
 sz:S.dr.size≤maxLen
theorem Zcw.below {lo:Nat} {w w':World} {va ha qa wv:Value} {S:Sl} (h:Zcw lo w va ha qa wv S) (hb:Zw_ w w'):Zcw lo w' va ha qa wv S:=⟨h.ak.below hb,h.ws.below hb,h.sz⟩
theorem Zcw.mono {lo lo':Nat} {w:World} {va ha qa wv:Value} {S:Sl} (h:Zcw lo w va ha qa wv S) (hl:lo'≤lo):Zcw lo' w va ha qa wv S:=⟨h.ak.mono hl,h.ws.mono hl,h.sz⟩
theorem Za6.setCell {lo:Nat} {w:World} {va ha qa:Value} {A:Ak} (h:Za6 lo w va ha qa A) {p:Addr} (hp:p.block < lo) (u:Value):Za6 lo (w.setCell p u) va ha qa A:=⟨h.vs.setCell hp u,h.hs.setCell hp u,h.vb.setCell hp u,h.sz⟩
section
variable (lo:Nat) (va ha qa wv:Value) (S:Sl) (w:World)
theorem ZmD (left:Int) (h0:0≤left) (h1:left≤1048576) (h:Zcw lo w va ha qa wv S) :
 Calls prog 154 #[.agg #[.string S.dr,.string S.ak.who,.int .i64 S.ak.verb,.string S.ak.kd,.string S.ak.nm,.string S.ak.tm,va,ha,.int .i64 S.ak.seen,.string S.ak.hold,.string S.ak.tw,qa,.string S.ak.rk,.string S.ak.rt,.string S.ak.rp,.int .i64 S.ak.num,.int .i64 S.gn,wv],.int .i64 left] w
  fun e w'=>∃ r:Int,e=.returned (.int .i64 r)∧Zw_ w w'∧-1≤r∧r≤left∧(0≤r→ZeS S):=by
 have HL:=Zab h;have y1:=h.sz;unfold maxLen at y1;obtain⟨a0,k0,rfl⟩:=h.ak.vs.at.form';obtain⟨a1,k1,rfl⟩:=h.ak.hs.at.form';obtain⟨a2,k2,rfl⟩:=h.ak.vb.form;obtain⟨a3,k3,rfl⟩:=h.ws.form;clear h
 by_cases n1:left - (S.dr.size:Int) < 0
 · go_enter func154,ntmps154
   go_wp2;go_ret;exact⟨-1,rfl,Zac _ _,by omega,by omega,fun h=>by omega⟩
 go_enter func154,ntmps154;go_wp2_with fail;generalize hWa:w.alloc _=Wa;have HB0:Hid (Zw_ w Wa):=by rw [← hWa];exact Zac _ _
 have FX:Hid (Box Wa w.heap.size #[.string S.dr,.string S.ak.who,.int .i64 S.ak.verb,.string S.ak.kd,.string S.ak.nm,.string S.ak.tm,.slice a0 S.ak.vs.length k0,.slice a1 S.ak.hs.length k1,.int .i64 S.ak.seen,.string S.ak.hold,.string S.ak.tw,.slice a2 S.ak.vb.length k2,.string S.ak.rk,.string S.ak.rt,.string S.ak.rp,.int .i64 S.ak.num,.int .i64 S.gn,.slice a3 S.ws.length k3]):=by rw [← hWa];exact Box.new _ _ _ _ rfl
 clear hWa;refine (Zol lo _ _ _ S.ak _ _ (by omega) (by omega) (HL.out.below HB0.out).ak).mono ?_;rintro e w1 ⟨q1,rfl,hb1,p1,p2,p3⟩;have Q1:=Zab p3;have HB1:Hid (Zw_ w w1):=HB0.out.trans (hb1.mono HB0.out.size);replace FX:=Zab (FX.out.on hb1);clear p3 hb1 HB0
 by_cases m1:q1 < 0
 · go_wp2
   go_ret;exact⟨-1,rfl,HB1.out,by omega,by omega,fun h=>by omega⟩
 have c17:=FX.out.cell 17;simp at c17;go_wp2_with fail;clear c17;refine (Zox lo _ S.ws _ _ (by omega) (by omega) (HL.out.below HB1.out).ws).mono ?_;rintro e w2 ⟨q2,rfl,hb2,p4,p5,p6⟩;have Q2:=Zab p6;have HB2:Hid (Zw_ w w2):=HB1.out.trans (hb2.mono HB1.out.size);clear p6 hb2 HB1
 by_cases m2:q2 < 0
 · go_wp2
   go_ret;exact⟨-1,rfl,HB2.out,by omega,by omega,fun h=>by omega⟩
 go_wp2;go_ret;exact⟨_,rfl,HB2.out,by omega,by omega,fun h=>⟨Q1.out (by omega),Q2.out (by omega)⟩⟩
theorem Zj8 (lo':Nat) (va' ha' qa' wv':Value) (h:Zcw lo w va ha qa wv S) (h':Zcw lo' w va' ha' qa' wv' S) :
 Calls prog 180 #[.agg #[.string S.dr,.string S.ak.who,.int .i64 S.ak.verb,.string S.ak.kd,.string S.ak.nm,.string S.ak.tm,va,ha,.int .i64 S.ak.seen,.string S.ak.hold,.string S.ak.tw,qa,.string S.ak.rk,.string S.ak.rt,.string S.ak.rp,.int .i64 S.ak.num,.int .i64 S.gn,wv],.agg #[.string S.dr,.string S.ak.who,.int .i64 S.ak.verb,.string S.ak.kd,.string S.ak.nm,.string S.ak.tm,va',ha',.int .i64 S.ak.seen,.string S.ak.hold,.string S.ak.tw,qa',.string S.ak.rk,.string S.ak.rt,.string S.ak.rp,.int .i64 S.ak.num,.int .i64 S.gn,wv']] w fun e w'=>e=.returned (.bool true)∧Zw_ w w':=by
 have HL:=Zab h;have HR:=Zab h';obtain⟨a0,k0,rfl⟩:=h.ak.vs.at.form';obtain⟨a1,k1,rfl⟩:=h.ak.hs.at.form';obtain⟨a2,k2,rfl⟩:=h.ak.vb.form;obtain⟨a3,k3,rfl⟩:=h.ws.form;obtain⟨d0,e0,rfl⟩:=h'.ak.vs.at.form';obtain⟨d1,e1,rfl⟩:=h'.ak.hs.at.form';obtain⟨d2,e2,rfl⟩:=h'.ak.vb.form;obtain⟨d3,e3,rfl⟩:=h'.ws.form;clear h h';go_enter func180,ntmps180;go_wp2_with fail;generalize hWa:(World.alloc (w.alloc _) _)=Wa;have HB0:Hid (Zw_ w Wa):=by rw [← hWa];exact (Zac w _).alloc (by simp) _
 have HX0:Hid (Box Wa w.heap.size #[.string S.dr,.string S.ak.who,.int .i64 S.ak.verb,.string S.ak.kd,.string S.ak.nm,.string S.ak.tm,.slice a0 S.ak.vs.length k0,.slice a1 S.ak.hs.length k1,.int .i64 S.ak.seen,.string S.ak.hold,.string S.ak.tw,.slice a2 S.ak.vb.length k2,.string S.ak.rk,.string S.ak.rt,.string S.ak.rp,.int .i64 S.ak.num,.int .i64 S.gn,.slice a3 S.ws.length k3]):=by rw [← hWa];exact (Box.new _ _ _ _ rfl).on (Zac _ _)
 have HY0:Hid (Box Wa (w.heap.size+1) #[.string S.dr,.string S.ak.who,.int .i64 S.ak.verb,.string S.ak.kd,.string S.ak.nm,.string S.ak.tm,.slice d0 S.ak.vs.length e0,.slice d1 S.ak.hs.length e1,.int .i64 S.ak.seen,.string S.ak.hold,.string S.ak.tw,.slice d2 S.ak.vb.length e2,.string S.ak.rk,.string S.ak.rt,.string S.ak.rp,.int .i64 S.ak.num,.int .i64 S.gn,.slice d3 S.ws.length e3]):=by rw [← hWa];exact Box.new _ _ _ _ (by simp)
 clear hWa;refine (ZlK lo _ _ _ S.ak _ lo' _ _ _ (HL.out.below HB0.out).ak (HR.out.below HB0.out).ak).mono ?_;rintro e w1 ⟨rfl,hb1⟩;have HX1:=Zab (HX0.out.on hb1);have HY1:=Zab (HY0.out.on hb1);have HB1:Hid (Zw_ w w1):=HB0.out.trans (hb1.mono HB0.out.size);clear hb1 HB0 HX0 HY0;have c1:=HX1.out.cell 16;have e1:=HY1.out.cell 16;have c2:=HX1.out.cell 17;have e2:=HY1.out.cell 17;simp at c1 e1 c2 e2;go_wp2_with fail;clear c1 e1 c2 e2;refine (ZlW lo lo' _ _ S.ws _ (HL.out.below HB1.out).ws (HR.out.below HB1.out).ws).mono ?_;rintro e w2 ⟨rfl,hb2⟩;have HB2:Hid (Zw_ w w2):=HB1.out.trans (hb2.mono HB1.out.size);clear hb2 HB1 HX1 HY1;go_wp2;go_ret;exact⟨rfl,HB2.out⟩
theorem ZgU (b:Nat):∀ (vs:List Value) (o:Nat) (w:World),(w.setCells b o vs).heap.size=w.heap.size
 | [],_,_=>rfl
 | v :: vs,o,w=>(ZgU b vs (o+1) (w.setCell ⟨b,o,none⟩ v)).trans (by simp [World.setCell])
theorem Below.setCells {n b:Nat} (hb:n≤b):∀ (vs:List Value) (o:Nat) {a w:World},Below n a w→Below n a (w.setCells b o vs)
 | [],_,_,_,h=>h
 | v :: vs,o,_,_,h=>Below.setCells hb vs (o+1) (h.setCell hb v)
theorem Za6.setCells {lo b:Nat} (hb:b < lo) {va ha qa:Value} {A:Ak}:∀ (vs:List Value) (o:Nat) {w:World},Za6 lo w va ha qa A→Za6 lo (w.setCells b o vs) va ha qa A
 | [],_,_,h=>h
 | v :: vs,o,_,h=>Za6.setCells hb vs (o+1) (h.setCell hb v)
theorem Zca.setCells {lo b:Nat} (hb:b < lo) {u:Value} {L:List Wn}:∀ (vs:List Value) (o:Nat) {w:World},Zca lo w u L→Zca lo (w.setCells b o vs) u L
 | [],_,_,h=>h
 | v :: vs,o,_,h=>Zca.setCells hb vs (o+1) (h.set hb v)
theorem Box.there {w:World} {β n:Nat} {cs:Array Value} (h:Box w β cs) (hn:cs.size=n):w.there β 0 n:=fun j hj=>by
 rw [Nat.zero_add,h.cell j,h.free j];exact⟨by rw [Array.getElem?_eq_getElem (by omega)];rfl,rfl⟩
theorem Box.range {w:World} {β:Nat} {cs:Array Value} (h:Box w β cs) {l:List Value} (hl:cs=l.toArray):w.rangeAt β 0 l:=fun j v hv=>by
 rw [Nat.zero_add,h.cell j,hl]
 simpa using hv
theorem Box.full {w:World} {β:Nat} {cs cs':Array Value} (h:Box w β cs) (hs:cs.size=cs'.size):Box (w.setCells β 0 cs'.toList) β cs':=by
 refine⟨by rw [ZgU];exact h.lt,fun i=>?_,fun i=>by rw [World.frozen?_setCells];exact h.free i⟩
 by_cases hi:i < cs'.size
 · have:=World.cell?_setCells_in β cs'.toList 0 w (fun j hj=>(h.there rfl j (by rw [hs];simpa using hj)).1) i (by simpa using hi)
   rw [Nat.zero_add] at this;rw [this,Array.getElem?_eq_getElem hi];simp
 · rw [World.cell?_setCells_out β cs'.toList 0 w ⟨β,i,none⟩ (fun _ _=>Or.inr (by simp;omega)),h.cell i,Array.getElem?_eq_none (by omega),Array.getElem?_eq_none (by omega)]
theorem Zf1 {P:Program} {fn:Func} {p:Tmp} {ty:TypeId} (h:fn.results=#[.cell p ty]) (tmps:Array Value) (w:World) (b o:Nat) (cs:List Value) (d:TypeDesc)
 (hp:tmps.getD p undef=.pointer (some ⟨b,o,none⟩)) (hc:w.rangeAt b o cs) (hu:P.underlying ty=some d) (hd:d.isRow=true) (hi:(P.info? ty).map (·.size)=some cs.length) :
 (results fn tmps).run P w=.ok (.agg cs.toArray) w:=by
 have hp':tmps[p]?.getD undef=.pointer (some ⟨b,o,none⟩):=by simpa using hp
 simp [results,h,hp',asAddr,run_loadVar_mid w b o ty cs d hc hu hd hi]
theorem ZgW:(prog.info? 125).map (·.size)=some 18:=by kernel_rfl
structure Zm2 (s:Nat) (w wr:World) (cb cx:Array Value):Prop where
 bel:Below s w wr
 inn:Box wr s cb
 res:Box wr (s+1) #[.string ⟨#[]⟩,.string ⟨#[]⟩,.int .i64 0,.string ⟨#[]⟩,.string ⟨#[]⟩,.string ⟨#[]⟩,.slice none 0 0,.slice none 0 0,.int .i64 0,.string ⟨#[]⟩,.string ⟨#[]⟩,.slice none 0 0,.string ⟨#[]⟩,.string ⟨#[]⟩,.string ⟨#[]⟩,.int .i64 0,.int .i64 0,.slice none 0 0]
 out:Box wr (s+2) cx
theorem Zm2.on {s:Nat} {w wr w':World} {cb cx:Array Value} (h:Zm2 s w wr cb cx) (hb:Below (s+3) wr w'):Zm2 s w w' cb cx:=
 ⟨h.bel.trans (hb.mono (by omega)),h.inn.below hb (by omega),h.res.below hb (by omega),h.out.below hb (by omega)⟩
theorem Zm2.set {s:Nat} {w wr:World} {cb cx:Array Value} (h:Zm2 s w wr cb cx) (k:Nat) (u:Value) (hk:k < cx.size):Zm2 s w (wr.setCell ⟨s+2,k,none⟩ u) cb (cx.set k u hk):=
 ⟨h.bel.setCell (by simp only [];omega) _,h.inn.setFar (by simp only [];omega) _,h.res.setFar (by simp only [];omega) _,h.out.set (k:=k) u hk⟩
theorem ZmJ (h:Zcw lo w va ha qa wv S) (hn:ZeS S) :
 Calls prog 168 #[.agg #[.string S.dr,.string S.ak.who,.int .i64 S.ak.verb,.string S.ak.kd,.string S.ak.nm,.string S.ak.tm,va,ha,.int .i64 S.ak.seen,.string S.ak.hold,.string S.ak.tw,qa,.string S.ak.rk,.string S.ak.rt,.string S.ak.rp,.int .i64 S.ak.num,.int .i64 S.gn,wv]] w
  fun e w'=>∃ b0 m0 b1 m1 b2 m2 b3 m3,e=.returned (.agg #[.string S.dr,.string S.ak.who,.int .i64 S.ak.verb,.string S.ak.kd,.string S.ak.nm,.string S.ak.tm,.slice b0 S.ak.vs.length m0,.slice b1 S.ak.hs.length m1,.int .i64 S.ak.seen,.string S.ak.hold,.string S.ak.tw,.slice b2 S.ak.vb.length m2,.string S.ak.rk,.string S.ak.rt,.string S.ak.rp,.int .i64 S.ak.num,.int .i64 S.gn,.slice b3 S.ws.length m3])∧Zw_ w w'∧
   Zcw w.heap.size w' (.slice b0 S.ak.vs.length m0) (.slice b1 S.ak.hs.length m1) (.slice b2 S.ak.vb.length m2) (.slice b3 S.ws.length m3) S:=by
 have HL:=Zab h;have HSZ:=Zab h.sz;obtain⟨a0,k0,rfl⟩:=h.ak.vs.at.form';obtain⟨a1,k1,rfl⟩:=h.ak.hs.at.form';obtain⟨a2,k2,rfl⟩:=h.ak.vb.form;obtain⟨a3,k3,rfl⟩:=h.ws.form;obtain⟨hn0,hn1⟩:=hn;have HN0:=Zab hn0;have HN1:=Zab hn1;clear h hn0 hn1;go_enter func168,ntmps168;go_step;go_step
 go_cut [1,2] (fun p q wc=>p=.pointer (some ⟨w.heap.size,0,none⟩)∧q=.pointer (some ⟨w.heap.size+1,0,none⟩)∧Zw_ w wc∧Box wc w.heap.size #[.string S.dr,.string S.ak.who,.int .i64 S.ak.verb,.string S.ak.kd,.string S.ak.nm,.string S.ak.tm,.slice a0 S.ak.vs.length k0,.slice a1 S.ak.hs.length k1,.int .i64 S.ak.seen,.string S.ak.hold,.string S.ak.tw,.slice a2 S.ak.vb.length k2,.string S.ak.rk,.string S.ak.rt,.string S.ak.rp,.int .i64 S.ak.num,.int .i64 S.gn,.slice a3 S.ws.length k3]∧Box wc (w.heap.size+1) #[.string ⟨#[]⟩,.string ⟨#[]⟩,.int .i64 0,.string ⟨#[]⟩,.string ⟨#[]⟩,.string ⟨#[]⟩,.slice none 0 0,.slice none 0 0,.int .i64 0,.string ⟨#[]⟩,.string ⟨#[]⟩,.slice none 0 0,.string ⟨#[]⟩,.string ⟨#[]⟩,.string ⟨#[]⟩,.int .i64 0,.int .i64 0,.slice none 0 0]∧wc.heap.size=w.heap.size+2)
 case first=>
  go_wp2;go_meet;exact⟨rfl,rfl,(Zac w _).alloc (by simp) _,(Box.new _ _ _ _ rfl).on (Zac _ _),Box.new _ _ _ _ (by simp),by simp⟩
 case rest=>
 obtain⟨rfl,rfl,hb0,hi0,hr0,hz0⟩:=hcut;go_step;go_step
 go_cut [3] (fun p wc=>p=.pointer (some ⟨w.heap.size+2,0,none⟩)∧Zm2 w.heap.size w wc #[.string S.dr,.string S.ak.who,.int .i64 S.ak.verb,.string S.ak.kd,.string S.ak.nm,.string S.ak.tm,.slice a0 S.ak.vs.length k0,.slice a1 S.ak.hs.length k1,.int .i64 S.ak.seen,.string S.ak.hold,.string S.ak.tw,.slice a2 S.ak.vb.length k2,.string S.ak.rk,.string S.ak.rt,.string S.ak.rp,.int .i64 S.ak.num,.int .i64 S.gn,.slice a3 S.ws.length k3] #[.string ⟨#[]⟩,.string ⟨#[]⟩,.int .i64 0,.string ⟨#[]⟩,.string ⟨#[]⟩,.string ⟨#[]⟩,.slice none 0 0,.slice none 0 0,.int .i64 0,.string ⟨#[]⟩,.string ⟨#[]⟩,.slice none 0 0,.string ⟨#[]⟩,.string ⟨#[]⟩,.string ⟨#[]⟩,.int .i64 0,.int .i64 0,.slice none 0 0])
 case first=>
  go_wp2;go_meet;exact⟨by simp,hb0.alloc (by omega) _,hi0.on (Zac _ _),hr0.on (Zac _ _),Box.new _ _ _ _ hz0⟩
 case rest=>
 clear hb0 hi0 hr0 hz0;obtain⟨rfl,H1⟩:=hcut;go_step;go_step
 go_cut [] (fun wc=>Zm2 w.heap.size w wc #[.string S.dr,.string S.ak.who,.int .i64 S.ak.verb,.string S.ak.kd,.string S.ak.nm,.string S.ak.tm,.slice a0 S.ak.vs.length k0,.slice a1 S.ak.hs.length k1,.int .i64 S.ak.seen,.string S.ak.hold,.string S.ak.tw,.slice a2 S.ak.vb.length k2,.string S.ak.rk,.string S.ak.rt,.string S.ak.rp,.int .i64 S.ak.num,.int .i64 S.gn,.slice a3 S.ws.length k3] #[.string S.dr,.string ⟨#[]⟩,.int .i64 0,.string ⟨#[]⟩,.string ⟨#[]⟩,.string ⟨#[]⟩,.slice none 0 0,.slice none 0 0,.int .i64 0,.string ⟨#[]⟩,.string ⟨#[]⟩,.slice none 0 0,.string ⟨#[]⟩,.string ⟨#[]⟩,.string ⟨#[]⟩,.int .i64 0,.int .i64 0,.slice none 0 0])
 case first=>
  have i0:=H1.inn.cell 0;have o0:=H1.out.cell 0;have f0:=H1.out.free 0;simp at i0 o0;go_wp2;go_meet;exact H1.set 0 _ (by simp)
 case rest=>
 clear H1;have H2:=Zab hcut;clear hcut;go_step;go_step
 go_cut [] (fun wc=>∃ b0 m0 b1 m1 b2 m2,Zm2 w.heap.size w wc #[.string S.dr,.string S.ak.who,.int .i64 S.ak.verb,.string S.ak.kd,.string S.ak.nm,.string S.ak.tm,.slice a0 S.ak.vs.length k0,.slice a1 S.ak.hs.length k1,.int .i64 S.ak.seen,.string S.ak.hold,.string S.ak.tw,.slice a2 S.ak.vb.length k2,.string S.ak.rk,.string S.ak.rt,.string S.ak.rp,.int .i64 S.ak.num,.int .i64 S.gn,.slice a3 S.ws.length k3] #[.string S.dr,.string S.ak.who,.int .i64 S.ak.verb,.string S.ak.kd,.string S.ak.nm,.string S.ak.tm,.slice b0 S.ak.vs.length m0,.slice b1 S.ak.hs.length m1,.int .i64 S.ak.seen,.string S.ak.hold,.string S.ak.tw,.slice b2 S.ak.vb.length m2,.string S.ak.rk,.string S.ak.rt,.string S.ak.rp,.int .i64 S.ak.num,.int .i64 0,.slice none 0 0]∧Za6 (w.heap.size+3) wc (.slice b0 S.ak.vs.length m0) (.slice b1 S.ak.hs.length m1) (.slice b2 S.ak.vb.length m2) S.ak)
 case first=>
  have i0:=H2.out.inn.cell;go_wp2_with fail;clear i0;refine (ZoE lo _ _ _ S.ak _ (HL.out.below H2.out.bel).ak HN0.out).mono ?_;rintro e w0 ⟨b0,m0,b1,m1,b2,m2,rfl,hb0,hs0⟩;have hz0:w.heap.size+3≤_:=H2.out.out.lt;have H3:=Zab (H2.out.on (hb0.mono hz0));have HA:=Zab (hs0.mono hz0);clear hb0 hs0 hz0;have o0:=H3.out.out.cell;have f0:=H3.out.out.free;go_wp2;go_meet
  exact⟨_,_,_,_,_,_,(((((((((((((((H3.out.set 1 (.string S.ak.who) (by simp)).set 2 (.int .i64 S.ak.verb) (by simp)).set 3 (.string S.ak.kd) (by simp)).set 4 (.string S.ak.nm) (by simp)).set 5 (.string S.ak.tm) (by simp)).set 6 (.slice b0 S.ak.vs.length m0) (by simp)).set 7 (.slice b1 S.ak.hs.length m1) (by simp)).set 8 (.int .i64 S.ak.seen) (by simp)).set 9 (.string S.ak.hold) (by simp)).set 10 (.string S.ak.tw) (by simp)).set 11 (.slice b2 S.ak.vb.length m2) (by simp)).set 12 (.string S.ak.rk) (by simp)).set 13 (.string S.ak.rt) (by simp)).set 14 (.string S.ak.rp) (by simp)).set 15 (.int .i64 S.ak.num) (by simp)),(((((((((((((((HA.out.setCell (by simp only [];omega) (.string S.ak.who)).setCell (by simp only [];omega) (.int .i64 S.ak.verb)).setCell (by simp only [];omega) (.string S.ak.kd)).setCell (by simp only [];omega) (.string S.ak.nm)).setCell (by simp only [];omega) (.string S.ak.tm)).setCell (by simp only [];omega) (.slice b0 S.ak.vs.length m0)).setCell (by simp only [];omega) (.slice b1 S.ak.hs.length m1)).setCell (by simp only [];omega) (.int .i64 S.ak.seen)).setCell (by simp only [];omega) (.string S.ak.hold)).setCell (by simp only [];omega) (.string S.ak.tw)).setCell (by simp only [];omega) (.slice b2 S.ak.vb.length m2)).setCell (by simp only [];omega) (.string S.ak.rk)).setCell (by simp only [];omega) (.string S.ak.rt)).setCell (by simp only [];omega) (.string S.ak.rp)).setCell (by simp only [];omega) (.int .i64 S.ak.num))⟩
 case rest=>
 clear H2;obtain⟨b0,m0,b1,m1,b2,m2,h3,hA⟩:=hcut;have H3:=Zab h3;have HA:=Zab hA;clear h3 hA;go_step;go_step
 go_cut [] (fun wc=>Zm2 w.heap.size w wc #[.string S.dr,.string S.ak.who,.int .i64 S.ak.verb,.string S.ak.kd,.string S.ak.nm,.string S.ak.tm,.slice a0 S.ak.vs.length k0,.slice a1 S.ak.hs.length k1,.int .i64 S.ak.seen,.string S.ak.hold,.string S.ak.tw,.slice a2 S.ak.vb.length k2,.string S.ak.rk,.string S.ak.rt,.string S.ak.rp,.int .i64 S.ak.num,.int .i64 S.gn,.slice a3 S.ws.length k3] #[.string S.dr,.string S.ak.who,.int .i64 S.ak.verb,.string S.ak.kd,.string S.ak.nm,.string S.ak.tm,.slice b0 S.ak.vs.length m0,.slice b1 S.ak.hs.length m1,.int .i64 S.ak.seen,.string S.ak.hold,.string S.ak.tw,.slice b2 S.ak.vb.length m2,.string S.ak.rk,.string S.ak.rt,.string S.ak.rp,.int .i64 S.ak.num,.int .i64 S.gn,.slice none 0 0]∧Za6 (w.heap.size+3) wc (.slice b0 S.ak.vs.length m0) (.slice b1 S.ak.hs.length m1) (.slice b2 S.ak.vb.length m2) S.ak)
 case first=>
  have i0:=H3.out.inn.cell 16;have o0:=H3.out.out.cell 16;have f0:=H3.out.out.free 16;simp at i0 o0;go_wp2;go_meet;exact⟨H3.out.set 16 _ (by simp),HA.out.setCell (by simp only [];omega) _⟩
 case rest=>
 clear H3 HA;obtain⟨h3,hA⟩:=hcut;have H4:=Zab h3;have HA:=Zab hA;clear h3 hA;go_step;go_step
 go_cut [] (fun wc=>∃ b3 m3,Zm2 w.heap.size w wc #[.string S.dr,.string S.ak.who,.int .i64 S.ak.verb,.string S.ak.kd,.string S.ak.nm,.string S.ak.tm,.slice a0 S.ak.vs.length k0,.slice a1 S.ak.hs.length k1,.int .i64 S.ak.seen,.string S.ak.hold,.string S.ak.tw,.slice a2 S.ak.vb.length k2,.string S.ak.rk,.string S.ak.rt,.string S.ak.rp,.int .i64 S.ak.num,.int .i64 S.gn,.slice a3 S.ws.length k3] #[.string S.dr,.string S.ak.who,.int .i64 S.ak.verb,.string S.ak.kd,.string S.ak.nm,.string S.ak.tm,.slice b0 S.ak.vs.length m0,.slice b1 S.ak.hs.length m1,.int .i64 S.ak.seen,.string S.ak.hold,.string S.ak.tw,.slice b2 S.ak.vb.length m2,.string S.ak.rk,.string S.ak.rt,.string S.ak.rp,.int .i64 S.ak.num,.int .i64 S.gn,.slice b3 S.ws.length m3]∧Za6 (w.heap.size+3) wc (.slice b0 S.ak.vs.length m0) (.slice b1 S.ak.hs.length m1) (.slice b2 S.ak.vb.length m2) S.ak∧Zca (w.heap.size+3) wc (.slice b3 S.ws.length m3) S.ws)
 case first=>
  have i0:=H4.out.inn.cell 17;simp at i0;go_wp2_with fail;clear i0;refine (ZoP lo _ S.ws _ (HL.out.below H4.out.bel).ws HN1.out).mono ?_;rintro e w2 ⟨u3,rfl,hb2,hs2⟩;obtain⟨b3,m3,rfl⟩:=hs2.form;have hz0:w.heap.size+3≤_:=H4.out.out.lt;have H5:=Zab (H4.out.on (hb2.mono hz0));have HA5:=Zab (HA.out.below hb2);have HW5:=Zab (hs2.mono hz0);clear hb2 hs2 hz0;have o0:=H5.out.out.cell 17;have f0:=H5.out.out.free 17;simp at o0;go_wp2;go_meet;exact⟨_,_,H5.out.set 17 _ (by simp),HA5.out.setCell (by simp only [];omega) _,HW5.out.set (by simp only [];omega) _⟩
 case rest=>
 clear H4 HA;obtain⟨b3,m3,h5,hA,hW⟩:=hcut;have H5:=Zab h5;have HA:=Zab hA;have HW:=Zab hW;clear h5 hA hW;go_step;go_step
 go_cut [] (fun wc=>Box wc (w.heap.size+1) #[.string S.dr,.string S.ak.who,.int .i64 S.ak.verb,.string S.ak.kd,.string S.ak.nm,.string S.ak.tm,.slice b0 S.ak.vs.length m0,.slice b1 S.ak.hs.length m1,.int .i64 S.ak.seen,.string S.ak.hold,.string S.ak.tw,.slice b2 S.ak.vb.length m2,.string S.ak.rk,.string S.ak.rt,.string S.ak.rp,.int .i64 S.ak.num,.int .i64 S.gn,.slice b3 S.ws.length m3]∧Zw_ w wc∧Za6 (w.heap.size+3) wc (.slice b0 S.ak.vs.length m0) (.slice b1 S.ak.hs.length m1) (.slice b2 S.ak.vb.length m2) S.ak∧Zca (w.heap.size+3) wc (.slice b3 S.ws.length m3) S.ws)
 case first=>
  go_wp2_with (first
   | (refine wpList_load_mid rfl 125 (.tmp 3) rfl (w.heap.size+2) 0 rfl [.string S.dr,.string S.ak.who,.int .i64 S.ak.verb,.string S.ak.kd,.string S.ak.nm,.string S.ak.tm,.slice b0 S.ak.vs.length m0,.slice b1 S.ak.hs.length m1,.int .i64 S.ak.seen,.string S.ak.hold,.string S.ak.tw,.slice b2 S.ak.vb.length m2,.string S.ak.rk,.string S.ak.rt,.string S.ak.rp,.int .i64 S.ak.num,.int .i64 S.gn,.slice b3 S.ws.length m3] _ (H5.out.out.range rfl) underlying125 rfl ZgW ?_)
   | (refine wpList_store_mid rfl 125 (.tmp 2) (.tmp 18) rfl (w.heap.size+1) 0 #[.string S.dr,.string S.ak.who,.int .i64 S.ak.verb,.string S.ak.kd,.string S.ak.nm,.string S.ak.tm,.slice b0 S.ak.vs.length m0,.slice b1 S.ak.hs.length m1,.int .i64 S.ak.seen,.string S.ak.hold,.string S.ak.tw,.slice b2 S.ak.vb.length m2,.string S.ak.rk,.string S.ak.rt,.string S.ak.rp,.int .i64 S.ak.num,.int .i64 S.gn,.slice b3 S.ws.length m3] rfl rfl (H5.out.res.there rfl) ZgW (by simp [Value.oneCell']) ?_))
  go_meet;exact⟨H5.out.res.full rfl,Below.setCells (by omega) _ _ H5.out.bel,Za6.setCells (by omega) _ _ HA.out,Zca.setCells (by omega) _ _ HW.out⟩
 case rest=>
 clear H5 HA HW;obtain⟨hB,hb,hA,hW⟩:=hcut;have HB:=Zab hb;have HA:=Zab hA;have HW:=Zab hW;have HX:=Zab hB;clear hB hb hA hW;go_wp2
 refine bodyPost_ret (v:=.agg #[.string S.dr,.string S.ak.who,.int .i64 S.ak.verb,.string S.ak.kd,.string S.ak.nm,.string S.ak.tm,.slice b0 S.ak.vs.length m0,.slice b1 S.ak.hs.length m1,.int .i64 S.ak.seen,.string S.ak.hold,.string S.ak.tw,.slice b2 S.ak.vb.length m2,.string S.ak.rk,.string S.ak.rt,.string S.ak.rp,.int .i64 S.ak.num,.int .i64 S.gn,.slice b3 S.ws.length m3]) (Zf1 results168 _ _ (w.heap.size+1) 0 [.string S.dr,.string S.ak.who,.int .i64 S.ak.verb,.string S.ak.kd,.string S.ak.nm,.string S.ak.tm,.slice b0 S.ak.vs.length m0,.slice b1 S.ak.hs.length m1,.int .i64 S.ak.seen,.string S.ak.hold,.string S.ak.tw,.slice b2 S.ak.vb.length m2,.string S.ak.rk,.string S.ak.rt,.string S.ak.rp,.int .i64 S.ak.num,.int .i64 S.gn,.slice b3 S.ws.length m3] _ rfl (HX.out.range rfl) underlying125 rfl ZgW) rfl ⟨_,_,_,_,_,_,_,_,rfl,HB.out,HA.out.mono (by omega),HW.out.mono (by omega),HSZ.out⟩
end
end Go.Proofs.YtcfjmagkinpaeaaGreat
