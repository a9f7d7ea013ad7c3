import Derived.Test.YtfohnageehneoaaGreatVTA
set_option maxHeartbeats 16000000
set_option maxRecDepth 100000
open Go.Proofs.Tryz
namespace Go.Proofs.YtfohnageehneoaaGreat
open Go.RowKit Go.Deep
structure Ob where
 kd:Zy_
 nm:Zy_
 tm:Zy_
 vs:List Zy_
 en:Bool
 hs:List Zy_
 ver:Int
structure ZcM (x:Ob):Prop where
 s0:x.kd.size≤maxLen
 s1:x.nm.size≤maxLen
 s2:x.tm.size≤maxLen
def ZdB (x:Ob):Prop:=x.vs.length≤1048576∧x.hs.length≤1048576
structure ZcT (w:World) (b o:Nat) (x:Ob) (vv0 vv1:Value):Prop where
 c0:w.cell? ⟨b,o,none⟩=some (.string x.kd)
 c1:w.cell? ⟨b,o+1,none⟩=some (.string x.nm)
 c2:w.cell? ⟨b,o+2,none⟩=some (.string x.tm)
 c3:w.cell? ⟨b,o+3,none⟩=some vv0
 c4:w.cell? ⟨b,o+4,none⟩=some (.bool x.en)
 c5:w.cell? ⟨b,o+5,none⟩=some vv1
 c6:w.cell? ⟨b,o+6,none⟩=some (.int .i64 x.ver)
theorem ZcT.below {w w':World} {b o:Nat} {x:Ob} {vv0 vv1:Value} (h:ZcT w b o x vv0 vv1) {m:Nat} (hb:Below m w w') (hlt:b < m):ZcT w' b o x vv0 vv1:=by
 have e:∀ o,w'.cell? ⟨b,o,none⟩=w.cell? ⟨b,o,none⟩:=fun o=>hb.cell (p:=⟨b,o,none⟩) hlt
 exact⟨by rw [e];exact h.c0,by rw [e];exact h.c1,by rw [e];exact h.c2,by rw [e];exact h.c3,by rw [e];exact h.c4,by rw [e];exact h.c5,by rw [e];exact h.c6⟩
theorem ZcT.set {w:World} {b o:Nat} {x:Ob} {vv0 vv1:Value} (h:ZcT w b o x vv0 vv1) {p:Addr} (hp:b≠p.block) (u:Value):ZcT (w.setCell p u) b o x vv0 vv1:=by
 have e:∀ o,(w.setCell p u).cell? ⟨b,o,none⟩=w.cell? ⟨b,o,none⟩:=fun o=>Zaq _ _ _ _ hp
 exact⟨by rw [e];exact h.c0,by rw [e];exact h.c1,by rw [e];exact h.c2,by rw [e];exact h.c3,by rw [e];exact h.c4,by rw [e];exact h.c5,by rw [e];exact h.c6⟩
def Zbs (lo:Nat) (w:World) (v:Value) (Xl:List Ob):Prop:=
 (∃ (a:Option Addr) (cap:Nat),v=.slice a 0 cap∧Xl=[])∨
 ∃ (b off cap:Nat),v=.slice (some ⟨b,off,none⟩) Xl.length cap∧Xl≠[]∧Xl.length≤maxLen∧b < w.heap.size∧lo≤b∧Xl.length≤cap∧
  ∀ i (h:i < Xl.length),ZcM Xl[i]∧∃ vv0 vv1,ZcT w b (off+i*7) Xl[i] vv0 vv1∧Zao lo w vv0 Xl[i].vs∧Zao lo w vv1 Xl[i].hs
theorem Zbs.below {lo:Nat} {w w':World} {v:Value} {Xl:List Ob} (h:Zbs lo w v Xl) (hb:Zw_ w w'):Zbs lo w' v Xl:=by
 rcases h with h | ⟨b,off,cap,h1,h2,h3,h4,h5,h6,h7⟩
 · exact Or.inl h
 · refine Or.inr ⟨b,off,cap,h1,h2,h3,Zk_ h4 hb.size,h5,h6,fun i hi=>?_⟩
   obtain⟨hs,vv0,vv1,hc,hv0,hv1⟩:=h7 i hi;exact⟨hs,vv0,vv1,hc.below hb h4,hv0.below hb,hv1.below hb⟩
theorem Zbs.mono {lo lo':Nat} {w:World} {v:Value} {Xl:List Ob} (h:Zbs lo w v Xl) (hl:lo'≤lo):Zbs lo' w v Xl:=by
 rcases h with h | ⟨b,off,cap,h1,h2,h3,h4,h5,h6,h7⟩
 · exact Or.inl h
 · refine Or.inr ⟨b,off,cap,h1,h2,h3,h4,Nat.le_trans hl h5,h6,fun i hi=>?_⟩
   obtain⟨hs,vv0,vv1,hc,hv0,hv1⟩:=h7 i hi;exact⟨hs,vv0,vv1,hc,hv0.mono hl,hv1.mono hl⟩
theorem Zbs.set {lo:Nat} {w:World} {v:Value} {Xl:List Ob} (h:Zbs lo w v Xl) {p:Addr} (hp:p.block < lo) (u:Value):Zbs lo (w.setCell p u) v Xl:=by
 rcases h with h | ⟨b,off,cap,h1,h2,h3,h4,h5,h6,h7⟩
 · exact Or.inl h
 · refine Or.inr ⟨b,off,cap,h1,h2,h3,by simpa [World.setCell] using h4,h5,h6,fun i hi=>?_⟩
   obtain⟨hs,vv0,vv1,hc,hv0,hv1⟩:=h7 i hi;exact⟨hs,vv0,vv1,hc.set (by omega) u,hv0.setCell hp u,hv1.setCell hp u⟩
theorem Zbs.form {lo:Nat} {w:World} {v:Value} {Xl:List Ob} (h:Zbs lo w v Xl):∃ a cap,v=.slice a Xl.length cap:=by
 rcases h with ⟨a,cap,h,rfl⟩ | ⟨b,off,cap,h,_⟩
 · exact⟨a,cap,h⟩
 · exact⟨_,cap,h⟩
theorem Zbs.max {lo:Nat} {w:World} {v:Value} {Xl:List Ob} (h:Zbs lo w v Xl):Xl.length≤maxLen:=by
 rcases h with ⟨a,cap,h,rfl⟩ | ⟨b,off,cap,h,_,h3,_⟩
 · exact Nat.zero_le _
 · exact h3
theorem Zbs.full {lo:Nat} {w:World} {v:Value} {Xl:List Ob} (h:Zbs lo w v Xl) (hne:Xl≠[]):∃ (b off cap:Nat),v=.slice (some ⟨b,off,none⟩) Xl.length cap∧Xl.length≤maxLen∧b < w.heap.size∧Xl.length≤cap∧
 ∀ i (h:i < Xl.length),ZcM Xl[i]∧∃ vv0 vv1,ZcT w b (off+i*7) Xl[i] vv0 vv1∧Zao lo w vv0 Xl[i].vs∧Zao lo w vv1 Xl[i].hs:=by
 rcases h with ⟨_,_,_,h⟩ | ⟨b,off,cap,h1,_,h3,h4,_,h6,h7⟩
 · exact absurd h hne
 · exact⟨b,off,cap,h1,h3,h4,h6,h7⟩
theorem Zbs.full' {lo:Nat} {w:World} {a:Option Addr} {n cap:Nat} {Xl:List Ob} (h:Zbs lo w (.slice a n cap) Xl) (hL:0 < Xl.length) :
 ∃ b off,a=some ⟨b,off,none⟩∧b < w.heap.size∧lo≤b∧∀ i (h:i < Xl.length),ZcM Xl[i]∧∃ vv0 vv1,ZcT w b (off+i*7) Xl[i] vv0 vv1∧Zao lo w vv0 Xl[i].vs∧Zao lo w vv1 Xl[i].hs:=by
 rcases h with ⟨a',cap',h,rfl⟩ | ⟨b',off',cap',h1,h2,h3,h4,h5,h6,h7⟩
 · simp at hL
 · injection h1 with e1 e2 e3
   exact⟨b',off',e1,h4,h5,h7⟩
def ZbD (Xl:List Ob):Prop:=Xl.length≤1048576∧∀ i (h:i < Xl.length),ZdB Xl[i]
def Ztb (Xl:List Ob) (left r:Int):Prop:= -1≤r∧r≤left∧(0≤r→ZbD Xl)
theorem Zqd (lo:Nat) (x:Ob) (vv0 vv1:Value) (left:Int) (w:World) (h0:0≤left) (h1:left≤1048576) (hv0:Zao lo w vv0 x.vs) (hv1:Zao lo w vv1 x.hs) (hz:ZcM x) :
 Calls prog 89 #[.agg #[.string x.kd,.string x.nm,.string x.tm,vv0,.bool x.en,vv1,.int .i64 x.ver],.int .i64 left] w
  fun e w'=>∃ r:Int,e=.returned (.int .i64 r)∧Zw_ w w'∧-1≤r∧r≤left∧(0≤r→ZdB x):=by
 refine (ZoT x.kd x.nm x.tm vv0 vv1 x.en x.ver x.vs x.hs w left hv0.at hv1.at h0 h1 hz.s0 hz.s1 hz.s2).mono ?_;rintro e w' ⟨r,he,hb,q0,q1,q2⟩;exact⟨r,he,hb,q0,q1,fun h=>⟨by have:=(q2 h).1;omega,by have:=(q2 h).2;omega⟩⟩
theorem Zqq (lo:Nat) (x:Ob) (vv0 vv1:Value) (w:World) (hv0:Zao lo w vv0 x.vs) (hv1:Zao lo w vv1 x.hs) (hn:ZdB x) :
 Calls prog 103 #[.agg #[.string x.kd,.string x.nm,.string x.tm,vv0,.bool x.en,vv1,.int .i64 x.ver]] w
  fun e w'=>∃ z0 z1,e=.returned (.agg #[.string x.kd,.string x.nm,.string x.tm,z0,.bool x.en,z1,.int .i64 x.ver])∧Zw_ w w'∧Zao w.heap.size w' z0 x.vs∧Zao w.heap.size w' z1 x.hs:=
 ZnZ x.kd x.nm x.tm vv0 vv1 x.en x.ver x.vs x.hs w hv0.at hv1.at hn.1 hn.2
theorem Zpk (lo lo':Nat) (x:Ob) (vv0 vv1 vv0' vv1':Value) (w:World) (hv0:Zao lo w vv0 x.vs) (hv1:Zao lo w vv1 x.hs) (hw0:Zao lo' w vv0' x.vs) (hw1:Zao lo' w vv1' x.hs) :
 Calls prog 114 #[.agg #[.string x.kd,.string x.nm,.string x.tm,vv0,.bool x.en,vv1,.int .i64 x.ver],.agg #[.string x.kd,.string x.nm,.string x.tm,vv0',.bool x.en,vv1',.int .i64 x.ver]] w fun e w'=>e=.returned (.bool true)∧Zw_ w w':=
 ZmR x.kd x.nm x.tm vv0 vv1 x.en x.ver x.vs x.hs w vv0' vv1' hv0.at hv1.at hw0.at hw1.at
theorem Zot (lo:Nat) (v:Value) (Xl:List Ob) (left:Int) (w:World) (h0:0≤left) (h1:left≤1048576) (hv:Zbs lo w v Xl) :
 Calls prog 30 #[v,.int .i64 left] w fun e w'=>∃ r:Int,e=.returned (.int .i64 r)∧Zw_ w w'∧Ztb Xl left r:=by
 rcases hv with ⟨a,cap,rfl,rfl⟩ | ⟨b,off,cap,rfl,hne,hm,hbw,_,_,hc⟩
 · go_enter func30,ntmps30
   go_wp2
   go_loop [1,5] (fun l i=>∃ r:Int,l=.int .i64 r∧0≤r∧r≤left∧i=.int .i64 0) (fun _ _=>0)
   case atStart=>exact⟨_,rfl,by omega,by omega,rfl⟩
   case round=>
    obtain⟨r,rfl,hr0,hr1,rfl⟩:=hrel;go_wp2;go_ret;exact⟨r,rfl,Below.refl _ _,by omega,by omega,fun _=>⟨by simp,fun i h=>by simp at h⟩⟩
 · unfold maxLen at hm
   by_cases hle:(Xl.length:Int)≤left
   · go_enter func30,ntmps30
     go_wp2
     go_loopw [1,5] (fun l i wr=>∃ (r:Int) (k:Nat),l=.int .i64 r∧0≤r∧r≤left∧i=.int .i64 k∧k≤Xl.length∧Zw_ w wr∧∀ j (hj:j < Xl.length),j < k→ZdB Xl[j]) (fun _ i _=>Xl.length - (intOf i).toNat)
     case atStart=>exact⟨_,0,rfl,by omega,by omega,rfl,by omega,Below.refl _ _,fun j _ h=>by omega⟩
     case round=>
      obtain⟨r,k,rfl,hr0,hr1,rfl,hk,hb,hall⟩:=hrel;have HA:=Zab hall;clear hall
      by_cases hlt:k < Xl.length
      · obtain⟨hs,vv0,vv1,hc,hv0,hv1⟩:=hc k hlt
        have HV0:=Zab (hv0.below hb);have HV1:=Zab (hv1.below hb);obtain⟨a0,k0,rfl⟩:=hv0.at.form';obtain⟨a1,k1,rfl⟩:=hv1.at.form';obtain⟨c0,c1,c2,c3,c4,c5,c6⟩:=hc.below hb hbw;clear hc hv0 hv1;go_wp2_with fail;refine (Zqd lo _ _ _ _ _ hr0 (by omega) HV0.out HV1.out hs).mono ?_;rintro e w1 ⟨r1,rfl,hb1,q0,q1,q2⟩;have HQ2:=Zab q2;have hB:Hid (Zw_ w w1):=hb.trans (hb1.mono hb.size);clear hb1 c0 c1 c2 c3 c4 c5 c6 hb q2 HV0 HV1
        by_cases hneg:r1 < 0
        · go_wp2
          go_ret;exact⟨-1,rfl,hB.out,by omega,by omega,fun h=>by omega⟩
        · have HL:Hid (ZdB Xl[k]):=HQ2.out (by omega)
          clear HQ2;go_wp2;go_roundw
          case rel=>exact⟨_,k+1,rfl,by omega,by omega,by go_num,by omega,hB.out,fun j hj h=>by
                     by_cases e:j=k
                     · subst e;exact HL.out
                     · exact HA.out j hj (by omega)⟩
          case measure=>simp [intOf];omega
      · go_wp2
        go_ret;exact⟨r,rfl,hb,by omega,by omega,fun _=>⟨by omega,fun j hj=>HA.out j hj (by omega)⟩⟩
   · go_enter func30,ntmps30
     go_wp2;go_ret;exact⟨-1,rfl,Below.refl _ _,by omega,by omega,fun h=>by omega⟩
theorem Znb (lo lo':Nat) (v v':Value) (Xl:List Ob) (w:World) (hv:Zbs lo w v Xl) (hv':Zbs lo' w v' Xl) :
 Calls prog 51 #[v,v'] w fun e w'=>e=.returned (.bool true)∧Zw_ w w':=by
 by_cases hL:Xl=[]
 · subst hL
   obtain⟨a,cap,rfl⟩:=hv.form;obtain⟨a',cap',rfl⟩:=hv'.form;clear hv hv';go_enter func51,ntmps51;go_wp2
   go_loop [5] (fun i=>i=.int .i64 0) (fun _=>0)
   case atStart=>rfl
   case round=>
    subst hrel;go_wp2;go_ret;exact⟨rfl,Below.refl _ _⟩
 · obtain⟨b,off,cap,rfl,hm,hbw,_,hc⟩:=hv.full hL
   obtain⟨b',off',cap',rfl,_,hbw',_,hc'⟩:=hv'.full hL;clear hv hv';unfold maxLen at hm;go_enter func51,ntmps51;go_wp2
   go_loopw [5] (fun i wr=>∃ k:Nat,i=.int .i64 k∧k≤Xl.length∧Zw_ w wr) (fun i _=>Xl.length - (intOf i).toNat)
   case atStart=>exact⟨0,rfl,by omega,Below.refl _ _⟩
   case round=>
    obtain⟨k,rfl,hk,hb⟩:=hrel
    by_cases hlt:k < Xl.length
    · obtain⟨hs,vv0,vv1,hc,hv0,hv1⟩:=hc k hlt
      obtain⟨ht,vv0',vv1',hd,hw0,hw1⟩:=hc' k hlt;have HV0:=Zab (hv0.below hb);have HW0:=Zab (hw0.below hb);have HV1:=Zab (hv1.below hb);have HW1:=Zab (hw1.below hb);obtain⟨a0,k0,rfl⟩:=hv0.at.form';obtain⟨a1,k1,rfl⟩:=hv1.at.form';obtain⟨e0,g0,rfl⟩:=hw0.at.form';obtain⟨e1,g1,rfl⟩:=hw1.at.form';obtain⟨c0,c1,c2,c3,c4,c5,c6⟩:=hc.below hb hbw;obtain⟨d0,d1,d2,d3,d4,d5,d6⟩:=hd.below hb hbw';clear hc hd hv0 hv1 hw0 hw1 hs ht;have HB:=Zab hb;clear hb;go_wp2
      go_region_with (go_at_call 114;refine (Zpk lo lo' _ _ _ _ _ _ (HV0.out.below (Zb_.drew)) (HV1.out.below (Zb_.drew)) (HW0.out.below (Zb_.drew)) (HW1.out.below (Zb_.drew))).mono ?_;rintro e w1 ⟨rfl,hb1⟩;have hB:Hid (Zw_ w w1):=(HB.out.drew).trans (hb1.mono HB.out.size);clear hb1)
      all_goals go_wp2
      all_goals go_roundw
      all_goals first
       | (case rel=>exact⟨k+1,by go_num,by omega,hB.out⟩)
       | (case measure=>simp [intOf];omega)
    · go_wp2
      go_ret;exact⟨rfl,hb⟩
theorem Tryz.info155:(prog.info? 155).map (fun i=>(i.zero,i.size,i.bytes))=some (some (.agg #[.string ⟨#[]⟩,.string ⟨#[]⟩,.string ⟨#[]⟩,.slice none 0 0,.bool false,.slice none 0 0,.int .i64 0]),7,112):=by kernel_rfl
def ZbZ (wr:World) (B:Nat) (Xl:List Ob) (k:Nat):Prop:=
 ∃ f,wr.rowIs B 155 (Xl.length*7) f∧∀ i (h:i < Xl.length),i < k→ZcM Xl[i]∧∃ vv0 vv1,f (i*7)=.string Xl[i].kd∧f (i*7+1)=.string Xl[i].nm∧f (i*7+2)=.string Xl[i].tm∧f (i*7+3)=vv0∧f (i*7+4)=.bool Xl[i].en∧f (i*7+5)=vv1∧f (i*7+6)=.int .i64 Xl[i].ver∧Zao (B+1) wr vv0 Xl[i].vs∧Zao (B+1) wr vv1 Xl[i].hs
theorem ZbZ.below {wr w1:World} {B:Nat} {Xl:List Ob} {k:Nat} (h:ZbZ wr B Xl k) (hb:Below wr.heap.size wr w1):ZbZ w1 B Xl k:=by
 obtain⟨f,hr,hall⟩:=h;refine⟨f,hr.of_block (hb.block B hr.lt),fun i hi hik=>?_⟩;obtain⟨hz,vv0,vv1,h0,h1,h2,h3,h4,h5,h6,hv0,hv1⟩:=hall i hi hik;exact⟨hz,vv0,vv1,h0,h1,h2,h3,h4,h5,h6,hv0.below hb,hv1.below hb⟩
theorem ZbZ.free {wr:World} {B:Nat} {Xl:List Ob} {k:Nat} (h:ZbZ wr B Xl k) (i:Nat):wr.frozen? ⟨B,i,none⟩=false:=by
 obtain⟨f,hr,_⟩:=h;exact hr.frozen i
theorem ZbZ.there {wr:World} {B:Nat} {Xl:List Ob} {k:Nat} (h:ZbZ wr B Xl k) (i:Nat) (hi:i < Xl.length*7):∃ v,wr.cell? ⟨B,i,none⟩=some v:=by
 obtain⟨f,hr,_⟩:=h;exact⟨_,hr.cell hi⟩
theorem ZbZ.step {w1:World} {B:Nat} {Xl:List Ob} {k:Nat} {vv0 vv1:Value} (h:ZbZ w1 B Xl k) (hk:k < Xl.length) (hz:ZcM Xl[k]) (hv0:Zao (B+1) w1 vv0 Xl[k].vs) (hv1:Zao (B+1) w1 vv1 Xl[k].hs) :
 ZbZ (((((((w1.setCell ⟨B,k*7,none⟩ (.string Xl[k].kd)).setCell ⟨B,k*7+1,none⟩ (.string Xl[k].nm)).setCell ⟨B,k*7+2,none⟩ (.string Xl[k].tm)).setCell ⟨B,k*7+3,none⟩ vv0).setCell ⟨B,k*7+4,none⟩ (.bool Xl[k].en)).setCell ⟨B,k*7+5,none⟩ vv1).setCell ⟨B,k*7+6,none⟩ (.int .i64 Xl[k].ver)) B Xl (k+1):=by
 obtain⟨f,hr,hall⟩:=h;refine⟨_,(((((((hr.set _ _).set _ _).set _ _).set _ _).set _ _).set _ _).set _ _),fun i hi hik=>?_⟩
 by_cases e:i=k
 · subst e
   refine⟨hz,vv0,vv1,by simp,by simp,by simp,by simp,by simp,by simp,by simp,?_,?_⟩
   · repeat (refine Zao.setCell ?_ (by simp only [];omega) _)
     exact hv0
   · repeat (refine Zao.setCell ?_ (by simp only [];omega) _)
     exact hv1
 · obtain⟨hz',vv0',vv1',h0,h1,h2,h3,h4,h5,h6,hv0',hv1'⟩:=hall i hi (by omega)
   refine⟨hz',vv0',vv1',?_,?_,?_,?_,?_,?_,?_,?_,?_⟩
   · rw [if_neg (by omega),if_neg (by omega),if_neg (by omega),if_neg (by omega),if_neg (by omega),if_neg (by omega),if_neg (by omega)];exact h0
   · rw [if_neg (by omega),if_neg (by omega),if_neg (by omega),if_neg (by omega),if_neg (by omega),if_neg (by omega),if_neg (by omega)];exact h1
   · rw [if_neg (by omega),if_neg (by omega),if_neg (by omega),if_neg (by omega),if_neg (by omega),if_neg (by omega),if_neg (by omega)];exact h2
   · rw [if_neg (by omega),if_neg (by omega),if_neg (by omega),if_neg (by omega),if_neg (by omega),if_neg (by omega),if_neg (by omega)];exact h3
   · rw [if_neg (by omega),if_neg (by omega),if_neg (by omega),if_neg (by omega),if_neg (by omega),if_neg (by omega),if_neg (by omega)];exact h4
   · rw [if_neg (by omega),if_neg (by omega),if_neg (by omega),if_neg (by omega),if_neg (by omega),if_neg (by omega),if_neg (by omega)];exact h5
   · rw [if_neg (by omega),if_neg (by omega),if_neg (by omega),if_neg (by omega),if_neg (by omega),if_neg (by omega),if_neg (by omega)];exact h6
   · repeat (refine Zao.setCell ?_ (by simp only [];omega) _)
     exact hv0'
   · repeat (refine Zao.setCell ?_ (by simp only [];omega) _)
     exact hv1'
theorem ZbZ.done {wr:World} {B:Nat} {Xl:List Ob} {k:Nat} (h:ZbZ wr B Xl k) (hk:Xl.length≤k) (hne:Xl≠[]) (hm:Xl.length≤maxLen):Zbs B wr (.slice (some ⟨B,0,none⟩) Xl.length Xl.length) Xl:=by
 obtain⟨f,hr,hall⟩:=h;refine Or.inr ⟨B,0,Xl.length,rfl,hne,hm,hr.lt,Nat.le_refl _,Nat.le_refl _,fun i hi=>?_⟩;obtain⟨hz,vv0,vv1,h0,h1,h2,h3,h4,h5,h6,hv0,hv1⟩:=hall i hi (by omega);rw [Nat.zero_add];exact⟨hz,vv0,vv1,⟨by rw [hr.cell (by omega),h0],by rw [hr.cell (by omega),h1],by rw [hr.cell (by omega),h2],by rw [hr.cell (by omega),h3],by rw [hr.cell (by omega),h4],by rw [hr.cell (by omega),h5],by rw [hr.cell (by omega),h6]⟩,hv0.mono (by omega),hv1.mono (by omega)⟩
theorem ZbZ.new (w:World) (Xl:List Ob) (z:Array Value):ZbZ (w.alloc (.cells (madeCells z (Xl.length*7)) 155)) w.heap.size Xl 0:=by
 refine⟨fun i=>(madeCells z (Xl.length*7)).getD i default,?_,fun i _ h=>by omega⟩;have:=World.rowIs_alloc w (madeCells z (Xl.length*7)) 155 (fun i=>(madeCells z (Xl.length*7)).getD i default) (fun i hi=>by simp [Array.getD,hi])
 rwa [size_madeCells] at this
theorem Zoh (lo:Nat) (v:Value) (Xl:List Ob) (w:World) (hv:Zbs lo w v Xl) (hn:ZbD Xl) :
 Calls prog 44 #[v] w fun e w'=>∃ v',e=.returned v'∧Zw_ w w'∧Zbs w.heap.size w' v' Xl:=by
 obtain⟨i0,hi,hz0,hz1,hz2⟩:=info_parts Tryz.info155;have HSM:=Zab hn.2;have hn1:=hn.1;clear hn
 by_cases hL:Xl=[]
 · subst hL
   obtain⟨a,cap,rfl⟩:=hv.form;clear hv
   have hmk:∀ u:World,(Instr.makeSlice 35 (.int .i64 0) (.int .i64 0)).run prog u=.ok (.slice (some ⟨u.heap.size,0,none⟩) 0 0) (u.alloc (.cells (madeCells (Value.cells (.agg #[.string ⟨#[]⟩,.string ⟨#[]⟩,.string ⟨#[]⟩,.slice none 0 0,.bool false,.slice none 0 0,.int .i64 0])) 0) 155)):=fun u=>by
    have h:=run_make (P:=prog) u 35 155 i0 _ underlying35 hi hz0 .i64 .i64 0 0 (by omega) (by omega) (by omega) (by omega)
    simpa [hz1] using h
   go_enter func44,ntmps44;go_wp2
   go_loop [4] (fun i=>i=.int .i64 0) (fun _=>0)
   case atStart=>rfl
   case round=>
    subst hrel;go_wp2;go_ret;exact⟨_,rfl,Zb_.alloc Zl_ _,Or.inl ⟨_,_,rfl,rfl⟩⟩
 · obtain⟨b,off,cap,rfl,hm,hbw,_,hc⟩:=hv.full hL
   clear hv;have HM:Hid (Xl.length≤maxLen):=hm;unfold maxLen at hm
   have hmk:∀ u:World,(Instr.makeSlice 35 (.int .i64 (Xl.length:Int)) (.int .i64 (Xl.length:Int))).run prog u=.ok (.slice (some ⟨u.heap.size,0,none⟩) Xl.length Xl.length) (u.alloc (.cells (madeCells (Value.cells (.agg #[.string ⟨#[]⟩,.string ⟨#[]⟩,.string ⟨#[]⟩,.slice none 0 0,.bool false,.slice none 0 0,.int .i64 0])) (Xl.length*7)) 155)):=fun u=>by
    have h:=run_make (P:=prog) u 35 155 i0 _ underlying35 hi hz0 .i64 .i64 Xl.length Xl.length (by omega) (by omega) (by rw [hz2];omega) (by omega);rw [hz1] at h
    simpa using h
   clear hi hz0 hz1 hz2;go_enter func44,ntmps44;go_wp2;clear hmk
   go_loopw [4] (fun i wr=>∃ k:Nat,i=.int .i64 k∧k≤Xl.length∧Zw_ w wr∧ZbZ wr w.heap.size Xl k) (fun i _=>Xl.length - (intOf i).toNat)
   case atStart=>exact⟨0,rfl,by omega,Zb_.alloc Zl_ _,ZbZ.new w Xl _⟩
   case round=>
    obtain⟨k,rfl,hk,hb,hf⟩:=hrel
    by_cases hlt:k < Xl.length
    · obtain⟨hs,vv0,vv1,hc,hv0,hv1⟩:=hc k hlt
      have HV0:=Zab (hv0.below hb);have HV1:=Zab (hv1.below hb);obtain⟨a0,k0,rfl⟩:=hv0.at.form';obtain⟨a1,k1,rfl⟩:=hv1.at.form';obtain⟨c0,c1,c2,c3,c4,c5,c6⟩:=hc.below hb hbw
      have hBl:w.heap.size < wr.heap.size:=by
       obtain⟨_,hr,_⟩:=hf;exact hr.lt
      clear hc hv0 hv1;go_wp2_with fail;refine (Zqq lo _ _ _ _ HV0.out HV1.out (HSM.out k hlt)).mono ?_;rintro e w1 ⟨z0,z1,rfl,hb1,hz0,hz1⟩;obtain⟨m0,n0,rfl⟩:=hz0.at.form';obtain⟨m1,n1,rfl⟩:=hz1.at.form';have hf1:=hf.below hb1;have HST:=Zab (hf1.step hlt hs (hz0.mono (by omega)) (hz1.mono (by omega)));have hB:Hid (Zw_ w w1):=hb.trans (hb1.mono hb.size);have hfr:=hf1.free;obtain⟨o0,ho0⟩:=hf1.there (k*7) (by omega);obtain⟨o1,ho1⟩:=hf1.there (k*7+1) (by omega);obtain⟨o2,ho2⟩:=hf1.there (k*7+2) (by omega);obtain⟨o3,ho3⟩:=hf1.there (k*7+3) (by omega);obtain⟨o4,ho4⟩:=hf1.there (k*7+4) (by omega);obtain⟨o5,ho5⟩:=hf1.there (k*7+5) (by omega);obtain⟨o6,ho6⟩:=hf1.there (k*7+6) (by omega);clear hf hf1 hb1 hb c0 c1 c2 c3 c4 c5 c6 hz0 HV0 hz1 HV1;go_wp2;go_roundw
      case rel=>
       exact⟨k+1,by go_num,by omega,(((((((hB.out.setCell Zl_ _).setCell Zl_ _).setCell Zl_ _).setCell Zl_ _).setCell Zl_ _).setCell Zl_ _).setCell Zl_ _),HST.out⟩
      case measure=>simp [intOf];omega
    · go_wp2
      go_ret;exact⟨_,rfl,hb,hf.done (by omega) hL HM.out⟩
structure Gr where
 nu:Int
 tw:Zy_
 gb:Zy_
 vb:List Int
 kd:Zy_
 tm:Zy_
 pf:Zy_
structure ZdF (x:Gr):Prop where
 s0:x.tw.size≤maxLen
 s1:x.gb.size≤maxLen
 s2:x.kd.size≤maxLen
 s3:x.tm.size≤maxLen
 s4:x.pf.size≤maxLen
def ZdC (x:Gr):Prop:=x.vb.length≤1048576
structure ZcU (w:World) (b o:Nat) (x:Gr) (vv0:Value):Prop where
 c0:w.cell? ⟨b,o,none⟩=some (.int .i64 x.nu)
 c1:w.cell? ⟨b,o+1,none⟩=some (.string x.tw)
 c2:w.cell? ⟨b,o+2,none⟩=some (.string x.gb)
 c3:w.cell? ⟨b,o+3,none⟩=some vv0
 c4:w.cell? ⟨b,o+4,none⟩=some (.string x.kd)
 c5:w.cell? ⟨b,o+5,none⟩=some (.string x.tm)
 c6:w.cell? ⟨b,o+6,none⟩=some (.string x.pf)
theorem ZcU.below {w w':World} {b o:Nat} {x:Gr} {vv0:Value} (h:ZcU w b o x vv0) {m:Nat} (hb:Below m w w') (hlt:b < m):ZcU w' b o x vv0:=by
 have e:∀ o,w'.cell? ⟨b,o,none⟩=w.cell? ⟨b,o,none⟩:=fun o=>hb.cell (p:=⟨b,o,none⟩) hlt
 exact⟨by rw [e];exact h.c0,by rw [e];exact h.c1,by rw [e];exact h.c2,by rw [e];exact h.c3,by rw [e];exact h.c4,by rw [e];exact h.c5,by rw [e];exact h.c6⟩
theorem ZcU.set {w:World} {b o:Nat} {x:Gr} {vv0:Value} (h:ZcU w b o x vv0) {p:Addr} (hp:b≠p.block) (u:Value):ZcU (w.setCell p u) b o x vv0:=by
 have e:∀ o,(w.setCell p u).cell? ⟨b,o,none⟩=w.cell? ⟨b,o,none⟩:=fun o=>Zaq _ _ _ _ hp
 exact⟨by rw [e];exact h.c0,by rw [e];exact h.c1,by rw [e];exact h.c2,by rw [e];exact h.c3,by rw [e];exact h.c4,by rw [e];exact h.c5,by rw [e];exact h.c6⟩
def ZbY (lo:Nat) (w:World) (v:Value) (Xl:List Gr):Prop:=
 (∃ (a:Option Addr) (cap:Nat),v=.slice a 0 cap∧Xl=[])∨
 ∃ (b off cap:Nat),v=.slice (some ⟨b,off,none⟩) Xl.length cap∧Xl≠[]∧Xl.length≤maxLen∧b < w.heap.size∧lo≤b∧Xl.length≤cap∧
  ∀ i (h:i < Xl.length),ZdF Xl[i]∧∃ vv0,ZcU w b (off+i*7) Xl[i] vv0∧Zau lo w vv0 Xl[i].vb
theorem ZbY.below {lo:Nat} {w w':World} {v:Value} {Xl:List Gr} (h:ZbY lo w v Xl) (hb:Zw_ w w'):ZbY lo w' v Xl:=by
 rcases h with h | ⟨b,off,cap,h1,h2,h3,h4,h5,h6,h7⟩
 · exact Or.inl h
 · refine Or.inr ⟨b,off,cap,h1,h2,h3,Zk_ h4 hb.size,h5,h6,fun i hi=>?_⟩
   obtain⟨hs,vv0,hc,hv0⟩:=h7 i hi;exact⟨hs,vv0,hc.below hb h4,hv0.below hb⟩
theorem ZbY.mono {lo lo':Nat} {w:World} {v:Value} {Xl:List Gr} (h:ZbY lo w v Xl) (hl:lo'≤lo):ZbY lo' w v Xl:=by
 rcases h with h | ⟨b,off,cap,h1,h2,h3,h4,h5,h6,h7⟩
 · exact Or.inl h
 · refine Or.inr ⟨b,off,cap,h1,h2,h3,h4,Nat.le_trans hl h5,h6,fun i hi=>?_⟩
   obtain⟨hs,vv0,hc,hv0⟩:=h7 i hi;exact⟨hs,vv0,hc,hv0.mono hl⟩
theorem ZbY.set {lo:Nat} {w:World} {v:Value} {Xl:List Gr} (h:ZbY lo w v Xl) {p:Addr} (hp:p.block < lo) (u:Value):ZbY lo (w.setCell p u) v Xl:=by
 rcases h with h | ⟨b,off,cap,h1,h2,h3,h4,h5,h6,h7⟩
 · exact Or.inl h
 · refine Or.inr ⟨b,off,cap,h1,h2,h3,by simpa [World.setCell] using h4,h5,h6,fun i hi=>?_⟩
   obtain⟨hs,vv0,hc,hv0⟩:=h7 i hi;exact⟨hs,vv0,hc.set (by omega) u,hv0.setCell hp u⟩
theorem ZbY.form {lo:Nat} {w:World} {v:Value} {Xl:List Gr} (h:ZbY lo w v Xl):∃ a cap,v=.slice a Xl.length cap:=by
 rcases h with ⟨a,cap,h,rfl⟩ | ⟨b,off,cap,h,_⟩
 · exact⟨a,cap,h⟩
 · exact⟨_,cap,h⟩
theorem ZbY.max {lo:Nat} {w:World} {v:Value} {Xl:List Gr} (h:ZbY lo w v Xl):Xl.length≤maxLen:=by
 rcases h with ⟨a,cap,h,rfl⟩ | ⟨b,off,cap,h,_,h3,_⟩
 · exact Nat.zero_le _
 · exact h3
theorem ZbY.full {lo:Nat} {w:World} {v:Value} {Xl:List Gr} (h:ZbY lo w v Xl) (hne:Xl≠[]):∃ (b off cap:Nat),v=.slice (some ⟨b,off,none⟩) Xl.length cap∧Xl.length≤maxLen∧b < w.heap.size∧Xl.length≤cap∧
 ∀ i (h:i < Xl.length),ZdF Xl[i]∧∃ vv0,ZcU w b (off+i*7) Xl[i] vv0∧Zau lo w vv0 Xl[i].vb:=by
 rcases h with ⟨_,_,_,h⟩ | ⟨b,off,cap,h1,_,h3,h4,_,h6,h7⟩
 · exact absurd h hne
 · exact⟨b,off,cap,h1,h3,h4,h6,h7⟩
theorem ZbY.full' {lo:Nat} {w:World} {a:Option Addr} {n cap:Nat} {Xl:List Gr} (h:ZbY lo w (.slice a n cap) Xl) (hL:0 < Xl.length) :
 ∃ b off,a=some ⟨b,off,none⟩∧b < w.heap.size∧lo≤b∧∀ i (h:i < Xl.length),ZdF Xl[i]∧∃ vv0,ZcU w b (off+i*7) Xl[i] vv0∧Zau lo w vv0 Xl[i].vb:=by
 rcases h with ⟨a',cap',h,rfl⟩ | ⟨b',off',cap',h1,h2,h3,h4,h5,h6,h7⟩
 · simp at hL
 · injection h1 with e1 e2 e3
   exact⟨b',off',e1,h4,h5,h7⟩
def Zds (Xl:List Gr):Prop:=Xl.length≤1048576∧∀ i (h:i < Xl.length),ZdC Xl[i]
def ZsY (Xl:List Gr) (left r:Int):Prop:= -1≤r∧r≤left∧(0≤r→Zds Xl)
def Gr.ru (x:Gr):Ru:=⟨x.vb,x.kd,x.tm,x.pf⟩
theorem Zp2 (lo:Nat) (x:Gr) (vv0:Value) (left:Int) (w:World) (h0:0≤left) (h1:left≤1048576) (hv0:Zau lo w vv0 x.vb) (hz:ZdF x) :
 Calls prog 90 #[.agg #[.int .i64 x.nu,.string x.tw,.string x.gb,vv0,.string x.kd,.string x.tm,.string x.pf],.int .i64 left] w
  fun e w'=>∃ r:Int,e=.returned (.int .i64 r)∧Zw_ w w'∧-1≤r∧r≤left∧(0≤r→ZdC x):=by
 have HV:=Zab hv0;obtain⟨a,cap,rfl⟩:=hv0.form;obtain⟨s0,s1,s2,s3,s4⟩:=hz;have HZ:Hid (ZgO x.ru):=⟨s2,s3,s4⟩;unfold maxLen at s0 s1;clear hv0 s2 s3 s4;have HW:∀ o,Hid (Zw_ w (w.alloc o)):=fun o=>Zb_.alloc Zl_ _
 by_cases c0:(x.tw.size:Int)≤left
 · by_cases c1:(x.tw.size:Int)+x.gb.size≤left
   · go_enter func90,ntmps90
     go_wp2_with fail;refine (Znp lo x.ru _ _ _ (by omega) (by omega) (HV.out.below (HW _).out) HZ.out).mono ?_;rintro e w1 ⟨r,rfl,hb,q0,q1,q2⟩;have HB:Hid (Zw_ w w1):=(HW _).out.trans (hb.mono (HW _).out.size);have Q2:=Zab q2;clear hb q2
     by_cases hr:r < 0
     · go_wp2
       go_ret;exact⟨-1,rfl,HB.out,by omega,by omega,fun h=>by omega⟩
     · go_wp2
       go_ret;exact⟨_,rfl,HB.out,by omega,by omega,fun h=>by have:(x.ru.vb.length:Int)≤_:=Q2.out h;show x.vb.length≤1048576;unfold Gr.ru at this;simp only [] at this;omega⟩
   · go_enter func90,ntmps90
     go_wp2;go_ret;exact⟨-1,rfl,(HW _).out,by omega,by omega,fun h=>by omega⟩
 · go_enter func90,ntmps90
   go_wp2;go_ret;exact⟨-1,rfl,(HW _).out,by omega,by omega,fun h=>by omega⟩
theorem ZqD (lo:Nat) (x:Gr) (vv0:Value) (w:World) (hv0:Zau lo w vv0 x.vb) (hn:ZdC x) :
 Calls prog 104 #[.agg #[.int .i64 x.nu,.string x.tw,.string x.gb,vv0,.string x.kd,.string x.tm,.string x.pf]] w
  fun e w'=>∃ z0,e=.returned (.agg #[.int .i64 x.nu,.string x.tw,.string x.gb,z0,.string x.kd,.string x.tm,.string x.pf])∧Zw_ w w'∧Zau w.heap.size w' z0 x.vb:=by
 have HV:=Zab hv0;obtain⟨a,cap,rfl⟩:=hv0.form;have hn':x.ru.vb.length≤1048576:=hn;clear hv0 hn;go_enter func104,ntmps104;go_wp2_with fail;refine (Zm1 lo x.ru _ _ (HV.out.below ?_) hn').mono ?_
 · exact ((Zb_.alloc Zl_ _).alloc (by simp) _).alloc (by simp;omega) _
 rintro e w1 ⟨v',rfl,hb,hs⟩;obtain⟨a',cap',rfl⟩:=hs.form;have HS:Hid (Zau (w.heap.size+3) w1 (.slice a' x.ru.vb.length cap') x.vb):=hs.mono (by simp);clear hs;have hz:w.heap.size+2 < w1.heap.size:=by have:=hb.size;simp at this;omega
 have hc:∀ b o,b < w.heap.size+3→w1.cell? ⟨b,o,none⟩=_:=fun b o h=>hb.cell (p:=⟨b,o,none⟩) (by simpa using h)
 have hf:∀ b o,b < w.heap.size+3→w1.frozen? ⟨b,o,none⟩=_:=fun b o h=>hb.frozen (p:=⟨b,o,none⟩) (by simpa using h)
 have HB:Hid (Zw_ w w1):=(((Zb_.alloc Zl_ _).alloc (by simp) _).alloc (by simp;omega) _).trans (hb.mono (by simp;omega));clear hb;go_wp2;refine bodyPost_ret (v:=.agg #[.int .i64 x.nu,.string x.tw,.string x.gb,(.slice a' x.ru.vb.length cap'),.string x.kd,.string x.tm,.string x.pf]) (by simp [results,results104,go_sem,hc];exact⟨rfl,rfl,rfl⟩) rfl ⟨_,rfl,?_,?_⟩
 · repeat (refine Below.setCell ?_ (by simp only [];omega) _)
   exact HB.out
 · refine Zau.mono (lo:=w.heap.size+3) ?_ (by omega)
   repeat (refine Zau.setCell ?_ (by simp only [];omega) _)
   exact HS.out
theorem Zon (lo lo':Nat) (x:Gr) (vv0 vv0':Value) (w:World) (hv0:Zau lo w vv0 x.vb) (hw0:Zau lo' w vv0' x.vb) :
 Calls prog 115 #[.agg #[.int .i64 x.nu,.string x.tw,.string x.gb,vv0,.string x.kd,.string x.tm,.string x.pf],.agg #[.int .i64 x.nu,.string x.tw,.string x.gb,vv0',.string x.kd,.string x.tm,.string x.pf]] w fun e w'=>e=.returned (.bool true)∧Zw_ w w':=by
 have HV:=Zab hv0;have HV':=Zab hw0;obtain⟨a,cap,rfl⟩:=hv0.form;obtain⟨a',cap',rfl⟩:=hw0.form;clear hv0 hw0;have HW:∀ o o',Hid (Zw_ w ((w.alloc o).alloc o')):=fun o o'=>(Zb_.alloc Zl_ _).alloc (by simp) _
 go_enter func115,ntmps115;go_wp2_with fail;refine (ZkZ lo lo' x.ru _ _ _ (HV.out.below (HW _ _).out) (HV'.out.below (HW _ _).out)).mono ?_;rintro e w1 ⟨rfl,hb1⟩;have HB1:Hid (Zw_ w w1):=(HW _ _).out.trans (hb1.mono (HW _ _).out.size);clear hb1;go_wp2;go_ret;exact⟨rfl,HB1.out⟩
theorem Zoi (lo:Nat) (v:Value) (Xl:List Gr) (left:Int) (w:World) (h0:0≤left) (h1:left≤1048576) (hv:ZbY lo w v Xl) :
 Calls prog 31 #[v,.int .i64 left] w fun e w'=>∃ r:Int,e=.returned (.int .i64 r)∧Zw_ w w'∧ZsY Xl left r:=by
 rcases hv with ⟨a,cap,rfl,rfl⟩ | ⟨b,off,cap,rfl,hne,hm,hbw,_,_,hc⟩
 · go_enter func31,ntmps31
   go_wp2
   go_loop [1,5] (fun l i=>∃ r:Int,l=.int .i64 r∧0≤r∧r≤left∧i=.int .i64 0) (fun _ _=>0)
   case atStart=>exact⟨_,rfl,by omega,by omega,rfl⟩
   case round=>
    obtain⟨r,rfl,hr0,hr1,rfl⟩:=hrel;go_wp2;go_ret;exact⟨r,rfl,Below.refl _ _,by omega,by omega,fun _=>⟨by simp,fun i h=>by simp at h⟩⟩
 · unfold maxLen at hm
   by_cases hle:(Xl.length:Int)≤left
   · go_enter func31,ntmps31
     go_wp2
     go_loopw [1,5] (fun l i wr=>∃ (r:Int) (k:Nat),l=.int .i64 r∧0≤r∧r≤left∧i=.int .i64 k∧k≤Xl.length∧Zw_ w wr∧∀ j (hj:j < Xl.length),j < k→ZdC Xl[j]) (fun _ i _=>Xl.length - (intOf i).toNat)
     case atStart=>exact⟨_,0,rfl,by omega,by omega,rfl,by omega,Below.refl _ _,fun j _ h=>by omega⟩
     case round=>
      obtain⟨r,k,rfl,hr0,hr1,rfl,hk,hb,hall⟩:=hrel;have HA:=Zab hall;clear hall
      by_cases hlt:k < Xl.length
      · obtain⟨hs,vv0,hc,hv0⟩:=hc k hlt
        have HV0:=Zab (hv0.below hb);obtain⟨a0,k0,rfl⟩:=hv0.form;obtain⟨c0,c1,c2,c3,c4,c5,c6⟩:=hc.below hb hbw;clear hc hv0;go_wp2_with fail;refine (Zp2 lo _ _ _ _ hr0 (by omega) HV0.out hs).mono ?_;rintro e w1 ⟨r1,rfl,hb1,q0,q1,q2⟩;have HQ2:=Zab q2;have hB:Hid (Zw_ w w1):=hb.trans (hb1.mono hb.size);clear hb1 c0 c1 c2 c3 c4 c5 c6 hb q2 HV0
        by_cases hneg:r1 < 0
        · go_wp2
          go_ret;exact⟨-1,rfl,hB.out,by omega,by omega,fun h=>by omega⟩
        · have HL:Hid (ZdC Xl[k]):=HQ2.out (by omega)
          clear HQ2;go_wp2;go_roundw
          case rel=>exact⟨_,k+1,rfl,by omega,by omega,by go_num,by omega,hB.out,fun j hj h=>by
                     by_cases e:j=k
                     · subst e;exact HL.out
                     · exact HA.out j hj (by omega)⟩
          case measure=>simp [intOf];omega
      · go_wp2
        go_ret;exact⟨r,rfl,hb,by omega,by omega,fun _=>⟨by omega,fun j hj=>HA.out j hj (by omega)⟩⟩
   · go_enter func31,ntmps31
     go_wp2;go_ret;exact⟨-1,rfl,Below.refl _ _,by omega,by omega,fun h=>by omega⟩
theorem ZmJ (lo lo':Nat) (v v':Value) (Xl:List Gr) (w:World) (hv:ZbY lo w v Xl) (hv':ZbY lo' w v' Xl) :
 Calls prog 52 #[v,v'] w fun e w'=>e=.returned (.bool true)∧Zw_ w w':=by
 by_cases hL:Xl=[]
 · subst hL
   obtain⟨a,cap,rfl⟩:=hv.form;obtain⟨a',cap',rfl⟩:=hv'.form;clear hv hv';go_enter func52,ntmps52;go_wp2
   go_loop [5] (fun i=>i=.int .i64 0) (fun _=>0)
   case atStart=>rfl
   case round=>
    subst hrel;go_wp2;go_ret;exact⟨rfl,Below.refl _ _⟩
 · obtain⟨b,off,cap,rfl,hm,hbw,_,hc⟩:=hv.full hL
   obtain⟨b',off',cap',rfl,_,hbw',_,hc'⟩:=hv'.full hL;clear hv hv';unfold maxLen at hm;go_enter func52,ntmps52;go_wp2
   go_loopw [5] (fun i wr=>∃ k:Nat,i=.int .i64 k∧k≤Xl.length∧Zw_ w wr) (fun i _=>Xl.length - (intOf i).toNat)
   case atStart=>exact⟨0,rfl,by omega,Below.refl _ _⟩
   case round=>
    obtain⟨k,rfl,hk,hb⟩:=hrel
    by_cases hlt:k < Xl.length
    · obtain⟨hs,vv0,hc,hv0⟩:=hc k hlt
      obtain⟨ht,vv0',hd,hw0⟩:=hc' k hlt;have HV0:=Zab (hv0.below hb);have HW0:=Zab (hw0.below hb);obtain⟨a0,k0,rfl⟩:=hv0.form;obtain⟨e0,g0,rfl⟩:=hw0.form;obtain⟨c0,c1,c2,c3,c4,c5,c6⟩:=hc.below hb hbw;obtain⟨d0,d1,d2,d3,d4,d5,d6⟩:=hd.below hb hbw';clear hc hd hv0 hw0 hs ht;have HB:=Zab hb;clear hb;go_wp2
      go_region_with (go_at_call 115;refine (Zon lo lo' _ _ _ _ (HV0.out.below (Zb_.drew)) (HW0.out.below (Zb_.drew))).mono ?_;rintro e w1 ⟨rfl,hb1⟩;have hB:Hid (Zw_ w w1):=(HB.out.drew).trans (hb1.mono HB.out.size);clear hb1)
      all_goals go_wp2
      all_goals go_roundw
      all_goals first
       | (case rel=>exact⟨k+1,by go_num,by omega,hB.out⟩)
       | (case measure=>simp [intOf];omega)
    · go_wp2
      go_ret;exact⟨rfl,hb⟩
theorem Tryz.info158:(prog.info? 158).map (fun i=>(i.zero,i.size,i.bytes))=some (some (.agg #[.int .i64 0,.string ⟨#[]⟩,.string ⟨#[]⟩,.slice none 0 0,.string ⟨#[]⟩,.string ⟨#[]⟩,.string ⟨#[]⟩]),7,112):=by kernel_rfl
def Zb0 (wr:World) (B:Nat) (Xl:List Gr) (k:Nat):Prop:=
 ∃ f,wr.rowIs B 158 (Xl.length*7) f∧∀ i (h:i < Xl.length),i < k→ZdF Xl[i]∧∃ vv0,f (i*7)=.int .i64 Xl[i].nu∧f (i*7+1)=.string Xl[i].tw∧f (i*7+2)=.string Xl[i].gb∧f (i*7+3)=vv0∧f (i*7+4)=.string Xl[i].kd∧f (i*7+5)=.string Xl[i].tm∧f (i*7+6)=.string Xl[i].pf∧Zau (B+1) wr vv0 Xl[i].vb
theorem Zb0.below {wr w1:World} {B:Nat} {Xl:List Gr} {k:Nat} (h:Zb0 wr B Xl k) (hb:Below wr.heap.size wr w1):Zb0 w1 B Xl k:=by
 obtain⟨f,hr,hall⟩:=h;refine⟨f,hr.of_block (hb.block B hr.lt),fun i hi hik=>?_⟩;obtain⟨hz,vv0,h0,h1,h2,h3,h4,h5,h6,hv0⟩:=hall i hi hik;exact⟨hz,vv0,h0,h1,h2,h3,h4,h5,h6,hv0.below hb⟩
theorem Zb0.free {wr:World} {B:Nat} {Xl:List Gr} {k:Nat} (h:Zb0 wr B Xl k) (i:Nat):wr.frozen? ⟨B,i,none⟩=false:=by
 obtain⟨f,hr,_⟩:=h;exact hr.frozen i
theorem Zb0.there {wr:World} {B:Nat} {Xl:List Gr} {k:Nat} (h:Zb0 wr B Xl k) (i:Nat) (hi:i < Xl.length*7):∃ v,wr.cell? ⟨B,i,none⟩=some v:=by
 obtain⟨f,hr,_⟩:=h;exact⟨_,hr.cell hi⟩
theorem Zb0.step {w1:World} {B:Nat} {Xl:List Gr} {k:Nat} {vv0:Value} (h:Zb0 w1 B Xl k) (hk:k < Xl.length) (hz:ZdF Xl[k]) (hv0:Zau (B+1) w1 vv0 Xl[k].vb) :
 Zb0 (((((((w1.setCell ⟨B,k*7,none⟩ (.int .i64 Xl[k].nu)).setCell ⟨B,k*7+1,none⟩ (.string Xl[k].tw)).setCell ⟨B,k*7+2,none⟩ (.string Xl[k].gb)).setCell ⟨B,k*7+3,none⟩ vv0).setCell ⟨B,k*7+4,none⟩ (.string Xl[k].kd)).setCell ⟨B,k*7+5,none⟩ (.string Xl[k].tm)).setCell ⟨B,k*7+6,none⟩ (.string Xl[k].pf)) B Xl (k+1):=by
 obtain⟨f,hr,hall⟩:=h;refine⟨_,(((((((hr.set _ _).set _ _).set _ _).set _ _).set _ _).set _ _).set _ _),fun i hi hik=>?_⟩
 by_cases e:i=k
 · subst e
   refine⟨hz,vv0,by simp,by simp,by simp,by simp,by simp,by simp,by simp,?_⟩
   · repeat (refine Zau.setCell ?_ (by simp only [];omega) _)
     exact hv0
 · obtain⟨hz',vv0',h0,h1,h2,h3,h4,h5,h6,hv0'⟩:=hall i hi (by omega)
   refine⟨hz',vv0',?_,?_,?_,?_,?_,?_,?_,?_⟩
   · rw [if_neg (by omega),if_neg (by omega),if_neg (by omega),if_neg (by omega),if_neg (by omega),if_neg (by omega),if_neg (by omega)];exact h0
   · rw [if_neg (by omega),if_neg (by omega),if_neg (by omega),if_neg (by omega),if_neg (by omega),if_neg (by omega),if_neg (by omega)];exact h1
   · rw [if_neg (by omega),if_neg (by omega),if_neg (by omega),if_neg (by omega),if_neg (by omega),if_neg (by omega),if_neg (by omega)];exact h2
   · rw [if_neg (by omega),if_neg (by omega),if_neg (by omega),if_neg (by omega),if_neg (by omega),if_neg (by omega),if_neg (by omega)];exact h3
   · rw [if_neg (by omega),if_neg (by omega),if_neg (by omega),if_neg (by omega),if_neg (by omega),if_neg (by omega),if_neg (by omega)];exact h4
   · rw [if_neg (by omega),if_neg (by omega),if_neg (by omega),if_neg (by omega),if_neg (by omega),if_neg (by omega),if_neg (by omega)];exact h5
   · rw [if_neg (by omega),if_neg (by omega),if_neg (by omega),if_neg (by omega),if_neg (by omega),if_neg (by omega),if_neg (by omega)];exact h6
   · repeat (refine Zau.setCell ?_ (by simp only [];omega) _)
     exact hv0'
theorem Zb0.done {wr:World} {B:Nat} {Xl:List Gr} {k:Nat} (h:Zb0 wr B Xl k) (hk:Xl.length≤k) (hne:Xl≠[]) (hm:Xl.length≤maxLen):ZbY B wr (.slice (some ⟨B,0,none⟩) Xl.length Xl.length) Xl:=by
 obtain⟨f,hr,hall⟩:=h;refine Or.inr ⟨B,0,Xl.length,rfl,hne,hm,hr.lt,Nat.le_refl _,Nat.le_refl _,fun i hi=>?_⟩;obtain⟨hz,vv0,h0,h1,h2,h3,h4,h5,h6,hv0⟩:=hall i hi (by omega);rw [Nat.zero_add];exact⟨hz,vv0,⟨by rw [hr.cell (by omega),h0],by rw [hr.cell (by omega),h1],by rw [hr.cell (by omega),h2],by rw [hr.cell (by omega),h3],by rw [hr.cell (by omega),h4],by rw [hr.cell (by omega),h5],by rw [hr.cell (by omega),h6]⟩,hv0.mono (by omega)⟩
theorem Zb0.new (w:World) (Xl:List Gr) (z:Array Value):Zb0 (w.alloc (.cells (madeCells z (Xl.length*7)) 158)) w.heap.size Xl 0:=by
 refine⟨fun i=>(madeCells z (Xl.length*7)).getD i default,?_,fun i _ h=>by omega⟩;have:=World.rowIs_alloc w (madeCells z (Xl.length*7)) 158 (fun i=>(madeCells z (Xl.length*7)).getD i default) (fun i hi=>by simp [Array.getD,hi])
 rwa [size_madeCells] at this
theorem ZoA (lo:Nat) (v:Value) (Xl:List Gr) (w:World) (hv:ZbY lo w v Xl) (hn:Zds Xl) :
 Calls prog 45 #[v] w fun e w'=>∃ v',e=.returned v'∧Zw_ w w'∧ZbY w.heap.size w' v' Xl:=by
 obtain⟨i0,hi,hz0,hz1,hz2⟩:=info_parts Tryz.info158;have HSM:=Zab hn.2;have hn1:=hn.1;clear hn
 by_cases hL:Xl=[]
 · subst hL
   obtain⟨a,cap,rfl⟩:=hv.form;clear hv
   have hmk:∀ u:World,(Instr.makeSlice 36 (.int .i64 0) (.int .i64 0)).run prog u=.ok (.slice (some ⟨u.heap.size,0,none⟩) 0 0) (u.alloc (.cells (madeCells (Value.cells (.agg #[.int .i64 0,.string ⟨#[]⟩,.string ⟨#[]⟩,.slice none 0 0,.string ⟨#[]⟩,.string ⟨#[]⟩,.string ⟨#[]⟩])) 0) 158)):=fun u=>by
    have h:=run_make (P:=prog) u 36 158 i0 _ underlying36 hi hz0 .i64 .i64 0 0 (by omega) (by omega) (by omega) (by omega)
    simpa [hz1] using h
   go_enter func45,ntmps45;go_wp2
   go_loop [4] (fun i=>i=.int .i64 0) (fun _=>0)
   case atStart=>rfl
   case round=>
    subst hrel;go_wp2;go_ret;exact⟨_,rfl,Zb_.alloc Zl_ _,Or.inl ⟨_,_,rfl,rfl⟩⟩
 · obtain⟨b,off,cap,rfl,hm,hbw,_,hc⟩:=hv.full hL
   clear hv;have HM:Hid (Xl.length≤maxLen):=hm;unfold maxLen at hm
   have hmk:∀ u:World,(Instr.makeSlice 36 (.int .i64 (Xl.length:Int)) (.int .i64 (Xl.length:Int))).run prog u=.ok (.slice (some ⟨u.heap.size,0,none⟩) Xl.length Xl.length) (u.alloc (.cells (madeCells (Value.cells (.agg #[.int .i64 0,.string ⟨#[]⟩,.string ⟨#[]⟩,.slice none 0 0,.string ⟨#[]⟩,.string ⟨#[]⟩,.string ⟨#[]⟩])) (Xl.length*7)) 158)):=fun u=>by
    have h:=run_make (P:=prog) u 36 158 i0 _ underlying36 hi hz0 .i64 .i64 Xl.length Xl.length (by omega) (by omega) (by rw [hz2];omega) (by omega);rw [hz1] at h
    simpa using h
   clear hi hz0 hz1 hz2;go_enter func45,ntmps45;go_wp2;clear hmk
   go_loopw [4] (fun i wr=>∃ k:Nat,i=.int .i64 k∧k≤Xl.length∧Zw_ w wr∧Zb0 wr w.heap.size Xl k) (fun i _=>Xl.length - (intOf i).toNat)
   case atStart=>exact⟨0,rfl,by omega,Zb_.alloc Zl_ _,Zb0.new w Xl _⟩
   case round=>
    obtain⟨k,rfl,hk,hb,hf⟩:=hrel
    by_cases hlt:k < Xl.length
    · obtain⟨hs,vv0,hc,hv0⟩:=hc k hlt
      have HV0:=Zab (hv0.below hb);obtain⟨a0,k0,rfl⟩:=hv0.form;obtain⟨c0,c1,c2,c3,c4,c5,c6⟩:=hc.below hb hbw
      have hBl:w.heap.size < wr.heap.size:=by
       obtain⟨_,hr,_⟩:=hf;exact hr.lt
      clear hc hv0;go_wp2_with fail;refine (ZqD lo _ _ _ HV0.out (HSM.out k hlt)).mono ?_;rintro e w1 ⟨z0,rfl,hb1,hz0⟩;obtain⟨m0,n0,rfl⟩:=hz0.form;have hf1:=hf.below hb1;have HST:=Zab (hf1.step hlt hs (hz0.mono (by omega)));have hB:Hid (Zw_ w w1):=hb.trans (hb1.mono hb.size);have hfr:=hf1.free;obtain⟨o0,ho0⟩:=hf1.there (k*7) (by omega);obtain⟨o1,ho1⟩:=hf1.there (k*7+1) (by omega);obtain⟨o2,ho2⟩:=hf1.there (k*7+2) (by omega);obtain⟨o3,ho3⟩:=hf1.there (k*7+3) (by omega);obtain⟨o4,ho4⟩:=hf1.there (k*7+4) (by omega);obtain⟨o5,ho5⟩:=hf1.there (k*7+5) (by omega);obtain⟨o6,ho6⟩:=hf1.there (k*7+6) (by omega);clear hf hf1 hb1 hb c0 c1 c2 c3 c4 c5 c6 hz0 HV0;go_wp2;go_roundw
      case rel=>
       exact⟨k+1,by go_num,by omega,(((((((hB.out.setCell Zl_ _).setCell Zl_ _).setCell Zl_ _).setCell Zl_ _).setCell Zl_ _).setCell Zl_ _).setCell Zl_ _),HST.out⟩
      case measure=>simp [intOf];omega
    · go_wp2
      go_ret;exact⟨_,rfl,hb,hf.done (by omega) hL HM.out⟩
end Go.Proofs.YtfohnageehneoaaGreat
