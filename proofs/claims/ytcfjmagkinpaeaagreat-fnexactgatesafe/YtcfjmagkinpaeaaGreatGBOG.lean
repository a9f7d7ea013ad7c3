import Derived.Test.YtcfjmagkinpaeaaGreatGTA
set_option maxHeartbeats 16000000
set_option maxRecDepth 100000
open Go.Proofs.Tryz
namespace Go.Proofs.YtcfjmagkinpaeaaGreat
open Go.RowKit Go.Deep
structure Ob where
 kd:Zy_
 nm:Zy_
 tm:Zy_
 vs:List Zy_
 en:Bool
 hs:List Zy_
 ver:Int
structure ZdY (x:Ob):Prop where
 s0:x.kd.size≤maxLen
 s1:x.nm.size≤maxLen
 s2:x.tm.size≤maxLen
def Zgf (x:Ob):Prop:=x.vs.length≤1048576∧x.hs.length≤1048576
structure Zdp (w:World) (b o:Nat) (x:Ob) (vv0 vv1:Value):Prop where
 c0:w.cell? ⟨b,o,none⟩=some (.string x.kd)
 c1:w.cell? ⟨b,o+1,none⟩=some (.string x.nm)
 c2:w.cell? ⟨b,o+2,none⟩=some (.string x.tm)
 c3:w.cell? ⟨b,o+3,none⟩=some vv0
 c4:w.cell? ⟨b,o+4,none⟩=some (.bool x.en)
 c5:w.cell? ⟨b,o+5,none⟩=some vv1
 c6:w.cell? ⟨b,o+6,none⟩=some (.int .i64 x.ver)
theorem Zdp.below {w w':World} {b o:Nat} {x:Ob} {vv0 vv1:Value} (h:Zdp w b o x vv0 vv1) {m:Nat} (hb:Below m w w') (hlt:b < m):Zdp w' b o x vv0 vv1:=by
 have e:∀ o,w'.cell? ⟨b,o,none⟩=w.cell? ⟨b,o,none⟩:=fun o=>hb.cell (p:=⟨b,o,none⟩) hlt
 exact⟨by rw [e];exact h.c0,by rw [e];exact h.c1,by rw [e];exact h.c2,by rw [e];exact h.c3,by rw [e];exact h.c4,by rw [e];exact h.c5,by rw [e];exact h.c6⟩
theorem Zdp.set {w:World} {b o:Nat} {x:Ob} {vv0 vv1:Value} (h:Zdp w b o x vv0 vv1) {p:Addr} (hp:b≠p.block) (u:Value):Zdp (w.setCell p u) b o x vv0 vv1:=by
 have e:∀ o,(w.setCell p u).cell? ⟨b,o,none⟩=w.cell? ⟨b,o,none⟩:=fun o=>Zar _ _ _ _ hp
 exact⟨by rw [e];exact h.c0,by rw [e];exact h.c1,by rw [e];exact h.c2,by rw [e];exact h.c3,by rw [e];exact h.c4,by rw [e];exact h.c5,by rw [e];exact h.c6⟩
def ZbC (lo:Nat) (w:World) (v:Value) (Xl:List Ob):Prop:=
 (∃ (a:Option Addr) (cap:Nat),v=.slice a 0 cap∧Xl=[])∨
 ∃ (b off cap:Nat),v=.slice (some ⟨b,off,none⟩) Xl.length cap∧Xl≠[]∧Xl.length≤maxLen∧b < w.heap.size∧lo≤b∧Xl.length≤cap∧
  ∀ i (h:i < Xl.length),ZdY Xl[i]∧∃ vv0 vv1,Zdp w b (off+i*7) Xl[i] vv0 vv1∧Zan lo w vv0 Xl[i].vs∧Zan lo w vv1 Xl[i].hs
theorem ZbC.below {lo:Nat} {w w':World} {v:Value} {Xl:List Ob} (h:ZbC lo w v Xl) (hb:Zw_ w w'):ZbC lo w' v Xl:=by
 rcases h with h | ⟨b,off,cap,h1,h2,h3,h4,h5,h6,h7⟩
 · exact Or.inl h
 · refine Or.inr ⟨b,off,cap,h1,h2,h3,Zk_ h4 hb.size,h5,h6,fun i hi=>?_⟩
   obtain⟨hs,vv0,vv1,hc,hv0,hv1⟩:=h7 i hi;exact⟨hs,vv0,vv1,hc.below hb h4,hv0.below hb,hv1.below hb⟩
theorem ZbC.mono {lo lo':Nat} {w:World} {v:Value} {Xl:List Ob} (h:ZbC lo w v Xl) (hl:lo'≤lo):ZbC lo' w v Xl:=by
 rcases h with h | ⟨b,off,cap,h1,h2,h3,h4,h5,h6,h7⟩
 · exact Or.inl h
 · refine Or.inr ⟨b,off,cap,h1,h2,h3,h4,Nat.le_trans hl h5,h6,fun i hi=>?_⟩
   obtain⟨hs,vv0,vv1,hc,hv0,hv1⟩:=h7 i hi;exact⟨hs,vv0,vv1,hc,hv0.mono hl,hv1.mono hl⟩
theorem ZbC.set {lo:Nat} {w:World} {v:Value} {Xl:List Ob} (h:ZbC lo w v Xl) {p:Addr} (hp:p.block < lo) (u:Value):ZbC lo (w.setCell p u) v Xl:=by
 rcases h with h | ⟨b,off,cap,h1,h2,h3,h4,h5,h6,h7⟩
 · exact Or.inl h
 · refine Or.inr ⟨b,off,cap,h1,h2,h3,by simpa [World.setCell] using h4,h5,h6,fun i hi=>?_⟩
   obtain⟨hs,vv0,vv1,hc,hv0,hv1⟩:=h7 i hi;exact⟨hs,vv0,vv1,hc.set (by omega) u,hv0.setCell hp u,hv1.setCell hp u⟩
theorem ZbC.form {lo:Nat} {w:World} {v:Value} {Xl:List Ob} (h:ZbC lo w v Xl):∃ a cap,v=.slice a Xl.length cap:=by
 rcases h with ⟨a,cap,h,rfl⟩ | ⟨b,off,cap,h,_⟩
 · exact⟨a,cap,h⟩
 · exact⟨_,cap,h⟩
theorem ZbC.max {lo:Nat} {w:World} {v:Value} {Xl:List Ob} (h:ZbC lo w v Xl):Xl.length≤maxLen:=by
 rcases h with ⟨a,cap,h,rfl⟩ | ⟨b,off,cap,h,_,h3,_⟩
 · exact Nat.zero_le _
 · exact h3
theorem ZbC.full {lo:Nat} {w:World} {v:Value} {Xl:List Ob} (h:ZbC lo w v Xl) (hne:Xl≠[]):∃ (b off cap:Nat),v=.slice (some ⟨b,off,none⟩) Xl.length cap∧Xl.length≤maxLen∧b < w.heap.size∧Xl.length≤cap∧
 ∀ i (h:i < Xl.length),ZdY Xl[i]∧∃ vv0 vv1,Zdp w b (off+i*7) Xl[i] vv0 vv1∧Zan lo w vv0 Xl[i].vs∧Zan lo w vv1 Xl[i].hs:=by
 rcases h with ⟨_,_,_,h⟩ | ⟨b,off,cap,h1,_,h3,h4,_,h6,h7⟩
 · exact absurd h hne
 · exact⟨b,off,cap,h1,h3,h4,h6,h7⟩
theorem ZbC.full' {lo:Nat} {w:World} {a:Option Addr} {n cap:Nat} {Xl:List Ob} (h:ZbC lo w (.slice a n cap) Xl) (hL:0 < Xl.length) :
 ∃ b off,a=some ⟨b,off,none⟩∧b < w.heap.size∧lo≤b∧∀ i (h:i < Xl.length),ZdY Xl[i]∧∃ vv0 vv1,Zdp w b (off+i*7) Xl[i] vv0 vv1∧Zan lo w vv0 Xl[i].vs∧Zan lo w vv1 Xl[i].hs:=by
 rcases h with ⟨a',cap',h,rfl⟩ | ⟨b',off',cap',h1,h2,h3,h4,h5,h6,h7⟩
 · simp at hL
 · injection h1 with e1 e2 e3
   exact⟨b',off',e1,h4,h5,h7⟩
def ZcO (Xl:List Ob):Prop:=Xl.length≤1048576∧∀ i (h:i < Xl.length),Zgf Xl[i]
def Zta (Xl:List Ob) (left r:Int):Prop:= -1≤r∧r≤left∧(0≤r→ZcO Xl)
theorem Zqo (lo:Nat) (x:Ob) (vv0 vv1:Value) (left:Int) (w:World) (h0:0≤left) (h1:left≤1048576) (hv0:Zan lo w vv0 x.vs) (hv1:Zan lo w vv1 x.hs) (hz:ZdY x) :
 Calls prog 73 #[.agg #[.string x.kd,.string x.nm,.string x.tm,vv0,.bool x.en,vv1,.int .i64 x.ver],.int .i64 left] w
  fun e w'=>∃ r:Int,e=.returned (.int .i64 r)∧Zw_ w w'∧-1≤r∧r≤left∧(0≤r→Zgf x):=by
 refine (Zor x.kd x.nm x.tm vv0 vv1 x.en x.ver x.vs x.hs w left hv0.at hv1.at h0 h1 hz.s0 hz.s1 hz.s2).mono ?_;rintro e w' ⟨r,he,hb,q0,q1,q2⟩;exact⟨r,he,hb,q0,q1,fun h=>⟨by have:=(q2 h).1;omega,by have:=(q2 h).2;omega⟩⟩
theorem Zqv (lo:Nat) (x:Ob) (vv0 vv1:Value) (w:World) (hv0:Zan lo w vv0 x.vs) (hv1:Zan lo w vv1 x.hs) (hn:Zgf x) :
 Calls prog 80 #[.agg #[.string x.kd,.string x.nm,.string x.tm,vv0,.bool x.en,vv1,.int .i64 x.ver]] w
  fun e w'=>∃ z0 z1,e=.returned (.agg #[.string x.kd,.string x.nm,.string x.tm,z0,.bool x.en,z1,.int .i64 x.ver])∧Zw_ w w'∧Zan w.heap.size w' z0 x.vs∧Zan w.heap.size w' z1 x.hs:=
 ZoJ x.kd x.nm x.tm vv0 vv1 x.en x.ver x.vs x.hs w hv0.at hv1.at hn.1 hn.2
theorem Znm (lo lo':Nat) (x:Ob) (vv0 vv1 vv0' vv1':Value) (w:World) (hv0:Zan lo w vv0 x.vs) (hv1:Zan lo w vv1 x.hs) (hw0:Zan lo' w vv0' x.vs) (hw1:Zan lo' w vv1' x.hs) :
 Calls prog 92 #[.agg #[.string x.kd,.string x.nm,.string x.tm,vv0,.bool x.en,vv1,.int .i64 x.ver],.agg #[.string x.kd,.string x.nm,.string x.tm,vv0',.bool x.en,vv1',.int .i64 x.ver]] w fun e w'=>e=.returned (.bool true)∧Zw_ w w':=
 ZlQ x.kd x.nm x.tm vv0 vv1 x.en x.ver x.vs x.hs w vv0' vv1' hv0.at hv1.at hw0.at hw1.at
theorem Zos (lo:Nat) (v:Value) (Xl:List Ob) (left:Int) (w:World) (h0:0≤left) (h1:left≤1048576) (hv:ZbC lo w v Xl) :
 Calls prog 34 #[v,.int .i64 left] w fun e w'=>∃ r:Int,e=.returned (.int .i64 r)∧Zw_ w w'∧Zta Xl left r:=by
 rcases hv with ⟨a,cap,rfl,rfl⟩ | ⟨b,off,cap,rfl,hne,hm,hbw,_,_,hc⟩
 · go_enter func34,ntmps34
   go_wp2
   go_loop [1,5] (fun l i=>∃ r:Int,l=.int .i64 r∧0≤r∧r≤left∧i=.int .i64 0) (fun _ _=>0)
   case atStart=>exact⟨_,rfl,by omega,by omega,rfl⟩
   case round=>
    obtain⟨r,rfl,hr0,hr1,rfl⟩:=hrel;go_wp2;go_ret;exact⟨r,rfl,Below.refl _ _,by omega,by omega,fun _=>⟨by simp,fun i h=>by simp at h⟩⟩
 · unfold maxLen at hm
   by_cases hle:(Xl.length:Int)≤left
   · go_enter func34,ntmps34
     go_wp2
     go_loopw [1,5] (fun l i wr=>∃ (r:Int) (k:Nat),l=.int .i64 r∧0≤r∧r≤left∧i=.int .i64 k∧k≤Xl.length∧Zw_ w wr∧∀ j (hj:j < Xl.length),j < k→Zgf Xl[j]) (fun _ i _=>Xl.length - (intOf i).toNat)
     case atStart=>exact⟨_,0,rfl,by omega,by omega,rfl,by omega,Below.refl _ _,fun j _ h=>by omega⟩
     case round=>
      obtain⟨r,k,rfl,hr0,hr1,rfl,hk,hb,hall⟩:=hrel;have HA:=Zab hall;clear hall
      by_cases hlt:k < Xl.length
      · obtain⟨hs,vv0,vv1,hc,hv0,hv1⟩:=hc k hlt
        have HV0:=Zab (hv0.below hb);have HV1:=Zab (hv1.below hb);obtain⟨a0,k0,rfl⟩:=hv0.at.form';obtain⟨a1,k1,rfl⟩:=hv1.at.form';obtain⟨c0,c1,c2,c3,c4,c5,c6⟩:=hc.below hb hbw;clear hc hv0 hv1;go_wp2_with fail;refine (Zqo lo _ _ _ _ _ hr0 (by omega) HV0.out HV1.out hs).mono ?_;rintro e w1 ⟨r1,rfl,hb1,q0,q1,q2⟩;have HQ2:=Zab q2;have hB:Hid (Zw_ w w1):=hb.trans (hb1.mono hb.size);clear hb1 c0 c1 c2 c3 c4 c5 c6 hb q2 HV0 HV1
        by_cases hneg:r1 < 0
        · go_wp2
          go_ret;exact⟨-1,rfl,hB.out,by omega,by omega,fun h=>by omega⟩
        · have HL:Hid (Zgf Xl[k]):=HQ2.out (by omega)
          clear HQ2;go_wp2;go_roundw
          case rel=>exact⟨_,k+1,rfl,by omega,by omega,by go_num,by omega,hB.out,fun j hj h=>by
                     by_cases e:j=k
                     · subst e;exact HL.out
                     · exact HA.out j hj (by omega)⟩
          case measure=>simp [intOf];omega
      · go_wp2
        go_ret;exact⟨r,rfl,hb,by omega,by omega,fun _=>⟨by omega,fun j hj=>HA.out j hj (by omega)⟩⟩
   · go_enter func34,ntmps34
     go_wp2;go_ret;exact⟨-1,rfl,Below.refl _ _,by omega,by omega,fun h=>by omega⟩
theorem ZlR (lo lo':Nat) (v v':Value) (Xl:List Ob) (w:World) (hv:ZbC lo w v Xl) (hv':ZbC lo' w v' Xl) :
 Calls prog 45 #[v,v'] w fun e w'=>e=.returned (.bool true)∧Zw_ w w':=by
 by_cases hL:Xl=[]
 · subst hL
   obtain⟨a,cap,rfl⟩:=hv.form;obtain⟨a',cap',rfl⟩:=hv'.form;clear hv hv';go_enter func45,ntmps45;go_wp2
   go_loop [5] (fun i=>i=.int .i64 0) (fun _=>0)
   case atStart=>rfl
   case round=>
    subst hrel;go_wp2;go_ret;exact⟨rfl,Below.refl _ _⟩
 · obtain⟨b,off,cap,rfl,hm,hbw,_,hc⟩:=hv.full hL
   obtain⟨b',off',cap',rfl,_,hbw',_,hc'⟩:=hv'.full hL;clear hv hv';unfold maxLen at hm;go_enter func45,ntmps45;go_wp2
   go_loopw [5] (fun i wr=>∃ k:Nat,i=.int .i64 k∧k≤Xl.length∧Zw_ w wr) (fun i _=>Xl.length - (intOf i).toNat)
   case atStart=>exact⟨0,rfl,by omega,Below.refl _ _⟩
   case round=>
    obtain⟨k,rfl,hk,hb⟩:=hrel
    by_cases hlt:k < Xl.length
    · obtain⟨hs,vv0,vv1,hc,hv0,hv1⟩:=hc k hlt
      obtain⟨ht,vv0',vv1',hd,hw0,hw1⟩:=hc' k hlt;have HV0:=Zab (hv0.below hb);have HW0:=Zab (hw0.below hb);have HV1:=Zab (hv1.below hb);have HW1:=Zab (hw1.below hb);obtain⟨a0,k0,rfl⟩:=hv0.at.form';obtain⟨a1,k1,rfl⟩:=hv1.at.form';obtain⟨e0,g0,rfl⟩:=hw0.at.form';obtain⟨e1,g1,rfl⟩:=hw1.at.form';obtain⟨c0,c1,c2,c3,c4,c5,c6⟩:=hc.below hb hbw;obtain⟨d0,d1,d2,d3,d4,d5,d6⟩:=hd.below hb hbw';clear hc hd hv0 hv1 hw0 hw1 hs ht;have HB:=Zab hb;clear hb;go_wp2
      go_region_with (go_at_call 92;refine (Znm lo lo' _ _ _ _ _ _ (HV0.out.below (Zb_.drew)) (HV1.out.below (Zb_.drew)) (HW0.out.below (Zb_.drew)) (HW1.out.below (Zb_.drew))).mono ?_;rintro e w1 ⟨rfl,hb1⟩;have hB:Hid (Zw_ w w1):=(HB.out.drew).trans (hb1.mono HB.out.size);clear hb1)
      all_goals go_wp2
      all_goals go_roundw
      all_goals first
       | (case rel=>exact⟨k+1,by go_num,by omega,hB.out⟩)
       | (case measure=>simp [intOf];omega)
    · go_wp2
      go_ret;exact⟨rfl,hb⟩
theorem Tryz.info160:(prog.info? 160).map (fun i=>(i.zero,i.size,i.bytes))=some (some (.agg #[.string ⟨#[]⟩,.string ⟨#[]⟩,.string ⟨#[]⟩,.slice none 0 0,.bool false,.slice none 0 0,.int .i64 0]),7,112):=by kernel_rfl
def ZbW (wr:World) (B:Nat) (Xl:List Ob) (k:Nat):Prop:=
 ∃ f,wr.rowIs B 160 (Xl.length*7) f∧∀ i (h:i < Xl.length),i < k→ZdY Xl[i]∧∃ vv0 vv1,f (i*7)=.string Xl[i].kd∧f (i*7+1)=.string Xl[i].nm∧f (i*7+2)=.string Xl[i].tm∧f (i*7+3)=vv0∧f (i*7+4)=.bool Xl[i].en∧f (i*7+5)=vv1∧f (i*7+6)=.int .i64 Xl[i].ver∧Zan (B+1) wr vv0 Xl[i].vs∧Zan (B+1) wr vv1 Xl[i].hs
theorem ZbW.below {wr w1:World} {B:Nat} {Xl:List Ob} {k:Nat} (h:ZbW wr B Xl k) (hb:Below wr.heap.size wr w1):ZbW w1 B Xl k:=by
 obtain⟨f,hr,hall⟩:=h;refine⟨f,hr.of_block (hb.block B hr.lt),fun i hi hik=>?_⟩;obtain⟨hz,vv0,vv1,h0,h1,h2,h3,h4,h5,h6,hv0,hv1⟩:=hall i hi hik;exact⟨hz,vv0,vv1,h0,h1,h2,h3,h4,h5,h6,hv0.below hb,hv1.below hb⟩
theorem ZbW.free {wr:World} {B:Nat} {Xl:List Ob} {k:Nat} (h:ZbW wr B Xl k) (i:Nat):wr.frozen? ⟨B,i,none⟩=false:=by
 obtain⟨f,hr,_⟩:=h;exact hr.frozen i
theorem ZbW.there {wr:World} {B:Nat} {Xl:List Ob} {k:Nat} (h:ZbW wr B Xl k) (i:Nat) (hi:i < Xl.length*7):∃ v,wr.cell? ⟨B,i,none⟩=some v:=by
 obtain⟨f,hr,_⟩:=h;exact⟨_,hr.cell hi⟩
theorem ZbW.step {w1:World} {B:Nat} {Xl:List Ob} {k:Nat} {vv0 vv1:Value} (h:ZbW w1 B Xl k) (hk:k < Xl.length) (hz:ZdY Xl[k]) (hv0:Zan (B+1) w1 vv0 Xl[k].vs) (hv1:Zan (B+1) w1 vv1 Xl[k].hs) :
 ZbW (((((((w1.setCell ⟨B,k*7,none⟩ (.string Xl[k].kd)).setCell ⟨B,k*7+1,none⟩ (.string Xl[k].nm)).setCell ⟨B,k*7+2,none⟩ (.string Xl[k].tm)).setCell ⟨B,k*7+3,none⟩ vv0).setCell ⟨B,k*7+4,none⟩ (.bool Xl[k].en)).setCell ⟨B,k*7+5,none⟩ vv1).setCell ⟨B,k*7+6,none⟩ (.int .i64 Xl[k].ver)) B Xl (k+1):=by
 obtain⟨f,hr,hall⟩:=h;refine⟨_,(((((((hr.set _ _).set _ _).set _ _).set _ _).set _ _).set _ _).set _ _),fun i hi hik=>?_⟩
 by_cases e:i=k
 · subst e
   refine⟨hz,vv0,vv1,by simp,by simp,by simp,by simp,by simp,by simp,by simp,?_,?_⟩
   · repeat (refine Zan.setCell ?_ (by simp only [];omega) _)
     exact hv0
   · repeat (refine Zan.setCell ?_ (by simp only [];omega) _)
     exact hv1
 · obtain⟨hz',vv0',vv1',h0,h1,h2,h3,h4,h5,h6,hv0',hv1'⟩:=hall i hi (by omega)
   refine⟨hz',vv0',vv1',?_,?_,?_,?_,?_,?_,?_,?_,?_⟩
   · rw [if_neg (by omega),if_neg (by omega),if_neg (by omega),if_neg (by omega),if_neg (by omega),if_neg (by omega),if_neg (by omega)];exact h0
   · rw [if_neg (by omega),if_neg (by omega),if_neg (by omega),if_neg (by omega),if_neg (by omega),if_neg (by omega),if_neg (by omega)];exact h1
   · rw [if_neg (by omega),if_neg (by omega),if_neg (by omega),if_neg (by omega),if_neg (by omega),if_neg (by omega),if_neg (by omega)];exact h2
   · rw [if_neg (by omega),if_neg (by omega),if_neg (by omega),if_neg (by omega),if_neg (by omega),if_neg (by omega),if_neg (by omega)];exact h3
   · rw [if_neg (by omega),if_neg (by omega),if_neg (by omega),if_neg (by omega),if_neg (by omega),if_neg (by omega),if_neg (by omega)];exact h4
   · rw [if_neg (by omega),if_neg (by omega),if_neg (by omega),if_neg (by omega),if_neg (by omega),if_neg (by omega),if_neg (by omega)];exact h5
   · rw [if_neg (by omega),if_neg (by omega),if_neg (by omega),if_neg (by omega),if_neg (by omega),if_neg (by omega),if_neg (by omega)];exact h6
   · repeat (refine Zan.setCell ?_ (by simp only [];omega) _)
     exact hv0'
   · repeat (refine Zan.setCell ?_ (by simp only [];omega) _)
     exact hv1'
theorem ZbW.done {wr:World} {B:Nat} {Xl:List Ob} {k:Nat} (h:ZbW wr B Xl k) (hk:Xl.length≤k) (hne:Xl≠[]) (hm:Xl.length≤maxLen):ZbC B wr (.slice (some ⟨B,0,none⟩) Xl.length Xl.length) Xl:=by
 obtain⟨f,hr,hall⟩:=h;refine Or.inr ⟨B,0,Xl.length,rfl,hne,hm,hr.lt,Nat.le_refl _,Nat.le_refl _,fun i hi=>?_⟩;obtain⟨hz,vv0,vv1,h0,h1,h2,h3,h4,h5,h6,hv0,hv1⟩:=hall i hi (by omega);rw [Nat.zero_add];exact⟨hz,vv0,vv1,⟨by rw [hr.cell (by omega),h0],by rw [hr.cell (by omega),h1],by rw [hr.cell (by omega),h2],by rw [hr.cell (by omega),h3],by rw [hr.cell (by omega),h4],by rw [hr.cell (by omega),h5],by rw [hr.cell (by omega),h6]⟩,hv0.mono (by omega),hv1.mono (by omega)⟩
theorem ZbW.new (w:World) (Xl:List Ob) (z:Array Value):ZbW (w.alloc (.cells (madeCells z (Xl.length*7)) 160)) w.heap.size Xl 0:=by
 refine⟨fun i=>(madeCells z (Xl.length*7)).getD i default,?_,fun i _ h=>by omega⟩;have:=World.rowIs_alloc w (madeCells z (Xl.length*7)) 160 (fun i=>(madeCells z (Xl.length*7)).getD i default) (fun i hi=>by simp [Array.getD,hi])
 rwa [size_madeCells] at this
theorem ZoK (lo:Nat) (v:Value) (Xl:List Ob) (w:World) (hv:ZbC lo w v Xl) (hn:ZcO Xl) :
 Calls prog 39 #[v] w fun e w'=>∃ v',e=.returned v'∧Zw_ w w'∧ZbC w.heap.size w' v' Xl:=by
 obtain⟨i0,hi,hz0,hz1,hz2⟩:=info_parts Tryz.info160;have HSM:=Zab hn.2;have hn1:=hn.1;clear hn
 by_cases hL:Xl=[]
 · subst hL
   obtain⟨a,cap,rfl⟩:=hv.form;clear hv
   have hmk:∀ u:World,(Instr.makeSlice 45 (.int .i64 0) (.int .i64 0)).run prog u=.ok (.slice (some ⟨u.heap.size,0,none⟩) 0 0) (u.alloc (.cells (madeCells (Value.cells (.agg #[.string ⟨#[]⟩,.string ⟨#[]⟩,.string ⟨#[]⟩,.slice none 0 0,.bool false,.slice none 0 0,.int .i64 0])) 0) 160)):=fun u=>by
    have h:=run_make (P:=prog) u 45 160 i0 _ underlying45 hi hz0 .i64 .i64 0 0 (by omega) (by omega) (by omega) (by omega)
    simpa [hz1] using h
   go_enter func39,ntmps39;go_wp2
   go_loop [4] (fun i=>i=.int .i64 0) (fun _=>0)
   case atStart=>rfl
   case round=>
    subst hrel;go_wp2;go_ret;exact⟨_,rfl,Zb_.alloc Zl_ _,Or.inl ⟨_,_,rfl,rfl⟩⟩
 · obtain⟨b,off,cap,rfl,hm,hbw,_,hc⟩:=hv.full hL
   clear hv;have HM:Hid (Xl.length≤maxLen):=hm;unfold maxLen at hm
   have hmk:∀ u:World,(Instr.makeSlice 45 (.int .i64 (Xl.length:Int)) (.int .i64 (Xl.length:Int))).run prog u=.ok (.slice (some ⟨u.heap.size,0,none⟩) Xl.length Xl.length) (u.alloc (.cells (madeCells (Value.cells (.agg #[.string ⟨#[]⟩,.string ⟨#[]⟩,.string ⟨#[]⟩,.slice none 0 0,.bool false,.slice none 0 0,.int .i64 0])) (Xl.length*7)) 160)):=fun u=>by
    have h:=run_make (P:=prog) u 45 160 i0 _ underlying45 hi hz0 .i64 .i64 Xl.length Xl.length (by omega) (by omega) (by rw [hz2];omega) (by omega);rw [hz1] at h
    simpa using h
   clear hi hz0 hz1 hz2;go_enter func39,ntmps39;go_wp2;clear hmk
   go_loopw [4] (fun i wr=>∃ k:Nat,i=.int .i64 k∧k≤Xl.length∧Zw_ w wr∧ZbW wr w.heap.size Xl k) (fun i _=>Xl.length - (intOf i).toNat)
   case atStart=>exact⟨0,rfl,by omega,Zb_.alloc Zl_ _,ZbW.new w Xl _⟩
   case round=>
    obtain⟨k,rfl,hk,hb,hf⟩:=hrel
    by_cases hlt:k < Xl.length
    · obtain⟨hs,vv0,vv1,hc,hv0,hv1⟩:=hc k hlt
      have HV0:=Zab (hv0.below hb);have HV1:=Zab (hv1.below hb);obtain⟨a0,k0,rfl⟩:=hv0.at.form';obtain⟨a1,k1,rfl⟩:=hv1.at.form';obtain⟨c0,c1,c2,c3,c4,c5,c6⟩:=hc.below hb hbw
      have hBl:w.heap.size < wr.heap.size:=by
       obtain⟨_,hr,_⟩:=hf;exact hr.lt
      clear hc hv0 hv1;go_wp2_with fail;refine (Zqv lo _ _ _ _ HV0.out HV1.out (HSM.out k hlt)).mono ?_;rintro e w1 ⟨z0,z1,rfl,hb1,hz0,hz1⟩;obtain⟨m0,n0,rfl⟩:=hz0.at.form';obtain⟨m1,n1,rfl⟩:=hz1.at.form';have hf1:=hf.below hb1;have HST:=Zab (hf1.step hlt hs (hz0.mono (by omega)) (hz1.mono (by omega)));have hB:Hid (Zw_ w w1):=hb.trans (hb1.mono hb.size);have hfr:=hf1.free;obtain⟨o0,ho0⟩:=hf1.there (k*7) (by omega);obtain⟨o1,ho1⟩:=hf1.there (k*7+1) (by omega);obtain⟨o2,ho2⟩:=hf1.there (k*7+2) (by omega);obtain⟨o3,ho3⟩:=hf1.there (k*7+3) (by omega);obtain⟨o4,ho4⟩:=hf1.there (k*7+4) (by omega);obtain⟨o5,ho5⟩:=hf1.there (k*7+5) (by omega);obtain⟨o6,ho6⟩:=hf1.there (k*7+6) (by omega);clear hf hf1 hb1 hb c0 c1 c2 c3 c4 c5 c6 hz0 HV0 hz1 HV1;go_wp2;go_roundw
      case rel=>
       exact⟨k+1,by go_num,by omega,(((((((hB.out.setCell Zl_ _).setCell Zl_ _).setCell Zl_ _).setCell Zl_ _).setCell Zl_ _).setCell Zl_ _).setCell Zl_ _),HST.out⟩
      case measure=>simp [intOf];omega
    · go_wp2
      go_ret;exact⟨_,rfl,hb,hf.done (by omega) hL HM.out⟩
structure Gr where
 nu:Int
 tw:Zy_
 gb:Zy_
 vb:List Int
 kd:Zy_
 tm:Zy_
 pf:Zy_
structure ZfC (x:Gr):Prop where
 s0:x.tw.size≤maxLen
 s1:x.gb.size≤maxLen
 s2:x.kd.size≤maxLen
 s3:x.tm.size≤maxLen
 s4:x.pf.size≤maxLen
def Zgc (x:Gr):Prop:=x.vb.length≤1048576
structure Zdn (w:World) (b o:Nat) (x:Gr) (vv0:Value):Prop where
 c0:w.cell? ⟨b,o,none⟩=some (.int .i64 x.nu)
 c1:w.cell? ⟨b,o+1,none⟩=some (.string x.tw)
 c2:w.cell? ⟨b,o+2,none⟩=some (.string x.gb)
 c3:w.cell? ⟨b,o+3,none⟩=some vv0
 c4:w.cell? ⟨b,o+4,none⟩=some (.string x.kd)
 c5:w.cell? ⟨b,o+5,none⟩=some (.string x.tm)
 c6:w.cell? ⟨b,o+6,none⟩=some (.string x.pf)
theorem Zdn.below {w w':World} {b o:Nat} {x:Gr} {vv0:Value} (h:Zdn w b o x vv0) {m:Nat} (hb:Below m w w') (hlt:b < m):Zdn w' b o x vv0:=by
 have e:∀ o,w'.cell? ⟨b,o,none⟩=w.cell? ⟨b,o,none⟩:=fun o=>hb.cell (p:=⟨b,o,none⟩) hlt
 exact⟨by rw [e];exact h.c0,by rw [e];exact h.c1,by rw [e];exact h.c2,by rw [e];exact h.c3,by rw [e];exact h.c4,by rw [e];exact h.c5,by rw [e];exact h.c6⟩
theorem Zdn.set {w:World} {b o:Nat} {x:Gr} {vv0:Value} (h:Zdn w b o x vv0) {p:Addr} (hp:b≠p.block) (u:Value):Zdn (w.setCell p u) b o x vv0:=by
 have e:∀ o,(w.setCell p u).cell? ⟨b,o,none⟩=w.cell? ⟨b,o,none⟩:=fun o=>Zar _ _ _ _ hp
 exact⟨by rw [e];exact h.c0,by rw [e];exact h.c1,by rw [e];exact h.c2,by rw [e];exact h.c3,by rw [e];exact h.c4,by rw [e];exact h.c5,by rw [e];exact h.c6⟩
def Zb9 (lo:Nat) (w:World) (v:Value) (Xl:List Gr):Prop:=
 (∃ (a:Option Addr) (cap:Nat),v=.slice a 0 cap∧Xl=[])∨
 ∃ (b off cap:Nat),v=.slice (some ⟨b,off,none⟩) Xl.length cap∧Xl≠[]∧Xl.length≤maxLen∧b < w.heap.size∧lo≤b∧Xl.length≤cap∧
  ∀ i (h:i < Xl.length),ZfC Xl[i]∧∃ vv0,Zdn w b (off+i*7) Xl[i] vv0∧Zap lo w vv0 Xl[i].vb
theorem Zb9.below {lo:Nat} {w w':World} {v:Value} {Xl:List Gr} (h:Zb9 lo w v Xl) (hb:Zw_ w w'):Zb9 lo w' v Xl:=by
 rcases h with h | ⟨b,off,cap,h1,h2,h3,h4,h5,h6,h7⟩
 · exact Or.inl h
 · refine Or.inr ⟨b,off,cap,h1,h2,h3,Zk_ h4 hb.size,h5,h6,fun i hi=>?_⟩
   obtain⟨hs,vv0,hc,hv0⟩:=h7 i hi;exact⟨hs,vv0,hc.below hb h4,hv0.below hb⟩
theorem Zb9.mono {lo lo':Nat} {w:World} {v:Value} {Xl:List Gr} (h:Zb9 lo w v Xl) (hl:lo'≤lo):Zb9 lo' w v Xl:=by
 rcases h with h | ⟨b,off,cap,h1,h2,h3,h4,h5,h6,h7⟩
 · exact Or.inl h
 · refine Or.inr ⟨b,off,cap,h1,h2,h3,h4,Nat.le_trans hl h5,h6,fun i hi=>?_⟩
   obtain⟨hs,vv0,hc,hv0⟩:=h7 i hi;exact⟨hs,vv0,hc,hv0.mono hl⟩
theorem Zb9.set {lo:Nat} {w:World} {v:Value} {Xl:List Gr} (h:Zb9 lo w v Xl) {p:Addr} (hp:p.block < lo) (u:Value):Zb9 lo (w.setCell p u) v Xl:=by
 rcases h with h | ⟨b,off,cap,h1,h2,h3,h4,h5,h6,h7⟩
 · exact Or.inl h
 · refine Or.inr ⟨b,off,cap,h1,h2,h3,by simpa [World.setCell] using h4,h5,h6,fun i hi=>?_⟩
   obtain⟨hs,vv0,hc,hv0⟩:=h7 i hi;exact⟨hs,vv0,hc.set (by omega) u,hv0.setCell hp u⟩
theorem Zb9.form {lo:Nat} {w:World} {v:Value} {Xl:List Gr} (h:Zb9 lo w v Xl):∃ a cap,v=.slice a Xl.length cap:=by
 rcases h with ⟨a,cap,h,rfl⟩ | ⟨b,off,cap,h,_⟩
 · exact⟨a,cap,h⟩
 · exact⟨_,cap,h⟩
theorem Zb9.max {lo:Nat} {w:World} {v:Value} {Xl:List Gr} (h:Zb9 lo w v Xl):Xl.length≤maxLen:=by
 rcases h with ⟨a,cap,h,rfl⟩ | ⟨b,off,cap,h,_,h3,_⟩
 · exact Nat.zero_le _
 · exact h3
theorem Zb9.full {lo:Nat} {w:World} {v:Value} {Xl:List Gr} (h:Zb9 lo w v Xl) (hne:Xl≠[]):∃ (b off cap:Nat),v=.slice (some ⟨b,off,none⟩) Xl.length cap∧Xl.length≤maxLen∧b < w.heap.size∧Xl.length≤cap∧
 ∀ i (h:i < Xl.length),ZfC Xl[i]∧∃ vv0,Zdn w b (off+i*7) Xl[i] vv0∧Zap lo w vv0 Xl[i].vb:=by
 rcases h with ⟨_,_,_,h⟩ | ⟨b,off,cap,h1,_,h3,h4,_,h6,h7⟩
 · exact absurd h hne
 · exact⟨b,off,cap,h1,h3,h4,h6,h7⟩
theorem Zb9.full' {lo:Nat} {w:World} {a:Option Addr} {n cap:Nat} {Xl:List Gr} (h:Zb9 lo w (.slice a n cap) Xl) (hL:0 < Xl.length) :
 ∃ b off,a=some ⟨b,off,none⟩∧b < w.heap.size∧lo≤b∧∀ i (h:i < Xl.length),ZfC Xl[i]∧∃ vv0,Zdn w b (off+i*7) Xl[i] vv0∧Zap lo w vv0 Xl[i].vb:=by
 rcases h with ⟨a',cap',h,rfl⟩ | ⟨b',off',cap',h1,h2,h3,h4,h5,h6,h7⟩
 · simp at hL
 · injection h1 with e1 e2 e3
   exact⟨b',off',e1,h4,h5,h7⟩
def ZhY (Xl:List Gr):Prop:=Xl.length≤1048576∧∀ i (h:i < Xl.length),Zgc Xl[i]
def Zs7 (Xl:List Gr) (left r:Int):Prop:= -1≤r∧r≤left∧(0≤r→ZhY Xl)
def Gr.ru (x:Gr):Ru:=⟨x.vb,x.kd,x.tm,x.pf⟩
theorem Zqm (lo:Nat) (x:Gr) (vv0:Value) (left:Int) (w:World) (h0:0≤left) (h1:left≤1048576) (hv0:Zap lo w vv0 x.vb) (hz:ZfC x) :
 Calls prog 74 #[.agg #[.int .i64 x.nu,.string x.tw,.string x.gb,vv0,.string x.kd,.string x.tm,.string x.pf],.int .i64 left] w
  fun e w'=>∃ r:Int,e=.returned (.int .i64 r)∧Zw_ w w'∧-1≤r∧r≤left∧(0≤r→Zgc x):=by
 have HV:=Zab hv0;obtain⟨a,cap,rfl⟩:=hv0.form;obtain⟨s0,s1,s2,s3,s4⟩:=hz;have HZ:Hid (Zdk x.ru):=⟨s2,s3,s4⟩;unfold maxLen at s0 s1;clear hv0 s2 s3 s4;have HW:∀ o,Hid (Zw_ w (w.alloc o)):=fun o=>Zb_.alloc Zl_ _
 by_cases c0:(x.tw.size:Int)≤left
 · by_cases c1:(x.tw.size:Int)+x.gb.size≤left
   · go_enter func74,ntmps74
     go_wp2_with fail;refine (ZhR lo x.ru _ _ _ (by omega) (by omega) (HV.out.below (HW _).out) HZ.out).mono ?_;rintro e w1 ⟨r,rfl,hb,q0,q1,q2⟩;have HB:Hid (Zw_ w w1):=(HW _).out.trans (hb.mono (HW _).out.size);have Q2:=Zab q2;clear hb q2
     by_cases hr:r < 0
     · go_wp2
       go_ret;exact⟨-1,rfl,HB.out,by omega,by omega,fun h=>by omega⟩
     · go_wp2
       go_ret;exact⟨_,rfl,HB.out,by omega,by omega,fun h=>by have:(x.ru.vb.length:Int)≤_:=Q2.out h;show x.vb.length≤1048576;unfold Gr.ru at this;simp only [] at this;omega⟩
   · go_enter func74,ntmps74
     go_wp2;go_ret;exact⟨-1,rfl,(HW _).out,by omega,by omega,fun h=>by omega⟩
 · go_enter func74,ntmps74
   go_wp2;go_ret;exact⟨-1,rfl,(HW _).out,by omega,by omega,fun h=>by omega⟩
theorem Zqt (lo:Nat) (x:Gr) (vv0:Value) (w:World) (hv0:Zap lo w vv0 x.vb) (hn:Zgc x) :
 Calls prog 81 #[.agg #[.int .i64 x.nu,.string x.tw,.string x.gb,vv0,.string x.kd,.string x.tm,.string x.pf]] w
  fun e w'=>∃ z0,e=.returned (.agg #[.int .i64 x.nu,.string x.tw,.string x.gb,z0,.string x.kd,.string x.tm,.string x.pf])∧Zw_ w w'∧Zap w.heap.size w' z0 x.vb:=by
 have HV:=Zab hv0;obtain⟨a,cap,rfl⟩:=hv0.form;have hn':x.ru.vb.length≤1048576:=hn;clear hv0 hn;go_enter func81,ntmps81;go_wp2_with fail;refine (ZhT lo x.ru _ _ (HV.out.below ?_) hn').mono ?_
 · exact ((Zb_.alloc Zl_ _).alloc (by simp) _).alloc (by simp;omega) _
 rintro e w1 ⟨v',rfl,hb,hs⟩;obtain⟨a',cap',rfl⟩:=hs.form;have HS:Hid (Zap (w.heap.size+3) w1 (.slice a' x.ru.vb.length cap') x.vb):=hs.mono (by simp);clear hs;have hz:w.heap.size+2 < w1.heap.size:=by have:=hb.size;simp at this;omega
 have hc:∀ b o,b < w.heap.size+3→w1.cell? ⟨b,o,none⟩=_:=fun b o h=>hb.cell (p:=⟨b,o,none⟩) (by simpa using h)
 have hf:∀ b o,b < w.heap.size+3→w1.frozen? ⟨b,o,none⟩=_:=fun b o h=>hb.frozen (p:=⟨b,o,none⟩) (by simpa using h)
 have HB:Hid (Zw_ w w1):=(((Zb_.alloc Zl_ _).alloc (by simp) _).alloc (by simp;omega) _).trans (hb.mono (by simp;omega));clear hb;go_wp2;refine bodyPost_ret (v:=.agg #[.int .i64 x.nu,.string x.tw,.string x.gb,(.slice a' x.ru.vb.length cap'),.string x.kd,.string x.tm,.string x.pf]) (by simp [results,results81,go_sem,hc];exact⟨rfl,rfl,rfl⟩) rfl ⟨_,rfl,?_,?_⟩
 · repeat (refine Below.setCell ?_ (by simp only [];omega) _)
   exact HB.out
 · refine Zap.mono (lo:=w.heap.size+3) ?_ (by omega)
   repeat (refine Zap.setCell ?_ (by simp only [];omega) _)
   exact HS.out
theorem Znk (lo lo':Nat) (x:Gr) (vv0 vv0':Value) (w:World) (hv0:Zap lo w vv0 x.vb) (hw0:Zap lo' w vv0' x.vb) :
 Calls prog 93 #[.agg #[.int .i64 x.nu,.string x.tw,.string x.gb,vv0,.string x.kd,.string x.tm,.string x.pf],.agg #[.int .i64 x.nu,.string x.tw,.string x.gb,vv0',.string x.kd,.string x.tm,.string x.pf]] w fun e w'=>e=.returned (.bool true)∧Zw_ w w':=by
 have HV:=Zab hv0;have HV':=Zab hw0;obtain⟨a,cap,rfl⟩:=hv0.form;obtain⟨a',cap',rfl⟩:=hw0.form;clear hv0 hw0;have HW:∀ o o',Hid (Zw_ w ((w.alloc o).alloc o')):=fun o o'=>(Zb_.alloc Zl_ _).alloc (by simp) _
 go_enter func93,ntmps93;go_wp2_with fail;refine (Zgt lo lo' x.ru _ _ _ (HV.out.below (HW _ _).out) (HV'.out.below (HW _ _).out)).mono ?_;rintro e w1 ⟨rfl,hb1⟩;have HB1:Hid (Zw_ w w1):=(HW _ _).out.trans (hb1.mono (HW _ _).out.size);clear hb1;go_wp2;go_ret;exact⟨rfl,HB1.out⟩
theorem Zoo (lo:Nat) (v:Value) (Xl:List Gr) (left:Int) (w:World) (h0:0≤left) (h1:left≤1048576) (hv:Zb9 lo w v Xl) :
 Calls prog 35 #[v,.int .i64 left] w fun e w'=>∃ r:Int,e=.returned (.int .i64 r)∧Zw_ w w'∧Zs7 Xl left r:=by
 rcases hv with ⟨a,cap,rfl,rfl⟩ | ⟨b,off,cap,rfl,hne,hm,hbw,_,_,hc⟩
 · go_enter func35,ntmps35
   go_wp2
   go_loop [1,5] (fun l i=>∃ r:Int,l=.int .i64 r∧0≤r∧r≤left∧i=.int .i64 0) (fun _ _=>0)
   case atStart=>exact⟨_,rfl,by omega,by omega,rfl⟩
   case round=>
    obtain⟨r,rfl,hr0,hr1,rfl⟩:=hrel;go_wp2;go_ret;exact⟨r,rfl,Below.refl _ _,by omega,by omega,fun _=>⟨by simp,fun i h=>by simp at h⟩⟩
 · unfold maxLen at hm
   by_cases hle:(Xl.length:Int)≤left
   · go_enter func35,ntmps35
     go_wp2
     go_loopw [1,5] (fun l i wr=>∃ (r:Int) (k:Nat),l=.int .i64 r∧0≤r∧r≤left∧i=.int .i64 k∧k≤Xl.length∧Zw_ w wr∧∀ j (hj:j < Xl.length),j < k→Zgc Xl[j]) (fun _ i _=>Xl.length - (intOf i).toNat)
     case atStart=>exact⟨_,0,rfl,by omega,by omega,rfl,by omega,Below.refl _ _,fun j _ h=>by omega⟩
     case round=>
      obtain⟨r,k,rfl,hr0,hr1,rfl,hk,hb,hall⟩:=hrel;have HA:=Zab hall;clear hall
      by_cases hlt:k < Xl.length
      · obtain⟨hs,vv0,hc,hv0⟩:=hc k hlt
        have HV0:=Zab (hv0.below hb);obtain⟨a0,k0,rfl⟩:=hv0.form;obtain⟨c0,c1,c2,c3,c4,c5,c6⟩:=hc.below hb hbw;clear hc hv0;go_wp2_with fail;refine (Zqm lo _ _ _ _ hr0 (by omega) HV0.out hs).mono ?_;rintro e w1 ⟨r1,rfl,hb1,q0,q1,q2⟩;have HQ2:=Zab q2;have hB:Hid (Zw_ w w1):=hb.trans (hb1.mono hb.size);clear hb1 c0 c1 c2 c3 c4 c5 c6 hb q2 HV0
        by_cases hneg:r1 < 0
        · go_wp2
          go_ret;exact⟨-1,rfl,hB.out,by omega,by omega,fun h=>by omega⟩
        · have HL:Hid (Zgc Xl[k]):=HQ2.out (by omega)
          clear HQ2;go_wp2;go_roundw
          case rel=>exact⟨_,k+1,rfl,by omega,by omega,by go_num,by omega,hB.out,fun j hj h=>by
                     by_cases e:j=k
                     · subst e;exact HL.out
                     · exact HA.out j hj (by omega)⟩
          case measure=>simp [intOf];omega
      · go_wp2
        go_ret;exact⟨r,rfl,hb,by omega,by omega,fun _=>⟨by omega,fun j hj=>HA.out j hj (by omega)⟩⟩
   · go_enter func35,ntmps35
     go_wp2;go_ret;exact⟨-1,rfl,Below.refl _ _,by omega,by omega,fun h=>by omega⟩
theorem ZlN (lo lo':Nat) (v v':Value) (Xl:List Gr) (w:World) (hv:Zb9 lo w v Xl) (hv':Zb9 lo' w v' Xl) :
 Calls prog 46 #[v,v'] w fun e w'=>e=.returned (.bool true)∧Zw_ w w':=by
 by_cases hL:Xl=[]
 · subst hL
   obtain⟨a,cap,rfl⟩:=hv.form;obtain⟨a',cap',rfl⟩:=hv'.form;clear hv hv';go_enter func46,ntmps46;go_wp2
   go_loop [5] (fun i=>i=.int .i64 0) (fun _=>0)
   case atStart=>rfl
   case round=>
    subst hrel;go_wp2;go_ret;exact⟨rfl,Below.refl _ _⟩
 · obtain⟨b,off,cap,rfl,hm,hbw,_,hc⟩:=hv.full hL
   obtain⟨b',off',cap',rfl,_,hbw',_,hc'⟩:=hv'.full hL;clear hv hv';unfold maxLen at hm;go_enter func46,ntmps46;go_wp2
   go_loopw [5] (fun i wr=>∃ k:Nat,i=.int .i64 k∧k≤Xl.length∧Zw_ w wr) (fun i _=>Xl.length - (intOf i).toNat)
   case atStart=>exact⟨0,rfl,by omega,Below.refl _ _⟩
   case round=>
    obtain⟨k,rfl,hk,hb⟩:=hrel
    by_cases hlt:k < Xl.length
    · obtain⟨hs,vv0,hc,hv0⟩:=hc k hlt
      obtain⟨ht,vv0',hd,hw0⟩:=hc' k hlt;have HV0:=Zab (hv0.below hb);have HW0:=Zab (hw0.below hb);obtain⟨a0,k0,rfl⟩:=hv0.form;obtain⟨e0,g0,rfl⟩:=hw0.form;obtain⟨c0,c1,c2,c3,c4,c5,c6⟩:=hc.below hb hbw;obtain⟨d0,d1,d2,d3,d4,d5,d6⟩:=hd.below hb hbw';clear hc hd hv0 hw0 hs ht;have HB:=Zab hb;clear hb;go_wp2
      go_region_with (go_at_call 93;refine (Znk lo lo' _ _ _ _ (HV0.out.below (Zb_.drew)) (HW0.out.below (Zb_.drew))).mono ?_;rintro e w1 ⟨rfl,hb1⟩;have hB:Hid (Zw_ w w1):=(HB.out.drew).trans (hb1.mono HB.out.size);clear hb1)
      all_goals go_wp2
      all_goals go_roundw
      all_goals first
       | (case rel=>exact⟨k+1,by go_num,by omega,hB.out⟩)
       | (case measure=>simp [intOf];omega)
    · go_wp2
      go_ret;exact⟨rfl,hb⟩
theorem Tryz.info90:(prog.info? 90).map (fun i=>(i.zero,i.size,i.bytes))=some (some (.agg #[.int .i64 0,.string ⟨#[]⟩,.string ⟨#[]⟩,.slice none 0 0,.string ⟨#[]⟩,.string ⟨#[]⟩,.string ⟨#[]⟩]),7,112):=by kernel_rfl
def ZbT (wr:World) (B:Nat) (Xl:List Gr) (k:Nat):Prop:=
 ∃ f,wr.rowIs B 90 (Xl.length*7) f∧∀ i (h:i < Xl.length),i < k→ZfC Xl[i]∧∃ vv0,f (i*7)=.int .i64 Xl[i].nu∧f (i*7+1)=.string Xl[i].tw∧f (i*7+2)=.string Xl[i].gb∧f (i*7+3)=vv0∧f (i*7+4)=.string Xl[i].kd∧f (i*7+5)=.string Xl[i].tm∧f (i*7+6)=.string Xl[i].pf∧Zap (B+1) wr vv0 Xl[i].vb
theorem ZbT.below {wr w1:World} {B:Nat} {Xl:List Gr} {k:Nat} (h:ZbT wr B Xl k) (hb:Below wr.heap.size wr w1):ZbT w1 B Xl k:=by
 obtain⟨f,hr,hall⟩:=h;refine⟨f,hr.of_block (hb.block B hr.lt),fun i hi hik=>?_⟩;obtain⟨hz,vv0,h0,h1,h2,h3,h4,h5,h6,hv0⟩:=hall i hi hik;exact⟨hz,vv0,h0,h1,h2,h3,h4,h5,h6,hv0.below hb⟩
theorem ZbT.free {wr:World} {B:Nat} {Xl:List Gr} {k:Nat} (h:ZbT wr B Xl k) (i:Nat):wr.frozen? ⟨B,i,none⟩=false:=by
 obtain⟨f,hr,_⟩:=h;exact hr.frozen i
theorem ZbT.there {wr:World} {B:Nat} {Xl:List Gr} {k:Nat} (h:ZbT wr B Xl k) (i:Nat) (hi:i < Xl.length*7):∃ v,wr.cell? ⟨B,i,none⟩=some v:=by
 obtain⟨f,hr,_⟩:=h;exact⟨_,hr.cell hi⟩
theorem ZbT.step {w1:World} {B:Nat} {Xl:List Gr} {k:Nat} {vv0:Value} (h:ZbT w1 B Xl k) (hk:k < Xl.length) (hz:ZfC Xl[k]) (hv0:Zap (B+1) w1 vv0 Xl[k].vb) :
 ZbT (((((((w1.setCell ⟨B,k*7,none⟩ (.int .i64 Xl[k].nu)).setCell ⟨B,k*7+1,none⟩ (.string Xl[k].tw)).setCell ⟨B,k*7+2,none⟩ (.string Xl[k].gb)).setCell ⟨B,k*7+3,none⟩ vv0).setCell ⟨B,k*7+4,none⟩ (.string Xl[k].kd)).setCell ⟨B,k*7+5,none⟩ (.string Xl[k].tm)).setCell ⟨B,k*7+6,none⟩ (.string Xl[k].pf)) B Xl (k+1):=by
 obtain⟨f,hr,hall⟩:=h;refine⟨_,(((((((hr.set _ _).set _ _).set _ _).set _ _).set _ _).set _ _).set _ _),fun i hi hik=>?_⟩
 by_cases e:i=k
 · subst e
   refine⟨hz,vv0,by simp,by simp,by simp,by simp,by simp,by simp,by simp,?_⟩
   · repeat (refine Zap.setCell ?_ (by simp only [];omega) _)
     exact hv0
 · obtain⟨hz',vv0',h0,h1,h2,h3,h4,h5,h6,hv0'⟩:=hall i hi (by omega)
   refine⟨hz',vv0',?_,?_,?_,?_,?_,?_,?_,?_⟩
   · rw [if_neg (by omega),if_neg (by omega),if_neg (by omega),if_neg (by omega),if_neg (by omega),if_neg (by omega),if_neg (by omega)];exact h0
   · rw [if_neg (by omega),if_neg (by omega),if_neg (by omega),if_neg (by omega),if_neg (by omega),if_neg (by omega),if_neg (by omega)];exact h1
   · rw [if_neg (by omega),if_neg (by omega),if_neg (by omega),if_neg (by omega),if_neg (by omega),if_neg (by omega),if_neg (by omega)];exact h2
   · rw [if_neg (by omega),if_neg (by omega),if_neg (by omega),if_neg (by omega),if_neg (by omega),if_neg (by omega),if_neg (by omega)];exact h3
   · rw [if_neg (by omega),if_neg (by omega),if_neg (by omega),if_neg (by omega),if_neg (by omega),if_neg (by omega),if_neg (by omega)];exact h4
   · rw [if_neg (by omega),if_neg (by omega),if_neg (by omega),if_neg (by omega),if_neg (by omega),if_neg (by omega),if_neg (by omega)];exact h5
   · rw [if_neg (by omega),if_neg (by omega),if_neg (by omega),if_neg (by omega),if_neg (by omega),if_neg (by omega),if_neg (by omega)];exact h6
   · repeat (refine Zap.setCell ?_ (by simp only [];omega) _)
     exact hv0'
theorem ZbT.done {wr:World} {B:Nat} {Xl:List Gr} {k:Nat} (h:ZbT wr B Xl k) (hk:Xl.length≤k) (hne:Xl≠[]) (hm:Xl.length≤maxLen):Zb9 B wr (.slice (some ⟨B,0,none⟩) Xl.length Xl.length) Xl:=by
 obtain⟨f,hr,hall⟩:=h;refine Or.inr ⟨B,0,Xl.length,rfl,hne,hm,hr.lt,Nat.le_refl _,Nat.le_refl _,fun i hi=>?_⟩;obtain⟨hz,vv0,h0,h1,h2,h3,h4,h5,h6,hv0⟩:=hall i hi (by omega);rw [Nat.zero_add];exact⟨hz,vv0,⟨by rw [hr.cell (by omega),h0],by rw [hr.cell (by omega),h1],by rw [hr.cell (by omega),h2],by rw [hr.cell (by omega),h3],by rw [hr.cell (by omega),h4],by rw [hr.cell (by omega),h5],by rw [hr.cell (by omega),h6]⟩,hv0.mono (by omega)⟩
theorem ZbT.new (w:World) (Xl:List Gr) (z:Array Value):ZbT (w.alloc (.cells (madeCells z (Xl.length*7)) 90)) w.heap.size Xl 0:=by
 refine⟨fun i=>(madeCells z (Xl.length*7)).getD i default,?_,fun i _ h=>by omega⟩;have:=World.rowIs_alloc w (madeCells z (Xl.length*7)) 90 (fun i=>(madeCells z (Xl.length*7)).getD i default) (fun i hi=>by simp [Array.getD,hi])
 rwa [size_madeCells] at this
theorem ZoH (lo:Nat) (v:Value) (Xl:List Gr) (w:World) (hv:Zb9 lo w v Xl) (hn:ZhY Xl) :
 Calls prog 40 #[v] w fun e w'=>∃ v',e=.returned v'∧Zw_ w w'∧Zb9 w.heap.size w' v' Xl:=by
 obtain⟨i0,hi,hz0,hz1,hz2⟩:=info_parts Tryz.info90;have HSM:=Zab hn.2;have hn1:=hn.1;clear hn
 by_cases hL:Xl=[]
 · subst hL
   obtain⟨a,cap,rfl⟩:=hv.form;clear hv
   have hmk:∀ u:World,(Instr.makeSlice 46 (.int .i64 0) (.int .i64 0)).run prog u=.ok (.slice (some ⟨u.heap.size,0,none⟩) 0 0) (u.alloc (.cells (madeCells (Value.cells (.agg #[.int .i64 0,.string ⟨#[]⟩,.string ⟨#[]⟩,.slice none 0 0,.string ⟨#[]⟩,.string ⟨#[]⟩,.string ⟨#[]⟩])) 0) 90)):=fun u=>by
    have h:=run_make (P:=prog) u 46 90 i0 _ underlying46 hi hz0 .i64 .i64 0 0 (by omega) (by omega) (by omega) (by omega)
    simpa [hz1] using h
   go_enter func40,ntmps40;go_wp2
   go_loop [4] (fun i=>i=.int .i64 0) (fun _=>0)
   case atStart=>rfl
   case round=>
    subst hrel;go_wp2;go_ret;exact⟨_,rfl,Zb_.alloc Zl_ _,Or.inl ⟨_,_,rfl,rfl⟩⟩
 · obtain⟨b,off,cap,rfl,hm,hbw,_,hc⟩:=hv.full hL
   clear hv;have HM:Hid (Xl.length≤maxLen):=hm;unfold maxLen at hm
   have hmk:∀ u:World,(Instr.makeSlice 46 (.int .i64 (Xl.length:Int)) (.int .i64 (Xl.length:Int))).run prog u=.ok (.slice (some ⟨u.heap.size,0,none⟩) Xl.length Xl.length) (u.alloc (.cells (madeCells (Value.cells (.agg #[.int .i64 0,.string ⟨#[]⟩,.string ⟨#[]⟩,.slice none 0 0,.string ⟨#[]⟩,.string ⟨#[]⟩,.string ⟨#[]⟩])) (Xl.length*7)) 90)):=fun u=>by
    have h:=run_make (P:=prog) u 46 90 i0 _ underlying46 hi hz0 .i64 .i64 Xl.length Xl.length (by omega) (by omega) (by rw [hz2];omega) (by omega);rw [hz1] at h
    simpa using h
   clear hi hz0 hz1 hz2;go_enter func40,ntmps40;go_wp2;clear hmk
   go_loopw [4] (fun i wr=>∃ k:Nat,i=.int .i64 k∧k≤Xl.length∧Zw_ w wr∧ZbT wr w.heap.size Xl k) (fun i _=>Xl.length - (intOf i).toNat)
   case atStart=>exact⟨0,rfl,by omega,Zb_.alloc Zl_ _,ZbT.new w Xl _⟩
   case round=>
    obtain⟨k,rfl,hk,hb,hf⟩:=hrel
    by_cases hlt:k < Xl.length
    · obtain⟨hs,vv0,hc,hv0⟩:=hc k hlt
      have HV0:=Zab (hv0.below hb);obtain⟨a0,k0,rfl⟩:=hv0.form;obtain⟨c0,c1,c2,c3,c4,c5,c6⟩:=hc.below hb hbw
      have hBl:w.heap.size < wr.heap.size:=by
       obtain⟨_,hr,_⟩:=hf;exact hr.lt
      clear hc hv0;go_wp2_with fail;refine (Zqt lo _ _ _ HV0.out (HSM.out k hlt)).mono ?_;rintro e w1 ⟨z0,rfl,hb1,hz0⟩;obtain⟨m0,n0,rfl⟩:=hz0.form;have hf1:=hf.below hb1;have HST:=Zab (hf1.step hlt hs (hz0.mono (by omega)));have hB:Hid (Zw_ w w1):=hb.trans (hb1.mono hb.size);have hfr:=hf1.free;obtain⟨o0,ho0⟩:=hf1.there (k*7) (by omega);obtain⟨o1,ho1⟩:=hf1.there (k*7+1) (by omega);obtain⟨o2,ho2⟩:=hf1.there (k*7+2) (by omega);obtain⟨o3,ho3⟩:=hf1.there (k*7+3) (by omega);obtain⟨o4,ho4⟩:=hf1.there (k*7+4) (by omega);obtain⟨o5,ho5⟩:=hf1.there (k*7+5) (by omega);obtain⟨o6,ho6⟩:=hf1.there (k*7+6) (by omega);clear hf hf1 hb1 hb c0 c1 c2 c3 c4 c5 c6 hz0 HV0;go_wp2;go_roundw
      case rel=>
       exact⟨k+1,by go_num,by omega,(((((((hB.out.setCell Zl_ _).setCell Zl_ _).setCell Zl_ _).setCell Zl_ _).setCell Zl_ _).setCell Zl_ _).setCell Zl_ _),HST.out⟩
      case measure=>simp [intOf];omega
    · go_wp2
      go_ret;exact⟨_,rfl,hb,hf.done (by omega) hL HM.out⟩
structure Le where
 tm:Zy_
 re:Zy_
 mo:Int
 fr:Int
structure ZfD (x:Le):Prop where
 s0:x.tm.size≤maxLen
 s1:x.re.size≤maxLen
def ZhZ (x:Le):Prop:=x=x
structure Zdo (w:World) (b o:Nat) (x:Le):Prop where
 c0:w.cell? ⟨b,o,none⟩=some (.string x.tm)
 c1:w.cell? ⟨b,o+1,none⟩=some (.string x.re)
 c2:w.cell? ⟨b,o+2,none⟩=some (.int .i64 x.mo)
 c3:w.cell? ⟨b,o+3,none⟩=some (.int .i64 x.fr)
theorem Zdo.below {w w':World} {b o:Nat} {x:Le} (h:Zdo w b o x ) {m:Nat} (hb:Below m w w') (hlt:b < m):Zdo w' b o x:=by
 have e:∀ o,w'.cell? ⟨b,o,none⟩=w.cell? ⟨b,o,none⟩:=fun o=>hb.cell (p:=⟨b,o,none⟩) hlt
 exact⟨by rw [e];exact h.c0,by rw [e];exact h.c1,by rw [e];exact h.c2,by rw [e];exact h.c3⟩
theorem Zdo.set {w:World} {b o:Nat} {x:Le} (h:Zdo w b o x ) {p:Addr} (hp:b≠p.block) (u:Value):Zdo (w.setCell p u) b o x:=by
 have e:∀ o,(w.setCell p u).cell? ⟨b,o,none⟩=w.cell? ⟨b,o,none⟩:=fun o=>Zar _ _ _ _ hp
 exact⟨by rw [e];exact h.c0,by rw [e];exact h.c1,by rw [e];exact h.c2,by rw [e];exact h.c3⟩
def ZbU (lo:Nat) (w:World) (v:Value) (Xl:List Le):Prop:=
 (∃ (a:Option Addr) (cap:Nat),v=.slice a 0 cap∧Xl=[])∨
 ∃ (b off cap:Nat),v=.slice (some ⟨b,off,none⟩) Xl.length cap∧Xl≠[]∧Xl.length≤maxLen∧b < w.heap.size∧lo≤b∧Xl.length≤cap∧
  ∀ i (h:i < Xl.length),ZfD Xl[i]∧Zdo w b (off+i*4) Xl[i]
theorem ZbU.below {lo:Nat} {w w':World} {v:Value} {Xl:List Le} (h:ZbU lo w v Xl) (hb:Zw_ w w'):ZbU lo w' v Xl:=by
 rcases h with h | ⟨b,off,cap,h1,h2,h3,h4,h5,h6,h7⟩
 · exact Or.inl h
 · refine Or.inr ⟨b,off,cap,h1,h2,h3,Zk_ h4 hb.size,h5,h6,fun i hi=>?_⟩
   obtain⟨hs,hc⟩:=h7 i hi;exact⟨hs,hc.below hb h4⟩
theorem ZbU.mono {lo lo':Nat} {w:World} {v:Value} {Xl:List Le} (h:ZbU lo w v Xl) (hl:lo'≤lo):ZbU lo' w v Xl:=by
 rcases h with h | ⟨b,off,cap,h1,h2,h3,h4,h5,h6,h7⟩
 · exact Or.inl h
 · refine Or.inr ⟨b,off,cap,h1,h2,h3,h4,Nat.le_trans hl h5,h6,fun i hi=>?_⟩
   obtain⟨hs,hc⟩:=h7 i hi;exact⟨hs,hc⟩
theorem ZbU.set {lo:Nat} {w:World} {v:Value} {Xl:List Le} (h:ZbU lo w v Xl) {p:Addr} (hp:p.block < lo) (u:Value):ZbU lo (w.setCell p u) v Xl:=by
 rcases h with h | ⟨b,off,cap,h1,h2,h3,h4,h5,h6,h7⟩
 · exact Or.inl h
 · refine Or.inr ⟨b,off,cap,h1,h2,h3,by simpa [World.setCell] using h4,h5,h6,fun i hi=>?_⟩
   obtain⟨hs,hc⟩:=h7 i hi;exact⟨hs,hc.set (by omega) u⟩
theorem ZbU.form {lo:Nat} {w:World} {v:Value} {Xl:List Le} (h:ZbU lo w v Xl):∃ a cap,v=.slice a Xl.length cap:=by
 rcases h with ⟨a,cap,h,rfl⟩ | ⟨b,off,cap,h,_⟩
 · exact⟨a,cap,h⟩
 · exact⟨_,cap,h⟩
theorem ZbU.max {lo:Nat} {w:World} {v:Value} {Xl:List Le} (h:ZbU lo w v Xl):Xl.length≤maxLen:=by
 rcases h with ⟨a,cap,h,rfl⟩ | ⟨b,off,cap,h,_,h3,_⟩
 · exact Nat.zero_le _
 · exact h3
theorem ZbU.full {lo:Nat} {w:World} {v:Value} {Xl:List Le} (h:ZbU lo w v Xl) (hne:Xl≠[]):∃ (b off cap:Nat),v=.slice (some ⟨b,off,none⟩) Xl.length cap∧Xl.length≤maxLen∧b < w.heap.size∧Xl.length≤cap∧
 ∀ i (h:i < Xl.length),ZfD Xl[i]∧Zdo w b (off+i*4) Xl[i]:=by
 rcases h with ⟨_,_,_,h⟩ | ⟨b,off,cap,h1,_,h3,h4,_,h6,h7⟩
 · exact absurd h hne
 · exact⟨b,off,cap,h1,h3,h4,h6,h7⟩
theorem ZbU.full' {lo:Nat} {w:World} {a:Option Addr} {n cap:Nat} {Xl:List Le} (h:ZbU lo w (.slice a n cap) Xl) (hL:0 < Xl.length) :
 ∃ b off,a=some ⟨b,off,none⟩∧b < w.heap.size∧lo≤b∧∀ i (h:i < Xl.length),ZfD Xl[i]∧Zdo w b (off+i*4) Xl[i]:=by
 rcases h with ⟨a',cap',h,rfl⟩ | ⟨b',off',cap',h1,h2,h3,h4,h5,h6,h7⟩
 · simp at hL
 · injection h1 with e1 e2 e3
   exact⟨b',off',e1,h4,h5,h7⟩
def Zh0 (Xl:List Le):Prop:=Xl.length≤1048576∧∀ i (h:i < Xl.length),ZhZ Xl[i]
def Zs8 (Xl:List Le) (left r:Int):Prop:= -1≤r∧r≤left∧(0≤r→Zh0 Xl)
theorem Zqn (x:Le) (left:Int) (w:World) (h0:0≤left) (h1:left≤1048576) (hz:ZfD x) :
 Calls prog 75 #[.agg #[.string x.tm,.string x.re,.int .i64 x.mo,.int .i64 x.fr],.int .i64 left] w
  fun e w'=>∃ r:Int,e=.returned (.int .i64 r)∧Zw_ w w'∧-1≤r∧r≤left∧(0≤r→ZhZ x):=by
 obtain⟨s0,s1⟩:=hz;unfold maxLen at s0 s1;go_enter func75,ntmps75;go_wp2
 all_goals go_ret
 all_goals exact⟨_,rfl,Zb_.alloc Zl_ _,by omega,by omega,fun _=>rfl⟩
theorem Zqu (x:Le) (w:World) :
 Calls prog 82 #[.agg #[.string x.tm,.string x.re,.int .i64 x.mo,.int .i64 x.fr]] w fun e w'=>e=.returned (.agg #[.string x.tm,.string x.re,.int .i64 x.mo,.int .i64 x.fr])∧Zw_ w w':=by
 go_enter func82,ntmps82;go_wp2;refine bodyPost_ret (v:=.agg #[.string x.tm,.string x.re,.int .i64 x.mo,.int .i64 x.fr]) (by simp [results,results82,go_sem]) rfl ⟨rfl,?_⟩
 repeat (refine Below.setCell ?_ (by simp) _)
 exact ((Zb_.alloc Zl_ _).alloc (by simp) _).alloc (by simp;omega) _
theorem Znl (x:Le) (w:World) :
 Calls prog 94 #[.agg #[.string x.tm,.string x.re,.int .i64 x.mo,.int .i64 x.fr],.agg #[.string x.tm,.string x.re,.int .i64 x.mo,.int .i64 x.fr]] w fun e w'=>e=.returned (.bool true)∧Zw_ w w':=by
 go_enter func94,ntmps94;go_wp2;go_ret;exact⟨rfl,(Zb_.alloc Zl_ _).alloc (by simp) _⟩
theorem Zop (lo:Nat) (v:Value) (Xl:List Le) (left:Int) (w:World) (h0:0≤left) (h1:left≤1048576) (hv:ZbU lo w v Xl) :
 Calls prog 36 #[v,.int .i64 left] w fun e w'=>∃ r:Int,e=.returned (.int .i64 r)∧Zw_ w w'∧Zs8 Xl left r:=by
 rcases hv with ⟨a,cap,rfl,rfl⟩ | ⟨b,off,cap,rfl,hne,hm,hbw,_,_,hc⟩
 · go_enter func36,ntmps36
   go_wp2
   go_loop [1,5] (fun l i=>∃ r:Int,l=.int .i64 r∧0≤r∧r≤left∧i=.int .i64 0) (fun _ _=>0)
   case atStart=>exact⟨_,rfl,by omega,by omega,rfl⟩
   case round=>
    obtain⟨r,rfl,hr0,hr1,rfl⟩:=hrel;go_wp2;go_ret;exact⟨r,rfl,Below.refl _ _,by omega,by omega,fun _=>⟨by simp,fun i h=>by simp at h⟩⟩
 · unfold maxLen at hm
   by_cases hle:(Xl.length:Int)≤left
   · go_enter func36,ntmps36
     go_wp2
     go_loopw [1,5] (fun l i wr=>∃ (r:Int) (k:Nat),l=.int .i64 r∧0≤r∧r≤left∧i=.int .i64 k∧k≤Xl.length∧Zw_ w wr∧∀ j (hj:j < Xl.length),j < k→ZhZ Xl[j]) (fun _ i _=>Xl.length - (intOf i).toNat)
     case atStart=>exact⟨_,0,rfl,by omega,by omega,rfl,by omega,Below.refl _ _,fun j _ h=>by omega⟩
     case round=>
      obtain⟨r,k,rfl,hr0,hr1,rfl,hk,hb,hall⟩:=hrel;have HA:=Zab hall;clear hall
      by_cases hlt:k < Xl.length
      · obtain⟨hs,hc⟩:=hc k hlt
        obtain⟨c0,c1,c2,c3⟩:=hc.below hb hbw;clear hc;go_wp2_with fail;refine (Zqn _ _ _ hr0 (by omega) hs).mono ?_;rintro e w1 ⟨r1,rfl,hb1,q0,q1,q2⟩;have HQ2:=Zab q2;have hB:Hid (Zw_ w w1):=hb.trans (hb1.mono hb.size);clear hb1 c0 c1 c2 c3 hb q2
        by_cases hneg:r1 < 0
        · go_wp2
          go_ret;exact⟨-1,rfl,hB.out,by omega,by omega,fun h=>by omega⟩
        · have HL:Hid (ZhZ Xl[k]):=HQ2.out (by omega)
          clear HQ2;go_wp2;go_roundw
          case rel=>exact⟨_,k+1,rfl,by omega,by omega,by go_num,by omega,hB.out,fun j hj h=>by
                     by_cases e:j=k
                     · subst e;exact HL.out
                     · exact HA.out j hj (by omega)⟩
          case measure=>simp [intOf];omega
      · go_wp2
        go_ret;exact⟨r,rfl,hb,by omega,by omega,fun _=>⟨by omega,fun j hj=>HA.out j hj (by omega)⟩⟩
   · go_enter func36,ntmps36
     go_wp2;go_ret;exact⟨-1,rfl,Below.refl _ _,by omega,by omega,fun h=>by omega⟩
theorem ZlO (lo lo':Nat) (v v':Value) (Xl:List Le) (w:World) (hv:ZbU lo w v Xl) (hv':ZbU lo' w v' Xl) :
 Calls prog 47 #[v,v'] w fun e w'=>e=.returned (.bool true)∧Zw_ w w':=by
 by_cases hL:Xl=[]
 · subst hL
   obtain⟨a,cap,rfl⟩:=hv.form;obtain⟨a',cap',rfl⟩:=hv'.form;clear hv hv';go_enter func47,ntmps47;go_wp2
   go_loop [5] (fun i=>i=.int .i64 0) (fun _=>0)
   case atStart=>rfl
   case round=>
    subst hrel;go_wp2;go_ret;exact⟨rfl,Below.refl _ _⟩
 · obtain⟨b,off,cap,rfl,hm,hbw,_,hc⟩:=hv.full hL
   obtain⟨b',off',cap',rfl,_,hbw',_,hc'⟩:=hv'.full hL;clear hv hv';unfold maxLen at hm;go_enter func47,ntmps47;go_wp2
   go_loopw [5] (fun i wr=>∃ k:Nat,i=.int .i64 k∧k≤Xl.length∧Zw_ w wr) (fun i _=>Xl.length - (intOf i).toNat)
   case atStart=>exact⟨0,rfl,by omega,Below.refl _ _⟩
   case round=>
    obtain⟨k,rfl,hk,hb⟩:=hrel
    by_cases hlt:k < Xl.length
    · obtain⟨hs,hc⟩:=hc k hlt
      obtain⟨ht,hd⟩:=hc' k hlt;obtain⟨c0,c1,c2,c3⟩:=hc.below hb hbw;obtain⟨d0,d1,d2,d3⟩:=hd.below hb hbw';clear hc hd hs ht;have HB:=Zab hb;clear hb;go_wp2
      go_region_with (go_at_call 94;refine (Znl _ _ ).mono ?_;rintro e w1 ⟨rfl,hb1⟩;have hB:Hid (Zw_ w w1):=(HB.out.drew).trans (hb1.mono HB.out.size);clear hb1)
      all_goals go_wp2
      all_goals go_roundw
      all_goals first
       | (case rel=>exact⟨k+1,by go_num,by omega,hB.out⟩)
       | (case measure=>simp [intOf];omega)
    · go_wp2
      go_ret;exact⟨rfl,hb⟩
theorem Tryz.info163:(prog.info? 163).map (fun i=>(i.zero,i.size,i.bytes))=some (some (.agg #[.string ⟨#[]⟩,.string ⟨#[]⟩,.int .i64 0,.int .i64 0]),4,48):=by kernel_rfl
def ZbV (wr:World) (B:Nat) (Xl:List Le) (k:Nat):Prop:=
 ∃ f,wr.rowIs B 163 (Xl.length*4) f∧∀ i (h:i < Xl.length),i < k→ZfD Xl[i]∧f (i*4)=.string Xl[i].tm∧f (i*4+1)=.string Xl[i].re∧f (i*4+2)=.int .i64 Xl[i].mo∧f (i*4+3)=.int .i64 Xl[i].fr
theorem ZbV.below {wr w1:World} {B:Nat} {Xl:List Le} {k:Nat} (h:ZbV wr B Xl k) (hb:Below wr.heap.size wr w1):ZbV w1 B Xl k:=by
 obtain⟨f,hr,hall⟩:=h;refine⟨f,hr.of_block (hb.block B hr.lt),fun i hi hik=>?_⟩;obtain⟨hz,h0,h1,h2,h3⟩:=hall i hi hik;exact⟨hz,h0,h1,h2,h3⟩
theorem ZbV.free {wr:World} {B:Nat} {Xl:List Le} {k:Nat} (h:ZbV wr B Xl k) (i:Nat):wr.frozen? ⟨B,i,none⟩=false:=by
 obtain⟨f,hr,_⟩:=h;exact hr.frozen i
theorem ZbV.there {wr:World} {B:Nat} {Xl:List Le} {k:Nat} (h:ZbV wr B Xl k) (i:Nat) (hi:i < Xl.length*4):∃ v,wr.cell? ⟨B,i,none⟩=some v:=by
 obtain⟨f,hr,_⟩:=h;exact⟨_,hr.cell hi⟩
theorem ZbV.step {w1:World} {B:Nat} {Xl:List Le} {k:Nat} (h:ZbV w1 B Xl k) (hk:k < Xl.length) (hz:ZfD Xl[k]) :
 ZbV ((((w1.setCell ⟨B,k*4,none⟩ (.string Xl[k].tm)).setCell ⟨B,k*4+1,none⟩ (.string Xl[k].re)).setCell ⟨B,k*4+2,none⟩ (.int .i64 Xl[k].mo)).setCell ⟨B,k*4+3,none⟩ (.int .i64 Xl[k].fr)) B Xl (k+1):=by
 obtain⟨f,hr,hall⟩:=h;refine⟨_,((((hr.set _ _).set _ _).set _ _).set _ _),fun i hi hik=>?_⟩
 by_cases e:i=k
 · subst e
   refine⟨hz,by simp,by simp,by simp,by simp⟩
 · obtain⟨hz',h0,h1,h2,h3⟩:=hall i hi (by omega)
   refine⟨hz',?_,?_,?_,?_⟩
   · rw [if_neg (by omega),if_neg (by omega),if_neg (by omega),if_neg (by omega)];exact h0
   · rw [if_neg (by omega),if_neg (by omega),if_neg (by omega),if_neg (by omega)];exact h1
   · rw [if_neg (by omega),if_neg (by omega),if_neg (by omega),if_neg (by omega)];exact h2
   · rw [if_neg (by omega),if_neg (by omega),if_neg (by omega),if_neg (by omega)];exact h3
theorem ZbV.done {wr:World} {B:Nat} {Xl:List Le} {k:Nat} (h:ZbV wr B Xl k) (hk:Xl.length≤k) (hne:Xl≠[]) (hm:Xl.length≤maxLen):ZbU B wr (.slice (some ⟨B,0,none⟩) Xl.length Xl.length) Xl:=by
 obtain⟨f,hr,hall⟩:=h;refine Or.inr ⟨B,0,Xl.length,rfl,hne,hm,hr.lt,Nat.le_refl _,Nat.le_refl _,fun i hi=>?_⟩;obtain⟨hz,h0,h1,h2,h3⟩:=hall i hi (by omega);rw [Nat.zero_add];exact⟨hz,⟨by rw [hr.cell (by omega),h0],by rw [hr.cell (by omega),h1],by rw [hr.cell (by omega),h2],by rw [hr.cell (by omega),h3]⟩⟩
theorem ZbV.new (w:World) (Xl:List Le) (z:Array Value):ZbV (w.alloc (.cells (madeCells z (Xl.length*4)) 163)) w.heap.size Xl 0:=by
 refine⟨fun i=>(madeCells z (Xl.length*4)).getD i default,?_,fun i _ h=>by omega⟩;have:=World.rowIs_alloc w (madeCells z (Xl.length*4)) 163 (fun i=>(madeCells z (Xl.length*4)).getD i default) (fun i hi=>by simp [Array.getD,hi])
 rwa [size_madeCells] at this
theorem ZoI (lo:Nat) (v:Value) (Xl:List Le) (w:World) (hv:ZbU lo w v Xl) (hn:Zh0 Xl) :
 Calls prog 41 #[v] w fun e w'=>∃ v',e=.returned v'∧Zw_ w w'∧ZbU w.heap.size w' v' Xl:=by
 obtain⟨i0,hi,hz0,hz1,hz2⟩:=info_parts Tryz.info163;have hn1:=hn.1;clear hn
 by_cases hL:Xl=[]
 · subst hL
   obtain⟨a,cap,rfl⟩:=hv.form;clear hv
   have hmk:∀ u:World,(Instr.makeSlice 47 (.int .i64 0) (.int .i64 0)).run prog u=.ok (.slice (some ⟨u.heap.size,0,none⟩) 0 0) (u.alloc (.cells (madeCells (Value.cells (.agg #[.string ⟨#[]⟩,.string ⟨#[]⟩,.int .i64 0,.int .i64 0])) 0) 163)):=fun u=>by
    have h:=run_make (P:=prog) u 47 163 i0 _ underlying47 hi hz0 .i64 .i64 0 0 (by omega) (by omega) (by omega) (by omega)
    simpa [hz1] using h
   go_enter func41,ntmps41;go_wp2
   go_loop [4] (fun i=>i=.int .i64 0) (fun _=>0)
   case atStart=>rfl
   case round=>
    subst hrel;go_wp2;go_ret;exact⟨_,rfl,Zb_.alloc Zl_ _,Or.inl ⟨_,_,rfl,rfl⟩⟩
 · obtain⟨b,off,cap,rfl,hm,hbw,_,hc⟩:=hv.full hL
   clear hv;have HM:Hid (Xl.length≤maxLen):=hm;unfold maxLen at hm
   have hmk:∀ u:World,(Instr.makeSlice 47 (.int .i64 (Xl.length:Int)) (.int .i64 (Xl.length:Int))).run prog u=.ok (.slice (some ⟨u.heap.size,0,none⟩) Xl.length Xl.length) (u.alloc (.cells (madeCells (Value.cells (.agg #[.string ⟨#[]⟩,.string ⟨#[]⟩,.int .i64 0,.int .i64 0])) (Xl.length*4)) 163)):=fun u=>by
    have h:=run_make (P:=prog) u 47 163 i0 _ underlying47 hi hz0 .i64 .i64 Xl.length Xl.length (by omega) (by omega) (by rw [hz2];omega) (by omega);rw [hz1] at h
    simpa using h
   clear hi hz0 hz1 hz2;go_enter func41,ntmps41;go_wp2;clear hmk
   go_loopw [4] (fun i wr=>∃ k:Nat,i=.int .i64 k∧k≤Xl.length∧Zw_ w wr∧ZbV wr w.heap.size Xl k) (fun i _=>Xl.length - (intOf i).toNat)
   case atStart=>exact⟨0,rfl,by omega,Zb_.alloc Zl_ _,ZbV.new w Xl _⟩
   case round=>
    obtain⟨k,rfl,hk,hb,hf⟩:=hrel
    by_cases hlt:k < Xl.length
    · obtain⟨hs,hc⟩:=hc k hlt
      obtain⟨c0,c1,c2,c3⟩:=hc.below hb hbw
      have hBl:w.heap.size < wr.heap.size:=by
       obtain⟨_,hr,_⟩:=hf;exact hr.lt
      clear hc;go_wp2_with fail;refine (Zqu _ _ ).mono ?_;rintro e w1 ⟨rfl,hb1⟩;have hf1:=hf.below hb1;have HST:=Zab (hf1.step hlt hs );have hB:Hid (Zw_ w w1):=hb.trans (hb1.mono hb.size);have hfr:=hf1.free;obtain⟨o0,ho0⟩:=hf1.there (k*4) (by omega);obtain⟨o1,ho1⟩:=hf1.there (k*4+1) (by omega);obtain⟨o2,ho2⟩:=hf1.there (k*4+2) (by omega);obtain⟨o3,ho3⟩:=hf1.there (k*4+3) (by omega);clear hf hf1 hb1 hb c0 c1 c2 c3;go_wp2;go_roundw
      case rel=>
       exact⟨k+1,by go_num,by omega,((((hB.out.setCell Zl_ _).setCell Zl_ _).setCell Zl_ _).setCell Zl_ _),HST.out⟩
      case measure=>simp [intOf];omega
    · go_wp2
      go_ret;exact⟨_,rfl,hb,hf.done (by omega) hL HM.out⟩
structure Pu where
 dr:Zy_
 tm:Zy_
 re:Zy_
 am:Int
 un:Int
structure ZfF (x:Pu):Prop where
 s0:x.dr.size≤maxLen
 s1:x.tm.size≤maxLen
 s2:x.re.size≤maxLen
def Zh1 (x:Pu):Prop:=x=x
structure Zdq (w:World) (b o:Nat) (x:Pu):Prop where
 c0:w.cell? ⟨b,o,none⟩=some (.string x.dr)
 c1:w.cell? ⟨b,o+1,none⟩=some (.string x.tm)
 c2:w.cell? ⟨b,o+2,none⟩=some (.string x.re)
 c3:w.cell? ⟨b,o+3,none⟩=some (.int .i64 x.am)
 c4:w.cell? ⟨b,o+4,none⟩=some (.int .i64 x.un)
theorem Zdq.below {w w':World} {b o:Nat} {x:Pu} (h:Zdq w b o x ) {m:Nat} (hb:Below m w w') (hlt:b < m):Zdq w' b o x:=by
 have e:∀ o,w'.cell? ⟨b,o,none⟩=w.cell? ⟨b,o,none⟩:=fun o=>hb.cell (p:=⟨b,o,none⟩) hlt
 exact⟨by rw [e];exact h.c0,by rw [e];exact h.c1,by rw [e];exact h.c2,by rw [e];exact h.c3,by rw [e];exact h.c4⟩
theorem Zdq.set {w:World} {b o:Nat} {x:Pu} (h:Zdq w b o x ) {p:Addr} (hp:b≠p.block) (u:Value):Zdq (w.setCell p u) b o x:=by
 have e:∀ o,(w.setCell p u).cell? ⟨b,o,none⟩=w.cell? ⟨b,o,none⟩:=fun o=>Zar _ _ _ _ hp
 exact⟨by rw [e];exact h.c0,by rw [e];exact h.c1,by rw [e];exact h.c2,by rw [e];exact h.c3,by rw [e];exact h.c4⟩
def Zcd (lo:Nat) (w:World) (v:Value) (Xl:List Pu):Prop:=
 (∃ (a:Option Addr) (cap:Nat),v=.slice a 0 cap∧Xl=[])∨
 ∃ (b off cap:Nat),v=.slice (some ⟨b,off,none⟩) Xl.length cap∧Xl≠[]∧Xl.length≤maxLen∧b < w.heap.size∧lo≤b∧Xl.length≤cap∧
  ∀ i (h:i < Xl.length),ZfF Xl[i]∧Zdq w b (off+i*5) Xl[i]
theorem Zcd.below {lo:Nat} {w w':World} {v:Value} {Xl:List Pu} (h:Zcd lo w v Xl) (hb:Zw_ w w'):Zcd lo w' v Xl:=by
 rcases h with h | ⟨b,off,cap,h1,h2,h3,h4,h5,h6,h7⟩
 · exact Or.inl h
 · refine Or.inr ⟨b,off,cap,h1,h2,h3,Zk_ h4 hb.size,h5,h6,fun i hi=>?_⟩
   obtain⟨hs,hc⟩:=h7 i hi;exact⟨hs,hc.below hb h4⟩
theorem Zcd.mono {lo lo':Nat} {w:World} {v:Value} {Xl:List Pu} (h:Zcd lo w v Xl) (hl:lo'≤lo):Zcd lo' w v Xl:=by
 rcases h with h | ⟨b,off,cap,h1,h2,h3,h4,h5,h6,h7⟩
 · exact Or.inl h
 · refine Or.inr ⟨b,off,cap,h1,h2,h3,h4,Nat.le_trans hl h5,h6,fun i hi=>?_⟩
   obtain⟨hs,hc⟩:=h7 i hi;exact⟨hs,hc⟩
theorem Zcd.set {lo:Nat} {w:World} {v:Value} {Xl:List Pu} (h:Zcd lo w v Xl) {p:Addr} (hp:p.block < lo) (u:Value):Zcd lo (w.setCell p u) v Xl:=by
 rcases h with h | ⟨b,off,cap,h1,h2,h3,h4,h5,h6,h7⟩
 · exact Or.inl h
 · refine Or.inr ⟨b,off,cap,h1,h2,h3,by simpa [World.setCell] using h4,h5,h6,fun i hi=>?_⟩
   obtain⟨hs,hc⟩:=h7 i hi;exact⟨hs,hc.set (by omega) u⟩
theorem Zcd.form {lo:Nat} {w:World} {v:Value} {Xl:List Pu} (h:Zcd lo w v Xl):∃ a cap,v=.slice a Xl.length cap:=by
 rcases h with ⟨a,cap,h,rfl⟩ | ⟨b,off,cap,h,_⟩
 · exact⟨a,cap,h⟩
 · exact⟨_,cap,h⟩
theorem Zcd.max {lo:Nat} {w:World} {v:Value} {Xl:List Pu} (h:Zcd lo w v Xl):Xl.length≤maxLen:=by
 rcases h with ⟨a,cap,h,rfl⟩ | ⟨b,off,cap,h,_,h3,_⟩
 · exact Nat.zero_le _
 · exact h3
theorem Zcd.full {lo:Nat} {w:World} {v:Value} {Xl:List Pu} (h:Zcd lo w v Xl) (hne:Xl≠[]):∃ (b off cap:Nat),v=.slice (some ⟨b,off,none⟩) Xl.length cap∧Xl.length≤maxLen∧b < w.heap.size∧Xl.length≤cap∧
 ∀ i (h:i < Xl.length),ZfF Xl[i]∧Zdq w b (off+i*5) Xl[i]:=by
 rcases h with ⟨_,_,_,h⟩ | ⟨b,off,cap,h1,_,h3,h4,_,h6,h7⟩
 · exact absurd h hne
 · exact⟨b,off,cap,h1,h3,h4,h6,h7⟩
theorem Zcd.full' {lo:Nat} {w:World} {a:Option Addr} {n cap:Nat} {Xl:List Pu} (h:Zcd lo w (.slice a n cap) Xl) (hL:0 < Xl.length) :
 ∃ b off,a=some ⟨b,off,none⟩∧b < w.heap.size∧lo≤b∧∀ i (h:i < Xl.length),ZfF Xl[i]∧Zdq w b (off+i*5) Xl[i]:=by
 rcases h with ⟨a',cap',h,rfl⟩ | ⟨b',off',cap',h1,h2,h3,h4,h5,h6,h7⟩
 · simp at hL
 · injection h1 with e1 e2 e3
   exact⟨b',off',e1,h4,h5,h7⟩
def Zh2 (Xl:List Pu):Prop:=Xl.length≤1048576∧∀ i (h:i < Xl.length),Zh1 Xl[i]
def Ztb (Xl:List Pu) (left r:Int):Prop:= -1≤r∧r≤left∧(0≤r→Zh2 Xl)
theorem Zqp (x:Pu) (left:Int) (w:World) (h0:0≤left) (h1:left≤1048576) (hz:ZfF x) :
 Calls prog 76 #[.agg #[.string x.dr,.string x.tm,.string x.re,.int .i64 x.am,.int .i64 x.un],.int .i64 left] w
  fun e w'=>∃ r:Int,e=.returned (.int .i64 r)∧Zw_ w w'∧-1≤r∧r≤left∧(0≤r→Zh1 x):=by
 obtain⟨s0,s1,s2⟩:=hz;unfold maxLen at s0 s1 s2;go_enter func76,ntmps76;go_wp2
 all_goals go_ret
 all_goals exact⟨_,rfl,Zb_.alloc Zl_ _,by omega,by omega,fun _=>rfl⟩
theorem Zqw (x:Pu) (w:World) :
 Calls prog 83 #[.agg #[.string x.dr,.string x.tm,.string x.re,.int .i64 x.am,.int .i64 x.un]] w fun e w'=>e=.returned (.agg #[.string x.dr,.string x.tm,.string x.re,.int .i64 x.am,.int .i64 x.un])∧Zw_ w w':=by
 go_enter func83,ntmps83;go_wp2;refine bodyPost_ret (v:=.agg #[.string x.dr,.string x.tm,.string x.re,.int .i64 x.am,.int .i64 x.un]) (by simp [results,results83,go_sem]) rfl ⟨rfl,?_⟩
 repeat (refine Below.setCell ?_ (by simp) _)
 exact ((Zb_.alloc Zl_ _).alloc (by simp) _).alloc (by simp;omega) _
theorem Znn (x:Pu) (w:World) :
 Calls prog 95 #[.agg #[.string x.dr,.string x.tm,.string x.re,.int .i64 x.am,.int .i64 x.un],.agg #[.string x.dr,.string x.tm,.string x.re,.int .i64 x.am,.int .i64 x.un]] w fun e w'=>e=.returned (.bool true)∧Zw_ w w':=by
 go_enter func95,ntmps95;go_wp2;go_ret;exact⟨rfl,(Zb_.alloc Zl_ _).alloc (by simp) _⟩
theorem Zot (lo:Nat) (v:Value) (Xl:List Pu) (left:Int) (w:World) (h0:0≤left) (h1:left≤1048576) (hv:Zcd lo w v Xl) :
 Calls prog 37 #[v,.int .i64 left] w fun e w'=>∃ r:Int,e=.returned (.int .i64 r)∧Zw_ w w'∧Ztb Xl left r:=by
 rcases hv with ⟨a,cap,rfl,rfl⟩ | ⟨b,off,cap,rfl,hne,hm,hbw,_,_,hc⟩
 · go_enter func37,ntmps37
   go_wp2
   go_loop [1,5] (fun l i=>∃ r:Int,l=.int .i64 r∧0≤r∧r≤left∧i=.int .i64 0) (fun _ _=>0)
   case atStart=>exact⟨_,rfl,by omega,by omega,rfl⟩
   case round=>
    obtain⟨r,rfl,hr0,hr1,rfl⟩:=hrel;go_wp2;go_ret;exact⟨r,rfl,Below.refl _ _,by omega,by omega,fun _=>⟨by simp,fun i h=>by simp at h⟩⟩
 · unfold maxLen at hm
   by_cases hle:(Xl.length:Int)≤left
   · go_enter func37,ntmps37
     go_wp2
     go_loopw [1,5] (fun l i wr=>∃ (r:Int) (k:Nat),l=.int .i64 r∧0≤r∧r≤left∧i=.int .i64 k∧k≤Xl.length∧Zw_ w wr∧∀ j (hj:j < Xl.length),j < k→Zh1 Xl[j]) (fun _ i _=>Xl.length - (intOf i).toNat)
     case atStart=>exact⟨_,0,rfl,by omega,by omega,rfl,by omega,Below.refl _ _,fun j _ h=>by omega⟩
     case round=>
      obtain⟨r,k,rfl,hr0,hr1,rfl,hk,hb,hall⟩:=hrel;have HA:=Zab hall;clear hall
      by_cases hlt:k < Xl.length
      · obtain⟨hs,hc⟩:=hc k hlt
        obtain⟨c0,c1,c2,c3,c4⟩:=hc.below hb hbw;clear hc;go_wp2_with fail;refine (Zqp _ _ _ hr0 (by omega) hs).mono ?_;rintro e w1 ⟨r1,rfl,hb1,q0,q1,q2⟩;have HQ2:=Zab q2;have hB:Hid (Zw_ w w1):=hb.trans (hb1.mono hb.size);clear hb1 c0 c1 c2 c3 c4 hb q2
        by_cases hneg:r1 < 0
        · go_wp2
          go_ret;exact⟨-1,rfl,hB.out,by omega,by omega,fun h=>by omega⟩
        · have HL:Hid (Zh1 Xl[k]):=HQ2.out (by omega)
          clear HQ2;go_wp2;go_roundw
          case rel=>exact⟨_,k+1,rfl,by omega,by omega,by go_num,by omega,hB.out,fun j hj h=>by
                     by_cases e:j=k
                     · subst e;exact HL.out
                     · exact HA.out j hj (by omega)⟩
          case measure=>simp [intOf];omega
      · go_wp2
        go_ret;exact⟨r,rfl,hb,by omega,by omega,fun _=>⟨by omega,fun j hj=>HA.out j hj (by omega)⟩⟩
   · go_enter func37,ntmps37
     go_wp2;go_ret;exact⟨-1,rfl,Below.refl _ _,by omega,by omega,fun h=>by omega⟩
theorem ZlS (lo lo':Nat) (v v':Value) (Xl:List Pu) (w:World) (hv:Zcd lo w v Xl) (hv':Zcd lo' w v' Xl) :
 Calls prog 48 #[v,v'] w fun e w'=>e=.returned (.bool true)∧Zw_ w w':=by
 by_cases hL:Xl=[]
 · subst hL
   obtain⟨a,cap,rfl⟩:=hv.form;obtain⟨a',cap',rfl⟩:=hv'.form;clear hv hv';go_enter func48,ntmps48;go_wp2
   go_loop [5] (fun i=>i=.int .i64 0) (fun _=>0)
   case atStart=>rfl
   case round=>
    subst hrel;go_wp2;go_ret;exact⟨rfl,Below.refl _ _⟩
 · obtain⟨b,off,cap,rfl,hm,hbw,_,hc⟩:=hv.full hL
   obtain⟨b',off',cap',rfl,_,hbw',_,hc'⟩:=hv'.full hL;clear hv hv';unfold maxLen at hm;go_enter func48,ntmps48;go_wp2
   go_loopw [5] (fun i wr=>∃ k:Nat,i=.int .i64 k∧k≤Xl.length∧Zw_ w wr) (fun i _=>Xl.length - (intOf i).toNat)
   case atStart=>exact⟨0,rfl,by omega,Below.refl _ _⟩
   case round=>
    obtain⟨k,rfl,hk,hb⟩:=hrel
    by_cases hlt:k < Xl.length
    · obtain⟨hs,hc⟩:=hc k hlt
      obtain⟨ht,hd⟩:=hc' k hlt;obtain⟨c0,c1,c2,c3,c4⟩:=hc.below hb hbw;obtain⟨d0,d1,d2,d3,d4⟩:=hd.below hb hbw';clear hc hd hs ht;have HB:=Zab hb;clear hb;go_wp2
      go_region_with (go_at_call 95;refine (Znn _ _ ).mono ?_;rintro e w1 ⟨rfl,hb1⟩;have hB:Hid (Zw_ w w1):=(HB.out.drew).trans (hb1.mono HB.out.size);clear hb1)
      all_goals go_wp2
      all_goals go_roundw
      all_goals first
       | (case rel=>exact⟨k+1,by go_num,by omega,hB.out⟩)
       | (case measure=>simp [intOf];omega)
    · go_wp2
      go_ret;exact⟨rfl,hb⟩
theorem Tryz.info165:(prog.info? 165).map (fun i=>(i.zero,i.size,i.bytes))=some (some (.agg #[.string ⟨#[]⟩,.string ⟨#[]⟩,.string ⟨#[]⟩,.int .i64 0,.int .i64 0]),5,64):=by kernel_rfl
def ZbX (wr:World) (B:Nat) (Xl:List Pu) (k:Nat):Prop:=
 ∃ f,wr.rowIs B 165 (Xl.length*5) f∧∀ i (h:i < Xl.length),i < k→ZfF Xl[i]∧f (i*5)=.string Xl[i].dr∧f (i*5+1)=.string Xl[i].tm∧f (i*5+2)=.string Xl[i].re∧f (i*5+3)=.int .i64 Xl[i].am∧f (i*5+4)=.int .i64 Xl[i].un
theorem ZbX.below {wr w1:World} {B:Nat} {Xl:List Pu} {k:Nat} (h:ZbX wr B Xl k) (hb:Below wr.heap.size wr w1):ZbX w1 B Xl k:=by
 obtain⟨f,hr,hall⟩:=h;refine⟨f,hr.of_block (hb.block B hr.lt),fun i hi hik=>?_⟩;obtain⟨hz,h0,h1,h2,h3,h4⟩:=hall i hi hik;exact⟨hz,h0,h1,h2,h3,h4⟩
theorem ZbX.free {wr:World} {B:Nat} {Xl:List Pu} {k:Nat} (h:ZbX wr B Xl k) (i:Nat):wr.frozen? ⟨B,i,none⟩=false:=by
 obtain⟨f,hr,_⟩:=h;exact hr.frozen i
theorem ZbX.there {wr:World} {B:Nat} {Xl:List Pu} {k:Nat} (h:ZbX wr B Xl k) (i:Nat) (hi:i < Xl.length*5):∃ v,wr.cell? ⟨B,i,none⟩=some v:=by
 obtain⟨f,hr,_⟩:=h;exact⟨_,hr.cell hi⟩
theorem ZbX.step {w1:World} {B:Nat} {Xl:List Pu} {k:Nat} (h:ZbX w1 B Xl k) (hk:k < Xl.length) (hz:ZfF Xl[k]) :
 ZbX (((((w1.setCell ⟨B,k*5,none⟩ (.string Xl[k].dr)).setCell ⟨B,k*5+1,none⟩ (.string Xl[k].tm)).setCell ⟨B,k*5+2,none⟩ (.string Xl[k].re)).setCell ⟨B,k*5+3,none⟩ (.int .i64 Xl[k].am)).setCell ⟨B,k*5+4,none⟩ (.int .i64 Xl[k].un)) B Xl (k+1):=by
 obtain⟨f,hr,hall⟩:=h;refine⟨_,(((((hr.set _ _).set _ _).set _ _).set _ _).set _ _),fun i hi hik=>?_⟩
 by_cases e:i=k
 · subst e
   refine⟨hz,by simp,by simp,by simp,by simp,by simp⟩
 · obtain⟨hz',h0,h1,h2,h3,h4⟩:=hall i hi (by omega)
   refine⟨hz',?_,?_,?_,?_,?_⟩
   · rw [if_neg (by omega),if_neg (by omega),if_neg (by omega),if_neg (by omega),if_neg (by omega)];exact h0
   · rw [if_neg (by omega),if_neg (by omega),if_neg (by omega),if_neg (by omega),if_neg (by omega)];exact h1
   · rw [if_neg (by omega),if_neg (by omega),if_neg (by omega),if_neg (by omega),if_neg (by omega)];exact h2
   · rw [if_neg (by omega),if_neg (by omega),if_neg (by omega),if_neg (by omega),if_neg (by omega)];exact h3
   · rw [if_neg (by omega),if_neg (by omega),if_neg (by omega),if_neg (by omega),if_neg (by omega)];exact h4
theorem ZbX.done {wr:World} {B:Nat} {Xl:List Pu} {k:Nat} (h:ZbX wr B Xl k) (hk:Xl.length≤k) (hne:Xl≠[]) (hm:Xl.length≤maxLen):Zcd B wr (.slice (some ⟨B,0,none⟩) Xl.length Xl.length) Xl:=by
 obtain⟨f,hr,hall⟩:=h;refine Or.inr ⟨B,0,Xl.length,rfl,hne,hm,hr.lt,Nat.le_refl _,Nat.le_refl _,fun i hi=>?_⟩;obtain⟨hz,h0,h1,h2,h3,h4⟩:=hall i hi (by omega);rw [Nat.zero_add];exact⟨hz,⟨by rw [hr.cell (by omega),h0],by rw [hr.cell (by omega),h1],by rw [hr.cell (by omega),h2],by rw [hr.cell (by omega),h3],by rw [hr.cell (by omega),h4]⟩⟩
theorem ZbX.new (w:World) (Xl:List Pu) (z:Array Value):ZbX (w.alloc (.cells (madeCells z (Xl.length*5)) 165)) w.heap.size Xl 0:=by
 refine⟨fun i=>(madeCells z (Xl.length*5)).getD i default,?_,fun i _ h=>by omega⟩;have:=World.rowIs_alloc w (madeCells z (Xl.length*5)) 165 (fun i=>(madeCells z (Xl.length*5)).getD i default) (fun i hi=>by simp [Array.getD,hi])
 rwa [size_madeCells] at this
theorem ZoL (lo:Nat) (v:Value) (Xl:List Pu) (w:World) (hv:Zcd lo w v Xl) (hn:Zh2 Xl) :
 Calls prog 42 #[v] w fun e w'=>∃ v',e=.returned v'∧Zw_ w w'∧Zcd w.heap.size w' v' Xl:=by
 obtain⟨i0,hi,hz0,hz1,hz2⟩:=info_parts Tryz.info165;have hn1:=hn.1;clear hn
 by_cases hL:Xl=[]
 · subst hL
   obtain⟨a,cap,rfl⟩:=hv.form;clear hv
   have hmk:∀ u:World,(Instr.makeSlice 48 (.int .i64 0) (.int .i64 0)).run prog u=.ok (.slice (some ⟨u.heap.size,0,none⟩) 0 0) (u.alloc (.cells (madeCells (Value.cells (.agg #[.string ⟨#[]⟩,.string ⟨#[]⟩,.string ⟨#[]⟩,.int .i64 0,.int .i64 0])) 0) 165)):=fun u=>by
    have h:=run_make (P:=prog) u 48 165 i0 _ underlying48 hi hz0 .i64 .i64 0 0 (by omega) (by omega) (by omega) (by omega)
    simpa [hz1] using h
   go_enter func42,ntmps42;go_wp2
   go_loop [4] (fun i=>i=.int .i64 0) (fun _=>0)
   case atStart=>rfl
   case round=>
    subst hrel;go_wp2;go_ret;exact⟨_,rfl,Zb_.alloc Zl_ _,Or.inl ⟨_,_,rfl,rfl⟩⟩
 · obtain⟨b,off,cap,rfl,hm,hbw,_,hc⟩:=hv.full hL
   clear hv;have HM:Hid (Xl.length≤maxLen):=hm;unfold maxLen at hm
   have hmk:∀ u:World,(Instr.makeSlice 48 (.int .i64 (Xl.length:Int)) (.int .i64 (Xl.length:Int))).run prog u=.ok (.slice (some ⟨u.heap.size,0,none⟩) Xl.length Xl.length) (u.alloc (.cells (madeCells (Value.cells (.agg #[.string ⟨#[]⟩,.string ⟨#[]⟩,.string ⟨#[]⟩,.int .i64 0,.int .i64 0])) (Xl.length*5)) 165)):=fun u=>by
    have h:=run_make (P:=prog) u 48 165 i0 _ underlying48 hi hz0 .i64 .i64 Xl.length Xl.length (by omega) (by omega) (by rw [hz2];omega) (by omega);rw [hz1] at h
    simpa using h
   clear hi hz0 hz1 hz2;go_enter func42,ntmps42;go_wp2;clear hmk
   go_loopw [4] (fun i wr=>∃ k:Nat,i=.int .i64 k∧k≤Xl.length∧Zw_ w wr∧ZbX wr w.heap.size Xl k) (fun i _=>Xl.length - (intOf i).toNat)
   case atStart=>exact⟨0,rfl,by omega,Zb_.alloc Zl_ _,ZbX.new w Xl _⟩
   case round=>
    obtain⟨k,rfl,hk,hb,hf⟩:=hrel
    by_cases hlt:k < Xl.length
    · obtain⟨hs,hc⟩:=hc k hlt
      obtain⟨c0,c1,c2,c3,c4⟩:=hc.below hb hbw
      have hBl:w.heap.size < wr.heap.size:=by
       obtain⟨_,hr,_⟩:=hf;exact hr.lt
      clear hc;go_wp2_with fail;refine (Zqw _ _ ).mono ?_;rintro e w1 ⟨rfl,hb1⟩;have hf1:=hf.below hb1;have HST:=Zab (hf1.step hlt hs );have hB:Hid (Zw_ w w1):=hb.trans (hb1.mono hb.size);have hfr:=hf1.free;obtain⟨o0,ho0⟩:=hf1.there (k*5) (by omega);obtain⟨o1,ho1⟩:=hf1.there (k*5+1) (by omega);obtain⟨o2,ho2⟩:=hf1.there (k*5+2) (by omega);obtain⟨o3,ho3⟩:=hf1.there (k*5+3) (by omega);obtain⟨o4,ho4⟩:=hf1.there (k*5+4) (by omega);clear hf hf1 hb1 hb c0 c1 c2 c3 c4;go_wp2;go_roundw
      case rel=>
       exact⟨k+1,by go_num,by omega,(((((hB.out.setCell Zl_ _).setCell Zl_ _).setCell Zl_ _).setCell Zl_ _).setCell Zl_ _),HST.out⟩
      case measure=>simp [intOf];omega
    · go_wp2
      go_ret;exact⟨_,rfl,hb,hf.done (by omega) hL HM.out⟩
end Go.Proofs.YtcfjmagkinpaeaaGreat
