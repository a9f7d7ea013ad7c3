import Derived.Test.YtmappejlmapboaaGreatD11
import Derived.Test.YtmappejlmapboaaGreatD12
set_option maxHeartbeats 16000000
set_option maxRecDepth 100000
open Go.Proofs.Tryz
namespace Go.Proofs.YtmappejlmapboaaGreat
open Go.RowKit Go.Deep
section
variable {w w' wr w1:World} {b o lo B k:Nat} {vv0 vv1 v:Value}
structure Ob where
 kd:Zy_
 nm:Zy_
 tm:Zy_
 vs:List Zy_
 en:Bool
 hs:List Zy_
 ver:Int
variable {x:Ob} {Xl:List Ob}
structure Zdg (x:Ob):Prop where
 s0:x.kd.size<=maxLen
 s1:x.nm.size<=maxLen
 s2:x.tm.size<=maxLen
def ZeI (x:Ob):Prop:=x.vs.length<=1048576/\x.hs.length<=1048576
structure Zci (w:World) (b o:Nat) (x:Ob) (vv0 vv1:Value):Prop where
 c0:w.cell? ⟨b,o,none⟩=some (.string x.kd)
 c1:w.cell? ⟨b,o+1,none⟩=some (.string x.nm)
 c2:w.cell? ⟨b,o+2,none⟩=some (.string x.tm)
 c3:w.cell? ⟨b,o+3,none⟩=some vv0
 c4:w.cell? ⟨b,o+4,none⟩=some (.bool x.en)
 c5:w.cell? ⟨b,o+5,none⟩=some vv1
 c6:w.cell? ⟨b,o+6,none⟩=some (.int .i64 x.ver)
theorem Zci.below (h:Zci w b o x vv0 vv1) {m:Nat} (hb:Below m w w') (hlt:b < m):Zci w' b o x vv0 vv1:=by
 have e:∀ o,w'.cell? ⟨b,o,none⟩=w.cell? ⟨b,o,none⟩:=fun o=>hb.cell (p:=⟨b,o,none⟩) hlt
 exact⟨by rw [e];exact h.c0,by rw [e];exact h.c1,by rw [e];exact h.c2,by rw [e];exact h.c3,by rw [e];exact h.c4,by rw [e];exact h.c5,by rw [e];exact h.c6⟩
theorem Zci.set (h:Zci w b o x vv0 vv1) {p:Addr} (hp:b≠p.block) (u:Value):Zci (w.setCell p u) b o x vv0 vv1:=by
 have e:∀ o,(w.setCell p u).cell? ⟨b,o,none⟩=w.cell? ⟨b,o,none⟩:=fun o=>Zar _ _ _ _ hp
 exact⟨by rw [e];exact h.c0,by rw [e];exact h.c1,by rw [e];exact h.c2,by rw [e];exact h.c3,by rw [e];exact h.c4,by rw [e];exact h.c5,by rw [e];exact h.c6⟩
def Za3 (lo:Nat) (w:World) (v:Value) (Xl:List Ob):Prop:=
 (∃ (a:Option Addr) (cap:Nat),v=.slice a 0 cap/\Xl=[])\/
 ∃ (b off cap:Nat),v=.slice (some ⟨b,off,none⟩) Xl.length cap/\Xl≠[]/\Xl.length<=maxLen/\b < w.heap.size/\lo<=b/\Xl.length<=cap/\
  ∀ i (h:i < Xl.length),Zdg Xl[i]/\∃ vv0 vv1,Zci w b (off+i*7) Xl[i] vv0 vv1/\Zaq lo w vv0 Xl[i].vs/\Zaq lo w vv1 Xl[i].hs
theorem Za3.below (h:Za3 lo w v Xl) (hb:Zw_ w w'):Za3 lo w' v Xl:=by
 rcases h with h | ⟨b,off,cap,h1,h2,h3,h4,h5,h6,h7⟩
 . exact Or.inl h
 . refine Or.inr ⟨b,off,cap,h1,h2,h3,Zk_ h4 hb.size,h5,h6,fun i hi=>?_⟩
   obtain⟨hs,vv0,vv1,hc,hv0,hv1⟩:=h7 i hi;exact⟨hs,vv0,vv1,hc.below hb h4,hv0.below hb,hv1.below hb⟩
theorem Za3.mono {lo':Nat} (h:Za3 lo w v Xl) (hl:lo'<=lo):Za3 lo' w v Xl:=by
 rcases h with h | ⟨b,off,cap,h1,h2,h3,h4,h5,h6,h7⟩
 . exact Or.inl h
 . refine Or.inr ⟨b,off,cap,h1,h2,h3,h4,Nat.le_trans hl h5,h6,fun i hi=>?_⟩
   obtain⟨hs,vv0,vv1,hc,hv0,hv1⟩:=h7 i hi;exact⟨hs,vv0,vv1,hc,hv0.mono hl,hv1.mono hl⟩
theorem Za3.set (h:Za3 lo w v Xl) {p:Addr} (hp:p.block < lo) (u:Value):Za3 lo (w.setCell p u) v Xl:=by
 rcases h with h | ⟨b,off,cap,h1,h2,h3,h4,h5,h6,h7⟩
 . exact Or.inl h
 . refine Or.inr ⟨b,off,cap,h1,h2,h3,by simpa [World.setCell] using h4,h5,h6,fun i hi=>?_⟩
   obtain⟨hs,vv0,vv1,hc,hv0,hv1⟩:=h7 i hi;exact⟨hs,vv0,vv1,hc.set (by omega) u,hv0.setCell hp u,hv1.setCell hp u⟩
theorem Za3.form (h:Za3 lo w v Xl):∃ a cap,v=.slice a Xl.length cap:=by
 rcases h with ⟨a,cap,h,rfl⟩ | ⟨b,off,cap,h,_⟩
 . exact⟨a,cap,h⟩
 . exact⟨_,cap,h⟩
theorem Za3.max (h:Za3 lo w v Xl):Xl.length<=maxLen:=by
 rcases h with ⟨a,cap,h,rfl⟩ | ⟨b,off,cap,h,_,h3,_⟩
 . exact Nat.zero_le _
 . exact h3
theorem Za3.full (h:Za3 lo w v Xl) (hne:Xl≠[]):∃ (b off cap:Nat),v=.slice (some ⟨b,off,none⟩) Xl.length cap/\Xl.length<=maxLen/\b < w.heap.size/\Xl.length<=cap/\
 ∀ i (h:i < Xl.length),Zdg Xl[i]/\∃ vv0 vv1,Zci w b (off+i*7) Xl[i] vv0 vv1/\Zaq lo w vv0 Xl[i].vs/\Zaq lo w vv1 Xl[i].hs:=by
 rcases h with ⟨_,_,_,h⟩ | ⟨b,off,cap,h1,_,h3,h4,_,h6,h7⟩
 . exact absurd h hne
 . exact⟨b,off,cap,h1,h3,h4,h6,h7⟩
theorem Za3.full' {a:Option Addr}{n cap:Nat} (h:Za3 lo w (.slice a n cap) Xl) (hL:0 < Xl.length) :
 ∃ b off,a=some ⟨b,off,none⟩/\b < w.heap.size/\lo<=b/\∀ i (h:i < Xl.length),Zdg Xl[i]/\∃ vv0 vv1,Zci w b (off+i*7) Xl[i] vv0 vv1/\Zaq lo w vv0 Xl[i].vs/\Zaq lo w vv1 Xl[i].hs:=by
 rcases h with ⟨a',cap',h,rfl⟩ | ⟨b',off',cap',h1,h2,h3,h4,h5,h6,h7⟩
 . simp at hL
 . injection h1 with e1 e2 e3
   exact⟨b',off',e1,h4,h5,h7⟩
def Zbg (Xl:List Ob):Prop:=Xl.length<=1048576/\∀ i (h:i < Xl.length),ZeI Xl[i]
def Zuk (Xl:List Ob) (left r:Int):Prop:= -1<=r/\r<=left/\(0<=r->Zbg Xl)
theorem Zsk (lo:Nat) (x:Ob) (vv0 vv1:Value) (left:Int) (w:World) (h0:0<=left) (h1:left<=1048576) (hv0:Zaq lo w vv0 x.vs) (hv1:Zaq lo w vv1 x.hs) (hz:Zdg x) :
 Calls prog 77 #[.agg #[.string x.kd,.string x.nm,.string x.tm,vv0,.bool x.en,vv1,.int .i64 x.ver],.int .i64 left] w
  fun e w'=>∃ r:Int,e=.returned (.int .i64 r)/\Zw_ w w'/\-1<=r/\r<=left/\(0<=r->ZeI x):=by
 refine (Zq9 x.kd x.nm x.tm vv0 vv1 x.en x.ver x.vs x.hs w left hv0.at hv1.at h0 h1 hz.s0 hz.s1 hz.s2).mono ?_;rintro e w' ⟨r,he,hb,q0,q1,q2⟩;exact⟨r,he,hb,q0,q1,fun h=>⟨by have:=(q2 h).1;omega,by have:=(q2 h).2;omega⟩⟩
theorem Zso (lo:Nat) (x:Ob) (vv0 vv1:Value) (w:World) (hv0:Zaq lo w vv0 x.vs) (hv1:Zaq lo w vv1 x.hs) (hn:ZeI x) :
 Calls prog 89 #[.agg #[.string x.kd,.string x.nm,.string x.tm,vv0,.bool x.en,vv1,.int .i64 x.ver]] w
  fun e w'=>∃ z0 z1,e=.returned (.agg #[.string x.kd,.string x.nm,.string x.tm,z0,.bool x.en,z1,.int .i64 x.ver])/\Zw_ w w'/\Zaq w.heap.size w' z0 x.vs/\Zaq w.heap.size w' z1 x.hs:=
 Zrn x.kd x.nm x.tm vv0 vv1 x.en x.ver x.vs x.hs w hv0.at hv1.at hn.1 hn.2
theorem Zp9 (lo lo':Nat) (x:Ob) (vv0 vv1 vv0' vv1':Value) (w:World) (hv0:Zaq lo w vv0 x.vs) (hv1:Zaq lo w vv1 x.hs) (hw0:Zaq lo' w vv0' x.vs) (hw1:Zaq lo' w vv1' x.hs) :
 Calls prog 100 #[.agg #[.string x.kd,.string x.nm,.string x.tm,vv0,.bool x.en,vv1,.int .i64 x.ver],.agg #[.string x.kd,.string x.nm,.string x.tm,vv0',.bool x.en,vv1',.int .i64 x.ver]] w fun e w'=>e=.returned (.bool true)/\Zw_ w w':=
 Zn6 x.kd x.nm x.tm vv0 vv1 x.en x.ver x.vs x.hs w vv0' vv1' hv0.at hv1.at hw0.at hw1.at
theorem Zra (lo:Nat) (v:Value) (Xl:List Ob) (left:Int) (w:World) (h0:0<=left) (h1:left<=1048576) (hv:Za3 lo w v Xl) :
 Calls prog 30 #[v,.int .i64 left] w fun e w'=>∃ r:Int,e=.returned (.int .i64 r)/\Zw_ w w'/\Zuk Xl left r:=by
 rcases hv with ⟨a,cap,rfl,rfl⟩ | ⟨b,off,cap,rfl,hne,hm,hbw,_,_,hc⟩
 . go_enter func30,ntmps30
   go_wp2
   go_loop [1,5] (fun l i=>∃ r:Int,l=.int .i64 r/\0<=r/\r<=left/\i=.int .i64 0) (fun _ _=>0)
   case atStart=>exact⟨_,rfl,by omega,by omega,rfl⟩
   case round=>
    obtain⟨r,rfl,hr0,hr1,rfl⟩:=hrel;go_wp2;go_ret;exact⟨r,rfl,Below.refl _ _,by omega,by omega,fun _=>⟨by simp,fun i h=>by simp at h⟩⟩
 . unfold maxLen at hm
   by_cases hle:(Xl.length:Int)<=left
   . go_enter func30,ntmps30
     go_wp2
     go_loopw [1,5] (fun l i wr=>∃ (r:Int) (k:Nat),l=.int .i64 r/\0<=r/\r<=left/\i=.int .i64 k/\k<=Xl.length/\Zw_ w wr/\∀ j (hj:j < Xl.length),j < k->ZeI Xl[j]) (fun _ i _=>Xl.length - (intOf i).toNat)
     case atStart=>exact⟨_,0,rfl,by omega,by omega,rfl,by omega,Below.refl _ _,fun j _ h=>by omega⟩
     case round=>
      obtain⟨r,k,rfl,hr0,hr1,rfl,hk,hb,hall⟩:=hrel;have HA:=Zab hall;clear hall
      by_cases hlt:k < Xl.length
      . obtain⟨hs,vv0,vv1,hc,hv0,hv1⟩:=hc k hlt
        have HV0:=Zab (hv0.below hb);have HV1:=Zab (hv1.below hb);obtain⟨a0,k0,rfl⟩:=hv0.at.form';obtain⟨a1,k1,rfl⟩:=hv1.at.form';obtain⟨c0,c1,c2,c3,c4,c5,c6⟩:=hc.below hb hbw;clear hc hv0 hv1;go_wp2_with fail;refine (Zsk lo _ _ _ _ _ hr0 (by omega) HV0.o HV1.o hs).mono ?_;rintro e w1 ⟨r1,rfl,hb1,q0,q1,q2⟩;have HQ2:=Zab q2;have hB:Hd (Zw_ w w1):=hb.trans (hb1.mono hb.size);clear hb1 c0 c1 c2 c3 c4 c5 c6 hb q2 HV0 HV1
        by_cases hneg:r1 < 0
        . go_wp2
          go_ret;exact⟨-1,rfl,hB.o,by omega,by omega,fun h=>by omega⟩
        . have HL:Hd (ZeI Xl[k]):=HQ2.o (by omega)
          clear HQ2;go_wp2;go_roundw
          case rel=>exact⟨_,k+1,rfl,by omega,by omega,by go_num,by omega,hB.o,fun j hj h=>by
                     by_cases e:j=k
                     . subst e;exact HL.o
                     . exact HA.o j hj (by omega)⟩
          . simp [intOf];omega
      . go_wp2
        go_ret;exact⟨r,rfl,hb,by omega,by omega,fun _=>⟨by omega,fun j hj=>HA.o j hj (by omega)⟩⟩
   . go_enter func30,ntmps30
     go_wp2;go_ret;exact⟨-1,rfl,Below.refl _ _,by omega,by omega,fun h=>by omega⟩
theorem Zn7 (lo lo':Nat) (v v':Value) (Xl:List Ob) (w:World) (hv:Za3 lo w v Xl) (hv':Za3 lo' w v' Xl) :
 Calls prog 48 #[v,v'] w fun e w'=>e=.returned (.bool true)/\Zw_ w w':=by
 by_cases hL:Xl=[]
 . subst hL
   obtain⟨a,cap,rfl⟩:=hv.form;obtain⟨a',cap',rfl⟩:=hv'.form;clear hv hv';go_enter func48,ntmps48;go_wp2
   go_loop [5] (fun i=>i=.int .i64 0) (fun _=>0)
   case atStart=>rfl
   case round=>
    subst hrel;go_wp2;go_ret;exact⟨rfl,Below.refl _ _⟩
 . obtain⟨b,off,cap,rfl,hm,hbw,_,hc⟩:=hv.full hL
   obtain⟨b',off',cap',rfl,_,hbw',_,hc'⟩:=hv'.full hL;clear hv hv';unfold maxLen at hm;go_enter func48,ntmps48;go_wp2
   go_loopw [5] (fun i wr=>∃ k:Nat,i=.int .i64 k/\k<=Xl.length/\Zw_ w wr) (fun i _=>Xl.length - (intOf i).toNat)
   case atStart=>exact⟨0,rfl,by omega,Below.refl _ _⟩
   case round=>
    obtain⟨k,rfl,hk,hb⟩:=hrel
    by_cases hlt:k < Xl.length
    . obtain⟨hs,vv0,vv1,hc,hv0,hv1⟩:=hc k hlt
      obtain⟨ht,vv0',vv1',hd,hw0,hw1⟩:=hc' k hlt;have HV0:=Zab (hv0.below hb);have HW0:=Zab (hw0.below hb);have HV1:=Zab (hv1.below hb);have HW1:=Zab (hw1.below hb);obtain⟨a0,k0,rfl⟩:=hv0.at.form';obtain⟨a1,k1,rfl⟩:=hv1.at.form';obtain⟨e0,g0,rfl⟩:=hw0.at.form';obtain⟨e1,g1,rfl⟩:=hw1.at.form';obtain⟨c0,c1,c2,c3,c4,c5,c6⟩:=hc.below hb hbw;obtain⟨d0,d1,d2,d3,d4,d5,d6⟩:=hd.below hb hbw';clear hc hd hv0 hv1 hw0 hw1 hs ht;have HB:=Zab hb;clear hb;go_wp2
      go_region_with (go_at_call 100;refine (Zp9 lo lo' _ _ _ _ _ _ (HV0.o.below (Zb_.drew)) (HV1.o.below (Zb_.drew)) (HW0.o.below (Zb_.drew)) (HW1.o.below (Zb_.drew))).mono ?_;rintro e w1 ⟨rfl,hb1⟩;have hB:Hd (Zw_ w w1):=(HB.o.drew).trans (hb1.mono HB.o.size);clear hb1)
      all_goals go_wp2
      all_goals go_roundw
      all_goals first
       | (case rel=>exact⟨k+1,by go_num,by omega,hB.o⟩)
       | (case measure=>simp [intOf];omega)
    . go_wp2
      go_ret;exact⟨rfl,hb⟩
theorem Tryz.info128:(prog.info? 128).map (fun i=>(i.zero,i.size,i.bytes))=some (some (.agg #[.string ⟨#[]⟩,.string ⟨#[]⟩,.string ⟨#[]⟩,.slice none 0 0,.bool false,.slice none 0 0,.int .i64 0]),7,112):=by kernel_rfl
def Zb0 (wr:World) (B:Nat) (Xl:List Ob) (k:Nat):Prop:=
 ∃ f,wr.rowIs B 128 (Xl.length*7) f/\∀ i (h:i < Xl.length),i < k->Zdg Xl[i]/\∃ vv0 vv1,f (i*7)=.string Xl[i].kd/\f (i*7+1)=.string Xl[i].nm/\f (i*7+2)=.string Xl[i].tm/\f (i*7+3)=vv0/\f (i*7+4)=.bool Xl[i].en/\f (i*7+5)=vv1/\f (i*7+6)=.int .i64 Xl[i].ver/\Zaq (B+1) wr vv0 Xl[i].vs/\Zaq (B+1) wr vv1 Xl[i].hs
theorem Zb0.below (h:Zb0 wr B Xl k) (hb:Below wr.heap.size wr w1):Zb0 w1 B Xl k:=by
 obtain⟨f,hr,hall⟩:=h;refine⟨f,hr.of_block (hb.block B hr.lt),fun i hi hik=>?_⟩;obtain⟨hz,vv0,vv1,h0,h1,h2,h3,h4,h5,h6,hv0,hv1⟩:=hall i hi hik;exact⟨hz,vv0,vv1,h0,h1,h2,h3,h4,h5,h6,hv0.below hb,hv1.below hb⟩
theorem Zb0.free (h:Zb0 wr B Xl k) (i:Nat):wr.frozen? ⟨B,i,none⟩=false:=by
 obtain⟨f,hr,_⟩:=h;exact hr.frozen i
theorem Zb0.there (h:Zb0 wr B Xl k) (i:Nat) (hi:i < Xl.length*7):∃ v,wr.cell? ⟨B,i,none⟩=some v:=by
 obtain⟨f,hr,_⟩:=h;exact⟨_,hr.cell hi⟩
theorem Zb0.step (h:Zb0 w1 B Xl k) (hk:k < Xl.length) (hz:Zdg Xl[k]) (hv0:Zaq (B+1) w1 vv0 Xl[k].vs) (hv1:Zaq (B+1) w1 vv1 Xl[k].hs) :
 Zb0 (((((((w1.setCell ⟨B,k*7,none⟩ (.string Xl[k].kd)).setCell ⟨B,k*7+1,none⟩ (.string Xl[k].nm)).setCell ⟨B,k*7+2,none⟩ (.string Xl[k].tm)).setCell ⟨B,k*7+3,none⟩ vv0).setCell ⟨B,k*7+4,none⟩ (.bool Xl[k].en)).setCell ⟨B,k*7+5,none⟩ vv1).setCell ⟨B,k*7+6,none⟩ (.int .i64 Xl[k].ver)) B Xl (k+1):=by
 obtain⟨f,hr,hall⟩:=h;refine⟨_,(((((((hr.set _ _).set _ _).set _ _).set _ _).set _ _).set _ _).set _ _),fun i hi hik=>?_⟩
 by_cases e:i=k
 . subst e
   refine⟨hz,vv0,vv1,by simp,by simp,by simp,by simp,by simp,by simp,by simp,?_,?_⟩
   . repeat (refine Zaq.setCell ?_ (by simp only [];omega) _)
     exact hv0
   . repeat (refine Zaq.setCell ?_ (by simp only [];omega) _)
     exact hv1
 . obtain⟨hz',vv0',vv1',h0,h1,h2,h3,h4,h5,h6,hv0',hv1'⟩:=hall i hi (by omega)
   refine⟨hz',vv0',vv1',?_,?_,?_,?_,?_,?_,?_,?_,?_⟩
   . rw [if_neg (by omega),if_neg (by omega),if_neg (by omega),if_neg (by omega),if_neg (by omega),if_neg (by omega),if_neg (by omega)];exact h0
   . rw [if_neg (by omega),if_neg (by omega),if_neg (by omega),if_neg (by omega),if_neg (by omega),if_neg (by omega),if_neg (by omega)];exact h1
   . rw [if_neg (by omega),if_neg (by omega),if_neg (by omega),if_neg (by omega),if_neg (by omega),if_neg (by omega),if_neg (by omega)];exact h2
   . rw [if_neg (by omega),if_neg (by omega),if_neg (by omega),if_neg (by omega),if_neg (by omega),if_neg (by omega),if_neg (by omega)];exact h3
   . rw [if_neg (by omega),if_neg (by omega),if_neg (by omega),if_neg (by omega),if_neg (by omega),if_neg (by omega),if_neg (by omega)];exact h4
   . rw [if_neg (by omega),if_neg (by omega),if_neg (by omega),if_neg (by omega),if_neg (by omega),if_neg (by omega),if_neg (by omega)];exact h5
   . rw [if_neg (by omega),if_neg (by omega),if_neg (by omega),if_neg (by omega),if_neg (by omega),if_neg (by omega),if_neg (by omega)];exact h6
   . repeat (refine Zaq.setCell ?_ (by simp only [];omega) _)
     exact hv0'
   . repeat (refine Zaq.setCell ?_ (by simp only [];omega) _)
     exact hv1'
theorem Zb0.done (h:Zb0 wr B Xl k) (hk:Xl.length<=k) (hne:Xl≠[]) (hm:Xl.length<=maxLen):Za3 B wr (.slice (some ⟨B,0,none⟩) Xl.length Xl.length) Xl:=by
 obtain⟨f,hr,hall⟩:=h;refine Or.inr ⟨B,0,Xl.length,rfl,hne,hm,hr.lt,Nat.le_refl _,Nat.le_refl _,fun i hi=>?_⟩;obtain⟨hz,vv0,vv1,h0,h1,h2,h3,h4,h5,h6,hv0,hv1⟩:=hall i hi (by omega);rw [Nat.zero_add];exact⟨hz,vv0,vv1,⟨by rw [hr.cell (by omega),h0],by rw [hr.cell (by omega),h1],by rw [hr.cell (by omega),h2],by rw [hr.cell (by omega),h3],by rw [hr.cell (by omega),h4],by rw [hr.cell (by omega),h5],by rw [hr.cell (by omega),h6]⟩,hv0.mono (by omega),hv1.mono (by omega)⟩
theorem Zb0.new (w:World) (Xl:List Ob) (z:Array Value):Zb0 (w.alloc (.cells (madeCells z (Xl.length*7)) 128)) w.heap.size Xl 0:=by
 refine⟨fun i=>(madeCells z (Xl.length*7)).getD i default,?_,fun i _ h=>by omega⟩;have:=World.rowIs_alloc w (madeCells z (Xl.length*7)) 128 (fun i=>(madeCells z (Xl.length*7)).getD i default) (fun i hi=>by simp [Array.getD,hi])
 rwa [size_madeCells] at this
theorem Zro (lo:Nat) (v:Value) (Xl:List Ob) (w:World) (hv:Za3 lo w v Xl) (hn:Zbg Xl) :
 Calls prog 39 #[v] w fun e w'=>∃ v',e=.returned v'/\Zw_ w w'/\Za3 w.heap.size w' v' Xl:=by
 obtain⟨i0,hi,hz0,hz1,hz2⟩:=info_parts Tryz.info128;have HSM:=Zab hn.2;have hn1:=hn.1;clear hn
 by_cases hL:Xl=[]
 . subst hL
   obtain⟨a,cap,rfl⟩:=hv.form;clear hv
   have hmk:∀ u:World,(Instr.makeSlice 43 (.int .i64 0) (.int .i64 0)).run prog u=.ok (.slice (some ⟨u.heap.size,0,none⟩) 0 0) (u.alloc (.cells (madeCells (Value.cells (.agg #[.string ⟨#[]⟩,.string ⟨#[]⟩,.string ⟨#[]⟩,.slice none 0 0,.bool false,.slice none 0 0,.int .i64 0])) 0) 128)):=fun u=>by
    have h:=run_make (P:=prog) u 43 128 i0 _ underlying43 hi hz0 .i64 .i64 0 0 (by omega) (by omega) (by omega) (by omega)
    simpa [hz1] using h
   go_enter func39,ntmps39;go_wp2
   go_loop [4] (fun i=>i=.int .i64 0) (fun _=>0)
   case atStart=>rfl
   case round=>
    subst hrel;go_wp2;go_ret;exact⟨_,rfl,Zb_.alloc Zl_ _,Or.inl ⟨_,_,rfl,rfl⟩⟩
 . obtain⟨b,off,cap,rfl,hm,hbw,_,hc⟩:=hv.full hL
   clear hv;have HM:Hd (Xl.length<=maxLen):=hm;unfold maxLen at hm
   have hmk:∀ u:World,(Instr.makeSlice 43 (.int .i64 (Xl.length:Int)) (.int .i64 (Xl.length:Int))).run prog u=.ok (.slice (some ⟨u.heap.size,0,none⟩) Xl.length Xl.length) (u.alloc (.cells (madeCells (Value.cells (.agg #[.string ⟨#[]⟩,.string ⟨#[]⟩,.string ⟨#[]⟩,.slice none 0 0,.bool false,.slice none 0 0,.int .i64 0])) (Xl.length*7)) 128)):=fun u=>by
    have h:=run_make (P:=prog) u 43 128 i0 _ underlying43 hi hz0 .i64 .i64 Xl.length Xl.length (by omega) (by omega) (by rw [hz2];omega) (by omega);rw [hz1] at h
    simpa using h
   clear hi hz0 hz1 hz2;go_enter func39,ntmps39;go_wp2;clear hmk
   go_loopw [4] (fun i wr=>∃ k:Nat,i=.int .i64 k/\k<=Xl.length/\Zw_ w wr/\Zb0 wr w.heap.size Xl k) (fun i _=>Xl.length - (intOf i).toNat)
   case atStart=>exact⟨0,rfl,by omega,Zb_.alloc Zl_ _,Zb0.new w Xl _⟩
   case round=>
    obtain⟨k,rfl,hk,hb,hf⟩:=hrel
    by_cases hlt:k < Xl.length
    . obtain⟨hs,vv0,vv1,hc,hv0,hv1⟩:=hc k hlt
      have HV0:=Zab (hv0.below hb);have HV1:=Zab (hv1.below hb);obtain⟨a0,k0,rfl⟩:=hv0.at.form';obtain⟨a1,k1,rfl⟩:=hv1.at.form';obtain⟨c0,c1,c2,c3,c4,c5,c6⟩:=hc.below hb hbw
      have hBl:w.heap.size < wr.heap.size:=by
       obtain⟨_,hr,_⟩:=hf;exact hr.lt
      clear hc hv0 hv1;go_wp2_with fail;refine (Zso lo _ _ _ _ HV0.o HV1.o (HSM.o k hlt)).mono ?_;rintro e w1 ⟨z0,z1,rfl,hb1,hz0,hz1⟩;obtain⟨m0,n0,rfl⟩:=hz0.at.form';obtain⟨m1,n1,rfl⟩:=hz1.at.form';have hf1:=hf.below hb1;have HST:=Zab (hf1.step hlt hs (hz0.mono (by omega)) (hz1.mono (by omega)));have hB:Hd (Zw_ w w1):=hb.trans (hb1.mono hb.size);have hfr:=hf1.free;obtain⟨o0,ho0⟩:=hf1.there (k*7) (by omega);obtain⟨o1,ho1⟩:=hf1.there (k*7+1) (by omega);obtain⟨o2,ho2⟩:=hf1.there (k*7+2) (by omega);obtain⟨o3,ho3⟩:=hf1.there (k*7+3) (by omega);obtain⟨o4,ho4⟩:=hf1.there (k*7+4) (by omega);obtain⟨o5,ho5⟩:=hf1.there (k*7+5) (by omega);obtain⟨o6,ho6⟩:=hf1.there (k*7+6) (by omega);clear hf hf1 hb1 hb c0 c1 c2 c3 c4 c5 c6 hz0 HV0 hz1 HV1;go_wp2;go_roundw
      . 
       exact⟨k+1,by go_num,by omega,(((((((hB.o.setCell Zl_ _).setCell Zl_ _).setCell Zl_ _).setCell Zl_ _).setCell Zl_ _).setCell Zl_ _).setCell Zl_ _),HST.o⟩
      . simp [intOf];omega
    . go_wp2
      go_ret;exact⟨_,rfl,hb,hf.done (by omega) hL HM.o⟩
end
section
variable {L:List Int} {k:Nat}
def vAt (L:List Int) (i:Nat):Bool:=match L[i]? with
 | none=>false
 | some v=>inB 1 5 v&&(i == 0 || decide ((L[i - 1]?).getD 0 < v))
def Zpz (L:List Int):Bool:=decide (0 < L.length)&&(List.range L.length).all (vAt L)
theorem Zgi (h:0 < L.length):vAt L 0=inB 1 5 L[0]:=by unfold vAt;rw [List.getElem?_eq_getElem h];simp
theorem ZcK {j:Nat} (h:j+1 < L.length):vAt L (j+1)=(inB 1 5 L[j+1]&&decide (L[j] < L[j+1])):=by
 unfold vAt;rw [List.getElem?_eq_getElem h,Nat.add_sub_cancel,List.getElem?_eq_getElem (by omega)];simp
theorem Zjs (h:k < L.length) (hb:inB 1 5 L[k]=false):vAt L k=false:=by
 unfold vAt;rw [List.getElem?_eq_getElem h];simp [hb]
theorem Ze1 (hk:k < L.length) (h:vAt L k=false):Zpz L=false:=by
 unfold Zpz;rw [ZaZ hk h];simp
theorem Zik (hk:L.length<=k) (hall:∀ i,i < k->vAt L i=true):Zpz L=decide (0 < L.length):=by
 unfold Zpz;rw [Za1 (fun i hi=>hall i (by omega))];simp
def ZaW (r:Ru):Bool:=Zpz r.vb&&Zai r.kd&&Zai r.tm&&decide ((r.pf.size:Int)<=16)&&Zgn Zaw r.pf
end
theorem Zuw (X:World) (o:Obj):Below X.heap.size X (X.alloc o):=Zb_.alloc Zl_ _
theorem btz {a b c:World} (h:Below a.heap.size a b) (k:Below b.heap.size b c):Below a.heap.size a c:=h.trans (k.mono h.size)
theorem Zaf.formz {w:World}{v:Value}{L:List Zy_} (h:Zaf w v L):∃ a cap,v=.slice a L.length cap:=by
 rcases h with ⟨a,cap,h,rfl⟩ | ⟨b,off,cap,h,_⟩
 . exact⟨_,_,h⟩
 . exact⟨_,_,h⟩
def ZiS (Ss:List Sh) (kind nm team:Zy_) (V Ho:List Zy_) (ver:Int):Int×Int:=
 match Zcn Ss kind with
 | none=>(1,0)
 | some x=>ZaQ x.fields nm team V Ho ver
theorem ZhD {Ss:List Sh}{kind nm team:Zy_}{V Ho:List Zy_}{ver:Int}{x:Sh} (h:Zcn Ss kind=some x):ZiS Ss kind nm team V Ho ver=ZaQ x.fields nm team V Ho ver:=by unfold ZiS;rw [h]
theorem Zkw {Ss:List Sh}{kind nm team:Zy_}{V Ho:List Zy_}{ver:Int} (h:∀ x,Zcn Ss kind=some x->x.fields.length≠V.length):ZiS Ss kind nm team V Ho ver=(1,0):=by
 unfold ZiS
 cases hx:Zcn Ss kind with
 | none=>rfl
 | some x=>
  have hd:decide (V.length=x.fields.length)=false:=by simpa using fun e=>h x hx e.symm
  show ZaQ x.fields nm team V Ho ver=(1,0)
  unfold ZaQ ZlD;rw [hd];simp
section
variable (kind nm team:Zy_) (vv hv sv:Value) (en:Bool) (ver:Int) (V Ho:List Zy_) (Ss:List Sh) (w:World) (lo:Nat)
theorem Zl5 (hS:ZaI lo w sv Ss) (hV:Zaf w vv V) (hH:Zaf w hv Ho) (s2:nm.size<=maxLen) (s3:team.size<=maxLen) :
 Calls prog 126 #[sv,.agg #[.string kind,.string nm,.string team,vv,.bool en,hv,.int .i64 ver]] w
  fun e w'=>e=.returned (.tuple #[.int .i64 (ZiS Ss kind nm team V Ho ver).1,.int .i64 (ZiS Ss kind nm team V Ho ver).2])/\Zw_ w w':=by
 have HV:=Zab hV;have HH:=Zab hH;have HS:=Zab hS;obtain⟨a,cap,rfl⟩:=hV.formz;obtain⟨a',cap',rfl⟩:=hH.formz;obtain⟨a1,cap1,rfl⟩:=hS.form;clear hV hH hS;go_enter func126,ntmps126;go_wp2_with fail;generalize hW0:w.alloc _=W0;have HB0:Hd (Zw_ w W0):=by rw [<- hW0];exact Zuw _ _
 have G0:Hd (∀ i,W0.cell? ⟨w.heap.size,i,none⟩=(#[.string kind,.string nm,.string team,.slice a V.length cap,.bool en,.slice a' Ho.length cap',.int .i64 ver]:Array Value)[i]?):=fun i=>by rw [<- hW0];exact Zlc _ _ _ _ _ rfl
 have hz0:w.heap.size < W0.heap.size:=by rw [<- hW0];simp
 clear hW0;refine (Zcr _ _ _ _ _ _ _ _ V Ho Ss _ lo w HS.o HB0.o (HV.o.below HB0.o) (HH.o.below HB0.o)).mono ?_;rintro e w1 ⟨hb1,hsh⟩;have HB1:Hd (Zw_ w w1):=btz HB0.o hb1;have hz1:w.heap.size < w1.heap.size:=Zk_ hz0 hb1.size
 have g1:∀ i,w1.cell? ⟨w.heap.size,i,none⟩=(#[.string kind,.string nm,.string team,.slice a V.length cap,.bool en,.slice a' Ho.length cap',.int .i64 ver]:Array Value)[i]?:=fun i=>by rw [hb1.cell (p:=⟨w.heap.size,i,none⟩) hz0];exact G0.o i
 clear hb1 HB0 G0
 rcases hsh with ⟨x,fv,hx,hlen,rfl,hfd⟩ | ⟨hx,fa,fcap,rfl⟩
 . obtain⟨fa,fcap,rfl⟩:=hfd.form
   have HF:=Zab hfd;have HX:=Zab (ZhD (nm:=nm) (team:=team) (V:=V) (Ho:=Ho) (ver:=ver) hx);have HL:Hd (V.length=x.fields.length):=hlen.symm;have HD:Hd (decide (V.length=x.fields.length)=true):=by unfold Hd;simpa using HL.o
   clear hx hfd hlen
   cases hn:Zap nm with
   | false=>
    have HR:Hd (ZaQ x.fields nm team V Ho ver=(1,0)):=by unfold Hd ZaQ ZlD;rw [hn];simp
    go_wp2_with (first
     | (go_at_call 132;refine (Zae _ _ (by assumption)).mono ?_;rintro e w' ⟨rfl,rfl⟩)
     | (go_at_call 170;refine (ZcO _ Ho _ (HH.o.below HB1.o)).mono ?_;rintro e w2 ⟨rfl,hb2⟩;have HB2:Hd (Zw_ w w2):=btz HB1.o hb2;have g2:∀ i,w2.cell? ⟨w.heap.size,i,none⟩=(#[.string kind,.string nm,.string team,.slice a V.length cap,.bool en,.slice a' Ho.length cap',.int .i64 ver]:Array Value)[i]?:=(fun i=>by rw [hb2.cell (p:=⟨w.heap.size,i,none⟩) hz1];exact g1 i);clear hb2)
     | (go_at_call 82;refine (Zao _ _ _ _).mono ?_;rintro e w5 ⟨rfl,rfl⟩))
    go_ret2
    exact⟨by rw [HX.o,HR.o];rfl,HB1.o⟩
   | true=>
    cases ht:Zap team with
    | false=>
     have HR:Hd (ZaQ x.fields nm team V Ho ver=(1,0)):=by unfold Hd ZaQ ZlD;rw [hn,ht];simp
     go_wp2_with (first
      | (go_at_call 132;refine (Zae _ _ (by assumption)).mono ?_;rintro e w' ⟨rfl,rfl⟩)
      | (go_at_call 170;refine (ZcO _ Ho _ (HH.o.below HB1.o)).mono ?_;rintro e w2 ⟨rfl,hb2⟩;have HB2:Hd (Zw_ w w2):=btz HB1.o hb2;have g2:∀ i,w2.cell? ⟨w.heap.size,i,none⟩=(#[.string kind,.string nm,.string team,.slice a V.length cap,.bool en,.slice a' Ho.length cap',.int .i64 ver]:Array Value)[i]?:=(fun i=>by rw [hb2.cell (p:=⟨w.heap.size,i,none⟩) hz1];exact g1 i);clear hb2)
      | (go_at_call 82;refine (Zao _ _ _ _).mono ?_;rintro e w5 ⟨rfl,rfl⟩))
     go_ret2
     exact⟨by rw [HX.o,HR.o];rfl,HB1.o⟩
    | true=>
     by_cases h3:Ho.length<=3
     . have h3d:decide (Ho.length<=3)=true:=by simpa using h3
       have h3i:¬ (3 < (Ho.length:Int)):=by omega
       cases hs:Zpw Ho with
       | false=>
        have HR:Hd (ZaQ x.fields nm team V Ho ver=(1,0)):=by unfold Hd ZaQ ZlD;rw [hn,ht,h3d,hs];simp
        clear h3d
        go_wp2_with (first
         | (go_at_call 132;refine (Zae _ _ (by assumption)).mono ?_;rintro e w' ⟨rfl,rfl⟩)
         | (go_at_call 170;refine (ZcO _ Ho _ (HH.o.below HB1.o)).mono ?_;rintro e w2 ⟨rfl,hb2⟩;have HB2:Hd (Zw_ w w2):=btz HB1.o hb2;have g2:∀ i,w2.cell? ⟨w.heap.size,i,none⟩=(#[.string kind,.string nm,.string team,.slice a V.length cap,.bool en,.slice a' Ho.length cap',.int .i64 ver]:Array Value)[i]?:=(fun i=>by rw [hb2.cell (p:=⟨w.heap.size,i,none⟩) hz1];exact g1 i);clear hb2)
         | (go_at_call 82;refine (Zao _ _ _ _).mono ?_;rintro e w5 ⟨rfl,rfl⟩))
        go_ret2
        exact⟨by rw [HX.o,HR.o];rfl,HB2.o⟩
       | true=>
        cases hi:inB 0 1000000 ver with
        | false=>
         have HR:Hd (ZaQ x.fields nm team V Ho ver=(1,0)):=by unfold Hd ZaQ ZlD;rw [hn,ht,h3d,hs,hi];simp
         clear h3d
         go_wp2_with (first
          | (go_at_call 132;refine (Zae _ _ (by assumption)).mono ?_;rintro e w' ⟨rfl,rfl⟩)
          | (go_at_call 170;refine (ZcO _ Ho _ (HH.o.below HB1.o)).mono ?_;rintro e w2 ⟨rfl,hb2⟩;have HB2:Hd (Zw_ w w2):=btz HB1.o hb2;have g2:∀ i,w2.cell? ⟨w.heap.size,i,none⟩=(#[.string kind,.string nm,.string team,.slice a V.length cap,.bool en,.slice a' Ho.length cap',.int .i64 ver]:Array Value)[i]?:=(fun i=>by rw [hb2.cell (p:=⟨w.heap.size,i,none⟩) hz1];exact g1 i);clear hb2)
          | (go_at_call 82;refine (Zao _ _ _ _).mono ?_;rintro e w5 ⟨rfl,rfl⟩))
         go_ret2
         exact⟨by rw [HX.o,HR.o];rfl,HB2.o⟩
        | true=>
         have HR:Hd (ZaQ x.fields nm team V Ho ver=ff (Zbh x.fields V) 0):=by unfold Hd ZaQ ZlD;rw [hn,ht,h3d,hs,hi,HD.o];rfl
         clear h3d
         go_wp2_with (first
          | (go_at_call 132;refine (Zae _ _ (by assumption)).mono ?_;rintro e w' ⟨rfl,rfl⟩)
          | (go_at_call 170;refine (ZcO _ Ho _ (HH.o.below HB1.o)).mono ?_;rintro e w2 ⟨rfl,hb2⟩;have HB2:Hd (Zw_ w w2):=btz HB1.o hb2;have g2:∀ i,w2.cell? ⟨w.heap.size,i,none⟩=(#[.string kind,.string nm,.string team,.slice a V.length cap,.bool en,.slice a' Ho.length cap',.int .i64 ver]:Array Value)[i]?:=(fun i=>by rw [hb2.cell (p:=⟨w.heap.size,i,none⟩) hz1];exact g1 i);clear hb2)
          | (go_at_call 82;refine (Zao _ _ _ _).mono ?_;rintro e w5 ⟨rfl,rfl⟩))
         clear hn ht hs hi h3i h3 g1;have hn:=HF.o.len;unfold maxLen at hn;have hz2:w.heap.size < w5.heap.size:=by have:=HB2.o.size;have h:=World.block_lt_of_cell? w5 ⟨w.heap.size,0,none⟩ (g2 0);exact h
         have G2:=Zab g2;clear g2
         go_loopw [8] (fun i wr=>∃ k:Nat,i=.int .i64 k/\k<=x.fields.length/\Below w5.heap.size w5 wr/\∀ j (h1:j < x.fields.length) (h2:j < V.length),j < k->Zby x.fields[j] V[j]=0) (fun i _=>x.fields.length - (intOf i).toNat)
         case atStart=>exact⟨0,rfl,by omega,Below.refl _ _,fun j _ _ h=>by omega⟩
         case round=>
          obtain⟨k,rfl,hk,hb,hall⟩:=hrel;have HA:=Zab hall;have HBB:=Zab hb;have hszr:w.heap.size < wr.heap.size:=Zk_ hz2 hb.size
          have HBr:Hd (Zw_ w wr):=btz HB2.o hb
          have hO:∀ i,wr.cell? ⟨w.heap.size,i,none⟩=(#[.string kind,.string nm,.string team,.slice a V.length cap,.bool en,.slice a' Ho.length cap',.int .i64 ver]:Array Value)[i]?:=fun i=>by
           rw [hb.cell (p:=⟨w.heap.size,i,none⟩) hz2];exact G2.o i
          clear hb hall
          by_cases hlt:k < x.fields.length
          . have hlv:k < V.length:=by have:=HL.o;omega
            obtain⟨fb,foff,rfl,hfb0,hfc⟩:=HF.o.fullz (by omega);obtain⟨hsz,wv,hcell,hst⟩:=hfc k hlt;obtain⟨c0,c1,c2,c3,c4,c5,c6,c7,c8,c9,c10⟩:=hcell.below HBr.o hfb0;obtain⟨wa,wn,wcap,rfl⟩:=hst.form;obtain⟨vb,voff,rfl,hvn,hvb0,hvc⟩:=HV.o.fullz (by omega);have hvk:wr.cell? ⟨vb,voff+k,none⟩=some (.string V[k]):=by rw [HBr.o.cell (p:=⟨vb,_,none⟩) hvb0];exact (hvc k hlv).2
            have hfb:fb < wr.heap.size:=by have:=HBr.o.size;omega
            have hvb:vb < wr.heap.size:=by have:=HBr.o.size;omega
            have HZ:=Zab (hvc k hlv).1;have HST:=Zab hst;clear hcell hst hvc hfc hsz hvn hfb0 hvb0
            cases he:V[k].toList.isEmpty with
            | true=>
             cases hm:x.fields[k].mu with
             | true=>
              have HY:Hd (ff (Zbh x.fields V) 0=(2,(k:Int))):=Ze7 HL.o hlt hlv (by unfold Zby;rw [he,hm];rfl) (by decide) HA.o;rw [hm] at c7;clear HA;go_wp2
              go_ret2
              exact⟨by rw [HX.o,HR.o,HY.o];rfl,HBr.o⟩
             | false=>
              have HY:Hd (Zby x.fields[k] V[k]=0):=by unfold Hd Zby;rw [he,hm];rfl
              rw [hm] at c7;go_wp2;go_roundw
              case rel=>exact⟨k+1,by go_num,by omega,HBB.o,fun j h1 h2 hj=>by
                         by_cases e:j=k
                         . subst e;exact HY.o
                         . exact HA.o j h1 h2 (by omega)⟩
              . simp [intOf];omega
            | false=>
             go_wp2
             go_region_held3 (fun W=>(∀ i,W.cell? ⟨w.heap.size,i,none⟩=(#[.string kind,.string nm,.string team,.slice (some ⟨vb,voff,none⟩) V.length cap,.bool en,.slice a' Ho.length cap',.int .i64 ver]:Array Value)[i]?)/\W.cell? ⟨vb,voff+k,none⟩=some (.string V[k])/\W.cell? ⟨fb,foff+k*11,none⟩=some (.string x.fields[k].nm)/\W.cell? ⟨fb,foff+k*11+1,none⟩=some (.int .i64 x.fields[k].kd)/\W.cell? ⟨fb,foff+k*11+2,none⟩=some (.int .i64 x.fields[k].le)/\W.cell? ⟨fb,foff+k*11+3,none⟩=some (.int .i64 x.fields[k].mo)/\W.cell? ⟨fb,foff+k*11+4,none⟩=some (.slice wa wn wcap)/\W.cell? ⟨fb,foff+k*11+5,none⟩=some (.string x.fields[k].to)/\W.cell? ⟨fb,foff+k*11+6,none⟩=some (.int .i64 x.fields[k].ro)/\W.cell? ⟨fb,foff+k*11+7,none⟩=some (.bool x.fields[k].mu)/\W.cell? ⟨fb,foff+k*11+8,none⟩=some (.bool x.fields[k].fx)/\W.cell? ⟨fb,foff+k*11+9,none⟩=some (.string x.fields[k].df)/\W.cell? ⟨fb,foff+k*11+10,none⟩=some (.string x.fields[k].we))
              (first
                | (with_reducible exact⟨hO,hvk,c0,c1,c2,c3,c4,c5,c6,c7,c8,c9,c10⟩)
                | exact⟨fun i=>(hb4.cell (p:=⟨w.heap.size,i,none⟩) hszr).trans (hO i),(hb4.cell (p:=⟨vb,_,none⟩) hvb).trans hvk,(hb4.cell (p:=⟨fb,_,none⟩) hfb).trans c0,(hb4.cell (p:=⟨fb,_,none⟩) hfb).trans c1,(hb4.cell (p:=⟨fb,_,none⟩) hfb).trans c2,(hb4.cell (p:=⟨fb,_,none⟩) hfb).trans c3,(hb4.cell (p:=⟨fb,_,none⟩) hfb).trans c4,(hb4.cell (p:=⟨fb,_,none⟩) hfb).trans c5,(hb4.cell (p:=⟨fb,_,none⟩) hfb).trans c6,(hb4.cell (p:=⟨fb,_,none⟩) hfb).trans c7,(hb4.cell (p:=⟨fb,_,none⟩) hfb).trans c8,(hb4.cell (p:=⟨fb,_,none⟩) hfb).trans c9,(hb4.cell (p:=⟨fb,_,none⟩) hfb).trans c10⟩
                | exact⟨hO,hvk,c0,c1,c2,c3,c4,c5,c6,c7,c8,c9,c10⟩)
              (first
                | (go_at_call 171
                   refine (Zbw _ _ _ _ _ _ _ _ _ _ x.fields[k].words _ _ _ ((HST.o.below HBr.o).below (Zb_.drew)) HZ.o).mono ?_;rintro e w4 ⟨rfl,hb4'⟩;have hb4:Below wr.heap.size wr w4:=((Below.refl wr.heap.size wr).drew).trans (hb4'.mono Zl_);clear hb4'))
             have HB4:=Zab hb4;have HBw:Hd (Zw_ w w4):=btz HBr.o hb4;have HB5:Hd (Below w5.heap.size w5 w4):=btz HBB.o hb4;clear hb4
             cases hf:ZaM x.fields[k].kd x.fields[k].le x.fields[k].mo x.fields[k].words V[k] with
             | true=>
              have HY:Hd (Zby x.fields[k] V[k]=0):=by unfold Hd Zby;rw [he,hf];rfl
              go_wp2;go_roundw
              case rel=>exact⟨k+1,by go_num,by omega,HB5.o,fun j h1 h2 hj=>by
                         by_cases e:j=k
                         . subst e;exact HY.o
                         . exact HA.o j h1 h2 (by omega)⟩
              . simp [intOf];omega
             | false=>
              have HY:Hd (ff (Zbh x.fields V) 0=(3,(k:Int))):=Ze7 HL.o hlt hlv (by unfold Zby;rw [he,hf];rfl) (by decide) HA.o;clear HA;go_wp2
              go_ret2
              exact⟨by rw [HX.o,HR.o,HY.o];rfl,HBw.o⟩
          . have HY:Hd (ff (Zbh x.fields V) 0=(0,0)):=ZhL HL.o (fun j h1 h2 _=>HA.o j h1 h2 (by omega))
            clear HA;go_wp2
            go_ret2
            exact⟨by rw [HX.o,HR.o,HY.o];rfl,HBr.o⟩
     . have h3d:decide (Ho.length<=3)=false:=by simpa using h3
       have h3i:3 < (Ho.length:Int):=by omega
       have HR:Hd (ZaQ x.fields nm team V Ho ver=(1,0)):=by unfold Hd ZaQ ZlD;rw [hn,ht,h3d];simp
       clear h3d
       go_wp2_with (first
        | (go_at_call 132;refine (Zae _ _ (by assumption)).mono ?_;rintro e w' ⟨rfl,rfl⟩)
        | (go_at_call 170;refine (ZcO _ Ho _ (HH.o.below HB1.o)).mono ?_;rintro e w2 ⟨rfl,hb2⟩;have HB2:Hd (Zw_ w w2):=btz HB1.o hb2;have g2:∀ i,w2.cell? ⟨w.heap.size,i,none⟩=(#[.string kind,.string nm,.string team,.slice a V.length cap,.bool en,.slice a' Ho.length cap',.int .i64 ver]:Array Value)[i]?:=(fun i=>by rw [hb2.cell (p:=⟨w.heap.size,i,none⟩) hz1];exact g1 i);clear hb2)
        | (go_at_call 82;refine (Zao _ _ _ _).mono ?_;rintro e w5 ⟨rfl,rfl⟩))
       go_ret2
       exact⟨by rw [HX.o,HR.o];rfl,HB1.o⟩
 . have HX:=Zab (Zkw (nm:=nm) (team:=team) (Ho:=Ho) (ver:=ver) hx)
   clear hx;go_wp2
   go_ret2
   exact⟨by rw [HX.o];rfl,HB1.o⟩
end
end Go.Proofs.YtmappejlmapboaaGreat
