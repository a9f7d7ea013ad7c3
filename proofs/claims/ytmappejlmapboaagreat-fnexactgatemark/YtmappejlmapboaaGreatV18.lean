import Derived.Test.YtmappejlmapboaaGreatV16
import Derived.Test.YtmappejlmapboaaGreatV17
set_option maxHeartbeats 16000000
set_option maxRecDepth 100000
open Go.Proofs.Tryz
namespace Go.Proofs.YtmappejlmapboaaGreat
open Go.RowKit Go.Deep
section
variable {w w' wr w1:World} {b o lo B k:Nat} {vv0 vv1 v:Value}
structure Ob where
 kd:Zy_
 nm:Zy_
 tm:Zy_
 vs:List Zy_
 en:Bool
 hs:List Zy_
 ver:Int
variable {x:Ob} {Xl:List Ob}
structure ZcO (x:Ob):Prop where
 s0:x.kd.size<=maxLen
 s1:x.nm.size<=maxLen
 s2:x.tm.size<=maxLen
def ZdW (x:Ob):Prop:=x.vs.length<=1048576/\x.hs.length<=1048576
structure Zcb (w:World) (b o:Nat) (x:Ob) (vv0 vv1:Value):Prop where
 c0:w.cell? ⟨b,o,none⟩=some (.string x.kd)
 c1:w.cell? ⟨b,o+1,none⟩=some (.string x.nm)
 c2:w.cell? ⟨b,o+2,none⟩=some (.string x.tm)
 c3:w.cell? ⟨b,o+3,none⟩=some vv0
 c4:w.cell? ⟨b,o+4,none⟩=some (.bool x.en)
 c5:w.cell? ⟨b,o+5,none⟩=some vv1
 c6:w.cell? ⟨b,o+6,none⟩=some (.int .i64 x.ver)
theorem Zcb.below (h:Zcb w b o x vv0 vv1) {m:Nat} (hb:Below m w w') (hlt:b < m):Zcb w' b o x vv0 vv1:=by
 have e:∀ o,w'.cell? ⟨b,o,none⟩=w.cell? ⟨b,o,none⟩:=fun o=>hb.cell (p:=⟨b,o,none⟩) hlt
 exact⟨by rw [e];exact h.c0,by rw [e];exact h.c1,by rw [e];exact h.c2,by rw [e];exact h.c3,by rw [e];exact h.c4,by rw [e];exact h.c5,by rw [e];exact h.c6⟩
theorem Zcb.set (h:Zcb w b o x vv0 vv1) {p:Addr} (hp:b≠p.block) (u:Value):Zcb (w.setCell p u) b o x vv0 vv1:=by
 have e:∀ o,(w.setCell p u).cell? ⟨b,o,none⟩=w.cell? ⟨b,o,none⟩:=fun o=>Zar _ _ _ _ hp
 exact⟨by rw [e];exact h.c0,by rw [e];exact h.c1,by rw [e];exact h.c2,by rw [e];exact h.c3,by rw [e];exact h.c4,by rw [e];exact h.c5,by rw [e];exact h.c6⟩
def Zbg (lo:Nat) (w:World) (v:Value) (Xl:List Ob):Prop:=
 (∃ (a:Option Addr) (cap:Nat),v=.slice a 0 cap/\Xl=[])\/
 ∃ (b off cap:Nat),v=.slice (some ⟨b,off,none⟩) Xl.length cap/\Xl≠[]/\Xl.length<=maxLen/\b < w.heap.size/\lo<=b/\Xl.length<=cap/\
  ∀ i (h:i < Xl.length),ZcO Xl[i]/\∃ vv0 vv1,Zcb w b (off+i*7) Xl[i] vv0 vv1/\Zaq lo w vv0 Xl[i].vs/\Zaq lo w vv1 Xl[i].hs
theorem Zbg.below (h:Zbg lo w v Xl) (hb:Zw_ w w'):Zbg lo w' v Xl:=by
 rcases h with h | ⟨b,off,cap,h1,h2,h3,h4,h5,h6,h7⟩
 . exact Or.inl h
 . refine Or.inr ⟨b,off,cap,h1,h2,h3,Zk_ h4 hb.size,h5,h6,fun i hi=>?_⟩
   obtain⟨hs,vv0,vv1,hc,hv0,hv1⟩:=h7 i hi;exact⟨hs,vv0,vv1,hc.below hb h4,hv0.below hb,hv1.below hb⟩
theorem Zbg.mono {lo':Nat} (h:Zbg lo w v Xl) (hl:lo'<=lo):Zbg lo' w v Xl:=by
 rcases h with h | ⟨b,off,cap,h1,h2,h3,h4,h5,h6,h7⟩
 . exact Or.inl h
 . refine Or.inr ⟨b,off,cap,h1,h2,h3,h4,Nat.le_trans hl h5,h6,fun i hi=>?_⟩
   obtain⟨hs,vv0,vv1,hc,hv0,hv1⟩:=h7 i hi;exact⟨hs,vv0,vv1,hc,hv0.mono hl,hv1.mono hl⟩
theorem Zbg.set (h:Zbg lo w v Xl) {p:Addr} (hp:p.block < lo) (u:Value):Zbg lo (w.setCell p u) v Xl:=by
 rcases h with h | ⟨b,off,cap,h1,h2,h3,h4,h5,h6,h7⟩
 . exact Or.inl h
 . refine Or.inr ⟨b,off,cap,h1,h2,h3,by simpa [World.setCell] using h4,h5,h6,fun i hi=>?_⟩
   obtain⟨hs,vv0,vv1,hc,hv0,hv1⟩:=h7 i hi;exact⟨hs,vv0,vv1,hc.set (by omega) u,hv0.setCell hp u,hv1.setCell hp u⟩
theorem Zbg.form (h:Zbg lo w v Xl):∃ a cap,v=.slice a Xl.length cap:=by
 rcases h with ⟨a,cap,h,rfl⟩ | ⟨b,off,cap,h,_⟩
 . exact⟨a,cap,h⟩
 . exact⟨_,cap,h⟩
theorem Zbg.max (h:Zbg lo w v Xl):Xl.length<=maxLen:=by
 rcases h with ⟨a,cap,h,rfl⟩ | ⟨b,off,cap,h,_,h3,_⟩
 . exact Nat.zero_le _
 . exact h3
theorem Zbg.full (h:Zbg lo w v Xl) (hne:Xl≠[]):∃ (b off cap:Nat),v=.slice (some ⟨b,off,none⟩) Xl.length cap/\Xl.length<=maxLen/\b < w.heap.size/\Xl.length<=cap/\
 ∀ i (h:i < Xl.length),ZcO Xl[i]/\∃ vv0 vv1,Zcb w b (off+i*7) Xl[i] vv0 vv1/\Zaq lo w vv0 Xl[i].vs/\Zaq lo w vv1 Xl[i].hs:=by
 rcases h with ⟨_,_,_,h⟩ | ⟨b,off,cap,h1,_,h3,h4,_,h6,h7⟩
 . exact absurd h hne
 . exact⟨b,off,cap,h1,h3,h4,h6,h7⟩
theorem Zbg.full' {a:Option Addr}{n cap:Nat} (h:Zbg lo w (.slice a n cap) Xl) (hL:0 < Xl.length) :
 ∃ b off,a=some ⟨b,off,none⟩/\b < w.heap.size/\lo<=b/\∀ i (h:i < Xl.length),ZcO Xl[i]/\∃ vv0 vv1,Zcb w b (off+i*7) Xl[i] vv0 vv1/\Zaq lo w vv0 Xl[i].vs/\Zaq lo w vv1 Xl[i].hs:=by
 rcases h with ⟨a',cap',h,rfl⟩ | ⟨b',off',cap',h1,h2,h3,h4,h5,h6,h7⟩
 . simp at hL
 . injection h1 with e1 e2 e3
   exact⟨b',off',e1,h4,h5,h7⟩
def Zbv (Xl:List Ob):Prop:=Xl.length<=1048576/\∀ i (h:i < Xl.length),ZdW Xl[i]
def Zr8 (Xl:List Ob) (left r:Int):Prop:= -1<=r/\r<=left/\(0<=r->Zbv Xl)
theorem Zp0 (lo:Nat) (x:Ob) (vv0 vv1:Value) (left:Int) (w:World) (h0:0<=left) (h1:left<=1048576) (hv0:Zaq lo w vv0 x.vs) (hv1:Zaq lo w vv1 x.hs) (hz:ZcO x) :
 Calls prog 77 #[.agg #[.string x.kd,.string x.nm,.string x.tm,vv0,.bool x.en,vv1,.int .i64 x.ver],.int .i64 left] w
  fun e w'=>∃ r:Int,e=.returned (.int .i64 r)/\Zw_ w w'/\-1<=r/\r<=left/\(0<=r->ZdW x):=by
 refine (Zov x.kd x.nm x.tm vv0 vv1 x.en x.ver x.vs x.hs w left hv0.at hv1.at h0 h1 hz.s0 hz.s1 hz.s2).mono ?_;rintro e w' ⟨r,he,hb,q0,q1,q2⟩;exact⟨r,he,hb,q0,q1,fun h=>⟨by have:=(q2 h).1;omega,by have:=(q2 h).2;omega⟩⟩
theorem Zp4 (lo:Nat) (x:Ob) (vv0 vv1:Value) (w:World) (hv0:Zaq lo w vv0 x.vs) (hv1:Zaq lo w vv1 x.hs) (hn:ZdW x) :
 Calls prog 89 #[.agg #[.string x.kd,.string x.nm,.string x.tm,vv0,.bool x.en,vv1,.int .i64 x.ver]] w
  fun e w'=>∃ z0 z1,e=.returned (.agg #[.string x.kd,.string x.nm,.string x.tm,z0,.bool x.en,z1,.int .i64 x.ver])/\Zw_ w w'/\Zaq w.heap.size w' z0 x.vs/\Zaq w.heap.size w' z1 x.hs:=
 ZoJ x.kd x.nm x.tm vv0 vv1 x.en x.ver x.vs x.hs w hv0.at hv1.at hn.1 hn.2
theorem Znz (lo lo':Nat) (x:Ob) (vv0 vv1 vv0' vv1':Value) (w:World) (hv0:Zaq lo w vv0 x.vs) (hv1:Zaq lo w vv1 x.hs) (hw0:Zaq lo' w vv0' x.vs) (hw1:Zaq lo' w vv1' x.hs) :
 Calls prog 100 #[.agg #[.string x.kd,.string x.nm,.string x.tm,vv0,.bool x.en,vv1,.int .i64 x.ver],.agg #[.string x.kd,.string x.nm,.string x.tm,vv0',.bool x.en,vv1',.int .i64 x.ver]] w fun e w'=>e=.returned (.bool true)/\Zw_ w w':=
 ZlK x.kd x.nm x.tm vv0 vv1 x.en x.ver x.vs x.hs w vv0' vv1' hv0.at hv1.at hw0.at hw1.at
theorem Zow (lo:Nat) (v:Value) (Xl:List Ob) (left:Int) (w:World) (h0:0<=left) (h1:left<=1048576) (hv:Zbg lo w v Xl) :
 Calls prog 30 #[v,.int .i64 left] w fun e w'=>∃ r:Int,e=.returned (.int .i64 r)/\Zw_ w w'/\Zr8 Xl left r:=by
 rcases hv with ⟨a,cap,rfl,rfl⟩ | ⟨b,off,cap,rfl,hne,hm,hbw,_,_,hc⟩
 . go_enter func30,ntmps30
   go_wp2
   go_loop [1,5] (fun l i=>∃ r:Int,l=.int .i64 r/\0<=r/\r<=left/\i=.int .i64 0) (fun _ _=>0)
   case atStart=>exact⟨_,rfl,by omega,by omega,rfl⟩
   case round=>
    obtain⟨r,rfl,hr0,hr1,rfl⟩:=hrel;go_wp2;go_ret;exact⟨r,rfl,Below.refl _ _,by omega,by omega,fun _=>⟨by simp,fun i h=>by simp at h⟩⟩
 . unfold maxLen at hm
   by_cases hle:(Xl.length:Int)<=left
   . go_enter func30,ntmps30
     go_wp2
     go_loopw [1,5] (fun l i wr=>∃ (r:Int) (k:Nat),l=.int .i64 r/\0<=r/\r<=left/\i=.int .i64 k/\k<=Xl.length/\Zw_ w wr/\∀ j (hj:j < Xl.length),j < k->ZdW Xl[j]) (fun _ i _=>Xl.length - (intOf i).toNat)
     case atStart=>exact⟨_,0,rfl,by omega,by omega,rfl,by omega,Below.refl _ _,fun j _ h=>by omega⟩
     case round=>
      obtain⟨r,k,rfl,hr0,hr1,rfl,hk,hb,hall⟩:=hrel;have HA:=Zab hall;clear hall
      by_cases hlt:k < Xl.length
      . obtain⟨hs,vv0,vv1,hc,hv0,hv1⟩:=hc k hlt
        have HV0:=Zab (hv0.below hb);have HV1:=Zab (hv1.below hb);obtain⟨a0,k0,rfl⟩:=hv0.at.form';obtain⟨a1,k1,rfl⟩:=hv1.at.form';obtain⟨c0,c1,c2,c3,c4,c5,c6⟩:=hc.below hb hbw;clear hc hv0 hv1;go_wp2_with fail;refine (Zp0 lo _ _ _ _ _ hr0 (by omega) HV0.o HV1.o hs).mono ?_;rintro e w1 ⟨r1,rfl,hb1,q0,q1,q2⟩;have HQ2:=Zab q2;have hB:Hd (Zw_ w w1):=hb.trans (hb1.mono hb.size);clear hb1 c0 c1 c2 c3 c4 c5 c6 hb q2 HV0 HV1
        by_cases hneg:r1 < 0
        . go_wp2
          go_ret;exact⟨-1,rfl,hB.o,by omega,by omega,fun h=>by omega⟩
        . have HL:Hd (ZdW Xl[k]):=HQ2.o (by omega)
          clear HQ2;go_wp2;go_roundw
          case rel=>exact⟨_,k+1,rfl,by omega,by omega,by go_num,by omega,hB.o,fun j hj h=>by
                     by_cases e:j=k
                     . subst e;exact HL.o
                     . exact HA.o j hj (by omega)⟩
          . simp [intOf];omega
      . go_wp2
        go_ret;exact⟨r,rfl,hb,by omega,by omega,fun _=>⟨by omega,fun j hj=>HA.o j hj (by omega)⟩⟩
   . go_enter func30,ntmps30
     go_wp2;go_ret;exact⟨-1,rfl,Below.refl _ _,by omega,by omega,fun h=>by omega⟩
theorem ZlL (lo lo':Nat) (v v':Value) (Xl:List Ob) (w:World) (hv:Zbg lo w v Xl) (hv':Zbg lo' w v' Xl) :
 Calls prog 48 #[v,v'] w fun e w'=>e=.returned (.bool true)/\Zw_ w w':=by
 by_cases hL:Xl=[]
 . subst hL
   obtain⟨a,cap,rfl⟩:=hv.form;obtain⟨a',cap',rfl⟩:=hv'.form;clear hv hv';go_enter func48,ntmps48;go_wp2
   go_loop [5] (fun i=>i=.int .i64 0) (fun _=>0)
   case atStart=>rfl
   case round=>
    subst hrel;go_wp2;go_ret;exact⟨rfl,Below.refl _ _⟩
 . obtain⟨b,off,cap,rfl,hm,hbw,_,hc⟩:=hv.full hL
   obtain⟨b',off',cap',rfl,_,hbw',_,hc'⟩:=hv'.full hL;clear hv hv';unfold maxLen at hm;go_enter func48,ntmps48;go_wp2
   go_loopw [5] (fun i wr=>∃ k:Nat,i=.int .i64 k/\k<=Xl.length/\Zw_ w wr) (fun i _=>Xl.length - (intOf i).toNat)
   case atStart=>exact⟨0,rfl,by omega,Below.refl _ _⟩
   case round=>
    obtain⟨k,rfl,hk,hb⟩:=hrel
    by_cases hlt:k < Xl.length
    . obtain⟨hs,vv0,vv1,hc,hv0,hv1⟩:=hc k hlt
      obtain⟨ht,vv0',vv1',hd,hw0,hw1⟩:=hc' k hlt;have HV0:=Zab (hv0.below hb);have HW0:=Zab (hw0.below hb);have HV1:=Zab (hv1.below hb);have HW1:=Zab (hw1.below hb);obtain⟨a0,k0,rfl⟩:=hv0.at.form';obtain⟨a1,k1,rfl⟩:=hv1.at.form';obtain⟨e0,g0,rfl⟩:=hw0.at.form';obtain⟨e1,g1,rfl⟩:=hw1.at.form';obtain⟨c0,c1,c2,c3,c4,c5,c6⟩:=hc.below hb hbw;obtain⟨d0,d1,d2,d3,d4,d5,d6⟩:=hd.below hb hbw';clear hc hd hv0 hv1 hw0 hw1 hs ht;have HB:=Zab hb;clear hb;go_wp2
      go_region_with (go_at_call 100;refine (Znz lo lo' _ _ _ _ _ _ (HV0.o.below (Zb_.drew)) (HV1.o.below (Zb_.drew)) (HW0.o.below (Zb_.drew)) (HW1.o.below (Zb_.drew))).mono ?_;rintro e w1 ⟨rfl,hb1⟩;have hB:Hd (Zw_ w w1):=(HB.o.drew).trans (hb1.mono HB.o.size);clear hb1)
      all_goals go_wp2
      all_goals go_roundw
      all_goals first
       | (case rel=>exact⟨k+1,by go_num,by omega,hB.o⟩)
       | (case measure=>simp [intOf];omega)
    . go_wp2
      go_ret;exact⟨rfl,hb⟩
theorem Tryz.info128:(prog.info? 128).map (fun i=>(i.zero,i.size,i.bytes))=some (some (.agg #[.string ⟨#[]⟩,.string ⟨#[]⟩,.string ⟨#[]⟩,.slice none 0 0,.bool false,.slice none 0 0,.int .i64 0]),7,112):=by kernel_rfl
def ZbN (wr:World) (B:Nat) (Xl:List Ob) (k:Nat):Prop:=
 ∃ f,wr.rowIs B 128 (Xl.length*7) f/\∀ i (h:i < Xl.length),i < k->ZcO Xl[i]/\∃ vv0 vv1,f (i*7)=.string Xl[i].kd/\f (i*7+1)=.string Xl[i].nm/\f (i*7+2)=.string Xl[i].tm/\f (i*7+3)=vv0/\f (i*7+4)=.bool Xl[i].en/\f (i*7+5)=vv1/\f (i*7+6)=.int .i64 Xl[i].ver/\Zaq (B+1) wr vv0 Xl[i].vs/\Zaq (B+1) wr vv1 Xl[i].hs
theorem ZbN.below (h:ZbN wr B Xl k) (hb:Below wr.heap.size wr w1):ZbN w1 B Xl k:=by
 obtain⟨f,hr,hall⟩:=h;refine⟨f,hr.of_block (hb.block B hr.lt),fun i hi hik=>?_⟩;obtain⟨hz,vv0,vv1,h0,h1,h2,h3,h4,h5,h6,hv0,hv1⟩:=hall i hi hik;exact⟨hz,vv0,vv1,h0,h1,h2,h3,h4,h5,h6,hv0.below hb,hv1.below hb⟩
theorem ZbN.free (h:ZbN wr B Xl k) (i:Nat):wr.frozen? ⟨B,i,none⟩=false:=by
 obtain⟨f,hr,_⟩:=h;exact hr.frozen i
theorem ZbN.there (h:ZbN wr B Xl k) (i:Nat) (hi:i < Xl.length*7):∃ v,wr.cell? ⟨B,i,none⟩=some v:=by
 obtain⟨f,hr,_⟩:=h;exact⟨_,hr.cell hi⟩
theorem ZbN.step (h:ZbN w1 B Xl k) (hk:k < Xl.length) (hz:ZcO Xl[k]) (hv0:Zaq (B+1) w1 vv0 Xl[k].vs) (hv1:Zaq (B+1) w1 vv1 Xl[k].hs) :
 ZbN (((((((w1.setCell ⟨B,k*7,none⟩ (.string Xl[k].kd)).setCell ⟨B,k*7+1,none⟩ (.string Xl[k].nm)).setCell ⟨B,k*7+2,none⟩ (.string Xl[k].tm)).setCell ⟨B,k*7+3,none⟩ vv0).setCell ⟨B,k*7+4,none⟩ (.bool Xl[k].en)).setCell ⟨B,k*7+5,none⟩ vv1).setCell ⟨B,k*7+6,none⟩ (.int .i64 Xl[k].ver)) B Xl (k+1):=by
 obtain⟨f,hr,hall⟩:=h;refine⟨_,(((((((hr.set _ _).set _ _).set _ _).set _ _).set _ _).set _ _).set _ _),fun i hi hik=>?_⟩
 by_cases e:i=k
 . subst e
   refine⟨hz,vv0,vv1,by simp,by simp,by simp,by simp,by simp,by simp,by simp,?_,?_⟩
   . repeat (refine Zaq.setCell ?_ (by simp only [];omega) _)
     exact hv0
   . repeat (refine Zaq.setCell ?_ (by simp only [];omega) _)
     exact hv1
 . obtain⟨hz',vv0',vv1',h0,h1,h2,h3,h4,h5,h6,hv0',hv1'⟩:=hall i hi (by omega)
   refine⟨hz',vv0',vv1',?_,?_,?_,?_,?_,?_,?_,?_,?_⟩
   . rw [if_neg (by omega),if_neg (by omega),if_neg (by omega),if_neg (by omega),if_neg (by omega),if_neg (by omega),if_neg (by omega)];exact h0
   . rw [if_neg (by omega),if_neg (by omega),if_neg (by omega),if_neg (by omega),if_neg (by omega),if_neg (by omega),if_neg (by omega)];exact h1
   . rw [if_neg (by omega),if_neg (by omega),if_neg (by omega),if_neg (by omega),if_neg (by omega),if_neg (by omega),if_neg (by omega)];exact h2
   . rw [if_neg (by omega),if_neg (by omega),if_neg (by omega),if_neg (by omega),if_neg (by omega),if_neg (by omega),if_neg (by omega)];exact h3
   . rw [if_neg (by omega),if_neg (by omega),if_neg (by omega),if_neg (by omega),if_neg (by omega),if_neg (by omega),if_neg (by omega)];exact h4
   . rw [if_neg (by omega),if_neg (by omega),if_neg (by omega),if_neg (by omega),if_neg (by omega),if_neg (by omega),if_neg (by omega)];exact h5
   . rw [if_neg (by omega),if_neg (by omega),if_neg (by omega),if_neg (by omega),if_neg (by omega),if_neg (by omega),if_neg (by omega)];exact h6
   . repeat (refine Zaq.setCell ?_ (by simp only [];omega) _)
     exact hv0'
   . repeat (refine Zaq.setCell ?_ (by simp only [];omega) _)
     exact hv1'
theorem ZbN.done (h:ZbN wr B Xl k) (hk:Xl.length<=k) (hne:Xl≠[]) (hm:Xl.length<=maxLen):Zbg B wr (.slice (some ⟨B,0,none⟩) Xl.length Xl.length) Xl:=by
 obtain⟨f,hr,hall⟩:=h;refine Or.inr ⟨B,0,Xl.length,rfl,hne,hm,hr.lt,Nat.le_refl _,Nat.le_refl _,fun i hi=>?_⟩;obtain⟨hz,vv0,vv1,h0,h1,h2,h3,h4,h5,h6,hv0,hv1⟩:=hall i hi (by omega);rw [Nat.zero_add];exact⟨hz,vv0,vv1,⟨by rw [hr.cell (by omega),h0],by rw [hr.cell (by omega),h1],by rw [hr.cell (by omega),h2],by rw [hr.cell (by omega),h3],by rw [hr.cell (by omega),h4],by rw [hr.cell (by omega),h5],by rw [hr.cell (by omega),h6]⟩,hv0.mono (by omega),hv1.mono (by omega)⟩
theorem ZbN.new (w:World) (Xl:List Ob) (z:Array Value):ZbN (w.alloc (.cells (madeCells z (Xl.length*7)) 128)) w.heap.size Xl 0:=by
 refine⟨fun i=>(madeCells z (Xl.length*7)).getD i default,?_,fun i _ h=>by omega⟩;have:=World.rowIs_alloc w (madeCells z (Xl.length*7)) 128 (fun i=>(madeCells z (Xl.length*7)).getD i default) (fun i hi=>by simp [Array.getD,hi])
 rwa [size_madeCells] at this
theorem ZoK (lo:Nat) (v:Value) (Xl:List Ob) (w:World) (hv:Zbg lo w v Xl) (hn:Zbv Xl) :
 Calls prog 39 #[v] w fun e w'=>∃ v',e=.returned v'/\Zw_ w w'/\Zbg w.heap.size w' v' Xl:=by
 obtain⟨i0,hi,hz0,hz1,hz2⟩:=info_parts Tryz.info128;have HSM:=Zab hn.2;have hn1:=hn.1;clear hn
 by_cases hL:Xl=[]
 . subst hL
   obtain⟨a,cap,rfl⟩:=hv.form;clear hv
   have hmk:∀ u:World,(Instr.makeSlice 43 (.int .i64 0) (.int .i64 0)).run prog u=.ok (.slice (some ⟨u.heap.size,0,none⟩) 0 0) (u.alloc (.cells (madeCells (Value.cells (.agg #[.string ⟨#[]⟩,.string ⟨#[]⟩,.string ⟨#[]⟩,.slice none 0 0,.bool false,.slice none 0 0,.int .i64 0])) 0) 128)):=fun u=>by
    have h:=run_make (P:=prog) u 43 128 i0 _ underlying43 hi hz0 .i64 .i64 0 0 (by omega) (by omega) (by omega) (by omega)
    simpa [hz1] using h
   go_enter func39,ntmps39;go_wp2
   go_loop [4] (fun i=>i=.int .i64 0) (fun _=>0)
   case atStart=>rfl
   case round=>
    subst hrel;go_wp2;go_ret;exact⟨_,rfl,Zb_.alloc Zl_ _,Or.inl ⟨_,_,rfl,rfl⟩⟩
 . obtain⟨b,off,cap,rfl,hm,hbw,_,hc⟩:=hv.full hL
   clear hv;have HM:Hd (Xl.length<=maxLen):=hm;unfold maxLen at hm
   have hmk:∀ u:World,(Instr.makeSlice 43 (.int .i64 (Xl.length:Int)) (.int .i64 (Xl.length:Int))).run prog u=.ok (.slice (some ⟨u.heap.size,0,none⟩) Xl.length Xl.length) (u.alloc (.cells (madeCells (Value.cells (.agg #[.string ⟨#[]⟩,.string ⟨#[]⟩,.string ⟨#[]⟩,.slice none 0 0,.bool false,.slice none 0 0,.int .i64 0])) (Xl.length*7)) 128)):=fun u=>by
    have h:=run_make (P:=prog) u 43 128 i0 _ underlying43 hi hz0 .i64 .i64 Xl.length Xl.length (by omega) (by omega) (by rw [hz2];omega) (by omega);rw [hz1] at h
    simpa using h
   clear hi hz0 hz1 hz2;go_enter func39,ntmps39;go_wp2;clear hmk
   go_loopw [4] (fun i wr=>∃ k:Nat,i=.int .i64 k/\k<=Xl.length/\Zw_ w wr/\ZbN wr w.heap.size Xl k) (fun i _=>Xl.length - (intOf i).toNat)
   case atStart=>exact⟨0,rfl,by omega,Zb_.alloc Zl_ _,ZbN.new w Xl _⟩
   case round=>
    obtain⟨k,rfl,hk,hb,hf⟩:=hrel
    by_cases hlt:k < Xl.length
    . obtain⟨hs,vv0,vv1,hc,hv0,hv1⟩:=hc k hlt
      have HV0:=Zab (hv0.below hb);have HV1:=Zab (hv1.below hb);obtain⟨a0,k0,rfl⟩:=hv0.at.form';obtain⟨a1,k1,rfl⟩:=hv1.at.form';obtain⟨c0,c1,c2,c3,c4,c5,c6⟩:=hc.below hb hbw
      have hBl:w.heap.size < wr.heap.size:=by
       obtain⟨_,hr,_⟩:=hf;exact hr.lt
      clear hc hv0 hv1;go_wp2_with fail;refine (Zp4 lo _ _ _ _ HV0.o HV1.o (HSM.o k hlt)).mono ?_;rintro e w1 ⟨z0,z1,rfl,hb1,hz0,hz1⟩;obtain⟨m0,n0,rfl⟩:=hz0.at.form';obtain⟨m1,n1,rfl⟩:=hz1.at.form';have hf1:=hf.below hb1;have HST:=Zab (hf1.step hlt hs (hz0.mono (by omega)) (hz1.mono (by omega)));have hB:Hd (Zw_ w w1):=hb.trans (hb1.mono hb.size);have hfr:=hf1.free;obtain⟨o0,ho0⟩:=hf1.there (k*7) (by omega);obtain⟨o1,ho1⟩:=hf1.there (k*7+1) (by omega);obtain⟨o2,ho2⟩:=hf1.there (k*7+2) (by omega);obtain⟨o3,ho3⟩:=hf1.there (k*7+3) (by omega);obtain⟨o4,ho4⟩:=hf1.there (k*7+4) (by omega);obtain⟨o5,ho5⟩:=hf1.there (k*7+5) (by omega);obtain⟨o6,ho6⟩:=hf1.there (k*7+6) (by omega);clear hf hf1 hb1 hb c0 c1 c2 c3 c4 c5 c6 hz0 HV0 hz1 HV1;go_wp2;go_roundw
      . 
       exact⟨k+1,by go_num,by omega,(((((((hB.o.setCell Zl_ _).setCell Zl_ _).setCell Zl_ _).setCell Zl_ _).setCell Zl_ _).setCell Zl_ _).setCell Zl_ _),HST.o⟩
      . simp [intOf];omega
    . go_wp2
      go_ret;exact⟨_,rfl,hb,hf.done (by omega) hL HM.o⟩
end
structure In (C:World->Prop) where
 w:World
 h:C w
theorem ZaW {P:Program}{id:Nat}{Q:Exit->Act->World->Prop}{a:Act}{w:World}{l:List Oper} (C:World->Prop) (hm:P.follows .mixedOrders=true) (hB:Region.lexB .any l.toArray=true) (hC:C w.drew)
 (h:wpQuiet P l.toArray (fun w'=>∃ X:In C,w'=X.w) (fun a'=>∀ w',(∃ X:In C,w'=X.w)->Q .normal a' w') l a):(Code.region id l.toArray true).wp P Q a w:=
 wp_region_quiet (C:=fun w'=>∃ X:In C,w'=X.w) hm hB ⟨⟨_,hC⟩,rfl⟩ (by simpa using h)
theorem ZgP {C:World->Prop} (X:In C):(∃ Y:In C,X.w=Y.w)=True:=eq_true ⟨X,rfl⟩
section
variable {b n lo hi lo' hi':Nat} {v:Value} {w w':World} {L:List Int}
structure ZbI (b o n lo hi:Nat) (w w':World):Prop where
 os:w'.os=w.os
 tape:w'.tape=w.tape
 output:w'.output=w.output
 size:w.heap.size<=w'.heap.size
 block:∀ k,k < w.heap.size->k≠b->(k < lo\/hi<=k)->w'.heap[k]?=w.heap[k]?
 cell:∀ i,(i < o\/o+n<=i)->w'.cell? ⟨b,i,none⟩=w.cell? ⟨b,i,none⟩
 frz:∀ i,w'.frozen? ⟨b,i,none⟩=w.frozen? ⟨b,i,none⟩
theorem ZbI.refl (b o n lo hi:Nat) (w:World):ZbI b o n lo hi w w:=⟨rfl,rfl,rfl,Nat.le_refl _,fun _ _ _ _=>rfl,fun _ _=>rfl,fun _=>rfl⟩
theorem ZbI.trans {o:Nat}{u v:World} (h:ZbI b o n lo hi u v) (k:ZbI b o n lo hi v w):ZbI b o n lo hi u w:=
 ⟨k.os.trans h.os,k.tape.trans h.tape,k.output.trans h.output,Nat.le_trans h.size k.size,fun i hi' hb ho=>(k.block i (Zk_ hi' h.size) hb ho).trans (h.block i hi' hb ho),fun i hi'=>(k.cell i hi').trans (h.cell i hi'),fun i=>(k.frz i).trans (h.frz i)⟩
theorem ZbI.below {o:Nat} (h:Zw_ w w') (hb:b < w.heap.size):ZbI b o n lo hi w w':=
 ⟨h.os,h.tape,h.output,h.size,fun k hk _ _=>h.block k hk,fun i _=>h.cell (p:=⟨b,i,none⟩) hb,fun i=>h.frozen (p:=⟨b,i,none⟩) hb⟩
theorem ZbI.touch {o:Nat} (h:Zag lo' hi' w w') (hb:b < w.heap.size) (h1:lo<=lo') (h2:hi'<=hi) (hx:b < lo'\/hi'<=b):ZbI b o n lo hi w w':=
 ⟨h.os,h.tape,h.output,h.size,fun k hk _ ho=>h.block k hk (by omega),fun i _=>h.cell (p:=⟨b,i,none⟩) hb hx,fun i=>h.frozen (p:=⟨b,i,none⟩) hb hx⟩
theorem ZbI.set (b o n lo hi:Nat) (w:World) (i:Nat) (u:Value) (h1:o<=i) (h2:i < o+n):ZbI b o n lo hi w (w.setCell ⟨b,i,none⟩ u):=
 ⟨rfl,rfl,rfl,by simp [World.setCell],fun k _ hb _=>Below.heap_setCell _ _ _ _ hb,fun j hj=>by apply World.cell?_setCell_other;simp only [ne_eq,Addr.mk.injEq,not_and];omega,fun j=>by rw [World.frozen?_setCell]⟩
theorem ZbI.wide {o:Nat} (h:ZbI b o n lo hi w w') (_hb:b < w.heap.size) (h1:lo'<=lo) (h2:hi<=hi') (hx:lo'<=b/\b < hi'):Zag lo' hi' w w':=
 ⟨h.os,h.tape,h.output,h.size,fun k hk ho=>h.block k hk (by omega) (by omega)⟩
theorem ZbI.o {o:Nat} (h:ZbI b o n lo hi w w') {p:Addr} (hp:p.block < w.heap.size) (hb:p.block≠b) (ho:p.block < lo\/hi<=p.block):w'.cell? p=w.cell? p/\w'.frozen? p=w.frozen? p:=
 ⟨World.cell?_of_block (w:=w) (h.block p.block hp hb ho),World.frozen?_of_block (w:=w) (h.block p.block hp hb ho)⟩
theorem Zad.near {o:Nat}{L:List Zy_} (h:Zad lo hi w v L) (ht:ZbI b o n lo' hi' w w') (ho:hi<=lo'\/hi'<=lo) (hb:b < lo\/hi<=b):Zad lo hi w' v L:=by
 rcases h with h | ⟨g,off,cap,h1,h2,h3,h4,h5,h6,h7,h8,h9⟩
 . exact Or.inl h
 . exact Or.inr ⟨g,off,cap,h1,h2,h3,Zk_ h4 ht.size,fun i hi'=>((ht.o (p:=⟨g,off+i,none⟩) h4 (by simp only [ne_eq];omega) (by simp only [];omega)).1).trans (h5 i hi'),h6,h7,h8,fun i=>((ht.o (p:=⟨g,off+i,none⟩) h4 (by simp only [ne_eq];omega) (by simp only [];omega)).2).trans (h9 i)⟩
theorem Zad.in' {L:List Zy_} (h:Zad lo hi w v L):Zaq lo w v L:=by
 rcases h with h | ⟨g,off,cap,h1,h2,h3,h4,h5,h6,h7,h8,h9⟩
 . exact Or.inl h
 . exact Or.inr ⟨g,off,cap,h1,h2,h3,h4,h5,h6,h7⟩
theorem cne {v:World}{i j:Nat}{u:Value} (h:i≠j):(v.setCell ⟨b,i,none⟩ u).cell? ⟨b,j,none⟩=v.cell? ⟨b,j,none⟩:=by
 apply World.cell?_setCell_other;simp only [ne_eq,Addr.mk.injEq,not_and]
 omega
theorem Zag.setB (B:Nat) (w:World) (i:Nat) (u:Value):Zag B (B+1) w (w.setCell ⟨B,i,none⟩ u):=Zag.setCell _ _ _ _ _ ⟨Nat.le_refl _,Nat.lt_succ_self _⟩
def Zaw (lo hi:Nat) (w:World) (v:Value) (L:List Int):Prop:=
 (∃ (a:Option Addr) (cap:Nat),v=.slice a 0 cap/\L=[])\/
 ∃ (b off cap:Nat),v=.slice (some ⟨b,off,none⟩) L.length cap/\L≠[]/\L.length<=maxLen/\b < w.heap.size/\
  (∀ i (h:i < L.length),w.cell? ⟨b,off+i,none⟩=some (.int .i64 L[i]))/\lo<=b/\b < hi/\∀ i,w.frozen? ⟨b,off+i,none⟩=false
theorem Zaw.near {o:Nat} (h:Zaw lo hi w v L) (ht:ZbI b o n lo' hi' w w') (ho:hi<=lo'\/hi'<=lo) (hb:b < lo\/hi<=b):Zaw lo hi w' v L:=by
 rcases h with h | ⟨g,off,cap,h1,h2,h3,h4,h5,h7,h8,h9⟩
 . exact Or.inl h
 . exact Or.inr ⟨g,off,cap,h1,h2,h3,Zk_ h4 ht.size,fun i hi'=>((ht.o (p:=⟨g,off+i,none⟩) h4 (by simp only [ne_eq];omega) (by simp only [];omega)).1).trans (h5 i hi'),h7,h8,fun i=>((ht.o (p:=⟨g,off+i,none⟩) h4 (by simp only [ne_eq];omega) (by simp only [];omega)).2).trans (h9 i)⟩
theorem Zaw.below (h:Zaw lo hi w v L) (hb:Zw_ w w'):Zaw lo hi w' v L:=by
 rcases h with h | ⟨g,off,cap,h1,h2,h3,h4,h5,h7,h8,h9⟩
 . exact Or.inl h
 . exact Or.inr ⟨g,off,cap,h1,h2,h3,Zk_ h4 hb.size,fun i hi'=>(hb.cell (p:=⟨g,off+i,none⟩) h4).trans (h5 i hi'),h7,h8,fun i=>(hb.frozen (p:=⟨g,off+i,none⟩) h4).trans (h9 i)⟩
theorem Zaw.touch (h:Zaw lo hi w v L) (ht:Zag lo' hi' w w') (ho:hi<=lo'\/hi'<=lo):Zaw lo hi w' v L:=by
 rcases h with h | ⟨b,off,cap,h1,h2,h3,h4,h5,h7,h8,h9⟩
 . exact Or.inl h
 . exact Or.inr ⟨b,off,cap,h1,h2,h3,Zk_ h4 ht.size,fun i hi'=>(ht.cell (p:=⟨b,off+i,none⟩) h4 (by simp only [];omega)).trans (h5 i hi'),h7,h8,fun i=>(ht.frozen (p:=⟨b,off+i,none⟩) h4 (by simp only [];omega)).trans (h9 i)⟩
theorem Zaw.in' (h:Zaw lo hi w v L):Zat lo w v L:=by
 rcases h with h | ⟨g,off,cap,h1,h2,h3,h4,h5,h7,h8,h9⟩
 . exact Or.inl h
 . exact Or.inr ⟨g,off,cap,h1,h2,h3,h4,h7,h5⟩
theorem Zaw.wide (h:Zaw lo hi w v L) (h1:lo'<=lo) (h2:hi<=hi'):Zaw lo' hi' w v L:=by
 rcases h with h | ⟨g,off,cap,e1,e2,e3,e4,e5,e7,e8,e9⟩
 . exact Or.inl h
 . exact Or.inr ⟨g,off,cap,e1,e2,e3,e4,e5,by omega,by omega,e9⟩
theorem Zaw.form (h:Zaw lo hi w v L):∃ a cap,v=.slice a L.length cap:=by
 rcases h with ⟨a,cap,h,rfl⟩ | ⟨b,off,cap,h,_⟩
 . exact⟨a,cap,h⟩
 . exact⟨_,cap,h⟩
def ZdM (k:Int) (n:Nat):List Int:=(List.range n).map fun (i:Nat)=>k+(i:Int)
theorem Zb7 (k:Int) (n:Nat):(ZdM k n).length=n:=by simp [ZdM]
theorem ZhG (k:Int) (n i:Nat) (h:i < (ZdM k n).length):(ZdM k n)[i]=k+i:=by simp [ZdM]
theorem Zf5 (lo hi:Nat) (v:Value) (L:List Int) (k:Int) (w:World) (hv:Zaw lo hi w v L) (h0:0<=k) (hk:k+L.length<=4000000000000000000) :
 Calls prog 18 #[v,.int .i64 k] w fun e w'=>e=.returned (.int .i64 (k+L.length))/\Zag lo hi w w'/\Zaw lo hi w' v (ZdM k L.length):=by
 rcases hv with ⟨a,cap,rfl,rfl⟩ | ⟨b,off,cap,rfl,hne,hm,hbw,hc,hlo,hhi,hfr⟩
 . go_enter func18,ntmps18
   go_wp2
   go_loop [5,1] (fun i q=>i=.int .i64 0/\q=.int .i64 k) (fun _ _=>0)
   case atStart=>exact⟨rfl,rfl⟩
   case round=>
    obtain⟨rfl,rfl⟩:=hrel;go_wp2;go_ret;exact⟨by simp,Zag.refl _ _ _,Or.inl ⟨_,_,rfl,rfl⟩⟩
 . unfold maxLen at hm
   go_enter func18,ntmps18;go_wp2
   go_loopw [5,1] (fun i q wr=>∃ j:Nat,i=.int .i64 j/\q=.int .i64 (k+j)/\j<=L.length/\Zag lo hi w wr/\(∀ i,i < j->wr.cell? ⟨b,off+i,none⟩=some (.int .i64 (k+i)))/\(∀ i (h:i < L.length),j<=i->wr.cell? ⟨b,off+i,none⟩=some (.int .i64 L[i]))/\∀ i,wr.frozen? ⟨b,off+i,none⟩=false) (fun i _ _=>L.length - (intOf i).toNat)
   case atStart=>exact⟨0,rfl,by simp,by omega,Zag.refl _ _ _,fun i h=>by omega,fun i h _=>hc i h,hfr⟩
   case round=>
    obtain⟨j,rfl,rfl,hj,ht,hA,hB,hF⟩:=hrel;have HT:=Zab ht;have HA:=Zab hA;have HBB:=Zab hB;have HF:=Zab hF;clear ht hA hB hF
    by_cases hlt:j < L.length
    . have hcj:wr.cell? ⟨b,off+j,none⟩=some (.int .i64 L[j]):=HBB.o j hlt Zl_
      have hfj:wr.frozen? ⟨b,off+j,none⟩=false:=HF.o j;go_wp2;go_roundw
      . 
       refine⟨j+1,by go_num,by go_num,by omega,HT.o.trans (Zag.setCell _ _ _ _ _ ⟨hlo,hhi⟩),fun i hi'=>?_,fun i h hi'=>?_,fun i=>?_⟩
       . by_cases e:i=j
         . subst e;exact World.cell?_setCell_same' _ _ _ (by rw [hcj];rfl)
         . rw [show (wr.setCell ⟨b,off+j,none⟩ (.int .i64 (k+j))).cell? ⟨b,off+i,none⟩=wr.cell? ⟨b,off+i,none⟩ from by apply World.cell?_setCell_other;simp only [ne_eq,Addr.mk.injEq,not_and];omega]
           exact HA.o i (by omega)
       . rw [show (wr.setCell ⟨b,off+j,none⟩ (.int .i64 (k+j))).cell? ⟨b,off+i,none⟩=wr.cell? ⟨b,off+i,none⟩ from by apply World.cell?_setCell_other;simp only [ne_eq,Addr.mk.injEq,not_and];omega]
         exact HBB.o i h (by omega)
       . rw [World.frozen?_setCell]
         exact HF.o i
      . simp [intOf];omega
    . have e:j=L.length:=by omega
      subst e;go_wp2;go_ret;refine⟨rfl,HT.o,Or.inr ⟨b,off,cap,by rw [Zb7],?_,by rw [Zb7];unfold maxLen;omega,Zk_ hbw HT.o.size,fun i h=>?_,hlo,hhi,HF.o⟩⟩
      . intro e;have:=congrArg List.length e;rw [Zb7] at this;simp at this;exact hne this
      . rw [ZhG];exact HA.o i (by rw [Zb7] at h;exact h)
theorem ZfZ (lo:Nat) (v:Value) (n:Nat) (k:Int) (w:World) (hv:Zat lo w v (ZdM k n)) (h0:0<=k) (hk:k+n<=4000000000000000000) :
 Calls prog 19 #[v,.int .i64 k] w fun e w'=>e=.returned (.int .i64 (k+n))/\Zw_ w w':=by
 have HV:=Zab hv;obtain⟨a,cap,rfl⟩:=hv.form;clear hv;rw [Zb7] at HV;rw [Zb7];go_enter func19,ntmps19;go_wp2
 go_loop [5,1] (fun i q=>∃ j:Nat,i=.int .i64 j/\q=.int .i64 (k+j)/\j<=n) (fun i _=>n - (intOf i).toNat)
 case atStart=>exact⟨0,rfl,by simp,by omega⟩
 case round=>
  obtain⟨j,rfl,rfl,hj⟩:=hrel
  by_cases hlt:j < n
  . obtain⟨b,off,rfl,hbw,hc⟩:=HV.o.full' (by rw [Zb7];omega)
    have hcj:w.cell? ⟨b,off+j,none⟩=some (.int .i64 (k+j)):=by rw [hc j (by rw [Zb7];omega),ZhG]
    clear hc;go_wp2
    go_round
    . exact⟨j+1,by go_num,by go_num,by omega⟩
    . simp [intOf];omega
  . have e:j=n:=by omega
    subst e;go_wp2;go_ret;exact⟨rfl,Below.refl _ _⟩
end
section
variable {b o c0 c1 lo hi off n lo' hi':Nat} {w w' v wr:World} {x y:Pu} {Xl:List Pu}
def ZfA (b o _c0 _c1:Nat) (w:World) (x:Pu):Prop:=ZdX x/\Zcz w b o x
theorem ZfA.near {o1 d0 d1:Nat} (h:ZfA b o c0 c1 w x) (hn:ZbI b o1 5 d0 d1 w w') (ho:o+5<=o1\/o1+5<=o) (hi:c1<=d0\/d1<=c0) (hb:b < c0\/c1<=b):ZfA b o c0 c1 w' x:=by
 obtain⟨hs,hc⟩:=h;obtain⟨h0,h1,h2,h3,h4⟩:=hc;have e:∀ t,t < 5->w'.cell? ⟨b,o+t,none⟩=w.cell? ⟨b,o+t,none⟩:=fun t ht=>hn.cell _ (by omega)
 have e0:w'.cell? ⟨b,o,none⟩=w.cell? ⟨b,o,none⟩:=hn.cell _ (by omega);exact⟨hs,⟨e0.trans h0,(e 1 (by omega)).trans h1,(e 2 (by omega)).trans h2,(e 3 (by omega)).trans h3,(e 4 (by omega)).trans h4⟩⟩
theorem ZfA.touch (h:ZfA b o c0 c1 w x) (ht:Zag lo hi w w') (hlt:b < w.heap.size) (hb:b < lo\/hi<=b) (_hi:c1<=lo\/hi<=c0):ZfA b o c0 c1 w' x:=by
 obtain⟨hs,hc⟩:=h;obtain⟨h0,h1,h2,h3,h4⟩:=hc;exact⟨hs,⟨(ht.cell (p:=⟨b,o,none⟩) hlt hb).trans h0,(ht.cell (p:=⟨b,o+1,none⟩) hlt hb).trans h1,(ht.cell (p:=⟨b,o+2,none⟩) hlt hb).trans h2,(ht.cell (p:=⟨b,o+3,none⟩) hlt hb).trans h3,(ht.cell (p:=⟨b,o+4,none⟩) hlt hb).trans h4⟩⟩
theorem ZfA.below (h:ZfA b o c0 c1 w x) (ht:Zw_ w w') (hlt:b < w.heap.size):ZfA b o c0 c1 w' x:=by
 obtain⟨hs,hc⟩:=h;obtain⟨h0,h1,h2,h3,h4⟩:=hc;exact⟨hs,⟨(ht.cell (p:=⟨b,o,none⟩) hlt).trans h0,(ht.cell (p:=⟨b,o+1,none⟩) hlt).trans h1,(ht.cell (p:=⟨b,o+2,none⟩) hlt).trans h2,(ht.cell (p:=⟨b,o+3,none⟩) hlt).trans h3,(ht.cell (p:=⟨b,o+4,none⟩) hlt).trans h4⟩⟩
structure Zex (lo hi:Nat) (w:World) (b off n:Nat) (c:Nat->Nat) (X:Nat->Pu):Prop where
 lt:b < w.heap.size
 low:lo<=b
 bc:b < c 0
 bh:b < hi
 mono:∀ i,i < n->c i<=c (i+1)
 top:c n<=hi
 frz:∀ i,w.frozen? ⟨b,i,none⟩=false
 row:∀ i,i < n->ZfA b (off+i*5) (c i) (c (i+1)) w (X i)
theorem Zex.le {c:Nat->Nat}{X:Nat->Pu} (h:Zex lo hi w b off n c X) {i:Nat}:∀ {j:Nat},i<=j->j<=n->c i<=c j:=by
 intro j
 induction j with
 | zero=>intro hij _;have:i=0:=by omega
         subst this;exact Nat.le_refl _
 | succ j ih=>
  intro hij hjn
  by_cases e:i=j+1
  . subst e;exact Nat.le_refl _
  . exact Nat.le_trans (ih (by omega) (by omega)) (h.mono j (by omega))
theorem Zex.near {c:Nat->Nat}{X:Nat->Pu} (h:Zex lo hi w b off n c X) {j:Nat} (hj:j < n) (hn:ZbI b (off+j*5) 5 (c j) (c (j+1)) w w') {x:Pu} (hx:ZfA b (off+j*5) (c j) (c (j+1)) w' x):Zex lo hi w' b off n c (fun i=>if i=j then x else X i):=by
 refine⟨Zk_ h.lt hn.size,h.low,h.bc,h.bh,h.mono,h.top,fun i=>(hn.frz i).trans (h.frz i),fun i hi'=>?_⟩
 by_cases e:i=j
 . subst e;rw [if_pos rfl];exact hx
 . rw [if_neg e]
   have h0:=h.le (Nat.zero_le i) (by omega);have hbc:=h.bc;refine (h.row i hi').near hn (by omega) ?_ (by omega)
   rcases Nat.lt_or_ge i j with hij | hij
   . exact Or.inl (h.le (by omega) (by omega))
   . exact Or.inr (h.le (by omega) (by omega))
theorem Zex.touch {c:Nat->Nat}{X:Nat->Pu} (h:Zex lo hi w b off n c X) (ht:Zag lo' hi' w w') (ho:hi<=lo'\/hi'<=lo):Zex lo hi w' b off n c X:=by
 have h1:=h.low;have h2:=h.bh;have h3:=h.top;have h4:=h.bc;refine⟨Zk_ h.lt ht.size,h.low,h.bc,h.bh,h.mono,h.top,fun i=>(ht.frozen (p:=⟨b,i,none⟩) h.lt (by simp only [];omega)).trans (h.frz i),fun i hi'=>?_⟩;have h5:=h.le (Nat.zero_le i) (by omega);have h6:=h.le (i:=i+1) (j:=n) (by omega) Zl_;exact (h.row i hi').touch ht h.lt (by omega) (by omega)
theorem Zex.below {c:Nat->Nat}{X:Nat->Pu} (h:Zex lo hi w b off n c X) (ht:Zw_ w w'):Zex lo hi w' b off n c X:=
 ⟨Zk_ h.lt ht.size,h.low,h.bc,h.bh,h.mono,h.top,fun i=>(ht.frozen (p:=⟨b,i,none⟩) h.lt).trans (h.frz i),fun i hi'=>(h.row i hi').below ht h.lt⟩
theorem Zex.to {c:Nat->Nat}{X Y:Nat->Pu} (h:Zex lo hi w b off n c X) (e:∀ i,i < n->X i=Y i):Zex lo hi w b off n c Y:=
 ⟨h.lt,h.low,h.bc,h.bh,h.mono,h.top,h.frz,fun i hi'=>e i hi' ▸ h.row i hi'⟩
def Zcc (lo hi:Nat) (w:World) (v:Value) (Xl:List Pu):Prop:=
 (∃ (a:Option Addr) (cap:Nat),v=.slice a 0 cap/\Xl=[])\/
 ∃ (b off cap:Nat) (c:Nat->Nat) (X:Nat->Pu),v=.slice (some ⟨b,off,none⟩) Xl.length cap/\Xl≠[]/\Xl.length<=maxLen/\Xl.length<=cap/\(∀ i (h:i < Xl.length),X i=Xl[i])/\Zex lo hi w b off Xl.length c X
theorem Zcc.touch {v:Value} (h:Zcc lo hi w v Xl) (ht:Zag lo' hi' w w') (ho:hi<=lo'\/hi'<=lo):Zcc lo hi w' v Xl:=by
 rcases h with h | ⟨b,off,cap,c,X,h1,h2,h3,h4,h5,h6⟩
 . exact Or.inl h
 . exact Or.inr ⟨b,off,cap,c,X,h1,h2,h3,h4,h5,h6.touch ht ho⟩
theorem Zcc.below {v:Value} (h:Zcc lo hi w v Xl) (ht:Zw_ w w'):Zcc lo hi w' v Xl:=by
 rcases h with h | ⟨b,off,cap,c,X,h1,h2,h3,h4,h5,h6⟩
 . exact Or.inl h
 . exact Or.inr ⟨b,off,cap,c,X,h1,h2,h3,h4,h5,h6.below ht⟩
theorem Zcc.form {v:Value} (h:Zcc lo hi w v Xl):∃ a cap,v=.slice a Xl.length cap:=by
 rcases h with ⟨a,cap,h,rfl⟩ | ⟨b,off,cap,c,X,h1,_⟩
 . exact⟨a,cap,h⟩
 . exact⟨_,cap,h1⟩
theorem Zcc.at {v:Value} (h:Zcc lo hi w v Xl):ZbV lo w v Xl:=by
 rcases h with h | ⟨b,off,cap,c,X,h1,h2,h3,h4,h5,h6⟩
 . exact Or.inl h
 . refine Or.inr ⟨b,off,cap,h1,h2,h3,h6.lt,h6.low,h4,fun i hi'=>?_⟩
   have hr:=h6.row i hi';rw [h5 i hi'] at hr;obtain⟨hs,hc⟩:=hr;exact⟨hs,hc⟩
def Zrt (k:Int) (_x:Pu):Pu:=⟨mtB (k),mtB (k+1),mtB (k+1+1),k+1+1+1,k+1+1+1+1⟩
def ZrX (_x:Pu):Nat:=5
def ZdR (Xl:List Pu) (i:Nat):Nat:=((Xl.take i).map ZrX).sum
def Zmj (k:Int) (Xl:List Pu):List Pu:=Xl.mapIdx (fun i x=>Zrt (k+(ZdR Xl i:Int)) x)
theorem Zdo (k:Int) (Xl:List Pu):(Zmj k Xl).length=Xl.length:=by unfold Zmj;simp
theorem ZnX (k:Int) (Xl:List Pu) (i:Nat) (h:i < (Zmj k Xl).length) (h':i < Xl.length):(Zmj k Xl)[i]=Zrt (k+(ZdR Xl i:Int)) Xl[i]:=List.getElem_mapIdx (f:=fun i x=>Zrt (k+(ZdR Xl i:Int)) x) (h:=h)
theorem ZhV {i:Nat} (h:i < Xl.length):ZdR Xl (i+1)=ZdR Xl i+ZrX Xl[i]:=by
 unfold ZdR;rw [List.take_succ_eq_append_getElem h,List.map_append,List.sum_append];simp
theorem Zlg (hn:Zek Xl):∀ {i:Nat},i<=Xl.length->ZdR Xl i<=i*3000000:=by
 intro i
 induction i with
 | zero=>intro _;simp [ZdR]
 | succ i ih=>
  intro hi';have h1:=ih (by omega);rw [ZhV (by omega)]
  have h2:ZrX Xl[i]<=3000000:=by
   have hsm:=hn.2 i (by omega);unfold Zgv at hsm;unfold ZrX
   omega
  omega
structure Zhc (wr:World) (b o c0 c1:Nat) (v:World) (y:Pu):Prop where
 near:ZbI b o 5 c0 c1 wr v
 bc:b < c0
 cells:Zcz v b o y
 frz:∀ i,v.frozen? ⟨b,i,none⟩=false
 lt:b < v.heap.size
theorem Zhc.below {v':World} (h:Zhc wr b o c0 c1 v y) (hb:Below v.heap.size v v'):Zhc wr b o c0 c1 v' y:=
 ⟨h.near.trans (ZbI.below hb h.lt),h.bc,h.cells.below hb h.lt,fun i=>(hb.frozen (p:=⟨b,i,none⟩) h.lt).trans (h.frz i),Zk_ h.lt hb.size⟩
theorem Zhc.s0 (h:Zhc wr b o c0 c1 v y) (u:Zy_):Zhc wr b o c0 c1 (v.setCell ⟨b,o,none⟩ (.string u)) { y with dr:=u }:=by
 obtain⟨h0,h1,h2,h3,h4⟩:=h.cells;have ht:Zag b (b+1) v (v.setCell ⟨b,o,none⟩ (.string u)):=Zag.setCell _ _ _ _ _ ⟨Nat.le_refl _,by simp only [];omega⟩;have hbc:=h.bc;exact⟨h.near.trans (ZbI.set _ _ _ _ _ _ _ _ (by omega) (by omega)),h.bc,⟨World.cell?_setCell_same' _ _ _ (by rw [h0];rfl),(cne (by omega)).trans h1,(cne (by omega)).trans h2,(cne (by omega)).trans h3,(cne (by omega)).trans h4⟩,fun i=>by rw [World.frozen?_setCell];exact h.frz i,by simpa [World.setCell] using h.lt⟩
theorem Zhc.s1 (h:Zhc wr b o c0 c1 v y) (u:Zy_):Zhc wr b o c0 c1 (v.setCell ⟨b,o+1,none⟩ (.string u)) { y with tm:=u }:=by
 obtain⟨h0,h1,h2,h3,h4⟩:=h.cells;have ht:Zag b (b+1) v (v.setCell ⟨b,o+1,none⟩ (.string u)):=Zag.setCell _ _ _ _ _ ⟨Nat.le_refl _,by simp only [];omega⟩;have hbc:=h.bc;exact⟨h.near.trans (ZbI.set _ _ _ _ _ _ _ _ (by omega) (by omega)),h.bc,⟨(cne (by omega)).trans h0,World.cell?_setCell_same' _ _ _ (by rw [h1];rfl),(cne (by omega)).trans h2,(cne (by omega)).trans h3,(cne (by omega)).trans h4⟩,fun i=>by rw [World.frozen?_setCell];exact h.frz i,by simpa [World.setCell] using h.lt⟩
theorem Zhc.s2 (h:Zhc wr b o c0 c1 v y) (u:Zy_):Zhc wr b o c0 c1 (v.setCell ⟨b,o+2,none⟩ (.string u)) { y with re:=u }:=by
 obtain⟨h0,h1,h2,h3,h4⟩:=h.cells;have ht:Zag b (b+1) v (v.setCell ⟨b,o+2,none⟩ (.string u)):=Zag.setCell _ _ _ _ _ ⟨Nat.le_refl _,by simp only [];omega⟩;have hbc:=h.bc;exact⟨h.near.trans (ZbI.set _ _ _ _ _ _ _ _ (by omega) (by omega)),h.bc,⟨(cne (by omega)).trans h0,(cne (by omega)).trans h1,World.cell?_setCell_same' _ _ _ (by rw [h2];rfl),(cne (by omega)).trans h3,(cne (by omega)).trans h4⟩,fun i=>by rw [World.frozen?_setCell];exact h.frz i,by simpa [World.setCell] using h.lt⟩
theorem Zhc.s3 (h:Zhc wr b o c0 c1 v y) (u:Int):Zhc wr b o c0 c1 (v.setCell ⟨b,o+3,none⟩ (.int .i64 u)) { y with am:=u }:=by
 obtain⟨h0,h1,h2,h3,h4⟩:=h.cells;have ht:Zag b (b+1) v (v.setCell ⟨b,o+3,none⟩ (.int .i64 u)):=Zag.setCell _ _ _ _ _ ⟨Nat.le_refl _,by simp only [];omega⟩;have hbc:=h.bc;exact⟨h.near.trans (ZbI.set _ _ _ _ _ _ _ _ (by omega) (by omega)),h.bc,⟨(cne (by omega)).trans h0,(cne (by omega)).trans h1,(cne (by omega)).trans h2,World.cell?_setCell_same' _ _ _ (by rw [h3];rfl),(cne (by omega)).trans h4⟩,fun i=>by rw [World.frozen?_setCell];exact h.frz i,by simpa [World.setCell] using h.lt⟩
theorem Zhc.s4 (h:Zhc wr b o c0 c1 v y) (u:Int):Zhc wr b o c0 c1 (v.setCell ⟨b,o+4,none⟩ (.int .i64 u)) { y with un:=u }:=by
 obtain⟨h0,h1,h2,h3,h4⟩:=h.cells;have ht:Zag b (b+1) v (v.setCell ⟨b,o+4,none⟩ (.int .i64 u)):=Zag.setCell _ _ _ _ _ ⟨Nat.le_refl _,by simp only [];omega⟩;have hbc:=h.bc;exact⟨h.near.trans (ZbI.set _ _ _ _ _ _ _ _ (by omega) (by omega)),h.bc,⟨(cne (by omega)).trans h0,(cne (by omega)).trans h1,(cne (by omega)).trans h2,(cne (by omega)).trans h3,World.cell?_setCell_same' _ _ _ (by rw [h4];rfl)⟩,fun i=>by rw [World.frozen?_setCell];exact h.frz i,by simpa [World.setCell] using h.lt⟩
end
section
variable {L:List Int} {k:Nat}
def vAt (L:List Int) (i:Nat):Bool:=match L[i]? with
 | none=>false
 | some v=>inB 1 5 v&&(i == 0 || decide ((L[i - 1]?).getD 0 < v))
def Znb (L:List Int):Bool:=decide (0 < L.length)&&(List.range L.length).all (vAt L)
theorem Zft (h:0 < L.length):vAt L 0=inB 1 5 L[0]:=by unfold vAt;rw [List.getElem?_eq_getElem h];simp
theorem Zcq {j:Nat} (h:j+1 < L.length):vAt L (j+1)=(inB 1 5 L[j+1]&&decide (L[j] < L[j+1])):=by
 unfold vAt;rw [List.getElem?_eq_getElem h,Nat.add_sub_cancel,List.getElem?_eq_getElem (by omega)];simp
theorem Zh4 (h:k < L.length) (hb:inB 1 5 L[k]=false):vAt L k=false:=by
 unfold vAt;rw [List.getElem?_eq_getElem h];simp [hb]
theorem Zeg (hk:k < L.length) (h:vAt L k=false):Znb L=false:=by
 unfold Znb;rw [ZaV hk h];simp
theorem Zg9 (hk:L.length<=k) (hall:∀ i,i < k->vAt L i=true):Znb L=decide (0 < L.length):=by
 unfold Znb;rw [ZaY (fun i hi=>hall i (by omega))];simp
def ZaT (r:Ru):Bool:=Znb r.vb&&Zai r.kd&&Zai r.tm&&decide ((r.pf.size:Int)<=16)&&Zfv Zav r.pf
end
theorem Zjn (lo lm:Nat) (fv mv:Value) (x:Sh) (Ms:List Md) (w:World) (hf:Zau lo w fv x.fields) (hv:Za7 lm w mv Ms) (hn:x.fields.length<=1048576) :
 Calls prog 168 #[.agg #[.string x.kind,fv],mv] w fun e w'=>∃ v R,e=.returned v/\Zw_ w w'/\Zdv w.heap.size w' v R/\Zo1 x Ms R:=by
 obtain⟨i0,hi,hz0,hz1,hz2⟩:=info_parts Tryz.info9;have HF:=Zab hf;have HV:=Zab hv;obtain⟨a,cap,rfl⟩:=hf.form;obtain⟨ma,mcap,rfl⟩:=hv.form;clear hf hv;have HW:∀ o,Hd (Zw_ w (w.alloc o)):=fun o=>Zb_.alloc Zl_ _
 go_enter func168,ntmps168;go_wp2;generalize hW0:w.alloc _=W0;have hz0':W0.heap.size=w.heap.size+1:=by rw [<- hW0];simp
 have HB0:Hd (Zw_ w W0):=by rw [<- hW0];exact (HW _).o
 have g0:∀ i,W0.cell? ⟨w.heap.size,i,none⟩=(#[.string x.kind,.slice a x.fields.length cap]:Array Value)[i]?:=fun i=>by rw [<- hW0];exact Zbb _ _ _ _ _ rfl
 clear hW0;have HI:=Zab (And.intro hi (And.intro hz0 (And.intro hz1 hz2)));have HG0:=Zab g0;clear g0 hi hz0 hz1 hz2
 go_loopw [5,6] (fun v i wr=>∃ (n:Nat) (R:List Zy_),i=.int .i64 n/\n<=x.fields.length/\Zdv (w.heap.size+1) wr v R/\Below (w.heap.size+1) W0 wr/\ZcF (ZaA x.fields) (Zam x.kind Ms) R/\(R.length=n\/Zh7 (ZaA x.fields) (Zam x.kind Ms) R)) (fun _ i _=>x.fields.length - (intOf i).toNat)
 case atStart=>exact⟨0,[],rfl,by omega,Zdv.made W0 _ hz0' Zl_,Zb_.alloc (by omega) _,ZcF.nil,Or.inl rfl⟩
 case round=>
  obtain⟨n,R,rfl,hnn,hown,hb,hgood,hcase⟩:=hrel;have HO:=Zab hown;have HB:=Zab hb;have HGD:=Zab hgood;have HC:=Zab hcase;obtain⟨va,vcap,rfl⟩:=hown.form;have q1:wr.cell? ⟨w.heap.size,1,none⟩=some (.slice a x.fields.length cap):=by rw [hb.cell (p:=⟨w.heap.size,1,none⟩) (by simp)];exact HG0.o 1
  clear hown hb hgood hcase
  by_cases hlt:n < x.fields.length
  . go_wp2
    go_loopw [5,7] (fun v i wi=>∃ (k:Nat),v=.slice va R.length vcap/\i=.int .i64 k/\k<=x.fields.length/\Zdv (w.heap.size+1) wi v R/\Below (w.heap.size+1) W0 wi/\ZdV x.fields (Zam x.kind Ms) R k) (fun _ i _=>x.fields.length - (intOf i).toNat)
    case atStart=>exact⟨0,rfl,rfl,by omega,HO.o,HB.o,fun i _ h=>by omega⟩
    case round=>
     obtain⟨k,rfl,rfl,hk,hown,hb,hny⟩:=hrel;have HOi:=Zab hown;have HBi:=Zab hb;have HN:=Zab hny;have p0:wr.cell? ⟨w.heap.size,0,none⟩=some (.string x.kind):=by rw [hb.cell (p:=⟨w.heap.size,0,none⟩) (by simp)];exact HG0.o 0
     have p1:wr.cell? ⟨w.heap.size,1,none⟩=some (.slice a x.fields.length cap):=by rw [hb.cell (p:=⟨w.heap.size,1,none⟩) (by simp)];exact HG0.o 1
     have HBw:Hd (Zw_ w wr):=HB0.o.trans (hb.mono (by omega));have hzr:w.heap.size+1<=wr.heap.size:=by have:=hb.size;omega
     clear hown hb hny q1
     by_cases hkl:k < x.fields.length
     . obtain⟨fb,fo,rfl,hfb,hfc⟩:=HF.o.full' (by omega)
       obtain⟨hfs,wv,hcell,_⟩:=hfc k hkl;have c0:wr.cell? ⟨fb,fo+k*11,none⟩=some (.string x.fields[k].nm):=by rw [HBw.o.cell (p:=⟨fb,_,none⟩) hfb];exact hcell.c0
       have HSZ:=Zab hfs.s0;clear hcell hfc hfs;go_wp2_with fail;refine (Zec _ R x.fields[k].nm _ HOi.o.strs).mono ?_;rintro e w1 ⟨rfl,rfl⟩
       cases hh:Zen R x.fields[k].nm with
       | true=>
        have HNX:Hd (ZdV x.fields (Zam x.kind Ms) R (k+1)):=HN.o.succ hkl (Or.inl (Zc5.1 hh));go_wp2;go_roundw
        . exact⟨k+1,rfl,by go_num,by omega,HOi.o,HBi.o,HNX.o⟩
        . simp [intOf];omega
       | false=>
        go_wp2_with fail;refine (Zke lm _ _ Ms x.kind x.fields[k].nm R _ (HV.o.below HBw.o) HOi.o.strs).mono ?_;rintro e w2 ⟨rfl,hb2⟩;have HO2:=Zab (HOi.o.below hb2);have HB2:Hd (Below (w.heap.size+1) W0 w2):=HBi.o.trans (hb2.mono hzr);have hz2:w.heap.size+1<=w2.heap.size:=by have:=hb2.size;omega
        clear hb2 p0 p1 c0
        cases hrd:Zfm Ms x.kind x.fields[k].nm R with
        | false=>
         have HNX:Hd (ZdV x.fields (Zam x.kind Ms) R (k+1)):=HN.o.succ hkl (Or.inr fun h=>by rw [ZcW.2 h] at hrd;cases hrd);go_wp2;go_roundw
         . exact⟨k+1,rfl,by go_num,by omega,HO2.o,HB2.o,HNX.o⟩
         . simp [intOf];omega
        | true=>
         have HG1:Hd (ZcF (ZaA x.fields) (Zam x.kind Ms) (R ++ [x.fields[k].nm])):=ZcF.snoc HGD.o (Zcl.2 ⟨k,hkl,rfl⟩) (Zil hh) (ZcW.1 hrd)
         have HC1:Hd ((R ++ [x.fields[k].nm]).length=n+1\/Zh7 (ZaA x.fields) (Zam x.kind Ms) (R ++ [x.fields[k].nm])):=by
          rcases HC.o with h | h
          . exact Or.inl (by rw [List.length_append,h];rfl)
          . exact absurd (ZcW.1 hrd) (h _ (Zcl.2 ⟨k,hkl,rfl⟩) (Zil hh))
         have HRL:Hd (R.length<=1048576):=Nat.le_trans (Zik HGD.o) hn;clear hh hrd;go_wp2_with (at_builtin;refine wpList_append_lies _ rfl (.tmp 42) (.tmp 44) 111 rfl (w.heap.size+1) 9 i0 (.string ⟨#[]⟩) 1 16 underlying111 HI.o.1 HI.o.2.1 HI.o.2.2.1 HI.o.2.2.2 rfl (by decide) _ _ _ rfl (HO2.o.below (Zb_.alloc Zl_ _)).row ⟨w2.heap.size,0,none⟩ 1 1 [.string x.fields[k].nm] rfl rfl (Zfa _ _ _ _ rfl) (ZdE _) (by decide) (by have:=HRL.o;unfold maxLen;omega) (by have:=HRL.o;omega) (by simp;omega) _ rfl ?_;intro g cap1 w3 hown3 hgrow3 hat3 hlt3);exact⟨⟨n+1,R ++ [x.fields[k].nm],by go_num,by omega,HO2.o.snoc hown3 HSZ.o,(HB2.o.alloc (by omega) _).trans ((HO2.o.below (Zb_.alloc Zl_ _)).grown hgrow3 (by simp;omega)),HG1.o,HC1.o⟩,by simp [intOf];omega⟩
     . go_wp2
       exact⟨⟨n+1,R,by go_num,by omega,HOi.o,HBi.o,HGD.o,Or.inr (HN.o.stuck (by omega))⟩,by simp [intOf];omega⟩
  . go_wp2
    go_ret;exact⟨_,R,rfl,HB0.o.trans (HB.o.mono (by omega)),HO.o.mono (by omega),Zo1.mk' HGD.o (by omega) HC.o⟩
theorem Zkt (lo hi:Nat) (v:Value) (Xl:List Pu) (k:Int) (w:World) (hv:Zcc lo hi w v Xl) (hn:Zek Xl) (h0:0<=k) (hk:k<=2000000000000000000) :
 Calls prog 58 #[v,.int .i64 k] w fun e w'=>e=.returned (.int .i64 (k+(ZdR Xl Xl.length:Int)))/\Zag lo hi w w'/\Zcc lo hi w' v (Zmj k Xl):=by
 rcases hv with ⟨a,cap,rfl,rfl⟩ | ⟨b,off,cap,c,X,rfl,hne,hm,hcap,hX,hR⟩
 . go_enter func58,ntmps58
   go_wp2
   go_loop [5,1] (fun i q=>i=.int .i64 0/\q=.int .i64 k) (fun _ _=>0)
   case atStart=>exact⟨rfl,rfl⟩
   case round=>
    obtain⟨rfl,rfl⟩:=hrel;go_wp2;go_ret;exact⟨by simp [ZdR],Zag.refl _ _ _,Or.inl ⟨_,_,rfl,rfl⟩⟩
 . have hlen:=hn.1
   have HN:=Zab hn;have HX:=Zab hX;have HR0:=Zab hR;have HM:=Zab hm;have HC:=Zab hcap;have HNE:=Zab hne;clear hn hX hR hm hcap hne;go_enter func58,ntmps58;go_wp2
   go_loopw [5,1] (fun i q wr=>∃ j:Nat,i=.int .i64 j/\q=.int .i64 (k+(ZdR Xl j:Int))/\j<=Xl.length/\Zag lo hi w wr/\Zex lo hi wr b off Xl.length c (fun i=>if i < j then Zrt (k+(ZdR Xl i:Int)) (X i) else X i)) (fun i _ _=>Xl.length - (intOf i).toNat)
   case atStart=>exact⟨0,rfl,by simp [ZdR],by omega,Zag.refl _ _ _,HR0.o.to (fun i _=>by simp)⟩
   case round=>
    obtain⟨j,rfl,rfl,hj,ht,hr⟩:=hrel;have HT:=Zab ht;have HR:=Zab hr;clear ht hr HR0
    by_cases hlt:j < Xl.length
    . have hpos:=Zlg HN.o (i:=j) (by omega)
      have HP:=Zab (ZhV hlt)
      have hone:ZfA b (off+j*5) (c j) (c (j+1)) wr (X j):=by
       have:=HR.o.row j hlt;simp only [Nat.lt_irrefl,if_false] at this;exact this
      have hxj:X j=Xl[j]:=HX.o j hlt;obtain⟨x,hx⟩:∃ x,x=X j:=⟨_,rfl⟩
      rw [<- hx] at hone;obtain⟨hs,hc⟩:=hone;have HXJ:=Zab hxj;have HXX:=Zab hx;obtain⟨K,hK⟩:∃ K,K=k+(ZdR Xl j:Int):=⟨_,rfl⟩
      rw [<- hK];have hK0:0<=K:=by omega
      have hK1:K<=2500000000000000000:=by omega
      have HK:=Zab hK;have HBC:Hd (b < c j):=Zk_ HR.o.bc (HR.o.le Zz_ (by omega));have HS:Hd (Zhc wr b (off+j*5) (c j) (c (j+1)) wr x):=⟨ZbI.refl _ _ _ _ _ _,HBC.o,hc,HR.o.frz,HR.o.lt⟩;clear hpos hxj hx hs hc hK;obtain⟨d0,d1,d2,d3,d4⟩:=HS.o.cells;have fz:=HS.o.frz;go_wp2_with fail;clear d0 d1 d2 d3 d4 fz;refine (Zal _ _ (by omega)).mono ?_;rintro e v1 ⟨rfl,hb⟩;have HS1:=Zab (HS.o.below hb);clear hb HS;obtain⟨d0,d1,d2,d3,d4⟩:=HS1.o.cells;have fz:=HS1.o.frz;go_wp2_with fail;clear d0 d1 d2 d3 d4 fz;obtain⟨v2,hv2,HS2⟩:∃ v',v'=(v1.setCell ⟨b,off+j*5,none⟩ (.string (mtB (K))))/\Hd (Zhc wr b (off+j*5) (c j) (c (j+1)) v' ⟨mtB (K),x.tm,x.re,x.am,x.un⟩):=⟨_,rfl,(HS1.o.s0 (mtB (K)))⟩
      rw [<- hv2];clear hv2 HS1;refine (Zal _ _ (by omega)).mono ?_;rintro e v3 ⟨rfl,hb⟩;have HS3:=Zab (HS2.o.below hb);clear hb HS2;obtain⟨d0,d1,d2,d3,d4⟩:=HS3.o.cells;have fz:=HS3.o.frz;go_wp2_with fail;clear d0 d1 d2 d3 d4 fz;obtain⟨v4,hv4,HS4⟩:∃ v',v'=(v3.setCell ⟨b,off+j*5+1,none⟩ (.string (mtB (K+1))))/\Hd (Zhc wr b (off+j*5) (c j) (c (j+1)) v' ⟨mtB (K),mtB (K+1),x.re,x.am,x.un⟩):=⟨_,rfl,(HS3.o.s1 (mtB (K+1)))⟩
      rw [<- hv4];clear hv4 HS3;refine (Zal _ _ (by omega)).mono ?_;rintro e v5 ⟨rfl,hb⟩;have HS5:=Zab (HS4.o.below hb);clear hb HS4;obtain⟨d0,d1,d2,d3,d4⟩:=HS5.o.cells;have fz:=HS5.o.frz;go_wp2;clear d0 d1 d2 d3 d4 fz;obtain⟨v6,hv6,HS6⟩:∃ v',v'=(((v5.setCell ⟨b,off+j*5+2,none⟩ (.string (mtB (K+1+1)))).setCell ⟨b,off+j*5+3,none⟩ (.int .i64 (K+1+1+1))).setCell ⟨b,off+j*5+4,none⟩ (.int .i64 (K+1+1+1+1)))/\Hd (Zhc wr b (off+j*5) (c j) (c (j+1)) v' ⟨mtB (K),mtB (K+1),mtB (K+1+1),K+1+1+1,K+1+1+1+1⟩):=⟨_,rfl,(((HS5.o.s2 (mtB (K+1+1))).s3 (K+1+1+1)).s4 (K+1+1+1+1))⟩
      rw [<- hv6];clear hv6 HS5;have HW:Hd (ZrX Xl[j]=5):=by unfold Hd;rw [<- HXJ.o,<- HXX.o];rfl
      have HQ:Hd ((K+1+1+1+1+1:Int)=k+(ZdR Xl (j+1):Int)):=by
       have h1:=HP.o;have h2:=HW.o;have h3:=HK.o;unfold Hd
       omega
      have HRN:=Zab (HR.o.near hlt HS6.o.near (show ZfA b (off+j*5) (c j) (c (j+1)) v6 (Zrt K x) from ⟨⟨ZbR _ (by omega),ZbR _ (by omega),ZbR _ (by omega)⟩,HS6.o.cells⟩));have HTN:=Zab (HS6.o.near.wide HR.o.lt (lo':=lo) (hi':=hi) (by have:=HBC.o;have:=HR.o.low;omega) (Nat.le_trans (HR.o.le (by omega) Zl_) HR.o.top) ⟨HR.o.low,HR.o.bh⟩);go_roundw
      . 
       refine⟨j+1,by go_num,congrArg (Value.int .i64) HQ.o,by omega,HT.o.trans HTN.o,HRN.o.to (fun i hi'=>?_)⟩
       by_cases e:i=j
       . subst e
         rw [if_pos rfl,if_pos (by omega),<- HK.o,HXX.o]
       . rw [if_neg e]
         by_cases e2:i < j
         . rw [if_pos e2,if_pos (by omega)]
         . rw [if_neg e2,if_neg (by omega)]
      . simp [intOf];omega
    . have e:j=Xl.length:=by omega
      subst e;go_wp2;go_ret;refine⟨rfl,HT.o,Or.inr ⟨b,off,cap,c,fun i=>Zrt (k+(ZdR Xl i:Int)) (X i),by rw [Zdo],?_,by rw [Zdo];exact HM.o,by rw [Zdo];exact HC.o,fun i h=>?_,?_⟩⟩
      . intro e
        have:=congrArg List.length e;rw [Zdo] at this;exact HNE.o (List.length_eq_zero_iff.1 (by simpa using this))
      . have h':i < Xl.length:=by rw [Zdo] at h;exact h
        rw [ZnX _ _ _ _ h',<- HX.o i h']
      . rw [Zdo]
        exact HR.o.to (fun i hi'=>by rw [if_pos hi'])
end Go.Proofs.YtmappejlmapboaaGreat
