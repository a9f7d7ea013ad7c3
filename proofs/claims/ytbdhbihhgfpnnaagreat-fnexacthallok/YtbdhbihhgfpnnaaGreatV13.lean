import Derived.Test.YtbdhbihhgfpnnaaGreatV12
set_option maxHeartbeats 16000000
set_option maxRecDepth 100000
open Go.Proofs.Tryz
namespace Go.Proofs.YtbdhbihhgfpnnaaGreat
section
open Go.RowKit Go.Deep
variable {w w' wr w1:World} {b o lo B k:Nat} {vv0 vv1 v:Value}
structure Ob where
 kd:Zy_
 nm:Zy_
 tm:Zy_
 vs:List Zy_
 en:Bool
 hs:List Zy_
 ver:Int
variable {x:Ob} {Xl:List Ob}
structure ZdN (x:Ob):Prop where
 s0:x.kd.size<=maxLen
 s1:x.nm.size<=maxLen
 s2:x.tm.size<=maxLen
def Zgf (x:Ob):Prop:=x.vs.length<=1048576/\x.hs.length<=1048576
structure Zdf (w:World) (b o:Nat) (x:Ob) (vv0 vv1:Value):Prop where
 c0:w.cell? ⟨b,o,none⟩=some (.string x.kd)
 c1:w.cell? ⟨b,o+1,none⟩=some (.string x.nm)
 c2:w.cell? ⟨b,o+2,none⟩=some (.string x.tm)
 c3:w.cell? ⟨b,o+3,none⟩=some vv0
 c4:w.cell? ⟨b,o+4,none⟩=some (.bool x.en)
 c5:w.cell? ⟨b,o+5,none⟩=some vv1
 c6:w.cell? ⟨b,o+6,none⟩=some (.int .i64 x.ver)
theorem Zdf.below (h:Zdf w b o x vv0 vv1) {m:Nat} (hb:Below m w w') (hlt:b < m):Zdf w' b o x vv0 vv1:=by
 have e:∀ o,w'.cell? ⟨b,o,none⟩=w.cell? ⟨b,o,none⟩:=fun o=>hb.cell (p:=⟨b,o,none⟩) hlt
 exact⟨by rw [e];exact h.c0,by rw [e];exact h.c1,by rw [e];exact h.c2,by rw [e];exact h.c3,by rw [e];exact h.c4,by rw [e];exact h.c5,by rw [e];exact h.c6⟩
theorem Zdf.set (h:Zdf w b o x vv0 vv1) {p:Addr} (hp:b≠p.block) (u:Value):Zdf (w.setCell p u) b o x vv0 vv1:=by
 have e:∀ o,(w.setCell p u).cell? ⟨b,o,none⟩=w.cell? ⟨b,o,none⟩:=fun o=>ZaA _ _ _ _ hp
 exact⟨by rw [e];exact h.c0,by rw [e];exact h.c1,by rw [e];exact h.c2,by rw [e];exact h.c3,by rw [e];exact h.c4,by rw [e];exact h.c5,by rw [e];exact h.c6⟩
def Zbv (lo:Nat) (w:World) (v:Value) (Xl:List Ob):Prop:=
 (∃ (a:Option Addr) (cap:Nat),v=.slice a 0 cap/\Xl=[])\/
 ∃ (b off cap:Nat),v=.slice (some ⟨b,off,none⟩) Xl.length cap/\Xl≠[]/\Xl.length<=maxLen/\b < w.heap.size/\lo<=b/\Xl.length<=cap/\
  ∀ i (h:i < Xl.length),ZdN Xl[i]/\∃ vv0 vv1,Zdf w b (off+i*7) Xl[i] vv0 vv1/\Zas lo w vv0 Xl[i].vs/\Zas lo w vv1 Xl[i].hs
theorem Zbv.below (h:Zbv lo w v Xl) (hb:Zw_ w w'):Zbv lo w' v Xl:=by
 rcases h with h | ⟨b,off,cap,h1,h2,h3,h4,h5,h6,h7⟩
 . exact Or.inl h
 . refine Or.inr ⟨b,off,cap,h1,h2,h3,Zk_ h4 hb.size,h5,h6,fun i hi=>?_⟩
   obtain⟨hs,vv0,vv1,hc,hv0,hv1⟩:=h7 i hi;exact⟨hs,vv0,vv1,hc.below hb h4,hv0.below hb,hv1.below hb⟩
theorem Zbv.mono {lo':Nat} (h:Zbv lo w v Xl) (hl:lo'<=lo):Zbv lo' w v Xl:=by
 rcases h with h | ⟨b,off,cap,h1,h2,h3,h4,h5,h6,h7⟩
 . exact Or.inl h
 . refine Or.inr ⟨b,off,cap,h1,h2,h3,h4,Nat.le_trans hl h5,h6,fun i hi=>?_⟩
   obtain⟨hs,vv0,vv1,hc,hv0,hv1⟩:=h7 i hi;exact⟨hs,vv0,vv1,hc,hv0.mono hl,hv1.mono hl⟩
theorem Zbv.set (h:Zbv lo w v Xl) {p:Addr} (hp:p.block < lo) (u:Value):Zbv lo (w.setCell p u) v Xl:=by
 rcases h with h | ⟨b,off,cap,h1,h2,h3,h4,h5,h6,h7⟩
 . exact Or.inl h
 . refine Or.inr ⟨b,off,cap,h1,h2,h3,by simpa [World.setCell] using h4,h5,h6,fun i hi=>?_⟩
   obtain⟨hs,vv0,vv1,hc,hv0,hv1⟩:=h7 i hi;exact⟨hs,vv0,vv1,hc.set (by omega) u,hv0.setCell hp u,hv1.setCell hp u⟩
theorem Zbv.form (h:Zbv lo w v Xl):∃ a cap,v=.slice a Xl.length cap:=by
 rcases h with ⟨a,cap,h,rfl⟩ | ⟨b,off,cap,h,_⟩
 . exact⟨a,cap,h⟩
 . exact⟨_,cap,h⟩
theorem Zbv.max (h:Zbv lo w v Xl):Xl.length<=maxLen:=by
 rcases h with ⟨a,cap,h,rfl⟩ | ⟨b,off,cap,h,_,h3,_⟩
 . exact Nat.zero_le _
 . exact h3
theorem Zbv.full (h:Zbv lo w v Xl) (hne:Xl≠[]):∃ (b off cap:Nat),v=.slice (some ⟨b,off,none⟩) Xl.length cap/\Xl.length<=maxLen/\b < w.heap.size/\Xl.length<=cap/\
 ∀ i (h:i < Xl.length),ZdN Xl[i]/\∃ vv0 vv1,Zdf w b (off+i*7) Xl[i] vv0 vv1/\Zas lo w vv0 Xl[i].vs/\Zas lo w vv1 Xl[i].hs:=by
 rcases h with ⟨_,_,_,h⟩ | ⟨b,off,cap,h1,_,h3,h4,_,h6,h7⟩
 . exact absurd h hne
 . exact⟨b,off,cap,h1,h3,h4,h6,h7⟩
theorem Zbv.full' {a:Option Addr}{n cap:Nat} (h:Zbv lo w (.slice a n cap) Xl) (hL:0 < Xl.length) :
 ∃ b off,a=some ⟨b,off,none⟩/\b < w.heap.size/\lo<=b/\∀ i (h:i < Xl.length),ZdN Xl[i]/\∃ vv0 vv1,Zdf w b (off+i*7) Xl[i] vv0 vv1/\Zas lo w vv0 Xl[i].vs/\Zas lo w vv1 Xl[i].hs:=by
 rcases h with ⟨a',cap',h,rfl⟩ | ⟨b',off',cap',h1,h2,h3,h4,h5,h6,h7⟩
 . simp at hL
 . injection h1 with e1 e2 e3
   exact⟨b',off',e1,h4,h5,h7⟩
def ZcG (Xl:List Ob):Prop:=Xl.length<=1048576/\∀ i (h:i < Xl.length),Zgf Xl[i]
def ZsB (Xl:List Ob) (left r:Int):Prop:= -1<=r/\r<=left/\(0<=r->ZcG Xl)
theorem Zpy (lo:Nat) (x:Ob) (vv0 vv1:Value) (left:Int) (w:World) (h0:0<=left) (h1:left<=1048576) (hv0:Zas lo w vv0 x.vs) (hv1:Zas lo w vv1 x.hs) (hz:ZdN x) :
 Calls prog 89 #[.agg #[.string x.kd,.string x.nm,.string x.tm,vv0,.bool x.en,vv1,.int .i64 x.ver],.int .i64 left] w
  fun e w'=>∃ r:Int,e=.returned (.int .i64 r)/\Zw_ w w'/\-1<=r/\r<=left/\(0<=r->Zgf x):=by
 refine (Zok x.kd x.nm x.tm vv0 vv1 x.en x.ver x.vs x.hs w left hv0.at hv1.at h0 h1 hz.s0 hz.s1 hz.s2).mono ?_;rintro e w' ⟨r,he,hb,q0,q1,q2⟩;exact⟨r,he,hb,q0,q1,fun h=>⟨by have:=(q2 h).1;omega,by have:=(q2 h).2;omega⟩⟩
theorem ZpJ (lo:Nat) (x:Ob) (vv0 vv1:Value) (w:World) (hv0:Zas lo w vv0 x.vs) (hv1:Zas lo w vv1 x.hs) (hn:Zgf x) :
 Calls prog 112 #[.agg #[.string x.kd,.string x.nm,.string x.tm,vv0,.bool x.en,vv1,.int .i64 x.ver]] w
  fun e w'=>∃ z0 z1,e=.returned (.agg #[.string x.kd,.string x.nm,.string x.tm,z0,.bool x.en,z1,.int .i64 x.ver])/\Zw_ w w'/\Zas w.heap.size w' z0 x.vs/\Zas w.heap.size w' z1 x.hs:=
 ZoA x.kd x.nm x.tm vv0 vv1 x.en x.ver x.vs x.hs w hv0.at hv1.at hn.1 hn.2
theorem Znr (lo lo':Nat) (x:Ob) (vv0 vv1 vv0' vv1':Value) (w:World) (hv0:Zas lo w vv0 x.vs) (hv1:Zas lo w vv1 x.hs) (hw0:Zas lo' w vv0' x.vs) (hw1:Zas lo' w vv1' x.hs) :
 Calls prog 140 #[.agg #[.string x.kd,.string x.nm,.string x.tm,vv0,.bool x.en,vv1,.int .i64 x.ver],.agg #[.string x.kd,.string x.nm,.string x.tm,vv0',.bool x.en,vv1',.int .i64 x.ver]] w fun e w'=>e=.returned (.bool true)/\Zw_ w w':=
 ZlP x.kd x.nm x.tm vv0 vv1 x.en x.ver x.vs x.hs w vv0' vv1' hv0.at hv1.at hw0.at hw1.at
theorem Zol (lo:Nat) (v:Value) (Xl:List Ob) (left:Int) (w:World) (h0:0<=left) (h1:left<=1048576) (hv:Zbv lo w v Xl) :
 Calls prog 36 #[v,.int .i64 left] w fun e w'=>∃ r:Int,e=.returned (.int .i64 r)/\Zw_ w w'/\ZsB Xl left r:=by
 rcases hv with ⟨a,cap,rfl,rfl⟩ | ⟨b,off,cap,rfl,hne,hm,hbw,_,_,hc⟩
 . go_enter func36,ntmps36
   go_wp2
   go_loop [1,5] (fun l i=>∃ r:Int,l=.int .i64 r/\0<=r/\r<=left/\i=.int .i64 0) (fun _ _=>0)
   case atStart=>exact⟨_,rfl,by omega,by omega,rfl⟩
   case round=>
    obtain⟨r,rfl,hr0,hr1,rfl⟩:=hrel;go_wp2;go_ret;exact⟨r,rfl,Below.refl _ _,by omega,by omega,fun _=>⟨by simp,fun i h=>by simp at h⟩⟩
 . unfold maxLen at hm
   by_cases hle:(Xl.length:Int)<=left
   . go_enter func36,ntmps36
     go_wp2
     go_loopw [1,5] (fun l i wr=>∃ (r:Int) (k:Nat),l=.int .i64 r/\0<=r/\r<=left/\i=.int .i64 k/\k<=Xl.length/\Zw_ w wr/\∀ j (hj:j < Xl.length),j < k->Zgf Xl[j]) (fun _ i _=>Xl.length - (intOf i).toNat)
     case atStart=>exact⟨_,0,rfl,by omega,by omega,rfl,by omega,Below.refl _ _,fun j _ h=>by omega⟩
     case round=>
      obtain⟨r,k,rfl,hr0,hr1,rfl,hk,hb,hall⟩:=hrel;have HA:=Zab hall;clear hall
      by_cases hlt:k < Xl.length
      . obtain⟨hs,vv0,vv1,hc,hv0,hv1⟩:=hc k hlt
        have HV0:=Zab (hv0.below hb);have HV1:=Zab (hv1.below hb);obtain⟨a0,k0,rfl⟩:=hv0.at.form';obtain⟨a1,k1,rfl⟩:=hv1.at.form';obtain⟨c0,c1,c2,c3,c4,c5,c6⟩:=hc.below hb hbw;clear hc hv0 hv1;go_wp2_with fail;refine (Zpy lo _ _ _ _ _ hr0 (by omega) HV0.o HV1.o hs).mono ?_;rintro e w1 ⟨r1,rfl,hb1,q0,q1,q2⟩;have HQ2:=Zab q2;have hB:Hd (Zw_ w w1):=hb.trans (hb1.mono hb.size);clear hb1 c0 c1 c2 c3 c4 c5 c6 hb q2 HV0 HV1
        by_cases hneg:r1 < 0
        . go_wp2
          go_ret;exact⟨-1,rfl,hB.o,by omega,by omega,fun h=>by omega⟩
        . have HL:Hd (Zgf Xl[k]):=HQ2.o (by omega)
          clear HQ2;go_wp2;go_roundw
          case rel=>exact⟨_,k+1,rfl,by omega,by omega,by go_num,by omega,hB.o,fun j hj h=>by
                     by_cases e:j=k
                     . subst e;exact HL.o
                     . exact HA.o j hj (by omega)⟩
          . simp [intOf];omega
      . go_wp2
        go_ret;exact⟨r,rfl,hb,by omega,by omega,fun _=>⟨by omega,fun j hj=>HA.o j hj (by omega)⟩⟩
   . go_enter func36,ntmps36
     go_wp2;go_ret;exact⟨-1,rfl,Below.refl _ _,by omega,by omega,fun h=>by omega⟩
theorem ZlQ (lo lo':Nat) (v v':Value) (Xl:List Ob) (w:World) (hv:Zbv lo w v Xl) (hv':Zbv lo' w v' Xl) :
 Calls prog 82 #[v,v'] w fun e w'=>e=.returned (.bool true)/\Zw_ w w':=by
 by_cases hL:Xl=[]
 . subst hL
   obtain⟨a,cap,rfl⟩:=hv.form;obtain⟨a',cap',rfl⟩:=hv'.form;clear hv hv';go_enter func82,ntmps82;go_wp2
   go_loop [5] (fun i=>i=.int .i64 0) (fun _=>0)
   case atStart=>rfl
   case round=>
    subst hrel;go_wp2;go_ret;exact⟨rfl,Below.refl _ _⟩
 . obtain⟨b,off,cap,rfl,hm,hbw,_,hc⟩:=hv.full hL
   obtain⟨b',off',cap',rfl,_,hbw',_,hc'⟩:=hv'.full hL;clear hv hv';unfold maxLen at hm;go_enter func82,ntmps82;go_wp2
   go_loopw [5] (fun i wr=>∃ k:Nat,i=.int .i64 k/\k<=Xl.length/\Zw_ w wr) (fun i _=>Xl.length - (intOf i).toNat)
   case atStart=>exact⟨0,rfl,by omega,Below.refl _ _⟩
   case round=>
    obtain⟨k,rfl,hk,hb⟩:=hrel
    by_cases hlt:k < Xl.length
    . obtain⟨hs,vv0,vv1,hc,hv0,hv1⟩:=hc k hlt
      obtain⟨ht,vv0',vv1',hd,hw0,hw1⟩:=hc' k hlt;have HV0:=Zab (hv0.below hb);have HW0:=Zab (hw0.below hb);have HV1:=Zab (hv1.below hb);have HW1:=Zab (hw1.below hb);obtain⟨a0,k0,rfl⟩:=hv0.at.form';obtain⟨a1,k1,rfl⟩:=hv1.at.form';obtain⟨e0,g0,rfl⟩:=hw0.at.form';obtain⟨e1,g1,rfl⟩:=hw1.at.form';obtain⟨c0,c1,c2,c3,c4,c5,c6⟩:=hc.below hb hbw;obtain⟨d0,d1,d2,d3,d4,d5,d6⟩:=hd.below hb hbw';clear hc hd hv0 hv1 hw0 hw1 hs ht;have HB:=Zab hb;clear hb;go_wp2
      go_region_with (go_at_call 140;refine (Znr lo lo' _ _ _ _ _ _ (HV0.o.below (Zb_.drew)) (HV1.o.below (Zb_.drew)) (HW0.o.below (Zb_.drew)) (HW1.o.below (Zb_.drew))).mono ?_;rintro e w1 ⟨rfl,hb1⟩;have hB:Hd (Zw_ w w1):=(HB.o.drew).trans (hb1.mono HB.o.size);clear hb1)
      all_goals go_wp2
      all_goals go_roundw
      all_goals first
       | (case rel=>exact⟨k+1,by go_num,by omega,hB.o⟩)
       | (case measure=>simp [intOf];omega)
    . go_wp2
      go_ret;exact⟨rfl,hb⟩
theorem Tryz.info126:(prog.info? 126).map (fun i=>(i.zero,i.size,i.bytes))=some (some (.agg #[.string ⟨#[]⟩,.string ⟨#[]⟩,.string ⟨#[]⟩,.slice none 0 0,.bool false,.slice none 0 0,.int .i64 0]),7,112):=by kernel_rfl
def ZbS (wr:World) (B:Nat) (Xl:List Ob) (k:Nat):Prop:=
 ∃ f,wr.rowIs B 126 (Xl.length*7) f/\∀ i (h:i < Xl.length),i < k->ZdN Xl[i]/\∃ vv0 vv1,f (i*7)=.string Xl[i].kd/\f (i*7+1)=.string Xl[i].nm/\f (i*7+2)=.string Xl[i].tm/\f (i*7+3)=vv0/\f (i*7+4)=.bool Xl[i].en/\f (i*7+5)=vv1/\f (i*7+6)=.int .i64 Xl[i].ver/\Zas (B+1) wr vv0 Xl[i].vs/\Zas (B+1) wr vv1 Xl[i].hs
theorem ZbS.below (h:ZbS wr B Xl k) (hb:Below wr.heap.size wr w1):ZbS w1 B Xl k:=by
 obtain⟨f,hr,hall⟩:=h;refine⟨f,hr.of_block (hb.block B hr.lt),fun i hi hik=>?_⟩;obtain⟨hz,vv0,vv1,h0,h1,h2,h3,h4,h5,h6,hv0,hv1⟩:=hall i hi hik;exact⟨hz,vv0,vv1,h0,h1,h2,h3,h4,h5,h6,hv0.below hb,hv1.below hb⟩
theorem ZbS.free (h:ZbS wr B Xl k) (i:Nat):wr.frozen? ⟨B,i,none⟩=false:=by
 obtain⟨f,hr,_⟩:=h;exact hr.frozen i
theorem ZbS.there (h:ZbS wr B Xl k) (i:Nat) (hi:i < Xl.length*7):∃ v,wr.cell? ⟨B,i,none⟩=some v:=by
 obtain⟨f,hr,_⟩:=h;exact⟨_,hr.cell hi⟩
theorem ZbS.step (h:ZbS w1 B Xl k) (hk:k < Xl.length) (hz:ZdN Xl[k]) (hv0:Zas (B+1) w1 vv0 Xl[k].vs) (hv1:Zas (B+1) w1 vv1 Xl[k].hs) :
 ZbS (((((((w1.setCell ⟨B,k*7,none⟩ (.string Xl[k].kd)).setCell ⟨B,k*7+1,none⟩ (.string Xl[k].nm)).setCell ⟨B,k*7+2,none⟩ (.string Xl[k].tm)).setCell ⟨B,k*7+3,none⟩ vv0).setCell ⟨B,k*7+4,none⟩ (.bool Xl[k].en)).setCell ⟨B,k*7+5,none⟩ vv1).setCell ⟨B,k*7+6,none⟩ (.int .i64 Xl[k].ver)) B Xl (k+1):=by
 obtain⟨f,hr,hall⟩:=h;refine⟨_,(((((((hr.set _ _).set _ _).set _ _).set _ _).set _ _).set _ _).set _ _),fun i hi hik=>?_⟩
 by_cases e:i=k
 . subst e
   refine⟨hz,vv0,vv1,by simp,by simp,by simp,by simp,by simp,by simp,by simp,?_,?_⟩
   . repeat (refine Zas.setCell ?_ (by simp only [];omega) _)
     exact hv0
   . repeat (refine Zas.setCell ?_ (by simp only [];omega) _)
     exact hv1
 . obtain⟨hz',vv0',vv1',h0,h1,h2,h3,h4,h5,h6,hv0',hv1'⟩:=hall i hi (by omega)
   refine⟨hz',vv0',vv1',?_,?_,?_,?_,?_,?_,?_,?_,?_⟩
   . rw [if_neg (by omega),if_neg (by omega),if_neg (by omega),if_neg (by omega),if_neg (by omega),if_neg (by omega),if_neg (by omega)];exact h0
   . rw [if_neg (by omega),if_neg (by omega),if_neg (by omega),if_neg (by omega),if_neg (by omega),if_neg (by omega),if_neg (by omega)];exact h1
   . rw [if_neg (by omega),if_neg (by omega),if_neg (by omega),if_neg (by omega),if_neg (by omega),if_neg (by omega),if_neg (by omega)];exact h2
   . rw [if_neg (by omega),if_neg (by omega),if_neg (by omega),if_neg (by omega),if_neg (by omega),if_neg (by omega),if_neg (by omega)];exact h3
   . rw [if_neg (by omega),if_neg (by omega),if_neg (by omega),if_neg (by omega),if_neg (by omega),if_neg (by omega),if_neg (by omega)];exact h4
   . rw [if_neg (by omega),if_neg (by omega),if_neg (by omega),if_neg (by omega),if_neg (by omega),if_neg (by omega),if_neg (by omega)];exact h5
   . rw [if_neg (by omega),if_neg (by omega),if_neg (by omega),if_neg (by omega),if_neg (by omega),if_neg (by omega),if_neg (by omega)];exact h6
   . repeat (refine Zas.setCell ?_ (by simp only [];omega) _)
     exact hv0'
   . repeat (refine Zas.setCell ?_ (by simp only [];omega) _)
     exact hv1'
theorem ZbS.done (h:ZbS wr B Xl k) (hk:Xl.length<=k) (hne:Xl≠[]) (hm:Xl.length<=maxLen):Zbv B wr (.slice (some ⟨B,0,none⟩) Xl.length Xl.length) Xl:=by
 obtain⟨f,hr,hall⟩:=h;refine Or.inr ⟨B,0,Xl.length,rfl,hne,hm,hr.lt,Nat.le_refl _,Nat.le_refl _,fun i hi=>?_⟩;obtain⟨hz,vv0,vv1,h0,h1,h2,h3,h4,h5,h6,hv0,hv1⟩:=hall i hi (by omega);rw [Nat.zero_add];exact⟨hz,vv0,vv1,⟨by rw [hr.cell (by omega),h0],by rw [hr.cell (by omega),h1],by rw [hr.cell (by omega),h2],by rw [hr.cell (by omega),h3],by rw [hr.cell (by omega),h4],by rw [hr.cell (by omega),h5],by rw [hr.cell (by omega),h6]⟩,hv0.mono (by omega),hv1.mono (by omega)⟩
theorem ZbS.new (w:World) (Xl:List Ob) (z:Array Value):ZbS (w.alloc (.cells (madeCells z (Xl.length*7)) 126)) w.heap.size Xl 0:=by
 refine⟨fun i=>(madeCells z (Xl.length*7)).getD i default,?_,fun i _ h=>by omega⟩;have:=World.rowIs_alloc w (madeCells z (Xl.length*7)) 126 (fun i=>(madeCells z (Xl.length*7)).getD i default) (fun i hi=>by simp [Array.getD,hi])
 rwa [size_madeCells] at this
theorem ZoB (lo:Nat) (v:Value) (Xl:List Ob) (w:World) (hv:Zbv lo w v Xl) (hn:ZcG Xl) :
 Calls prog 61 #[v] w fun e w'=>∃ v',e=.returned v'/\Zw_ w w'/\Zbv w.heap.size w' v' Xl:=by
 obtain⟨i0,hi,hz0,hz1,hz2⟩:=info_parts Tryz.info126;have HSM:=Zab hn.2;have hn1:=hn.1;clear hn
 by_cases hL:Xl=[]
 . subst hL
   obtain⟨a,cap,rfl⟩:=hv.form;clear hv
   have hmk:∀ u:World,(Instr.makeSlice 46 (.int .i64 0) (.int .i64 0)).run prog u=.ok (.slice (some ⟨u.heap.size,0,none⟩) 0 0) (u.alloc (.cells (madeCells (Value.cells (.agg #[.string ⟨#[]⟩,.string ⟨#[]⟩,.string ⟨#[]⟩,.slice none 0 0,.bool false,.slice none 0 0,.int .i64 0])) 0) 126)):=fun u=>by
    have h:=run_make (P:=prog) u 46 126 i0 _ underlying46 hi hz0 .i64 .i64 0 0 (by omega) (by omega) (by omega) (by omega)
    simpa [hz1] using h
   go_enter func61,ntmps61;go_wp2
   go_loop [4] (fun i=>i=.int .i64 0) (fun _=>0)
   case atStart=>rfl
   case round=>
    subst hrel;go_wp2;go_ret;exact⟨_,rfl,Zb_.alloc Zl_ _,Or.inl ⟨_,_,rfl,rfl⟩⟩
 . obtain⟨b,off,cap,rfl,hm,hbw,_,hc⟩:=hv.full hL
   clear hv;have HM:Hd (Xl.length<=maxLen):=hm;unfold maxLen at hm
   have hmk:∀ u:World,(Instr.makeSlice 46 (.int .i64 (Xl.length:Int)) (.int .i64 (Xl.length:Int))).run prog u=.ok (.slice (some ⟨u.heap.size,0,none⟩) Xl.length Xl.length) (u.alloc (.cells (madeCells (Value.cells (.agg #[.string ⟨#[]⟩,.string ⟨#[]⟩,.string ⟨#[]⟩,.slice none 0 0,.bool false,.slice none 0 0,.int .i64 0])) (Xl.length*7)) 126)):=fun u=>by
    have h:=run_make (P:=prog) u 46 126 i0 _ underlying46 hi hz0 .i64 .i64 Xl.length Xl.length (by omega) (by omega) (by rw [hz2];omega) (by omega);rw [hz1] at h
    simpa using h
   clear hi hz0 hz1 hz2;go_enter func61,ntmps61;go_wp2;clear hmk
   go_loopw [4] (fun i wr=>∃ k:Nat,i=.int .i64 k/\k<=Xl.length/\Zw_ w wr/\ZbS wr w.heap.size Xl k) (fun i _=>Xl.length - (intOf i).toNat)
   case atStart=>exact⟨0,rfl,by omega,Zb_.alloc Zl_ _,ZbS.new w Xl _⟩
   case round=>
    obtain⟨k,rfl,hk,hb,hf⟩:=hrel
    by_cases hlt:k < Xl.length
    . obtain⟨hs,vv0,vv1,hc,hv0,hv1⟩:=hc k hlt
      have HV0:=Zab (hv0.below hb);have HV1:=Zab (hv1.below hb);obtain⟨a0,k0,rfl⟩:=hv0.at.form';obtain⟨a1,k1,rfl⟩:=hv1.at.form';obtain⟨c0,c1,c2,c3,c4,c5,c6⟩:=hc.below hb hbw
      have hBl:w.heap.size < wr.heap.size:=by
       obtain⟨_,hr,_⟩:=hf;exact hr.lt
      clear hc hv0 hv1;go_wp2_with fail;refine (ZpJ lo _ _ _ _ HV0.o HV1.o (HSM.o k hlt)).mono ?_;rintro e w1 ⟨z0,z1,rfl,hb1,hz0,hz1⟩;obtain⟨m0,n0,rfl⟩:=hz0.at.form';obtain⟨m1,n1,rfl⟩:=hz1.at.form';have hf1:=hf.below hb1;have HST:=Zab (hf1.step hlt hs (hz0.mono (by omega)) (hz1.mono (by omega)));have hB:Hd (Zw_ w w1):=hb.trans (hb1.mono hb.size);have hfr:=hf1.free;obtain⟨o0,ho0⟩:=hf1.there (k*7) (by omega);obtain⟨o1,ho1⟩:=hf1.there (k*7+1) (by omega);obtain⟨o2,ho2⟩:=hf1.there (k*7+2) (by omega);obtain⟨o3,ho3⟩:=hf1.there (k*7+3) (by omega);obtain⟨o4,ho4⟩:=hf1.there (k*7+4) (by omega);obtain⟨o5,ho5⟩:=hf1.there (k*7+5) (by omega);obtain⟨o6,ho6⟩:=hf1.there (k*7+6) (by omega);clear hf hf1 hb1 hb c0 c1 c2 c3 c4 c5 c6 hz0 HV0 hz1 HV1;go_wp2;go_roundw
      . 
       exact⟨k+1,by go_num,by omega,(((((((hB.o.setCell Zl_ _).setCell Zl_ _).setCell Zl_ _).setCell Zl_ _).setCell Zl_ _).setCell Zl_ _).setCell Zl_ _),HST.o⟩
      . simp [intOf];omega
    . go_wp2
      go_ret;exact⟨_,rfl,hb,hf.done (by omega) hL HM.o⟩
end
section
open Go.RowKit Go.Deep
variable {w w' wr w1:World} {b o lo B k:Nat} {v:Value}
structure Le where
 tm:Zy_
 re:Zy_
 mo:Int
 fr:Int
variable {x:Le} {Xl:List Le}
structure Zfu (x:Le):Prop where
 s0:x.tm.size<=maxLen
 s1:x.re.size<=maxLen
def Zh0 (x:Le):Prop:=x=x
structure Zde (w:World) (b o:Nat) (x:Le):Prop where
 c0:w.cell? ⟨b,o,none⟩=some (.string x.tm)
 c1:w.cell? ⟨b,o+1,none⟩=some (.string x.re)
 c2:w.cell? ⟨b,o+2,none⟩=some (.int .i64 x.mo)
 c3:w.cell? ⟨b,o+3,none⟩=some (.int .i64 x.fr)
theorem Zde.below (h:Zde w b o x ) {m:Nat} (hb:Below m w w') (hlt:b < m):Zde w' b o x:=by
 have e:∀ o,w'.cell? ⟨b,o,none⟩=w.cell? ⟨b,o,none⟩:=fun o=>hb.cell (p:=⟨b,o,none⟩) hlt
 exact⟨by rw [e];exact h.c0,by rw [e];exact h.c1,by rw [e];exact h.c2,by rw [e];exact h.c3⟩
theorem Zde.set (h:Zde w b o x ) {p:Addr} (hp:b≠p.block) (u:Value):Zde (w.setCell p u) b o x:=by
 have e:∀ o,(w.setCell p u).cell? ⟨b,o,none⟩=w.cell? ⟨b,o,none⟩:=fun o=>ZaA _ _ _ _ hp
 exact⟨by rw [e];exact h.c0,by rw [e];exact h.c1,by rw [e];exact h.c2,by rw [e];exact h.c3⟩
def ZbQ (lo:Nat) (w:World) (v:Value) (Xl:List Le):Prop:=
 (∃ (a:Option Addr) (cap:Nat),v=.slice a 0 cap/\Xl=[])\/
 ∃ (b off cap:Nat),v=.slice (some ⟨b,off,none⟩) Xl.length cap/\Xl≠[]/\Xl.length<=maxLen/\b < w.heap.size/\lo<=b/\Xl.length<=cap/\
  ∀ i (h:i < Xl.length),Zfu Xl[i]/\Zde w b (off+i*4) Xl[i]
theorem ZbQ.below (h:ZbQ lo w v Xl) (hb:Zw_ w w'):ZbQ lo w' v Xl:=by
 rcases h with h | ⟨b,off,cap,h1,h2,h3,h4,h5,h6,h7⟩
 . exact Or.inl h
 . refine Or.inr ⟨b,off,cap,h1,h2,h3,Zk_ h4 hb.size,h5,h6,fun i hi=>?_⟩
   obtain⟨hs,hc⟩:=h7 i hi;exact⟨hs,hc.below hb h4⟩
theorem ZbQ.mono {lo':Nat} (h:ZbQ lo w v Xl) (hl:lo'<=lo):ZbQ lo' w v Xl:=by
 rcases h with h | ⟨b,off,cap,h1,h2,h3,h4,h5,h6,h7⟩
 . exact Or.inl h
 . refine Or.inr ⟨b,off,cap,h1,h2,h3,h4,Nat.le_trans hl h5,h6,fun i hi=>?_⟩
   obtain⟨hs,hc⟩:=h7 i hi;exact⟨hs,hc⟩
theorem ZbQ.set (h:ZbQ lo w v Xl) {p:Addr} (hp:p.block < lo) (u:Value):ZbQ lo (w.setCell p u) v Xl:=by
 rcases h with h | ⟨b,off,cap,h1,h2,h3,h4,h5,h6,h7⟩
 . exact Or.inl h
 . refine Or.inr ⟨b,off,cap,h1,h2,h3,by simpa [World.setCell] using h4,h5,h6,fun i hi=>?_⟩
   obtain⟨hs,hc⟩:=h7 i hi;exact⟨hs,hc.set (by omega) u⟩
theorem ZbQ.form (h:ZbQ lo w v Xl):∃ a cap,v=.slice a Xl.length cap:=by
 rcases h with ⟨a,cap,h,rfl⟩ | ⟨b,off,cap,h,_⟩
 . exact⟨a,cap,h⟩
 . exact⟨_,cap,h⟩
theorem ZbQ.max (h:ZbQ lo w v Xl):Xl.length<=maxLen:=by
 rcases h with ⟨a,cap,h,rfl⟩ | ⟨b,off,cap,h,_,h3,_⟩
 . exact Nat.zero_le _
 . exact h3
theorem ZbQ.full (h:ZbQ lo w v Xl) (hne:Xl≠[]):∃ (b off cap:Nat),v=.slice (some ⟨b,off,none⟩) Xl.length cap/\Xl.length<=maxLen/\b < w.heap.size/\Xl.length<=cap/\
 ∀ i (h:i < Xl.length),Zfu Xl[i]/\Zde w b (off+i*4) Xl[i]:=by
 rcases h with ⟨_,_,_,h⟩ | ⟨b,off,cap,h1,_,h3,h4,_,h6,h7⟩
 . exact absurd h hne
 . exact⟨b,off,cap,h1,h3,h4,h6,h7⟩
theorem ZbQ.full' {a:Option Addr}{n cap:Nat} (h:ZbQ lo w (.slice a n cap) Xl) (hL:0 < Xl.length) :
 ∃ b off,a=some ⟨b,off,none⟩/\b < w.heap.size/\lo<=b/\∀ i (h:i < Xl.length),Zfu Xl[i]/\Zde w b (off+i*4) Xl[i]:=by
 rcases h with ⟨a',cap',h,rfl⟩ | ⟨b',off',cap',h1,h2,h3,h4,h5,h6,h7⟩
 . simp at hL
 . injection h1 with e1 e2 e3
   exact⟨b',off',e1,h4,h5,h7⟩
def Zh1 (Xl:List Le):Prop:=Xl.length<=1048576/\∀ i (h:i < Xl.length),Zh0 Xl[i]
def Zsz (Xl:List Le) (left r:Int):Prop:= -1<=r/\r<=left/\(0<=r->Zh1 Xl)
theorem Zpx (x:Le) (left:Int) (w:World) (h0:0<=left) (h1:left<=1048576) (hz:Zfu x) :
 Calls prog 90 #[.agg #[.string x.tm,.string x.re,.int .i64 x.mo,.int .i64 x.fr],.int .i64 left] w
  fun e w'=>∃ r:Int,e=.returned (.int .i64 r)/\Zw_ w w'/\-1<=r/\r<=left/\(0<=r->Zh0 x):=by
 obtain⟨s0,s1⟩:=hz;unfold maxLen at s0 s1;go_enter func90,ntmps90;go_wp2
 all_goals go_ret
 all_goals exact⟨_,rfl,Zb_.alloc Zl_ _,by omega,by omega,fun _=>rfl⟩
theorem ZpI (x:Le) (w:World) :
 Calls prog 113 #[.agg #[.string x.tm,.string x.re,.int .i64 x.mo,.int .i64 x.fr]] w fun e w'=>e=.returned (.agg #[.string x.tm,.string x.re,.int .i64 x.mo,.int .i64 x.fr])/\Zw_ w w':=by
 go_enter func113,ntmps113;go_wp2;refine bodyPost_ret (v:=.agg #[.string x.tm,.string x.re,.int .i64 x.mo,.int .i64 x.fr]) (by simp [results,results113,go_sem]) rfl ⟨rfl,?_⟩
 repeat (refine Below.setCell ?_ (by simp) _)
 exact ((Zb_.alloc Zl_ _).alloc (by simp) _).alloc (by simp;omega) _
theorem Znq (x:Le) (w:World) :
 Calls prog 141 #[.agg #[.string x.tm,.string x.re,.int .i64 x.mo,.int .i64 x.fr],.agg #[.string x.tm,.string x.re,.int .i64 x.mo,.int .i64 x.fr]] w fun e w'=>e=.returned (.bool true)/\Zw_ w w':=by
 go_enter func141,ntmps141;go_wp2;go_ret;exact⟨rfl,(Zb_.alloc Zl_ _).alloc (by simp) _⟩
theorem Zoj (lo:Nat) (v:Value) (Xl:List Le) (left:Int) (w:World) (h0:0<=left) (h1:left<=1048576) (hv:ZbQ lo w v Xl) :
 Calls prog 37 #[v,.int .i64 left] w fun e w'=>∃ r:Int,e=.returned (.int .i64 r)/\Zw_ w w'/\Zsz Xl left r:=by
 rcases hv with ⟨a,cap,rfl,rfl⟩ | ⟨b,off,cap,rfl,hne,hm,hbw,_,_,hc⟩
 . go_enter func37,ntmps37
   go_wp2
   go_loop [1,5] (fun l i=>∃ r:Int,l=.int .i64 r/\0<=r/\r<=left/\i=.int .i64 0) (fun _ _=>0)
   case atStart=>exact⟨_,rfl,by omega,by omega,rfl⟩
   case round=>
    obtain⟨r,rfl,hr0,hr1,rfl⟩:=hrel;go_wp2;go_ret;exact⟨r,rfl,Below.refl _ _,by omega,by omega,fun _=>⟨by simp,fun i h=>by simp at h⟩⟩
 . unfold maxLen at hm
   by_cases hle:(Xl.length:Int)<=left
   . go_enter func37,ntmps37
     go_wp2
     go_loopw [1,5] (fun l i wr=>∃ (r:Int) (k:Nat),l=.int .i64 r/\0<=r/\r<=left/\i=.int .i64 k/\k<=Xl.length/\Zw_ w wr/\∀ j (hj:j < Xl.length),j < k->Zh0 Xl[j]) (fun _ i _=>Xl.length - (intOf i).toNat)
     case atStart=>exact⟨_,0,rfl,by omega,by omega,rfl,by omega,Below.refl _ _,fun j _ h=>by omega⟩
     case round=>
      obtain⟨r,k,rfl,hr0,hr1,rfl,hk,hb,hall⟩:=hrel;have HA:=Zab hall;clear hall
      by_cases hlt:k < Xl.length
      . obtain⟨hs,hc⟩:=hc k hlt
        obtain⟨c0,c1,c2,c3⟩:=hc.below hb hbw;clear hc;go_wp2_with fail;refine (Zpx _ _ _ hr0 (by omega) hs).mono ?_;rintro e w1 ⟨r1,rfl,hb1,q0,q1,q2⟩;have HQ2:=Zab q2;have hB:Hd (Zw_ w w1):=hb.trans (hb1.mono hb.size);clear hb1 c0 c1 c2 c3 hb q2
        by_cases hneg:r1 < 0
        . go_wp2
          go_ret;exact⟨-1,rfl,hB.o,by omega,by omega,fun h=>by omega⟩
        . have HL:Hd (Zh0 Xl[k]):=HQ2.o (by omega)
          clear HQ2;go_wp2;go_roundw
          case rel=>exact⟨_,k+1,rfl,by omega,by omega,by go_num,by omega,hB.o,fun j hj h=>by
                     by_cases e:j=k
                     . subst e;exact HL.o
                     . exact HA.o j hj (by omega)⟩
          . simp [intOf];omega
      . go_wp2
        go_ret;exact⟨r,rfl,hb,by omega,by omega,fun _=>⟨by omega,fun j hj=>HA.o j hj (by omega)⟩⟩
   . go_enter func37,ntmps37
     go_wp2;go_ret;exact⟨-1,rfl,Below.refl _ _,by omega,by omega,fun h=>by omega⟩
theorem ZlO (lo lo':Nat) (v v':Value) (Xl:List Le) (w:World) (hv:ZbQ lo w v Xl) (hv':ZbQ lo' w v' Xl) :
 Calls prog 83 #[v,v'] w fun e w'=>e=.returned (.bool true)/\Zw_ w w':=by
 by_cases hL:Xl=[]
 . subst hL
   obtain⟨a,cap,rfl⟩:=hv.form;obtain⟨a',cap',rfl⟩:=hv'.form;clear hv hv';go_enter func83,ntmps83;go_wp2
   go_loop [5] (fun i=>i=.int .i64 0) (fun _=>0)
   case atStart=>rfl
   case round=>
    subst hrel;go_wp2;go_ret;exact⟨rfl,Below.refl _ _⟩
 . obtain⟨b,off,cap,rfl,hm,hbw,_,hc⟩:=hv.full hL
   obtain⟨b',off',cap',rfl,_,hbw',_,hc'⟩:=hv'.full hL;clear hv hv';unfold maxLen at hm;go_enter func83,ntmps83;go_wp2
   go_loopw [5] (fun i wr=>∃ k:Nat,i=.int .i64 k/\k<=Xl.length/\Zw_ w wr) (fun i _=>Xl.length - (intOf i).toNat)
   case atStart=>exact⟨0,rfl,by omega,Below.refl _ _⟩
   case round=>
    obtain⟨k,rfl,hk,hb⟩:=hrel
    by_cases hlt:k < Xl.length
    . obtain⟨hs,hc⟩:=hc k hlt
      obtain⟨ht,hd⟩:=hc' k hlt;obtain⟨c0,c1,c2,c3⟩:=hc.below hb hbw;obtain⟨d0,d1,d2,d3⟩:=hd.below hb hbw';clear hc hd hs ht;have HB:=Zab hb;clear hb;go_wp2
      go_region_with (go_at_call 141;refine (Znq _ _ ).mono ?_;rintro e w1 ⟨rfl,hb1⟩;have hB:Hd (Zw_ w w1):=(HB.o.drew).trans (hb1.mono HB.o.size);clear hb1)
      all_goals go_wp2
      all_goals go_roundw
      all_goals first
       | (case rel=>exact⟨k+1,by go_num,by omega,hB.o⟩)
       | (case measure=>simp [intOf];omega)
    . go_wp2
      go_ret;exact⟨rfl,hb⟩
theorem Tryz.info190:(prog.info? 190).map (fun i=>(i.zero,i.size,i.bytes))=some (some (.agg #[.string ⟨#[]⟩,.string ⟨#[]⟩,.int .i64 0,.int .i64 0]),4,48):=by kernel_rfl
def ZbR (wr:World) (B:Nat) (Xl:List Le) (k:Nat):Prop:=
 ∃ f,wr.rowIs B 190 (Xl.length*4) f/\∀ i (h:i < Xl.length),i < k->Zfu Xl[i]/\f (i*4)=.string Xl[i].tm/\f (i*4+1)=.string Xl[i].re/\f (i*4+2)=.int .i64 Xl[i].mo/\f (i*4+3)=.int .i64 Xl[i].fr
theorem ZbR.below (h:ZbR wr B Xl k) (hb:Below wr.heap.size wr w1):ZbR w1 B Xl k:=by
 obtain⟨f,hr,hall⟩:=h;refine⟨f,hr.of_block (hb.block B hr.lt),fun i hi hik=>?_⟩;obtain⟨hz,h0,h1,h2,h3⟩:=hall i hi hik;exact⟨hz,h0,h1,h2,h3⟩
theorem ZbR.free (h:ZbR wr B Xl k) (i:Nat):wr.frozen? ⟨B,i,none⟩=false:=by
 obtain⟨f,hr,_⟩:=h;exact hr.frozen i
theorem ZbR.there (h:ZbR wr B Xl k) (i:Nat) (hi:i < Xl.length*4):∃ v,wr.cell? ⟨B,i,none⟩=some v:=by
 obtain⟨f,hr,_⟩:=h;exact⟨_,hr.cell hi⟩
theorem ZbR.step (h:ZbR w1 B Xl k) (hk:k < Xl.length) (hz:Zfu Xl[k]) :
 ZbR ((((w1.setCell ⟨B,k*4,none⟩ (.string Xl[k].tm)).setCell ⟨B,k*4+1,none⟩ (.string Xl[k].re)).setCell ⟨B,k*4+2,none⟩ (.int .i64 Xl[k].mo)).setCell ⟨B,k*4+3,none⟩ (.int .i64 Xl[k].fr)) B Xl (k+1):=by
 obtain⟨f,hr,hall⟩:=h;refine⟨_,((((hr.set _ _).set _ _).set _ _).set _ _),fun i hi hik=>?_⟩
 by_cases e:i=k
 . subst e
   refine⟨hz,by simp,by simp,by simp,by simp⟩
 . obtain⟨hz',h0,h1,h2,h3⟩:=hall i hi (by omega)
   refine⟨hz',?_,?_,?_,?_⟩
   . rw [if_neg (by omega),if_neg (by omega),if_neg (by omega),if_neg (by omega)];exact h0
   . rw [if_neg (by omega),if_neg (by omega),if_neg (by omega),if_neg (by omega)];exact h1
   . rw [if_neg (by omega),if_neg (by omega),if_neg (by omega),if_neg (by omega)];exact h2
   . rw [if_neg (by omega),if_neg (by omega),if_neg (by omega),if_neg (by omega)];exact h3
theorem ZbR.done (h:ZbR wr B Xl k) (hk:Xl.length<=k) (hne:Xl≠[]) (hm:Xl.length<=maxLen):ZbQ B wr (.slice (some ⟨B,0,none⟩) Xl.length Xl.length) Xl:=by
 obtain⟨f,hr,hall⟩:=h;refine Or.inr ⟨B,0,Xl.length,rfl,hne,hm,hr.lt,Nat.le_refl _,Nat.le_refl _,fun i hi=>?_⟩;obtain⟨hz,h0,h1,h2,h3⟩:=hall i hi (by omega);rw [Nat.zero_add];exact⟨hz,⟨by rw [hr.cell (by omega),h0],by rw [hr.cell (by omega),h1],by rw [hr.cell (by omega),h2],by rw [hr.cell (by omega),h3]⟩⟩
theorem ZbR.new (w:World) (Xl:List Le) (z:Array Value):ZbR (w.alloc (.cells (madeCells z (Xl.length*4)) 190)) w.heap.size Xl 0:=by
 refine⟨fun i=>(madeCells z (Xl.length*4)).getD i default,?_,fun i _ h=>by omega⟩;have:=World.rowIs_alloc w (madeCells z (Xl.length*4)) 190 (fun i=>(madeCells z (Xl.length*4)).getD i default) (fun i hi=>by simp [Array.getD,hi])
 rwa [size_madeCells] at this
theorem Zoz (lo:Nat) (v:Value) (Xl:List Le) (w:World) (hv:ZbQ lo w v Xl) (hn:Zh1 Xl) :
 Calls prog 62 #[v] w fun e w'=>∃ v',e=.returned v'/\Zw_ w w'/\ZbQ w.heap.size w' v' Xl:=by
 obtain⟨i0,hi,hz0,hz1,hz2⟩:=info_parts Tryz.info190;have hn1:=hn.1;clear hn
 by_cases hL:Xl=[]
 . subst hL
   obtain⟨a,cap,rfl⟩:=hv.form;clear hv
   have hmk:∀ u:World,(Instr.makeSlice 47 (.int .i64 0) (.int .i64 0)).run prog u=.ok (.slice (some ⟨u.heap.size,0,none⟩) 0 0) (u.alloc (.cells (madeCells (Value.cells (.agg #[.string ⟨#[]⟩,.string ⟨#[]⟩,.int .i64 0,.int .i64 0])) 0) 190)):=fun u=>by
    have h:=run_make (P:=prog) u 47 190 i0 _ underlying47 hi hz0 .i64 .i64 0 0 (by omega) (by omega) (by omega) (by omega)
    simpa [hz1] using h
   go_enter func62,ntmps62;go_wp2
   go_loop [4] (fun i=>i=.int .i64 0) (fun _=>0)
   case atStart=>rfl
   case round=>
    subst hrel;go_wp2;go_ret;exact⟨_,rfl,Zb_.alloc Zl_ _,Or.inl ⟨_,_,rfl,rfl⟩⟩
 . obtain⟨b,off,cap,rfl,hm,hbw,_,hc⟩:=hv.full hL
   clear hv;have HM:Hd (Xl.length<=maxLen):=hm;unfold maxLen at hm
   have hmk:∀ u:World,(Instr.makeSlice 47 (.int .i64 (Xl.length:Int)) (.int .i64 (Xl.length:Int))).run prog u=.ok (.slice (some ⟨u.heap.size,0,none⟩) Xl.length Xl.length) (u.alloc (.cells (madeCells (Value.cells (.agg #[.string ⟨#[]⟩,.string ⟨#[]⟩,.int .i64 0,.int .i64 0])) (Xl.length*4)) 190)):=fun u=>by
    have h:=run_make (P:=prog) u 47 190 i0 _ underlying47 hi hz0 .i64 .i64 Xl.length Xl.length (by omega) (by omega) (by rw [hz2];omega) (by omega);rw [hz1] at h
    simpa using h
   clear hi hz0 hz1 hz2;go_enter func62,ntmps62;go_wp2;clear hmk
   go_loopw [4] (fun i wr=>∃ k:Nat,i=.int .i64 k/\k<=Xl.length/\Zw_ w wr/\ZbR wr w.heap.size Xl k) (fun i _=>Xl.length - (intOf i).toNat)
   case atStart=>exact⟨0,rfl,by omega,Zb_.alloc Zl_ _,ZbR.new w Xl _⟩
   case round=>
    obtain⟨k,rfl,hk,hb,hf⟩:=hrel
    by_cases hlt:k < Xl.length
    . obtain⟨hs,hc⟩:=hc k hlt
      obtain⟨c0,c1,c2,c3⟩:=hc.below hb hbw
      have hBl:w.heap.size < wr.heap.size:=by
       obtain⟨_,hr,_⟩:=hf;exact hr.lt
      clear hc;go_wp2_with fail;refine (ZpI _ _ ).mono ?_;rintro e w1 ⟨rfl,hb1⟩;have hf1:=hf.below hb1;have HST:=Zab (hf1.step hlt hs );have hB:Hd (Zw_ w w1):=hb.trans (hb1.mono hb.size);have hfr:=hf1.free;obtain⟨o0,ho0⟩:=hf1.there (k*4) (by omega);obtain⟨o1,ho1⟩:=hf1.there (k*4+1) (by omega);obtain⟨o2,ho2⟩:=hf1.there (k*4+2) (by omega);obtain⟨o3,ho3⟩:=hf1.there (k*4+3) (by omega);clear hf hf1 hb1 hb c0 c1 c2 c3;go_wp2;go_roundw
      . 
       exact⟨k+1,by go_num,by omega,((((hB.o.setCell Zl_ _).setCell Zl_ _).setCell Zl_ _).setCell Zl_ _),HST.o⟩
      . simp [intOf];omega
    . go_wp2
      go_ret;exact⟨_,rfl,hb,hf.done (by omega) hL HM.o⟩
end
section
open Go.RowKit Go.Deep
theorem Zed {x y:Zy_}:(x.toList == y.toList)=false↔x≠y:=by
 rw [<- Bool.not_eq_true,ZaI]
theorem zbt {W0 W W':World} (h:Below W0.heap.size W0 W) (hb:Below W.heap.size W W'):Below W0.heap.size W0 W':=h.trans (hb.mono h.size)
end
section
open Go.RowKit Go.Deep
variable {w w' wr w1:World} {b o lo B k:Nat} {v:Value}
structure Sv where
 nm:Zy_
 ve:Int
 gn:Bool
 im:Int
 wa:Int
 dn:Int
 ov:Int
 nx:Int
 pr:Int
 ls:Int
 ms:Int
 ld:Int
 cl:Int
variable {x:Sv} {Xl:List Sv}
structure ZdV (x:Sv):Prop where
 s0:x.nm.size<=maxLen
def Zh5 (x:Sv):Prop:=x=x
structure Zcn (w:World) (b o:Nat) (x:Sv):Prop where
 c0:w.cell? ⟨b,o,none⟩=some (.string x.nm)
 c1:w.cell? ⟨b,o+1,none⟩=some (.int .i64 x.ve)
 c2:w.cell? ⟨b,o+2,none⟩=some (.bool x.gn)
 c3:w.cell? ⟨b,o+3,none⟩=some (.int .i64 x.im)
 c4:w.cell? ⟨b,o+4,none⟩=some (.int .i64 x.wa)
 c5:w.cell? ⟨b,o+5,none⟩=some (.int .i64 x.dn)
 c6:w.cell? ⟨b,o+6,none⟩=some (.int .i64 x.ov)
 c7:w.cell? ⟨b,o+7,none⟩=some (.int .i64 x.nx)
 c8:w.cell? ⟨b,o+8,none⟩=some (.int .i64 x.pr)
 c9:w.cell? ⟨b,o+9,none⟩=some (.int .i64 x.ls)
 c10:w.cell? ⟨b,o+10,none⟩=some (.int .i64 x.ms)
 c11:w.cell? ⟨b,o+11,none⟩=some (.int .i64 x.ld)
 c12:w.cell? ⟨b,o+12,none⟩=some (.int .i64 x.cl)
theorem Zcn.below (h:Zcn w b o x ) {m:Nat} (hb:Below m w w') (hlt:b < m):Zcn w' b o x:=by
 have e:∀ o,w'.cell? ⟨b,o,none⟩=w.cell? ⟨b,o,none⟩:=fun o=>hb.cell (p:=⟨b,o,none⟩) hlt
 exact⟨by rw [e];exact h.c0,by rw [e];exact h.c1,by rw [e];exact h.c2,by rw [e];exact h.c3,by rw [e];exact h.c4,by rw [e];exact h.c5,by rw [e];exact h.c6,by rw [e];exact h.c7,by rw [e];exact h.c8,by rw [e];exact h.c9,by rw [e];exact h.c10,by rw [e];exact h.c11,by rw [e];exact h.c12⟩
theorem Zcn.set (h:Zcn w b o x ) {p:Addr} (hp:b≠p.block) (u:Value):Zcn (w.setCell p u) b o x:=by
 have e:∀ o,(w.setCell p u).cell? ⟨b,o,none⟩=w.cell? ⟨b,o,none⟩:=fun o=>ZaA _ _ _ _ hp
 exact⟨by rw [e];exact h.c0,by rw [e];exact h.c1,by rw [e];exact h.c2,by rw [e];exact h.c3,by rw [e];exact h.c4,by rw [e];exact h.c5,by rw [e];exact h.c6,by rw [e];exact h.c7,by rw [e];exact h.c8,by rw [e];exact h.c9,by rw [e];exact h.c10,by rw [e];exact h.c11,by rw [e];exact h.c12⟩
def Zbx (lo:Nat) (w:World) (v:Value) (Xl:List Sv):Prop:=
 (∃ (a:Option Addr) (cap:Nat),v=.slice a 0 cap/\Xl=[])\/
 ∃ (b off cap:Nat),v=.slice (some ⟨b,off,none⟩) Xl.length cap/\Xl≠[]/\Xl.length<=maxLen/\b < w.heap.size/\lo<=b/\Xl.length<=cap/\
  ∀ i (h:i < Xl.length),ZdV Xl[i]/\Zcn w b (off+i*13) Xl[i]
theorem Zbx.below (h:Zbx lo w v Xl) (hb:Zw_ w w'):Zbx lo w' v Xl:=by
 rcases h with h | ⟨b,off,cap,h1,h2,h3,h4,h5,h6,h7⟩
 . exact Or.inl h
 . refine Or.inr ⟨b,off,cap,h1,h2,h3,Zk_ h4 hb.size,h5,h6,fun i hi=>?_⟩
   obtain⟨hs,hc⟩:=h7 i hi;exact⟨hs,hc.below hb h4⟩
theorem Zbx.mono {lo':Nat} (h:Zbx lo w v Xl) (hl:lo'<=lo):Zbx lo' w v Xl:=by
 rcases h with h | ⟨b,off,cap,h1,h2,h3,h4,h5,h6,h7⟩
 . exact Or.inl h
 . refine Or.inr ⟨b,off,cap,h1,h2,h3,h4,Nat.le_trans hl h5,h6,fun i hi=>?_⟩
   obtain⟨hs,hc⟩:=h7 i hi;exact⟨hs,hc⟩
theorem Zbx.set (h:Zbx lo w v Xl) {p:Addr} (hp:p.block < lo) (u:Value):Zbx lo (w.setCell p u) v Xl:=by
 rcases h with h | ⟨b,off,cap,h1,h2,h3,h4,h5,h6,h7⟩
 . exact Or.inl h
 . refine Or.inr ⟨b,off,cap,h1,h2,h3,by simpa [World.setCell] using h4,h5,h6,fun i hi=>?_⟩
   obtain⟨hs,hc⟩:=h7 i hi;exact⟨hs,hc.set (by omega) u⟩
theorem Zbx.form (h:Zbx lo w v Xl):∃ a cap,v=.slice a Xl.length cap:=by
 rcases h with ⟨a,cap,h,rfl⟩ | ⟨b,off,cap,h,_⟩
 . exact⟨a,cap,h⟩
 . exact⟨_,cap,h⟩
theorem Zbx.max (h:Zbx lo w v Xl):Xl.length<=maxLen:=by
 rcases h with ⟨a,cap,h,rfl⟩ | ⟨b,off,cap,h,_,h3,_⟩
 . exact Nat.zero_le _
 . exact h3
theorem Zbx.full (h:Zbx lo w v Xl) (hne:Xl≠[]):∃ (b off cap:Nat),v=.slice (some ⟨b,off,none⟩) Xl.length cap/\Xl.length<=maxLen/\b < w.heap.size/\Xl.length<=cap/\
 ∀ i (h:i < Xl.length),ZdV Xl[i]/\Zcn w b (off+i*13) Xl[i]:=by
 rcases h with ⟨_,_,_,h⟩ | ⟨b,off,cap,h1,_,h3,h4,_,h6,h7⟩
 . exact absurd h hne
 . exact⟨b,off,cap,h1,h3,h4,h6,h7⟩
theorem Zbx.full' {a:Option Addr}{n cap:Nat} (h:Zbx lo w (.slice a n cap) Xl) (hL:0 < Xl.length) :
 ∃ b off,a=some ⟨b,off,none⟩/\b < w.heap.size/\lo<=b/\∀ i (h:i < Xl.length),ZdV Xl[i]/\Zcn w b (off+i*13) Xl[i]:=by
 rcases h with ⟨a',cap',h,rfl⟩ | ⟨b',off',cap',h1,h2,h3,h4,h5,h6,h7⟩
 . simp at hL
 . injection h1 with e1 e2 e3
   exact⟨b',off',e1,h4,h5,h7⟩
def Zh6 (Xl:List Sv):Prop:=Xl.length<=1048576/\∀ i (h:i < Xl.length),Zh5 Xl[i]
def ZsD (Xl:List Sv) (left r:Int):Prop:= -1<=r/\r<=left/\(0<=r->Zh6 Xl)
theorem ZpB (x:Sv) (left:Int) (w:World) (h0:0<=left) (h1:left<=1048576) (hz:ZdV x) :
 Calls prog 92 #[.agg #[.string x.nm,.int .i64 x.ve,.bool x.gn,.int .i64 x.im,.int .i64 x.wa,.int .i64 x.dn,.int .i64 x.ov,.int .i64 x.nx,.int .i64 x.pr,.int .i64 x.ls,.int .i64 x.ms,.int .i64 x.ld,.int .i64 x.cl],.int .i64 left] w
  fun e w'=>∃ r:Int,e=.returned (.int .i64 r)/\Zw_ w w'/\-1<=r/\r<=left/\(0<=r->Zh5 x):=by
 obtain⟨s0⟩:=hz;unfold maxLen at s0;go_enter func92,ntmps92;go_wp2
 all_goals go_ret
 all_goals exact⟨_,rfl,Zb_.alloc Zl_ _,by omega,by omega,fun _=>rfl⟩
theorem ZpM (x:Sv) (w:World) :
 Calls prog 115 #[.agg #[.string x.nm,.int .i64 x.ve,.bool x.gn,.int .i64 x.im,.int .i64 x.wa,.int .i64 x.dn,.int .i64 x.ov,.int .i64 x.nx,.int .i64 x.pr,.int .i64 x.ls,.int .i64 x.ms,.int .i64 x.ld,.int .i64 x.cl]] w fun e w'=>e=.returned (.agg #[.string x.nm,.int .i64 x.ve,.bool x.gn,.int .i64 x.im,.int .i64 x.wa,.int .i64 x.dn,.int .i64 x.ov,.int .i64 x.nx,.int .i64 x.pr,.int .i64 x.ls,.int .i64 x.ms,.int .i64 x.ld,.int .i64 x.cl])/\Zw_ w w':=by
 go_enter func115,ntmps115;go_wp2;refine bodyPost_ret (v:=.agg #[.string x.nm,.int .i64 x.ve,.bool x.gn,.int .i64 x.im,.int .i64 x.wa,.int .i64 x.dn,.int .i64 x.ov,.int .i64 x.nx,.int .i64 x.pr,.int .i64 x.ls,.int .i64 x.ms,.int .i64 x.ld,.int .i64 x.cl]) (by simp [results,results115,go_sem]) rfl ⟨rfl,?_⟩
 repeat (refine Below.setCell ?_ (by simp) _)
 exact ((Zb_.alloc Zl_ _).alloc (by simp) _).alloc (by simp;omega) _
theorem Znu (x:Sv) (w:World) :
 Calls prog 143 #[.agg #[.string x.nm,.int .i64 x.ve,.bool x.gn,.int .i64 x.im,.int .i64 x.wa,.int .i64 x.dn,.int .i64 x.ov,.int .i64 x.nx,.int .i64 x.pr,.int .i64 x.ls,.int .i64 x.ms,.int .i64 x.ld,.int .i64 x.cl],.agg #[.string x.nm,.int .i64 x.ve,.bool x.gn,.int .i64 x.im,.int .i64 x.wa,.int .i64 x.dn,.int .i64 x.ov,.int .i64 x.nx,.int .i64 x.pr,.int .i64 x.ls,.int .i64 x.ms,.int .i64 x.ld,.int .i64 x.cl]] w fun e w'=>e=.returned (.bool true)/\Zw_ w w':=by
 go_enter func143,ntmps143;go_wp2;go_ret;exact⟨rfl,(Zb_.alloc Zl_ _).alloc (by simp) _⟩
theorem Zon (lo:Nat) (v:Value) (Xl:List Sv) (left:Int) (w:World) (h0:0<=left) (h1:left<=1048576) (hv:Zbx lo w v Xl) :
 Calls prog 39 #[v,.int .i64 left] w fun e w'=>∃ r:Int,e=.returned (.int .i64 r)/\Zw_ w w'/\ZsD Xl left r:=by
 rcases hv with ⟨a,cap,rfl,rfl⟩ | ⟨b,off,cap,rfl,hne,hm,hbw,_,_,hc⟩
 . go_enter func39,ntmps39
   go_wp2
   go_loop [1,5] (fun l i=>∃ r:Int,l=.int .i64 r/\0<=r/\r<=left/\i=.int .i64 0) (fun _ _=>0)
   case atStart=>exact⟨_,rfl,by omega,by omega,rfl⟩
   case round=>
    obtain⟨r,rfl,hr0,hr1,rfl⟩:=hrel;go_wp2;go_ret;exact⟨r,rfl,Below.refl _ _,by omega,by omega,fun _=>⟨by simp,fun i h=>by simp at h⟩⟩
 . unfold maxLen at hm
   by_cases hle:(Xl.length:Int)<=left
   . go_enter func39,ntmps39
     go_wp2
     go_loopw [1,5] (fun l i wr=>∃ (r:Int) (k:Nat),l=.int .i64 r/\0<=r/\r<=left/\i=.int .i64 k/\k<=Xl.length/\Zw_ w wr/\∀ j (hj:j < Xl.length),j < k->Zh5 Xl[j]) (fun _ i _=>Xl.length - (intOf i).toNat)
     case atStart=>exact⟨_,0,rfl,by omega,by omega,rfl,by omega,Below.refl _ _,fun j _ h=>by omega⟩
     case round=>
      obtain⟨r,k,rfl,hr0,hr1,rfl,hk,hb,hall⟩:=hrel;have HA:=Zab hall;clear hall
      by_cases hlt:k < Xl.length
      . obtain⟨hs,hc⟩:=hc k hlt
        obtain⟨c0,c1,c2,c3,c4,c5,c6,c7,c8,c9,c10,c11,c12⟩:=hc.below hb hbw;clear hc;go_wp2_with fail;refine (ZpB _ _ _ hr0 (by omega) hs).mono ?_;rintro e w1 ⟨r1,rfl,hb1,q0,q1,q2⟩;have HQ2:=Zab q2;have hB:Hd (Zw_ w w1):=hb.trans (hb1.mono hb.size);clear hb1 c0 c1 c2 c3 c4 c5 c6 c7 c8 c9 c10 c11 c12 hb q2
        by_cases hneg:r1 < 0
        . go_wp2
          go_ret;exact⟨-1,rfl,hB.o,by omega,by omega,fun h=>by omega⟩
        . have HL:Hd (Zh5 Xl[k]):=HQ2.o (by omega)
          clear HQ2;go_wp2;go_roundw
          case rel=>exact⟨_,k+1,rfl,by omega,by omega,by go_num,by omega,hB.o,fun j hj h=>by
                     by_cases e:j=k
                     . subst e;exact HL.o
                     . exact HA.o j hj (by omega)⟩
          . simp [intOf];omega
      . go_wp2
        go_ret;exact⟨r,rfl,hb,by omega,by omega,fun _=>⟨by omega,fun j hj=>HA.o j hj (by omega)⟩⟩
   . go_enter func39,ntmps39
     go_wp2;go_ret;exact⟨-1,rfl,Below.refl _ _,by omega,by omega,fun h=>by omega⟩
theorem ZlS (lo lo':Nat) (v v':Value) (Xl:List Sv) (w:World) (hv:Zbx lo w v Xl) (hv':Zbx lo' w v' Xl) :
 Calls prog 85 #[v,v'] w fun e w'=>e=.returned (.bool true)/\Zw_ w w':=by
 by_cases hL:Xl=[]
 . subst hL
   obtain⟨a,cap,rfl⟩:=hv.form;obtain⟨a',cap',rfl⟩:=hv'.form;clear hv hv';go_enter func85,ntmps85;go_wp2
   go_loop [5] (fun i=>i=.int .i64 0) (fun _=>0)
   case atStart=>rfl
   case round=>
    subst hrel;go_wp2;go_ret;exact⟨rfl,Below.refl _ _⟩
 . obtain⟨b,off,cap,rfl,hm,hbw,_,hc⟩:=hv.full hL
   obtain⟨b',off',cap',rfl,_,hbw',_,hc'⟩:=hv'.full hL;clear hv hv';unfold maxLen at hm;go_enter func85,ntmps85;go_wp2
   go_loopw [5] (fun i wr=>∃ k:Nat,i=.int .i64 k/\k<=Xl.length/\Zw_ w wr) (fun i _=>Xl.length - (intOf i).toNat)
   case atStart=>exact⟨0,rfl,by omega,Below.refl _ _⟩
   case round=>
    obtain⟨k,rfl,hk,hb⟩:=hrel
    by_cases hlt:k < Xl.length
    . obtain⟨hs,hc⟩:=hc k hlt
      obtain⟨ht,hd⟩:=hc' k hlt;obtain⟨c0,c1,c2,c3,c4,c5,c6,c7,c8,c9,c10,c11,c12⟩:=hc.below hb hbw;obtain⟨d0,d1,d2,d3,d4,d5,d6,d7,d8,d9,d10,d11,d12⟩:=hd.below hb hbw';clear hc hd hs ht;have HB:=Zab hb;clear hb;go_wp2
      go_region_with (go_at_call 143;refine (Znu _ _ ).mono ?_;rintro e w1 ⟨rfl,hb1⟩;have hB:Hd (Zw_ w w1):=(HB.o.drew).trans (hb1.mono HB.o.size);clear hb1)
      all_goals go_wp2
      all_goals go_roundw
      all_goals first
       | (case rel=>exact⟨k+1,by go_num,by omega,hB.o⟩)
       | (case measure=>simp [intOf];omega)
    . go_wp2
      go_ret;exact⟨rfl,hb⟩
theorem Tryz.info118:(prog.info? 118).map (fun i=>(i.zero,i.size,i.bytes))=some (some (.agg #[.string ⟨#[]⟩,.int .i64 0,.bool false,.int .i64 0,.int .i64 0,.int .i64 0,.int .i64 0,.int .i64 0,.int .i64 0,.int .i64 0,.int .i64 0,.int .i64 0,.int .i64 0]),13,112):=by kernel_rfl
def ZbU (wr:World) (B:Nat) (Xl:List Sv) (k:Nat):Prop:=
 ∃ f,wr.rowIs B 118 (Xl.length*13) f/\∀ i (h:i < Xl.length),i < k->ZdV Xl[i]/\f (i*13)=.string Xl[i].nm/\f (i*13+1)=.int .i64 Xl[i].ve/\f (i*13+2)=.bool Xl[i].gn/\f (i*13+3)=.int .i64 Xl[i].im/\f (i*13+4)=.int .i64 Xl[i].wa/\f (i*13+5)=.int .i64 Xl[i].dn/\f (i*13+6)=.int .i64 Xl[i].ov/\f (i*13+7)=.int .i64 Xl[i].nx/\f (i*13+8)=.int .i64 Xl[i].pr/\f (i*13+9)=.int .i64 Xl[i].ls/\f (i*13+10)=.int .i64 Xl[i].ms/\f (i*13+11)=.int .i64 Xl[i].ld/\f (i*13+12)=.int .i64 Xl[i].cl
theorem ZbU.below (h:ZbU wr B Xl k) (hb:Below wr.heap.size wr w1):ZbU w1 B Xl k:=by
 obtain⟨f,hr,hall⟩:=h;refine⟨f,hr.of_block (hb.block B hr.lt),fun i hi hik=>?_⟩;obtain⟨hz,h0,h1,h2,h3,h4,h5,h6,h7,h8,h9,h10,h11,h12⟩:=hall i hi hik;exact⟨hz,h0,h1,h2,h3,h4,h5,h6,h7,h8,h9,h10,h11,h12⟩
theorem ZbU.free (h:ZbU wr B Xl k) (i:Nat):wr.frozen? ⟨B,i,none⟩=false:=by
 obtain⟨f,hr,_⟩:=h;exact hr.frozen i
theorem ZbU.there (h:ZbU wr B Xl k) (i:Nat) (hi:i < Xl.length*13):∃ v,wr.cell? ⟨B,i,none⟩=some v:=by
 obtain⟨f,hr,_⟩:=h;exact⟨_,hr.cell hi⟩
theorem ZbU.step (h:ZbU w1 B Xl k) (hk:k < Xl.length) (hz:ZdV Xl[k]) :
 ZbU (((((((((((((w1.setCell ⟨B,k*13,none⟩ (.string Xl[k].nm)).setCell ⟨B,k*13+1,none⟩ (.int .i64 Xl[k].ve)).setCell ⟨B,k*13+2,none⟩ (.bool Xl[k].gn)).setCell ⟨B,k*13+3,none⟩ (.int .i64 Xl[k].im)).setCell ⟨B,k*13+4,none⟩ (.int .i64 Xl[k].wa)).setCell ⟨B,k*13+5,none⟩ (.int .i64 Xl[k].dn)).setCell ⟨B,k*13+6,none⟩ (.int .i64 Xl[k].ov)).setCell ⟨B,k*13+7,none⟩ (.int .i64 Xl[k].nx)).setCell ⟨B,k*13+8,none⟩ (.int .i64 Xl[k].pr)).setCell ⟨B,k*13+9,none⟩ (.int .i64 Xl[k].ls)).setCell ⟨B,k*13+10,none⟩ (.int .i64 Xl[k].ms)).setCell ⟨B,k*13+11,none⟩ (.int .i64 Xl[k].ld)).setCell ⟨B,k*13+12,none⟩ (.int .i64 Xl[k].cl)) B Xl (k+1):=by
 obtain⟨f,hr,hall⟩:=h;refine⟨_,(((((((((((((hr.set _ _).set _ _).set _ _).set _ _).set _ _).set _ _).set _ _).set _ _).set _ _).set _ _).set _ _).set _ _).set _ _),fun i hi hik=>?_⟩
 by_cases e:i=k
 . subst e
   refine⟨hz,by simp,by simp,by simp,by simp,by simp,by simp,by simp,by simp,by simp,by simp,by simp,by simp,by simp⟩
 . obtain⟨hz',h0,h1,h2,h3,h4,h5,h6,h7,h8,h9,h10,h11,h12⟩:=hall i hi (by omega)
   refine⟨hz',?_,?_,?_,?_,?_,?_,?_,?_,?_,?_,?_,?_,?_⟩
   . rw [if_neg (by omega),if_neg (by omega),if_neg (by omega),if_neg (by omega),if_neg (by omega),if_neg (by omega),if_neg (by omega),if_neg (by omega),if_neg (by omega),if_neg (by omega),if_neg (by omega),if_neg (by omega),if_neg (by omega)];exact h0
   . rw [if_neg (by omega),if_neg (by omega),if_neg (by omega),if_neg (by omega),if_neg (by omega),if_neg (by omega),if_neg (by omega),if_neg (by omega),if_neg (by omega),if_neg (by omega),if_neg (by omega),if_neg (by omega),if_neg (by omega)];exact h1
   . rw [if_neg (by omega),if_neg (by omega),if_neg (by omega),if_neg (by omega),if_neg (by omega),if_neg (by omega),if_neg (by omega),if_neg (by omega),if_neg (by omega),if_neg (by omega),if_neg (by omega),if_neg (by omega),if_neg (by omega)];exact h2
   . rw [if_neg (by omega),if_neg (by omega),if_neg (by omega),if_neg (by omega),if_neg (by omega),if_neg (by omega),if_neg (by omega),if_neg (by omega),if_neg (by omega),if_neg (by omega),if_neg (by omega),if_neg (by omega),if_neg (by omega)];exact h3
   . rw [if_neg (by omega),if_neg (by omega),if_neg (by omega),if_neg (by omega),if_neg (by omega),if_neg (by omega),if_neg (by omega),if_neg (by omega),if_neg (by omega),if_neg (by omega),if_neg (by omega),if_neg (by omega),if_neg (by omega)];exact h4
   . rw [if_neg (by omega),if_neg (by omega),if_neg (by omega),if_neg (by omega),if_neg (by omega),if_neg (by omega),if_neg (by omega),if_neg (by omega),if_neg (by omega),if_neg (by omega),if_neg (by omega),if_neg (by omega),if_neg (by omega)];exact h5
   . rw [if_neg (by omega),if_neg (by omega),if_neg (by omega),if_neg (by omega),if_neg (by omega),if_neg (by omega),if_neg (by omega),if_neg (by omega),if_neg (by omega),if_neg (by omega),if_neg (by omega),if_neg (by omega),if_neg (by omega)];exact h6
   . rw [if_neg (by omega),if_neg (by omega),if_neg (by omega),if_neg (by omega),if_neg (by omega),if_neg (by omega),if_neg (by omega),if_neg (by omega),if_neg (by omega),if_neg (by omega),if_neg (by omega),if_neg (by omega),if_neg (by omega)];exact h7
   . rw [if_neg (by omega),if_neg (by omega),if_neg (by omega),if_neg (by omega),if_neg (by omega),if_neg (by omega),if_neg (by omega),if_neg (by omega),if_neg (by omega),if_neg (by omega),if_neg (by omega),if_neg (by omega),if_neg (by omega)];exact h8
   . rw [if_neg (by omega),if_neg (by omega),if_neg (by omega),if_neg (by omega),if_neg (by omega),if_neg (by omega),if_neg (by omega),if_neg (by omega),if_neg (by omega),if_neg (by omega),if_neg (by omega),if_neg (by omega),if_neg (by omega)];exact h9
   . rw [if_neg (by omega),if_neg (by omega),if_neg (by omega),if_neg (by omega),if_neg (by omega),if_neg (by omega),if_neg (by omega),if_neg (by omega),if_neg (by omega),if_neg (by omega),if_neg (by omega),if_neg (by omega),if_neg (by omega)];exact h10
   . rw [if_neg (by omega),if_neg (by omega),if_neg (by omega),if_neg (by omega),if_neg (by omega),if_neg (by omega),if_neg (by omega),if_neg (by omega),if_neg (by omega),if_neg (by omega),if_neg (by omega),if_neg (by omega),if_neg (by omega)];exact h11
   . rw [if_neg (by omega),if_neg (by omega),if_neg (by omega),if_neg (by omega),if_neg (by omega),if_neg (by omega),if_neg (by omega),if_neg (by omega),if_neg (by omega),if_neg (by omega),if_neg (by omega),if_neg (by omega),if_neg (by omega)];exact h12
theorem ZbU.done (h:ZbU wr B Xl k) (hk:Xl.length<=k) (hne:Xl≠[]) (hm:Xl.length<=maxLen):Zbx B wr (.slice (some ⟨B,0,none⟩) Xl.length Xl.length) Xl:=by
 obtain⟨f,hr,hall⟩:=h;refine Or.inr ⟨B,0,Xl.length,rfl,hne,hm,hr.lt,Nat.le_refl _,Nat.le_refl _,fun i hi=>?_⟩;obtain⟨hz,h0,h1,h2,h3,h4,h5,h6,h7,h8,h9,h10,h11,h12⟩:=hall i hi (by omega);rw [Nat.zero_add];exact⟨hz,⟨by rw [hr.cell (by omega),h0],by rw [hr.cell (by omega),h1],by rw [hr.cell (by omega),h2],by rw [hr.cell (by omega),h3],by rw [hr.cell (by omega),h4],by rw [hr.cell (by omega),h5],by rw [hr.cell (by omega),h6],by rw [hr.cell (by omega),h7],by rw [hr.cell (by omega),h8],by rw [hr.cell (by omega),h9],by rw [hr.cell (by omega),h10],by rw [hr.cell (by omega),h11],by rw [hr.cell (by omega),h12]⟩⟩
theorem ZbU.new (w:World) (Xl:List Sv) (z:Array Value):ZbU (w.alloc (.cells (madeCells z (Xl.length*13)) 118)) w.heap.size Xl 0:=by
 refine⟨fun i=>(madeCells z (Xl.length*13)).getD i default,?_,fun i _ h=>by omega⟩;have:=World.rowIs_alloc w (madeCells z (Xl.length*13)) 118 (fun i=>(madeCells z (Xl.length*13)).getD i default) (fun i hi=>by simp [Array.getD,hi])
 rwa [size_madeCells] at this
theorem ZoD (lo:Nat) (v:Value) (Xl:List Sv) (w:World) (hv:Zbx lo w v Xl) (hn:Zh6 Xl) :
 Calls prog 64 #[v] w fun e w'=>∃ v',e=.returned v'/\Zw_ w w'/\Zbx w.heap.size w' v' Xl:=by
 obtain⟨i0,hi,hz0,hz1,hz2⟩:=info_parts Tryz.info118;have hn1:=hn.1;clear hn
 by_cases hL:Xl=[]
 . subst hL
   obtain⟨a,cap,rfl⟩:=hv.form;clear hv
   have hmk:∀ u:World,(Instr.makeSlice 51 (.int .i64 0) (.int .i64 0)).run prog u=.ok (.slice (some ⟨u.heap.size,0,none⟩) 0 0) (u.alloc (.cells (madeCells (Value.cells (.agg #[.string ⟨#[]⟩,.int .i64 0,.bool false,.int .i64 0,.int .i64 0,.int .i64 0,.int .i64 0,.int .i64 0,.int .i64 0,.int .i64 0,.int .i64 0,.int .i64 0,.int .i64 0])) 0) 118)):=fun u=>by
    have h:=run_make (P:=prog) u 51 118 i0 _ underlying51 hi hz0 .i64 .i64 0 0 (by omega) (by omega) (by omega) (by omega)
    simpa [hz1] using h
   go_enter func64,ntmps64;go_wp2
   go_loop [4] (fun i=>i=.int .i64 0) (fun _=>0)
   case atStart=>rfl
   case round=>
    subst hrel;go_wp2;go_ret;exact⟨_,rfl,Zb_.alloc Zl_ _,Or.inl ⟨_,_,rfl,rfl⟩⟩
 . obtain⟨b,off,cap,rfl,hm,hbw,_,hc⟩:=hv.full hL
   clear hv;have HM:Hd (Xl.length<=maxLen):=hm;unfold maxLen at hm
   have hmk:∀ u:World,(Instr.makeSlice 51 (.int .i64 (Xl.length:Int)) (.int .i64 (Xl.length:Int))).run prog u=.ok (.slice (some ⟨u.heap.size,0,none⟩) Xl.length Xl.length) (u.alloc (.cells (madeCells (Value.cells (.agg #[.string ⟨#[]⟩,.int .i64 0,.bool false,.int .i64 0,.int .i64 0,.int .i64 0,.int .i64 0,.int .i64 0,.int .i64 0,.int .i64 0,.int .i64 0,.int .i64 0,.int .i64 0])) (Xl.length*13)) 118)):=fun u=>by
    have h:=run_make (P:=prog) u 51 118 i0 _ underlying51 hi hz0 .i64 .i64 Xl.length Xl.length (by omega) (by omega) (by rw [hz2];omega) (by omega);rw [hz1] at h
    simpa using h
   clear hi hz0 hz1 hz2;go_enter func64,ntmps64;go_wp2;clear hmk
   go_loopw [4] (fun i wr=>∃ k:Nat,i=.int .i64 k/\k<=Xl.length/\Zw_ w wr/\ZbU wr w.heap.size Xl k) (fun i _=>Xl.length - (intOf i).toNat)
   case atStart=>exact⟨0,rfl,by omega,Zb_.alloc Zl_ _,ZbU.new w Xl _⟩
   case round=>
    obtain⟨k,rfl,hk,hb,hf⟩:=hrel
    by_cases hlt:k < Xl.length
    . obtain⟨hs,hc⟩:=hc k hlt
      obtain⟨c0,c1,c2,c3,c4,c5,c6,c7,c8,c9,c10,c11,c12⟩:=hc.below hb hbw
      have hBl:w.heap.size < wr.heap.size:=by
       obtain⟨_,hr,_⟩:=hf;exact hr.lt
      clear hc;go_wp2_with fail;refine (ZpM _ _ ).mono ?_;rintro e w1 ⟨rfl,hb1⟩;have hf1:=hf.below hb1;have HST:=Zab (hf1.step hlt hs );have hB:Hd (Zw_ w w1):=hb.trans (hb1.mono hb.size);have hfr:=hf1.free;obtain⟨o0,ho0⟩:=hf1.there (k*13) (by omega);obtain⟨o1,ho1⟩:=hf1.there (k*13+1) (by omega);obtain⟨o2,ho2⟩:=hf1.there (k*13+2) (by omega);obtain⟨o3,ho3⟩:=hf1.there (k*13+3) (by omega);obtain⟨o4,ho4⟩:=hf1.there (k*13+4) (by omega);obtain⟨o5,ho5⟩:=hf1.there (k*13+5) (by omega);obtain⟨o6,ho6⟩:=hf1.there (k*13+6) (by omega);obtain⟨o7,ho7⟩:=hf1.there (k*13+7) (by omega);obtain⟨o8,ho8⟩:=hf1.there (k*13+8) (by omega);obtain⟨o9,ho9⟩:=hf1.there (k*13+9) (by omega);obtain⟨o10,ho10⟩:=hf1.there (k*13+10) (by omega);obtain⟨o11,ho11⟩:=hf1.there (k*13+11) (by omega);obtain⟨o12,ho12⟩:=hf1.there (k*13+12) (by omega)
      clear hf hf1 hb1 hb c0 c1 c2 c3 c4 c5 c6 c7 c8 c9 c10 c11 c12;go_wp2;go_roundw
      . 
       exact⟨k+1,by go_num,by omega,(((((((((((((hB.o.setCell Zl_ _).setCell Zl_ _).setCell Zl_ _).setCell Zl_ _).setCell Zl_ _).setCell Zl_ _).setCell Zl_ _).setCell Zl_ _).setCell Zl_ _).setCell Zl_ _).setCell Zl_ _).setCell Zl_ _).setCell Zl_ _),HST.o⟩
      . simp [intOf];omega
    . go_wp2
      go_ret;exact⟨_,rfl,hb,hf.done (by omega) hL HM.o⟩
end
section
open Go.RowKit Go.Deep
variable {w w' wr w1:World} {b o lo B k:Nat} {v:Value}
structure Cp where
 se:Zy_
 nu:Int
 ve:Int
 im:Int
 st:Int
 en:Bool
 be:Zy_
variable {x:Cp} {Xl:List Cp}
structure Zev (x:Cp):Prop where
 s0:x.se.size<=maxLen
 s1:x.be.size<=maxLen
def ZhY (x:Cp):Prop:=x=x
structure Zdc (w:World) (b o:Nat) (x:Cp):Prop where
 c0:w.cell? ⟨b,o,none⟩=some (.string x.se)
 c1:w.cell? ⟨b,o+1,none⟩=some (.int .i64 x.nu)
 c2:w.cell? ⟨b,o+2,none⟩=some (.int .i64 x.ve)
 c3:w.cell? ⟨b,o+3,none⟩=some (.int .i64 x.im)
 c4:w.cell? ⟨b,o+4,none⟩=some (.int .i64 x.st)
 c5:w.cell? ⟨b,o+5,none⟩=some (.bool x.en)
 c6:w.cell? ⟨b,o+6,none⟩=some (.string x.be)
theorem Zdc.below (h:Zdc w b o x ) {m:Nat} (hb:Below m w w') (hlt:b < m):Zdc w' b o x:=by
 have e:∀ o,w'.cell? ⟨b,o,none⟩=w.cell? ⟨b,o,none⟩:=fun o=>hb.cell (p:=⟨b,o,none⟩) hlt
 exact⟨by rw [e];exact h.c0,by rw [e];exact h.c1,by rw [e];exact h.c2,by rw [e];exact h.c3,by rw [e];exact h.c4,by rw [e];exact h.c5,by rw [e];exact h.c6⟩
theorem Zdc.set (h:Zdc w b o x ) {p:Addr} (hp:b≠p.block) (u:Value):Zdc (w.setCell p u) b o x:=by
 have e:∀ o,(w.setCell p u).cell? ⟨b,o,none⟩=w.cell? ⟨b,o,none⟩:=fun o=>ZaA _ _ _ _ hp
 exact⟨by rw [e];exact h.c0,by rw [e];exact h.c1,by rw [e];exact h.c2,by rw [e];exact h.c3,by rw [e];exact h.c4,by rw [e];exact h.c5,by rw [e];exact h.c6⟩
def Zb1 (lo:Nat) (w:World) (v:Value) (Xl:List Cp):Prop:=
 (∃ (a:Option Addr) (cap:Nat),v=.slice a 0 cap/\Xl=[])\/
 ∃ (b off cap:Nat),v=.slice (some ⟨b,off,none⟩) Xl.length cap/\Xl≠[]/\Xl.length<=maxLen/\b < w.heap.size/\lo<=b/\Xl.length<=cap/\
  ∀ i (h:i < Xl.length),Zev Xl[i]/\Zdc w b (off+i*7) Xl[i]
theorem Zb1.below (h:Zb1 lo w v Xl) (hb:Zw_ w w'):Zb1 lo w' v Xl:=by
 rcases h with h | ⟨b,off,cap,h1,h2,h3,h4,h5,h6,h7⟩
 . exact Or.inl h
 . refine Or.inr ⟨b,off,cap,h1,h2,h3,Zk_ h4 hb.size,h5,h6,fun i hi=>?_⟩
   obtain⟨hs,hc⟩:=h7 i hi;exact⟨hs,hc.below hb h4⟩
theorem Zb1.mono {lo':Nat} (h:Zb1 lo w v Xl) (hl:lo'<=lo):Zb1 lo' w v Xl:=by
 rcases h with h | ⟨b,off,cap,h1,h2,h3,h4,h5,h6,h7⟩
 . exact Or.inl h
 . refine Or.inr ⟨b,off,cap,h1,h2,h3,h4,Nat.le_trans hl h5,h6,fun i hi=>?_⟩
   obtain⟨hs,hc⟩:=h7 i hi;exact⟨hs,hc⟩
theorem Zb1.set (h:Zb1 lo w v Xl) {p:Addr} (hp:p.block < lo) (u:Value):Zb1 lo (w.setCell p u) v Xl:=by
 rcases h with h | ⟨b,off,cap,h1,h2,h3,h4,h5,h6,h7⟩
 . exact Or.inl h
 . refine Or.inr ⟨b,off,cap,h1,h2,h3,by simpa [World.setCell] using h4,h5,h6,fun i hi=>?_⟩
   obtain⟨hs,hc⟩:=h7 i hi;exact⟨hs,hc.set (by omega) u⟩
theorem Zb1.form (h:Zb1 lo w v Xl):∃ a cap,v=.slice a Xl.length cap:=by
 rcases h with ⟨a,cap,h,rfl⟩ | ⟨b,off,cap,h,_⟩
 . exact⟨a,cap,h⟩
 . exact⟨_,cap,h⟩
theorem Zb1.max (h:Zb1 lo w v Xl):Xl.length<=maxLen:=by
 rcases h with ⟨a,cap,h,rfl⟩ | ⟨b,off,cap,h,_,h3,_⟩
 . exact Nat.zero_le _
 . exact h3
theorem Zb1.full (h:Zb1 lo w v Xl) (hne:Xl≠[]):∃ (b off cap:Nat),v=.slice (some ⟨b,off,none⟩) Xl.length cap/\Xl.length<=maxLen/\b < w.heap.size/\Xl.length<=cap/\
 ∀ i (h:i < Xl.length),Zev Xl[i]/\Zdc w b (off+i*7) Xl[i]:=by
 rcases h with ⟨_,_,_,h⟩ | ⟨b,off,cap,h1,_,h3,h4,_,h6,h7⟩
 . exact absurd h hne
 . exact⟨b,off,cap,h1,h3,h4,h6,h7⟩
theorem Zb1.full' {a:Option Addr}{n cap:Nat} (h:Zb1 lo w (.slice a n cap) Xl) (hL:0 < Xl.length) :
 ∃ b off,a=some ⟨b,off,none⟩/\b < w.heap.size/\lo<=b/\∀ i (h:i < Xl.length),Zev Xl[i]/\Zdc w b (off+i*7) Xl[i]:=by
 rcases h with ⟨a',cap',h,rfl⟩ | ⟨b',off',cap',h1,h2,h3,h4,h5,h6,h7⟩
 . simp at hL
 . injection h1 with e1 e2 e3
   exact⟨b',off',e1,h4,h5,h7⟩
def ZhZ (Xl:List Cp):Prop:=Xl.length<=1048576/\∀ i (h:i < Xl.length),ZhY Xl[i]
def Zsx (Xl:List Cp) (left r:Int):Prop:= -1<=r/\r<=left/\(0<=r->ZhZ Xl)
theorem Zpv (x:Cp) (left:Int) (w:World) (h0:0<=left) (h1:left<=1048576) (hz:Zev x) :
 Calls prog 93 #[.agg #[.string x.se,.int .i64 x.nu,.int .i64 x.ve,.int .i64 x.im,.int .i64 x.st,.bool x.en,.string x.be],.int .i64 left] w
  fun e w'=>∃ r:Int,e=.returned (.int .i64 r)/\Zw_ w w'/\-1<=r/\r<=left/\(0<=r->ZhY x):=by
 obtain⟨s0,s1⟩:=hz;unfold maxLen at s0 s1;go_enter func93,ntmps93;go_wp2
 all_goals go_ret
 all_goals exact⟨_,rfl,Zb_.alloc Zl_ _,by omega,by omega,fun _=>rfl⟩
theorem ZpG (x:Cp) (w:World) :
 Calls prog 116 #[.agg #[.string x.se,.int .i64 x.nu,.int .i64 x.ve,.int .i64 x.im,.int .i64 x.st,.bool x.en,.string x.be]] w fun e w'=>e=.returned (.agg #[.string x.se,.int .i64 x.nu,.int .i64 x.ve,.int .i64 x.im,.int .i64 x.st,.bool x.en,.string x.be])/\Zw_ w w':=by
 go_enter func116,ntmps116;go_wp2;refine bodyPost_ret (v:=.agg #[.string x.se,.int .i64 x.nu,.int .i64 x.ve,.int .i64 x.im,.int .i64 x.st,.bool x.en,.string x.be]) (by simp [results,results116,go_sem]) rfl ⟨rfl,?_⟩
 repeat (refine Below.setCell ?_ (by simp) _)
 exact ((Zb_.alloc Zl_ _).alloc (by simp) _).alloc (by simp;omega) _
theorem Zno (x:Cp) (w:World) :
 Calls prog 144 #[.agg #[.string x.se,.int .i64 x.nu,.int .i64 x.ve,.int .i64 x.im,.int .i64 x.st,.bool x.en,.string x.be],.agg #[.string x.se,.int .i64 x.nu,.int .i64 x.ve,.int .i64 x.im,.int .i64 x.st,.bool x.en,.string x.be]] w fun e w'=>e=.returned (.bool true)/\Zw_ w w':=by
 go_enter func144,ntmps144;go_wp2;go_ret;exact⟨rfl,(Zb_.alloc Zl_ _).alloc (by simp) _⟩
theorem Zoi (lo:Nat) (v:Value) (Xl:List Cp) (left:Int) (w:World) (h0:0<=left) (h1:left<=1048576) (hv:Zb1 lo w v Xl) :
 Calls prog 40 #[v,.int .i64 left] w fun e w'=>∃ r:Int,e=.returned (.int .i64 r)/\Zw_ w w'/\Zsx Xl left r:=by
 rcases hv with ⟨a,cap,rfl,rfl⟩ | ⟨b,off,cap,rfl,hne,hm,hbw,_,_,hc⟩
 . go_enter func40,ntmps40
   go_wp2
   go_loop [1,5] (fun l i=>∃ r:Int,l=.int .i64 r/\0<=r/\r<=left/\i=.int .i64 0) (fun _ _=>0)
   case atStart=>exact⟨_,rfl,by omega,by omega,rfl⟩
   case round=>
    obtain⟨r,rfl,hr0,hr1,rfl⟩:=hrel;go_wp2;go_ret;exact⟨r,rfl,Below.refl _ _,by omega,by omega,fun _=>⟨by simp,fun i h=>by simp at h⟩⟩
 . unfold maxLen at hm
   by_cases hle:(Xl.length:Int)<=left
   . go_enter func40,ntmps40
     go_wp2
     go_loopw [1,5] (fun l i wr=>∃ (r:Int) (k:Nat),l=.int .i64 r/\0<=r/\r<=left/\i=.int .i64 k/\k<=Xl.length/\Zw_ w wr/\∀ j (hj:j < Xl.length),j < k->ZhY Xl[j]) (fun _ i _=>Xl.length - (intOf i).toNat)
     case atStart=>exact⟨_,0,rfl,by omega,by omega,rfl,by omega,Below.refl _ _,fun j _ h=>by omega⟩
     case round=>
      obtain⟨r,k,rfl,hr0,hr1,rfl,hk,hb,hall⟩:=hrel;have HA:=Zab hall;clear hall
      by_cases hlt:k < Xl.length
      . obtain⟨hs,hc⟩:=hc k hlt
        obtain⟨c0,c1,c2,c3,c4,c5,c6⟩:=hc.below hb hbw;clear hc;go_wp2_with fail;refine (Zpv _ _ _ hr0 (by omega) hs).mono ?_;rintro e w1 ⟨r1,rfl,hb1,q0,q1,q2⟩;have HQ2:=Zab q2;have hB:Hd (Zw_ w w1):=hb.trans (hb1.mono hb.size);clear hb1 c0 c1 c2 c3 c4 c5 c6 hb q2
        by_cases hneg:r1 < 0
        . go_wp2
          go_ret;exact⟨-1,rfl,hB.o,by omega,by omega,fun h=>by omega⟩
        . have HL:Hd (ZhY Xl[k]):=HQ2.o (by omega)
          clear HQ2;go_wp2;go_roundw
          case rel=>exact⟨_,k+1,rfl,by omega,by omega,by go_num,by omega,hB.o,fun j hj h=>by
                     by_cases e:j=k
                     . subst e;exact HL.o
                     . exact HA.o j hj (by omega)⟩
          . simp [intOf];omega
      . go_wp2
        go_ret;exact⟨r,rfl,hb,by omega,by omega,fun _=>⟨by omega,fun j hj=>HA.o j hj (by omega)⟩⟩
   . go_enter func40,ntmps40
     go_wp2;go_ret;exact⟨-1,rfl,Below.refl _ _,by omega,by omega,fun h=>by omega⟩
theorem ZlN (lo lo':Nat) (v v':Value) (Xl:List Cp) (w:World) (hv:Zb1 lo w v Xl) (hv':Zb1 lo' w v' Xl) :
 Calls prog 86 #[v,v'] w fun e w'=>e=.returned (.bool true)/\Zw_ w w':=by
 by_cases hL:Xl=[]
 . subst hL
   obtain⟨a,cap,rfl⟩:=hv.form;obtain⟨a',cap',rfl⟩:=hv'.form;clear hv hv';go_enter func86,ntmps86;go_wp2
   go_loop [5] (fun i=>i=.int .i64 0) (fun _=>0)
   case atStart=>rfl
   case round=>
    subst hrel;go_wp2;go_ret;exact⟨rfl,Below.refl _ _⟩
 . obtain⟨b,off,cap,rfl,hm,hbw,_,hc⟩:=hv.full hL
   obtain⟨b',off',cap',rfl,_,hbw',_,hc'⟩:=hv'.full hL;clear hv hv';unfold maxLen at hm;go_enter func86,ntmps86;go_wp2
   go_loopw [5] (fun i wr=>∃ k:Nat,i=.int .i64 k/\k<=Xl.length/\Zw_ w wr) (fun i _=>Xl.length - (intOf i).toNat)
   case atStart=>exact⟨0,rfl,by omega,Below.refl _ _⟩
   case round=>
    obtain⟨k,rfl,hk,hb⟩:=hrel
    by_cases hlt:k < Xl.length
    . obtain⟨hs,hc⟩:=hc k hlt
      obtain⟨ht,hd⟩:=hc' k hlt;obtain⟨c0,c1,c2,c3,c4,c5,c6⟩:=hc.below hb hbw;obtain⟨d0,d1,d2,d3,d4,d5,d6⟩:=hd.below hb hbw';clear hc hd hs ht;have HB:=Zab hb;clear hb;go_wp2
      go_region_with (go_at_call 144;refine (Zno _ _ ).mono ?_;rintro e w1 ⟨rfl,hb1⟩;have hB:Hd (Zw_ w w1):=(HB.o.drew).trans (hb1.mono HB.o.size);clear hb1)
      all_goals go_wp2
      all_goals go_roundw
      all_goals first
       | (case rel=>exact⟨k+1,by go_num,by omega,hB.o⟩)
       | (case measure=>simp [intOf];omega)
    . go_wp2
      go_ret;exact⟨rfl,hb⟩
theorem Tryz.info123:(prog.info? 123).map (fun i=>(i.zero,i.size,i.bytes))=some (some (.agg #[.string ⟨#[]⟩,.int .i64 0,.int .i64 0,.int .i64 0,.int .i64 0,.bool false,.string ⟨#[]⟩]),7,72):=by kernel_rfl
def ZbO (wr:World) (B:Nat) (Xl:List Cp) (k:Nat):Prop:=
 ∃ f,wr.rowIs B 123 (Xl.length*7) f/\∀ i (h:i < Xl.length),i < k->Zev Xl[i]/\f (i*7)=.string Xl[i].se/\f (i*7+1)=.int .i64 Xl[i].nu/\f (i*7+2)=.int .i64 Xl[i].ve/\f (i*7+3)=.int .i64 Xl[i].im/\f (i*7+4)=.int .i64 Xl[i].st/\f (i*7+5)=.bool Xl[i].en/\f (i*7+6)=.string Xl[i].be
theorem ZbO.below (h:ZbO wr B Xl k) (hb:Below wr.heap.size wr w1):ZbO w1 B Xl k:=by
 obtain⟨f,hr,hall⟩:=h;refine⟨f,hr.of_block (hb.block B hr.lt),fun i hi hik=>?_⟩;obtain⟨hz,h0,h1,h2,h3,h4,h5,h6⟩:=hall i hi hik;exact⟨hz,h0,h1,h2,h3,h4,h5,h6⟩
theorem ZbO.free (h:ZbO wr B Xl k) (i:Nat):wr.frozen? ⟨B,i,none⟩=false:=by
 obtain⟨f,hr,_⟩:=h;exact hr.frozen i
theorem ZbO.there (h:ZbO wr B Xl k) (i:Nat) (hi:i < Xl.length*7):∃ v,wr.cell? ⟨B,i,none⟩=some v:=by
 obtain⟨f,hr,_⟩:=h;exact⟨_,hr.cell hi⟩
theorem ZbO.step (h:ZbO w1 B Xl k) (hk:k < Xl.length) (hz:Zev Xl[k]) :
 ZbO (((((((w1.setCell ⟨B,k*7,none⟩ (.string Xl[k].se)).setCell ⟨B,k*7+1,none⟩ (.int .i64 Xl[k].nu)).setCell ⟨B,k*7+2,none⟩ (.int .i64 Xl[k].ve)).setCell ⟨B,k*7+3,none⟩ (.int .i64 Xl[k].im)).setCell ⟨B,k*7+4,none⟩ (.int .i64 Xl[k].st)).setCell ⟨B,k*7+5,none⟩ (.bool Xl[k].en)).setCell ⟨B,k*7+6,none⟩ (.string Xl[k].be)) B Xl (k+1):=by
 obtain⟨f,hr,hall⟩:=h;refine⟨_,(((((((hr.set _ _).set _ _).set _ _).set _ _).set _ _).set _ _).set _ _),fun i hi hik=>?_⟩
 by_cases e:i=k
 . subst e
   refine⟨hz,by simp,by simp,by simp,by simp,by simp,by simp,by simp⟩
 . obtain⟨hz',h0,h1,h2,h3,h4,h5,h6⟩:=hall i hi (by omega)
   refine⟨hz',?_,?_,?_,?_,?_,?_,?_⟩
   . rw [if_neg (by omega),if_neg (by omega),if_neg (by omega),if_neg (by omega),if_neg (by omega),if_neg (by omega),if_neg (by omega)];exact h0
   . rw [if_neg (by omega),if_neg (by omega),if_neg (by omega),if_neg (by omega),if_neg (by omega),if_neg (by omega),if_neg (by omega)];exact h1
   . rw [if_neg (by omega),if_neg (by omega),if_neg (by omega),if_neg (by omega),if_neg (by omega),if_neg (by omega),if_neg (by omega)];exact h2
   . rw [if_neg (by omega),if_neg (by omega),if_neg (by omega),if_neg (by omega),if_neg (by omega),if_neg (by omega),if_neg (by omega)];exact h3
   . rw [if_neg (by omega),if_neg (by omega),if_neg (by omega),if_neg (by omega),if_neg (by omega),if_neg (by omega),if_neg (by omega)];exact h4
   . rw [if_neg (by omega),if_neg (by omega),if_neg (by omega),if_neg (by omega),if_neg (by omega),if_neg (by omega),if_neg (by omega)];exact h5
   . rw [if_neg (by omega),if_neg (by omega),if_neg (by omega),if_neg (by omega),if_neg (by omega),if_neg (by omega),if_neg (by omega)];exact h6
theorem ZbO.done (h:ZbO wr B Xl k) (hk:Xl.length<=k) (hne:Xl≠[]) (hm:Xl.length<=maxLen):Zb1 B wr (.slice (some ⟨B,0,none⟩) Xl.length Xl.length) Xl:=by
 obtain⟨f,hr,hall⟩:=h;refine Or.inr ⟨B,0,Xl.length,rfl,hne,hm,hr.lt,Nat.le_refl _,Nat.le_refl _,fun i hi=>?_⟩;obtain⟨hz,h0,h1,h2,h3,h4,h5,h6⟩:=hall i hi (by omega);rw [Nat.zero_add];exact⟨hz,⟨by rw [hr.cell (by omega),h0],by rw [hr.cell (by omega),h1],by rw [hr.cell (by omega),h2],by rw [hr.cell (by omega),h3],by rw [hr.cell (by omega),h4],by rw [hr.cell (by omega),h5],by rw [hr.cell (by omega),h6]⟩⟩
theorem ZbO.new (w:World) (Xl:List Cp) (z:Array Value):ZbO (w.alloc (.cells (madeCells z (Xl.length*7)) 123)) w.heap.size Xl 0:=by
 refine⟨fun i=>(madeCells z (Xl.length*7)).getD i default,?_,fun i _ h=>by omega⟩;have:=World.rowIs_alloc w (madeCells z (Xl.length*7)) 123 (fun i=>(madeCells z (Xl.length*7)).getD i default) (fun i hi=>by simp [Array.getD,hi])
 rwa [size_madeCells] at this
theorem Zow (lo:Nat) (v:Value) (Xl:List Cp) (w:World) (hv:Zb1 lo w v Xl) (hn:ZhZ Xl) :
 Calls prog 65 #[v] w fun e w'=>∃ v',e=.returned v'/\Zw_ w w'/\Zb1 w.heap.size w' v' Xl:=by
 obtain⟨i0,hi,hz0,hz1,hz2⟩:=info_parts Tryz.info123;have hn1:=hn.1;clear hn
 by_cases hL:Xl=[]
 . subst hL
   obtain⟨a,cap,rfl⟩:=hv.form;clear hv
   have hmk:∀ u:World,(Instr.makeSlice 52 (.int .i64 0) (.int .i64 0)).run prog u=.ok (.slice (some ⟨u.heap.size,0,none⟩) 0 0) (u.alloc (.cells (madeCells (Value.cells (.agg #[.string ⟨#[]⟩,.int .i64 0,.int .i64 0,.int .i64 0,.int .i64 0,.bool false,.string ⟨#[]⟩])) 0) 123)):=fun u=>by
    have h:=run_make (P:=prog) u 52 123 i0 _ underlying52 hi hz0 .i64 .i64 0 0 (by omega) (by omega) (by omega) (by omega)
    simpa [hz1] using h
   go_enter func65,ntmps65;go_wp2
   go_loop [4] (fun i=>i=.int .i64 0) (fun _=>0)
   case atStart=>rfl
   case round=>
    subst hrel;go_wp2;go_ret;exact⟨_,rfl,Zb_.alloc Zl_ _,Or.inl ⟨_,_,rfl,rfl⟩⟩
 . obtain⟨b,off,cap,rfl,hm,hbw,_,hc⟩:=hv.full hL
   clear hv;have HM:Hd (Xl.length<=maxLen):=hm;unfold maxLen at hm
   have hmk:∀ u:World,(Instr.makeSlice 52 (.int .i64 (Xl.length:Int)) (.int .i64 (Xl.length:Int))).run prog u=.ok (.slice (some ⟨u.heap.size,0,none⟩) Xl.length Xl.length) (u.alloc (.cells (madeCells (Value.cells (.agg #[.string ⟨#[]⟩,.int .i64 0,.int .i64 0,.int .i64 0,.int .i64 0,.bool false,.string ⟨#[]⟩])) (Xl.length*7)) 123)):=fun u=>by
    have h:=run_make (P:=prog) u 52 123 i0 _ underlying52 hi hz0 .i64 .i64 Xl.length Xl.length (by omega) (by omega) (by rw [hz2];omega) (by omega);rw [hz1] at h
    simpa using h
   clear hi hz0 hz1 hz2;go_enter func65,ntmps65;go_wp2;clear hmk
   go_loopw [4] (fun i wr=>∃ k:Nat,i=.int .i64 k/\k<=Xl.length/\Zw_ w wr/\ZbO wr w.heap.size Xl k) (fun i _=>Xl.length - (intOf i).toNat)
   case atStart=>exact⟨0,rfl,by omega,Zb_.alloc Zl_ _,ZbO.new w Xl _⟩
   case round=>
    obtain⟨k,rfl,hk,hb,hf⟩:=hrel
    by_cases hlt:k < Xl.length
    . obtain⟨hs,hc⟩:=hc k hlt
      obtain⟨c0,c1,c2,c3,c4,c5,c6⟩:=hc.below hb hbw
      have hBl:w.heap.size < wr.heap.size:=by
       obtain⟨_,hr,_⟩:=hf;exact hr.lt
      clear hc;go_wp2_with fail;refine (ZpG _ _ ).mono ?_;rintro e w1 ⟨rfl,hb1⟩;have hf1:=hf.below hb1;have HST:=Zab (hf1.step hlt hs );have hB:Hd (Zw_ w w1):=hb.trans (hb1.mono hb.size);have hfr:=hf1.free;obtain⟨o0,ho0⟩:=hf1.there (k*7) (by omega);obtain⟨o1,ho1⟩:=hf1.there (k*7+1) (by omega);obtain⟨o2,ho2⟩:=hf1.there (k*7+2) (by omega);obtain⟨o3,ho3⟩:=hf1.there (k*7+3) (by omega);obtain⟨o4,ho4⟩:=hf1.there (k*7+4) (by omega);obtain⟨o5,ho5⟩:=hf1.there (k*7+5) (by omega);obtain⟨o6,ho6⟩:=hf1.there (k*7+6) (by omega);clear hf hf1 hb1 hb c0 c1 c2 c3 c4 c5 c6;go_wp2;go_roundw
      . 
       exact⟨k+1,by go_num,by omega,(((((((hB.o.setCell Zl_ _).setCell Zl_ _).setCell Zl_ _).setCell Zl_ _).setCell Zl_ _).setCell Zl_ _).setCell Zl_ _),HST.o⟩
      . simp [intOf];omega
    . go_wp2
      go_ret;exact⟨_,rfl,hb,hf.done (by omega) hL HM.o⟩
end
section
open Go.RowKit Go.Deep
variable {w w' wr w1:World} {b o lo B k:Nat} {v:Value}
structure Be where
 nm:Zy_
 dr:Bool
variable {x:Be} {Xl:List Be}
structure Zeu (x:Be):Prop where
 s0:x.nm.size<=maxLen
def ZhW (x:Be):Prop:=x=x
structure Zdb (w:World) (b o:Nat) (x:Be):Prop where
 c0:w.cell? ⟨b,o,none⟩=some (.string x.nm)
 c1:w.cell? ⟨b,o+1,none⟩=some (.bool x.dr)
theorem Zdb.below (h:Zdb w b o x ) {m:Nat} (hb:Below m w w') (hlt:b < m):Zdb w' b o x:=by
 have e:∀ o,w'.cell? ⟨b,o,none⟩=w.cell? ⟨b,o,none⟩:=fun o=>hb.cell (p:=⟨b,o,none⟩) hlt
 exact⟨by rw [e];exact h.c0,by rw [e];exact h.c1⟩
theorem Zdb.set (h:Zdb w b o x ) {p:Addr} (hp:b≠p.block) (u:Value):Zdb (w.setCell p u) b o x:=by
 have e:∀ o,(w.setCell p u).cell? ⟨b,o,none⟩=w.cell? ⟨b,o,none⟩:=fun o=>ZaA _ _ _ _ hp
 exact⟨by rw [e];exact h.c0,by rw [e];exact h.c1⟩
def Zb9 (lo:Nat) (w:World) (v:Value) (Xl:List Be):Prop:=
 (∃ (a:Option Addr) (cap:Nat),v=.slice a 0 cap/\Xl=[])\/
 ∃ (b off cap:Nat),v=.slice (some ⟨b,off,none⟩) Xl.length cap/\Xl≠[]/\Xl.length<=maxLen/\b < w.heap.size/\lo<=b/\Xl.length<=cap/\
  ∀ i (h:i < Xl.length),Zeu Xl[i]/\Zdb w b (off+i*2) Xl[i]
theorem Zb9.below (h:Zb9 lo w v Xl) (hb:Zw_ w w'):Zb9 lo w' v Xl:=by
 rcases h with h | ⟨b,off,cap,h1,h2,h3,h4,h5,h6,h7⟩
 . exact Or.inl h
 . refine Or.inr ⟨b,off,cap,h1,h2,h3,Zk_ h4 hb.size,h5,h6,fun i hi=>?_⟩
   obtain⟨hs,hc⟩:=h7 i hi;exact⟨hs,hc.below hb h4⟩
theorem Zb9.mono {lo':Nat} (h:Zb9 lo w v Xl) (hl:lo'<=lo):Zb9 lo' w v Xl:=by
 rcases h with h | ⟨b,off,cap,h1,h2,h3,h4,h5,h6,h7⟩
 . exact Or.inl h
 . refine Or.inr ⟨b,off,cap,h1,h2,h3,h4,Nat.le_trans hl h5,h6,fun i hi=>?_⟩
   obtain⟨hs,hc⟩:=h7 i hi;exact⟨hs,hc⟩
theorem Zb9.set (h:Zb9 lo w v Xl) {p:Addr} (hp:p.block < lo) (u:Value):Zb9 lo (w.setCell p u) v Xl:=by
 rcases h with h | ⟨b,off,cap,h1,h2,h3,h4,h5,h6,h7⟩
 . exact Or.inl h
 . refine Or.inr ⟨b,off,cap,h1,h2,h3,by simpa [World.setCell] using h4,h5,h6,fun i hi=>?_⟩
   obtain⟨hs,hc⟩:=h7 i hi;exact⟨hs,hc.set (by omega) u⟩
theorem Zb9.form (h:Zb9 lo w v Xl):∃ a cap,v=.slice a Xl.length cap:=by
 rcases h with ⟨a,cap,h,rfl⟩ | ⟨b,off,cap,h,_⟩
 . exact⟨a,cap,h⟩
 . exact⟨_,cap,h⟩
theorem Zb9.max (h:Zb9 lo w v Xl):Xl.length<=maxLen:=by
 rcases h with ⟨a,cap,h,rfl⟩ | ⟨b,off,cap,h,_,h3,_⟩
 . exact Nat.zero_le _
 . exact h3
theorem Zb9.full (h:Zb9 lo w v Xl) (hne:Xl≠[]):∃ (b off cap:Nat),v=.slice (some ⟨b,off,none⟩) Xl.length cap/\Xl.length<=maxLen/\b < w.heap.size/\Xl.length<=cap/\
 ∀ i (h:i < Xl.length),Zeu Xl[i]/\Zdb w b (off+i*2) Xl[i]:=by
 rcases h with ⟨_,_,_,h⟩ | ⟨b,off,cap,h1,_,h3,h4,_,h6,h7⟩
 . exact absurd h hne
 . exact⟨b,off,cap,h1,h3,h4,h6,h7⟩
theorem Zb9.full' {a:Option Addr}{n cap:Nat} (h:Zb9 lo w (.slice a n cap) Xl) (hL:0 < Xl.length) :
 ∃ b off,a=some ⟨b,off,none⟩/\b < w.heap.size/\lo<=b/\∀ i (h:i < Xl.length),Zeu Xl[i]/\Zdb w b (off+i*2) Xl[i]:=by
 rcases h with ⟨a',cap',h,rfl⟩ | ⟨b',off',cap',h1,h2,h3,h4,h5,h6,h7⟩
 . simp at hL
 . injection h1 with e1 e2 e3
   exact⟨b',off',e1,h4,h5,h7⟩
def ZhX (Xl:List Be):Prop:=Xl.length<=1048576/\∀ i (h:i < Xl.length),ZhW Xl[i]
def Zsw (Xl:List Be) (left r:Int):Prop:= -1<=r/\r<=left/\(0<=r->ZhX Xl)
theorem Zpu (x:Be) (left:Int) (w:World) (h0:0<=left) (h1:left<=1048576) (hz:Zeu x) :
 Calls prog 94 #[.agg #[.string x.nm,.bool x.dr],.int .i64 left] w
  fun e w'=>∃ r:Int,e=.returned (.int .i64 r)/\Zw_ w w'/\-1<=r/\r<=left/\(0<=r->ZhW x):=by
 obtain⟨s0⟩:=hz;unfold maxLen at s0;go_enter func94,ntmps94;go_wp2
 all_goals go_ret
 all_goals exact⟨_,rfl,Zb_.alloc Zl_ _,by omega,by omega,fun _=>rfl⟩
theorem ZpF (x:Be) (w:World) :
 Calls prog 117 #[.agg #[.string x.nm,.bool x.dr]] w fun e w'=>e=.returned (.agg #[.string x.nm,.bool x.dr])/\Zw_ w w':=by
 go_enter func117,ntmps117;go_wp2;refine bodyPost_ret (v:=.agg #[.string x.nm,.bool x.dr]) (by simp [results,results117,go_sem]) rfl ⟨rfl,?_⟩
 repeat (refine Below.setCell ?_ (by simp) _)
 exact ((Zb_.alloc Zl_ _).alloc (by simp) _).alloc (by simp;omega) _
theorem Znn (x:Be) (w:World) :
 Calls prog 145 #[.agg #[.string x.nm,.bool x.dr],.agg #[.string x.nm,.bool x.dr]] w fun e w'=>e=.returned (.bool true)/\Zw_ w w':=by
 go_enter func145,ntmps145;go_wp2;go_ret;exact⟨rfl,(Zb_.alloc Zl_ _).alloc (by simp) _⟩
theorem Zoh (lo:Nat) (v:Value) (Xl:List Be) (left:Int) (w:World) (h0:0<=left) (h1:left<=1048576) (hv:Zb9 lo w v Xl) :
 Calls prog 41 #[v,.int .i64 left] w fun e w'=>∃ r:Int,e=.returned (.int .i64 r)/\Zw_ w w'/\Zsw Xl left r:=by
 rcases hv with ⟨a,cap,rfl,rfl⟩ | ⟨b,off,cap,rfl,hne,hm,hbw,_,_,hc⟩
 . go_enter func41,ntmps41
   go_wp2
   go_loop [1,5] (fun l i=>∃ r:Int,l=.int .i64 r/\0<=r/\r<=left/\i=.int .i64 0) (fun _ _=>0)
   case atStart=>exact⟨_,rfl,by omega,by omega,rfl⟩
   case round=>
    obtain⟨r,rfl,hr0,hr1,rfl⟩:=hrel;go_wp2;go_ret;exact⟨r,rfl,Below.refl _ _,by omega,by omega,fun _=>⟨by simp,fun i h=>by simp at h⟩⟩
 . unfold maxLen at hm
   by_cases hle:(Xl.length:Int)<=left
   . go_enter func41,ntmps41
     go_wp2
     go_loopw [1,5] (fun l i wr=>∃ (r:Int) (k:Nat),l=.int .i64 r/\0<=r/\r<=left/\i=.int .i64 k/\k<=Xl.length/\Zw_ w wr/\∀ j (hj:j < Xl.length),j < k->ZhW Xl[j]) (fun _ i _=>Xl.length - (intOf i).toNat)
     case atStart=>exact⟨_,0,rfl,by omega,by omega,rfl,by omega,Below.refl _ _,fun j _ h=>by omega⟩
     case round=>
      obtain⟨r,k,rfl,hr0,hr1,rfl,hk,hb,hall⟩:=hrel;have HA:=Zab hall;clear hall
      by_cases hlt:k < Xl.length
      . obtain⟨hs,hc⟩:=hc k hlt
        obtain⟨c0,c1⟩:=hc.below hb hbw;clear hc;go_wp2_with fail;refine (Zpu _ _ _ hr0 (by omega) hs).mono ?_;rintro e w1 ⟨r1,rfl,hb1,q0,q1,q2⟩;have HQ2:=Zab q2;have hB:Hd (Zw_ w w1):=hb.trans (hb1.mono hb.size);clear hb1 c0 c1 hb q2
        by_cases hneg:r1 < 0
        . go_wp2
          go_ret;exact⟨-1,rfl,hB.o,by omega,by omega,fun h=>by omega⟩
        . have HL:Hd (ZhW Xl[k]):=HQ2.o (by omega)
          clear HQ2;go_wp2;go_roundw
          case rel=>exact⟨_,k+1,rfl,by omega,by omega,by go_num,by omega,hB.o,fun j hj h=>by
                     by_cases e:j=k
                     . subst e;exact HL.o
                     . exact HA.o j hj (by omega)⟩
          . simp [intOf];omega
      . go_wp2
        go_ret;exact⟨r,rfl,hb,by omega,by omega,fun _=>⟨by omega,fun j hj=>HA.o j hj (by omega)⟩⟩
   . go_enter func41,ntmps41
     go_wp2;go_ret;exact⟨-1,rfl,Below.refl _ _,by omega,by omega,fun h=>by omega⟩
theorem ZlM (lo lo':Nat) (v v':Value) (Xl:List Be) (w:World) (hv:Zb9 lo w v Xl) (hv':Zb9 lo' w v' Xl) :
 Calls prog 87 #[v,v'] w fun e w'=>e=.returned (.bool true)/\Zw_ w w':=by
 by_cases hL:Xl=[]
 . subst hL
   obtain⟨a,cap,rfl⟩:=hv.form;obtain⟨a',cap',rfl⟩:=hv'.form;clear hv hv';go_enter func87,ntmps87;go_wp2
   go_loop [5] (fun i=>i=.int .i64 0) (fun _=>0)
   case atStart=>rfl
   case round=>
    subst hrel;go_wp2;go_ret;exact⟨rfl,Below.refl _ _⟩
 . obtain⟨b,off,cap,rfl,hm,hbw,_,hc⟩:=hv.full hL
   obtain⟨b',off',cap',rfl,_,hbw',_,hc'⟩:=hv'.full hL;clear hv hv';unfold maxLen at hm;go_enter func87,ntmps87;go_wp2
   go_loopw [5] (fun i wr=>∃ k:Nat,i=.int .i64 k/\k<=Xl.length/\Zw_ w wr) (fun i _=>Xl.length - (intOf i).toNat)
   case atStart=>exact⟨0,rfl,by omega,Below.refl _ _⟩
   case round=>
    obtain⟨k,rfl,hk,hb⟩:=hrel
    by_cases hlt:k < Xl.length
    . obtain⟨hs,hc⟩:=hc k hlt
      obtain⟨ht,hd⟩:=hc' k hlt;obtain⟨c0,c1⟩:=hc.below hb hbw;obtain⟨d0,d1⟩:=hd.below hb hbw';clear hc hd hs ht;have HB:=Zab hb;clear hb;go_wp2
      go_region_with (go_at_call 145;refine (Znn _ _ ).mono ?_;rintro e w1 ⟨rfl,hb1⟩;have hB:Hd (Zw_ w w1):=(HB.o.drew).trans (hb1.mono HB.o.size);clear hb1)
      all_goals go_wp2
      all_goals go_roundw
      all_goals first
       | (case rel=>exact⟨k+1,by go_num,by omega,hB.o⟩)
       | (case measure=>simp [intOf];omega)
    . go_wp2
      go_ret;exact⟨rfl,hb⟩
theorem Tryz.info120:(prog.info? 120).map (fun i=>(i.zero,i.size,i.bytes))=some (some (.agg #[.string ⟨#[]⟩,.bool false]),2,24):=by kernel_rfl
def ZbN (wr:World) (B:Nat) (Xl:List Be) (k:Nat):Prop:=
 ∃ f,wr.rowIs B 120 (Xl.length*2) f/\∀ i (h:i < Xl.length),i < k->Zeu Xl[i]/\f (i*2)=.string Xl[i].nm/\f (i*2+1)=.bool Xl[i].dr
theorem ZbN.below (h:ZbN wr B Xl k) (hb:Below wr.heap.size wr w1):ZbN w1 B Xl k:=by
 obtain⟨f,hr,hall⟩:=h;refine⟨f,hr.of_block (hb.block B hr.lt),fun i hi hik=>?_⟩;obtain⟨hz,h0,h1⟩:=hall i hi hik;exact⟨hz,h0,h1⟩
theorem ZbN.free (h:ZbN wr B Xl k) (i:Nat):wr.frozen? ⟨B,i,none⟩=false:=by
 obtain⟨f,hr,_⟩:=h;exact hr.frozen i
theorem ZbN.there (h:ZbN wr B Xl k) (i:Nat) (hi:i < Xl.length*2):∃ v,wr.cell? ⟨B,i,none⟩=some v:=by
 obtain⟨f,hr,_⟩:=h;exact⟨_,hr.cell hi⟩
theorem ZbN.step (h:ZbN w1 B Xl k) (hk:k < Xl.length) (hz:Zeu Xl[k]) :
 ZbN ((w1.setCell ⟨B,k*2,none⟩ (.string Xl[k].nm)).setCell ⟨B,k*2+1,none⟩ (.bool Xl[k].dr)) B Xl (k+1):=by
 obtain⟨f,hr,hall⟩:=h;refine⟨_,((hr.set _ _).set _ _),fun i hi hik=>?_⟩
 by_cases e:i=k
 . subst e
   refine⟨hz,by simp,by simp⟩
 . obtain⟨hz',h0,h1⟩:=hall i hi (by omega)
   refine⟨hz',?_,?_⟩
   . rw [if_neg (by omega),if_neg (by omega)];exact h0
   . rw [if_neg (by omega),if_neg (by omega)];exact h1
theorem ZbN.done (h:ZbN wr B Xl k) (hk:Xl.length<=k) (hne:Xl≠[]) (hm:Xl.length<=maxLen):Zb9 B wr (.slice (some ⟨B,0,none⟩) Xl.length Xl.length) Xl:=by
 obtain⟨f,hr,hall⟩:=h;refine Or.inr ⟨B,0,Xl.length,rfl,hne,hm,hr.lt,Nat.le_refl _,Nat.le_refl _,fun i hi=>?_⟩;obtain⟨hz,h0,h1⟩:=hall i hi (by omega);rw [Nat.zero_add];exact⟨hz,⟨by rw [hr.cell (by omega),h0],by rw [hr.cell (by omega),h1]⟩⟩
theorem ZbN.new (w:World) (Xl:List Be) (z:Array Value):ZbN (w.alloc (.cells (madeCells z (Xl.length*2)) 120)) w.heap.size Xl 0:=by
 refine⟨fun i=>(madeCells z (Xl.length*2)).getD i default,?_,fun i _ h=>by omega⟩;have:=World.rowIs_alloc w (madeCells z (Xl.length*2)) 120 (fun i=>(madeCells z (Xl.length*2)).getD i default) (fun i hi=>by simp [Array.getD,hi])
 rwa [size_madeCells] at this
theorem Zov (lo:Nat) (v:Value) (Xl:List Be) (w:World) (hv:Zb9 lo w v Xl) (hn:ZhX Xl) :
 Calls prog 66 #[v] w fun e w'=>∃ v',e=.returned v'/\Zw_ w w'/\Zb9 w.heap.size w' v' Xl:=by
 obtain⟨i0,hi,hz0,hz1,hz2⟩:=info_parts Tryz.info120;have hn1:=hn.1;clear hn
 by_cases hL:Xl=[]
 . subst hL
   obtain⟨a,cap,rfl⟩:=hv.form;clear hv
   have hmk:∀ u:World,(Instr.makeSlice 53 (.int .i64 0) (.int .i64 0)).run prog u=.ok (.slice (some ⟨u.heap.size,0,none⟩) 0 0) (u.alloc (.cells (madeCells (Value.cells (.agg #[.string ⟨#[]⟩,.bool false])) 0) 120)):=fun u=>by
    have h:=run_make (P:=prog) u 53 120 i0 _ underlying53 hi hz0 .i64 .i64 0 0 (by omega) (by omega) (by omega) (by omega)
    simpa [hz1] using h
   go_enter func66,ntmps66;go_wp2
   go_loop [4] (fun i=>i=.int .i64 0) (fun _=>0)
   case atStart=>rfl
   case round=>
    subst hrel;go_wp2;go_ret;exact⟨_,rfl,Zb_.alloc Zl_ _,Or.inl ⟨_,_,rfl,rfl⟩⟩
 . obtain⟨b,off,cap,rfl,hm,hbw,_,hc⟩:=hv.full hL
   clear hv;have HM:Hd (Xl.length<=maxLen):=hm;unfold maxLen at hm
   have hmk:∀ u:World,(Instr.makeSlice 53 (.int .i64 (Xl.length:Int)) (.int .i64 (Xl.length:Int))).run prog u=.ok (.slice (some ⟨u.heap.size,0,none⟩) Xl.length Xl.length) (u.alloc (.cells (madeCells (Value.cells (.agg #[.string ⟨#[]⟩,.bool false])) (Xl.length*2)) 120)):=fun u=>by
    have h:=run_make (P:=prog) u 53 120 i0 _ underlying53 hi hz0 .i64 .i64 Xl.length Xl.length (by omega) (by omega) (by rw [hz2];omega) (by omega);rw [hz1] at h
    simpa using h
   clear hi hz0 hz1 hz2;go_enter func66,ntmps66;go_wp2;clear hmk
   go_loopw [4] (fun i wr=>∃ k:Nat,i=.int .i64 k/\k<=Xl.length/\Zw_ w wr/\ZbN wr w.heap.size Xl k) (fun i _=>Xl.length - (intOf i).toNat)
   case atStart=>exact⟨0,rfl,by omega,Zb_.alloc Zl_ _,ZbN.new w Xl _⟩
   case round=>
    obtain⟨k,rfl,hk,hb,hf⟩:=hrel
    by_cases hlt:k < Xl.length
    . obtain⟨hs,hc⟩:=hc k hlt
      obtain⟨c0,c1⟩:=hc.below hb hbw
      have hBl:w.heap.size < wr.heap.size:=by
       obtain⟨_,hr,_⟩:=hf;exact hr.lt
      clear hc;go_wp2_with fail;refine (ZpF _ _ ).mono ?_;rintro e w1 ⟨rfl,hb1⟩;have hf1:=hf.below hb1;have HST:=Zab (hf1.step hlt hs );have hB:Hd (Zw_ w w1):=hb.trans (hb1.mono hb.size);have hfr:=hf1.free;obtain⟨o0,ho0⟩:=hf1.there (k*2) (by omega);obtain⟨o1,ho1⟩:=hf1.there (k*2+1) (by omega);clear hf hf1 hb1 hb c0 c1;go_wp2;go_roundw
      . 
       exact⟨k+1,by go_num,by omega,((hB.o.setCell Zl_ _).setCell Zl_ _),HST.o⟩
      . simp [intOf];omega
    . go_wp2
      go_ret;exact⟨_,rfl,hb,hf.done (by omega) hL HM.o⟩
end
section
open Go.RowKit Go.Deep Go.Shelf
attribute [local go_sem] Oper.semAt_some
section
variable (lo:Nat) (sv:Value) (Ss:List Sh) (kind nm team:Zy_) (vv hv:Value) (en:Bool) (ver:Int) (V Ho:List Zy_) (w:World)
def Zhb (s:Zy_):Zy_:=if s.size<=maxLen then s else ⟨#[]⟩
theorem ZdZ {s:Zy_} (h:s.size<=maxLen):Zhb s=s:=if_pos h
theorem Zfl (s:Zy_):(Zhb s).size<=maxLen:=by
 unfold Zhb
 split
 . assumption
 . exact Nat.zero_le _
abbrev Zsu (x:Zy_×Int):Array Value:=#[.string (Zhb x.1),.int .i64 x.2]
theorem Zhp (n:Nat) (sk:kind.size<=maxLen) (hn:1<=n) (S:Nat->Prop) (w0:World) (B1 B2:Nat) (h0:Below w0.heap.size w0 w) (hS:Zba lo w0 sv Ss) (hV:Zae w0 vv V) (n1:V.length<=1048576)
 (s0:∀ k,k < w0.heap.size->¬ S k) (s2:¬ S B2) (s3:∀ k,w.heap.size<=k->¬ S k)
 (hX1:Box w B1 #[sv]) (hX2:Box w B2 #[.string kind,.string nm,.string team,vv,.bool en,hv,.int .i64 ver]) :
 SeqStopsK Fence.wide n prog 245 #[.pointer (some ⟨B1,0,none⟩),.pointer (some ⟨B2,0,none⟩)] Zsu (ZaR S w.heap.size) (fun xs=>xs=Zec Ss kind V) (fun _=>True) (V.length+1) w:=by
 intro l J Jx W hW hJ hJx hY hJ0;have HS:=Zab hS;have HV:=Zab hV;obtain⟨a,cap,rfl⟩:=hS.form;obtain⟨va,vcap,rfl⟩:=hV.form';have H0:=Zab (h0.trans (hW.mono h0.size));have x1:=(hX1.below hW hX1.lt).cell 0;have HO:=Zab (hX2.below hW hX2.lt);have hw:w.heap.size<=W.heap.size:=hW.size;have hw0:w0.heap.size<=w.heap.size:=h0.size;have HJ:=Zab hJ;have HY:=Zab hY;have S0:=Zab s0;have S2:=Zab s2;have S3:=Zab s3;simp at x1;clear hS hV h0 hW hX1 hX2 hJ hY s0 s2 s3 hJx;refine callsIn_of_wp func245 rfl trivial ?_ rfl;simp only [ntmps245,List.size_toArray,List.length_cons,List.length_nil,Nat.reduceAdd,Nat.reduceSub,Array.replicate_succ,Array.replicate_zero,List.push_toArray,List.append_toArray,List.nil_append,List.cons_append];have o0:=HO.o.cell 0;have o3:=HO.o.cell 3;simp at o0 o3
 gi_wp2_with fail
 refine⟨trivial,(callsIn_wide.2 (Zd9 lo _ Ss kind w0 W HS.o H0.o)).mono ?_⟩;rintro e w1 ⟨hb1,hq⟩;have HB1:=Zab hb1;have HJ1:=Zab (Zbo HJ.o hJ0 hb1);have HO1:=Zab (HO.o.on hb1);have H1:=Zab (H0.o.trans (hb1.mono H0.o.size));have o0:=HO1.o.cell 0;have o3:=HO1.o.cell 3;simp at o0 o3;have o0:∀ o,(w1.alloc o).cell? ⟨B2,0,none⟩=some (.string kind):=fun o=>(Zai _ _ _ _ HO1.o.lt).trans o0
 have o3:∀ o,(w1.alloc o).cell? ⟨B2,3,none⟩=some (.slice va V.length vcap):=fun o=>(Zai _ _ _ _ HO1.o.lt).trans o3
 clear hb1 hJ0 HO H0 x1
 rcases hq with ⟨x,fv,hsh,rfl,hF⟩ | ⟨hno,rfl⟩
 . have HF:=Zab hF
   have HSH:=Zab hsh;obtain⟨fa,fcap,rfl⟩:=hF.form;clear hF hsh
   by_cases hl:x.fields.length=V.length
   . have HL:=Zab hl
     have hne:((V.length:Int) != (x.fields.length:Int))=false:=by rw [hl];simp
     have HE:=Zab (Zj2 HSH.o hl);clear hl;have HT:Hd (∀ o,J [] (w1.alloc o)):=fun o=>Zbo HJ.o HJ1.o (Zac _ _)
     cases hk:kind.toList.isEmpty with
     | true=>
      gi_wp2
      all_goals (refine⟨fun _ h=>(by cases h),?_⟩;gi_wp2)
      have HJT:Hd (J (Zdh kind ++ ZaY x.fields V 0) (w1.alloc (.cells #[.string x.kind,.slice fa x.fields.length fcap] 115))):=by unfold Hd Zdh;rw [hk];exact HT.o _
      have HBT:Hd (Below w0.heap.size w0 (w1.alloc (.cells #[.string x.kind,.slice fa x.fields.length fcap] 115))):=H1.o.trans ((Zac _ _).mono H1.o.size);have p3:=o3 (.cells #[.string x.kind,.slice fa x.fields.length fcap] 115);have plt:B2 < (w1.alloc (.cells #[.string x.kind,.slice fa x.fields.length fcap] 115)).heap.size:=by have:=HO1.o.lt;simp;omega
      have pw:w.heap.size<=(w1.alloc (.cells #[.string x.kind,.slice fa x.fields.length fcap] 115)).heap.size:=by have:=HB1.o.size;simp;omega
      gi_loopw [41] (fun i wr=>∃ k:Nat,i=.int .i64 k/\k<=x.fields.length/\J (Zdh kind ++ ZaY x.fields V k) wr/\Below w0.heap.size w0 wr/\wr.cell? ⟨B2,3,none⟩=some (.slice va V.length vcap)/\B2 < wr.heap.size/\w.heap.size<=wr.heap.size)
       (fun i _=>x.fields.length - (intOf i).toNat)
      case atStart=>exact⟨0,rfl,Nat.zero_le _,HJT.o,HBT.o,p3,plt,pw⟩
      case round=>
       obtain⟨k,rfl,hkl,hJk,hBk,q3,qlt,qw⟩:=hrel;have HJK:=Zab hJk;have HBK:=Zab hBk;clear hJk hBk
       by_cases hlt:k < x.fields.length
       . have hlv:k < V.length:=by have:=HL.o;omega
         obtain⟨fb,foff,rfl,hfb,hfc⟩:=HF.o.full' (by omega);obtain⟨hsz,wv,hcell,hst⟩:=hfc k hlt;obtain⟨c0,c1,c2,c3,c4,c5,c6,c7,c8,c9,c10⟩:=hcell.below HBK.o hfb;obtain⟨wa,wn,wcap,rfl⟩:=hst.form;obtain⟨vb,voff,rfl,hvb,hvc,hvs⟩:=HV.o.spread (by omega);have hvk:wr.cell? ⟨vb,voff+k,none⟩=some (.string V[k]):=(HBK.o.cell (p:=⟨vb,voff+k,none⟩) hvb).trans (hvc k hlv);have hvk:∀ o,(wr.alloc o).cell? ⟨vb,voff+k,none⟩=some (.string V[k]):=fun o=>(Zai _ _ _ _ (Zk_ hvb HBK.o.size)).trans hvk
         have q3':∀ o,(wr.alloc o).cell? ⟨B2,3,none⟩=some (.slice (some ⟨vb,voff,none⟩) V.length vcap):=fun o=>(Zai _ _ _ _ qlt).trans q3
         have hvz:V[k].size<=maxLen:=hvs _ (List.getElem_mem hlv);have HST:=Zab (Zg5 hlt hlv);have HA:∀ o,Hd (J (Zdh kind ++ ZaY x.fields V k) (wr.alloc o)):=fun o=>Zbo HJ.o HJK.o (Zac _ _)
         have HAB:∀ o,Hd (Below w0.heap.size w0 (wr.alloc o)):=fun o=>HBK.o.trans ((Zac _ _).mono HBK.o.size)
         have hwe:=hsz.s10;clear hfc hcell hst hvc hvs hsz
         cases hk1:(x.fields[k].kd == 1) with
         | false=>
          have hk1':(x.fields[k].kd != 1)=true:=by simp [bne,hk1]
          have HE2:Hd (ZaY x.fields V (k+1)=ZaY x.fields V k):=by unfold Hd;rw [HST.o,hk1];simp
          gi_wp2
          go_roundw
          . exact⟨k+1,by go_num,by omega,by rw [HE2.o];exact (HA _).o,(HAB _).o,q3' _,by simp;omega,by simp;omega⟩
          . simp [intOf];omega
         | true=>
          have hk1':(x.fields[k].kd != 1)=false:=by simp [bne,hk1]
          cases hk2:x.fields[k].we.toList.isEmpty with
          | true=>
           have HE2:Hd (ZaY x.fields V (k+1)=ZaY x.fields V k):=by unfold Hd;rw [HST.o,hk1,hk2];simp
           gi_wp2
           go_roundw
           . exact⟨k+1,by go_num,by omega,by rw [HE2.o];exact (HA _).o,(HAB _).o,q3' _,by simp;omega,by simp;omega⟩
           . simp [intOf];omega
          | false=>
           have HE2:Hd (ZaY x.fields V (k+1)=ZaY x.fields V k ++ [(x.fields[k].we,Zaq V[k])]):=by unfold Hd;rw [HST.o,hk1,hk2];simp
           have hpl:(Zdh kind ++ ZaY x.fields V k).length < V.length+1:=by
            have:=Zfs x.fields V k;have:(Zdh kind).length<=1:=by unfold Zdh;split <;> simp
            rw [List.length_append];omega
           have HP:=Zab hpl;clear hpl;obtain⟨fn,tmps,assign,body,hy,hR⟩:=HY.o _ (x.fields[k].we,Zaq V[k]) _ (HA (.cells #[.string x.fields[k].nm,.int .i64 x.fields[k].kd,.int .i64 x.fields[k].le,.int .i64 x.fields[k].mo,.slice wa wn wcap,.string x.fields[k].to,.int .i64 x.fields[k].ro,.bool x.fields[k].mu,.bool x.fields[k].fx,.string x.fields[k].df,.string x.fields[k].we] 109)).o HP.o;dsimp only [Zsu] at hy;rw [ZdZ hwe] at hy;have HR:=Zab hR;clear hR
           gi_wp2_with (refine⟨trivial,?_⟩;gi_at_call 225;refine (callsIn_wide.2 (Za0 _ _ hvz)).mono ?_;rintro e w3 ⟨rfl,rfl⟩)
           refine HR.o.mono ?_;rintro e W3 (⟨rfl,hJ3,hk3⟩ | ⟨rfl,hJx3⟩)
           . have HJ3:=Zab hJ3
             have r3:=hk3.cell (q3' (.cells #[.string x.fields[k].nm,.int .i64 x.fields[k].kd,.int .i64 x.fields[k].le,.int .i64 x.fields[k].mo,.slice wa wn wcap,.string x.fields[k].to,.int .i64 x.fields[k].ro,.bool x.fields[k].mu,.bool x.fields[k].fx,.string x.fields[k].df,.string x.fields[k].we] 109)) S2.o;have rB:Hd (Below w0.heap.size w0 W3):=(HAB (.cells #[.string x.fields[k].nm,.int .i64 x.fields[k].kd,.int .i64 x.fields[k].le,.int .i64 x.fields[k].mo,.slice wa wn wcap,.string x.fields[k].to,.int .i64 x.fields[k].ro,.bool x.fields[k].mu,.bool x.fields[k].fx,.string x.fields[k].df,.string x.fields[k].we] 109)).o.trans (hk3.below (HAB _).o.size S0.o hw0);have rz:=hk3.size;simp at rz;clear hk3 hJ3 hy
             gi_wp2
             go_roundw
             . exact⟨k+1,by go_num,by omega,by rw [HE2.o,<- List.append_assoc];exact HJ3.o,rB.o,r3,by omega,by omega⟩
             . simp [intOf];omega
           . have HX3:=Zab hJx3
             clear hJx3 hy
             gi_wp2
             refine bodyPost_ret (results_none rfl _ _ _) rfl ?_;exact⟨⟨_,rfl⟩,.inr ⟨_,trivial,HX3.o⟩⟩
       . have he:k=V.length:=by have:=HL.o;omega
         subst he
         gi_wp2
         go_end0
         exact⟨⟨_,rfl⟩,.inl ⟨_,HE.o.symm,HJK.o⟩⟩
     | false=>
      have hlen:([]:List (Zy_×Int)).length < V.length+1:=by simp
      obtain⟨fn,tmps,assign,body,hy,hR⟩:=HY.o _ (kind,1) _ (HT.o (.cells #[.string x.kind,.slice fa x.fields.length fcap] 115)) hlen;dsimp only [Zsu] at hy;rw [ZdZ sk] at hy;have HR:=Zab hR;clear hR hlen
      gi_wp2
      refine HR.o.mono ?_;rintro e W3 (⟨rfl,hJ3,hk3⟩ | ⟨rfl,hJx3⟩)
      . have HJT:Hd (J (Zdh kind ++ ZaY x.fields V 0) W3):=by unfold Hd Zdh;rw [hk];exact hJ3
        have HBT0:Below w0.heap.size w0 (w1.alloc (.cells #[.string x.kind,.slice fa x.fields.length fcap] 115)):=H1.o.trans ((Zac _ _).mono H1.o.size);have HBT:Hd (Below w0.heap.size w0 W3):=HBT0.trans (hk3.below HBT0.size S0.o hw0);have hw1:w.heap.size<=w1.heap.size:=Nat.le_trans hw HB1.o.size;have p3:=hk3.cell (o3 (.cells #[.string x.kind,.slice fa x.fields.length fcap] 115)) S2.o;have p4:W3.cell? ⟨w1.heap.size,1,none⟩=some (.slice fa x.fields.length fcap):=hk3.cell (ZbJ _ _ _ _ 1 rfl) (S3.o _ hw1);have rz:=hk3.size;simp at rz;have plt:B2 < W3.heap.size:=by have:=HO1.o.lt;omega
        have pw:w.heap.size<=W3.heap.size:=by omega
        clear hk3 hJ3 hy HBT0
        gi_wp2
        gi_loopw [41] (fun i wr=>∃ k:Nat,i=.int .i64 k/\k<=x.fields.length/\J (Zdh kind ++ ZaY x.fields V k) wr/\Below w0.heap.size w0 wr/\wr.cell? ⟨B2,3,none⟩=some (.slice va V.length vcap)/\B2 < wr.heap.size/\w.heap.size<=wr.heap.size)
         (fun i _=>x.fields.length - (intOf i).toNat)
        case atStart=>exact⟨0,rfl,Nat.zero_le _,HJT.o,HBT.o,p3,plt,pw⟩
        case round=>
         obtain⟨k,rfl,hkl,hJk,hBk,q3,qlt,qw⟩:=hrel;have HJK:=Zab hJk;have HBK:=Zab hBk;clear hJk hBk
         by_cases hlt:k < x.fields.length
         . have hlv:k < V.length:=by have:=HL.o;omega
           obtain⟨fb,foff,rfl,hfb,hfc⟩:=HF.o.full' (by omega);obtain⟨hsz,wv,hcell,hst⟩:=hfc k hlt;obtain⟨c0,c1,c2,c3,c4,c5,c6,c7,c8,c9,c10⟩:=hcell.below HBK.o hfb;obtain⟨wa,wn,wcap,rfl⟩:=hst.form;obtain⟨vb,voff,rfl,hvb,hvc,hvs⟩:=HV.o.spread (by omega);have hvk:wr.cell? ⟨vb,voff+k,none⟩=some (.string V[k]):=(HBK.o.cell (p:=⟨vb,voff+k,none⟩) hvb).trans (hvc k hlv);have hvk:∀ o,(wr.alloc o).cell? ⟨vb,voff+k,none⟩=some (.string V[k]):=fun o=>(Zai _ _ _ _ (Zk_ hvb HBK.o.size)).trans hvk
           have q3':∀ o,(wr.alloc o).cell? ⟨B2,3,none⟩=some (.slice (some ⟨vb,voff,none⟩) V.length vcap):=fun o=>(Zai _ _ _ _ qlt).trans q3
           have hvz:V[k].size<=maxLen:=hvs _ (List.getElem_mem hlv);have HST:=Zab (Zg5 hlt hlv);have HA:∀ o,Hd (J (Zdh kind ++ ZaY x.fields V k) (wr.alloc o)):=fun o=>Zbo HJ.o HJK.o (Zac _ _)
           have HAB:∀ o,Hd (Below w0.heap.size w0 (wr.alloc o)):=fun o=>HBK.o.trans ((Zac _ _).mono HBK.o.size)
           have hwe:=hsz.s10;clear hfc hcell hst hvc hvs hsz
           cases hk1:(x.fields[k].kd == 1) with
           | false=>
            have hk1':(x.fields[k].kd != 1)=true:=by simp [bne,hk1]
            have HE2:Hd (ZaY x.fields V (k+1)=ZaY x.fields V k):=by unfold Hd;rw [HST.o,hk1];simp
            gi_wp2
            go_roundw
            . exact⟨k+1,by go_num,by omega,by rw [HE2.o];exact (HA _).o,(HAB _).o,q3' _,by simp;omega,by simp;omega⟩
            . simp [intOf];omega
           | true=>
            have hk1':(x.fields[k].kd != 1)=false:=by simp [bne,hk1]
            cases hk2:x.fields[k].we.toList.isEmpty with
            | true=>
             have HE2:Hd (ZaY x.fields V (k+1)=ZaY x.fields V k):=by unfold Hd;rw [HST.o,hk1,hk2];simp
             gi_wp2
             go_roundw
             . exact⟨k+1,by go_num,by omega,by rw [HE2.o];exact (HA _).o,(HAB _).o,q3' _,by simp;omega,by simp;omega⟩
             . simp [intOf];omega
            | false=>
             have HE2:Hd (ZaY x.fields V (k+1)=ZaY x.fields V k ++ [(x.fields[k].we,Zaq V[k])]):=by unfold Hd;rw [HST.o,hk1,hk2];simp
             have hpl:(Zdh kind ++ ZaY x.fields V k).length < V.length+1:=by
              have:=Zfs x.fields V k;have:(Zdh kind).length<=1:=by unfold Zdh;split <;> simp
              rw [List.length_append];omega
             have HP:=Zab hpl;clear hpl;obtain⟨fn,tmps,assign,body,hy,hR⟩:=HY.o _ (x.fields[k].we,Zaq V[k]) _ (HA (.cells #[.string x.fields[k].nm,.int .i64 x.fields[k].kd,.int .i64 x.fields[k].le,.int .i64 x.fields[k].mo,.slice wa wn wcap,.string x.fields[k].to,.int .i64 x.fields[k].ro,.bool x.fields[k].mu,.bool x.fields[k].fx,.string x.fields[k].df,.string x.fields[k].we] 109)).o HP.o;dsimp only [Zsu] at hy;rw [ZdZ hwe] at hy;have HR:=Zab hR;clear hR
             gi_wp2_with (refine⟨trivial,?_⟩;gi_at_call 225;refine (callsIn_wide.2 (Za0 _ _ hvz)).mono ?_;rintro e w3 ⟨rfl,rfl⟩)
             refine HR.o.mono ?_;rintro e W3 (⟨rfl,hJ3,hk3⟩ | ⟨rfl,hJx3⟩)
             . have HJ3:=Zab hJ3
               have r3:=hk3.cell (q3' (.cells #[.string x.fields[k].nm,.int .i64 x.fields[k].kd,.int .i64 x.fields[k].le,.int .i64 x.fields[k].mo,.slice wa wn wcap,.string x.fields[k].to,.int .i64 x.fields[k].ro,.bool x.fields[k].mu,.bool x.fields[k].fx,.string x.fields[k].df,.string x.fields[k].we] 109)) S2.o;have rB:Hd (Below w0.heap.size w0 W3):=(HAB (.cells #[.string x.fields[k].nm,.int .i64 x.fields[k].kd,.int .i64 x.fields[k].le,.int .i64 x.fields[k].mo,.slice wa wn wcap,.string x.fields[k].to,.int .i64 x.fields[k].ro,.bool x.fields[k].mu,.bool x.fields[k].fx,.string x.fields[k].df,.string x.fields[k].we] 109)).o.trans (hk3.below (HAB _).o.size S0.o hw0);have rz:=hk3.size;simp at rz;clear hk3 hJ3 hy
               gi_wp2
               go_roundw
               . exact⟨k+1,by go_num,by omega,by rw [HE2.o,<- List.append_assoc];exact HJ3.o,rB.o,r3,by omega,by omega⟩
               . simp [intOf];omega
             . have HX3:=Zab hJx3
               clear hJx3 hy
               gi_wp2
               refine bodyPost_ret (results_none rfl _ _ _) rfl ?_;exact⟨⟨_,rfl⟩,.inr ⟨_,trivial,HX3.o⟩⟩
         . have he:k=V.length:=by have:=HL.o;omega
           subst he
           gi_wp2
           go_end0
           exact⟨⟨_,rfl⟩,.inl ⟨_,HE.o.symm,HJK.o⟩⟩
      . have HX3:=Zab hJx3
        clear hJx3 hy
        gi_wp2
        refine bodyPost_ret (results_none rfl _ _ _) rfl ?_;exact⟨⟨_,rfl⟩,.inr ⟨_,trivial,HX3.o⟩⟩
   . have hne:((V.length:Int) != (x.fields.length:Int))=true:=by simp;omega
     have HE:Hd (Zec Ss kind V=[]):=ZiO fun y hy=>by rw [HSH.o] at hy;cases hy;exact hl
     have HJ2:∀ o,Hd (J [] (w1.alloc o)):=fun o=>Zbo (HJ.o) HJ1.o (Zac _ _)
     gi_wp2
     refine bodyPost_ret (results_none rfl _ _ _) rfl ?_;exact⟨⟨_,rfl⟩,.inl ⟨[],HE.o.symm,(HJ2 _).o⟩⟩
 . have HE:Hd (Zec Ss kind V=[]):=ZiO fun y hy=>by rw [hno] at hy;cases hy
   have HJ2:∀ o,Hd (J [] (w1.alloc o)):=fun o=>Zbo (HJ.o) HJ1.o (Zac _ _)
   gi_wp2
   refine bodyPost_ret (results_none rfl _ _ _) rfl ?_;exact⟨⟨_,rfl⟩,.inl ⟨[],HE.o.symm,(HJ2 _).o⟩⟩
end
end
open Go.ChangeShapes Go.WideShapes Go.ChangeAt Go.RowKit Go.Deep
theorem Tryz.cells22:prog.cellsOf 22=1:=by kernel_rfl
end Go.Proofs.YtbdhbihhgfpnnaaGreat
