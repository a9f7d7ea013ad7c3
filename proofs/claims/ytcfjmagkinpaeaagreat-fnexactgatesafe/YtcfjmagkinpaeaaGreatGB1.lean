import Derived.Test.YtcfjmagkinpaeaaGreatGA2
set_option maxHeartbeats 16000000
set_option maxRecDepth 100000
open Go.Proofs.Tryz
namespace Go.Proofs.YtcfjmagkinpaeaaGreat
open Go.RowKit Go.Deep
structure Fd where
 nm:Zy_
 kd:Int
 le:Int
 mo:Int
 words:List Zy_
 to:Zy_
 ro:Int
 mu:Bool
 fx:Bool
 df:Zy_
 we:Zy_
structure ZcC (w:World) (b o:Nat) (f:Fd) (wv:Value):Prop where
 c0:w.cell? ⟨b,o,none⟩=some (.string f.nm)
 c1:w.cell? ⟨b,o+1,none⟩=some (.int .i64 f.kd)
 c2:w.cell? ⟨b,o+2,none⟩=some (.int .i64 f.le)
 c3:w.cell? ⟨b,o+3,none⟩=some (.int .i64 f.mo)
 c4:w.cell? ⟨b,o+4,none⟩=some wv
 c5:w.cell? ⟨b,o+5,none⟩=some (.string f.to)
 c6:w.cell? ⟨b,o+6,none⟩=some (.int .i64 f.ro)
 c7:w.cell? ⟨b,o+7,none⟩=some (.bool f.mu)
 c8:w.cell? ⟨b,o+8,none⟩=some (.bool f.fx)
 c9:w.cell? ⟨b,o+9,none⟩=some (.string f.df)
 c10:w.cell? ⟨b,o+10,none⟩=some (.string f.we)
structure ZeG (f:Fd):Prop where
 s0:f.nm.size≤maxLen
 s5:f.to.size≤maxLen
 s9:f.df.size≤maxLen
 s10:f.we.size≤maxLen
theorem ZcC.below {w w':World} {b o:Nat} {f:Fd} {wv:Value} (h:ZcC w b o f wv) (hb:Zw_ w w') (hlt:b < w.heap.size):ZcC w' b o f wv:=by
 have e:∀ o,w'.cell? ⟨b,o,none⟩=w.cell? ⟨b,o,none⟩:=fun o=>hb.cell (p:=⟨b,o,none⟩) hlt
 exact⟨by rw [e];exact h.c0,by rw [e];exact h.c1,by rw [e];exact h.c2,by rw [e];exact h.c3,by rw [e];exact h.c4,by rw [e];exact h.c5,by rw [e];exact h.c6,by rw [e];exact h.c7,by rw [e];exact h.c8,by rw [e];exact h.c9,by rw [e];exact h.c10⟩
def Zav (lo:Nat) (w:World) (v:Value) (Fs:List Fd):Prop:=
 (∃ (a:Option Addr) (cap:Nat),v=.slice a 0 cap∧Fs=[])∨
 ∃ (b off cap:Nat),v=.slice (some ⟨b,off,none⟩) Fs.length cap∧Fs≠[]∧Fs.length≤maxLen∧b < w.heap.size∧lo≤b∧Fs.length≤cap∧
  ∀ i (h:i < Fs.length),ZeG Fs[i]∧∃ wv,ZcC w b (off+i*11) Fs[i] wv∧Zan lo w wv Fs[i].words
theorem Zav.below {lo:Nat} {w w':World} {v:Value} {Fs:List Fd} (h:Zav lo w v Fs) (hb:Zw_ w w'):Zav lo w' v Fs:=by
 rcases h with h | ⟨b,off,cap,h1,h2,h3,h4,h5,h6,h7⟩
 · exact Or.inl h
 · refine Or.inr ⟨b,off,cap,h1,h2,h3,Zk_ h4 hb.size,h5,h6,fun i hi=>?_⟩
   obtain⟨hs,wv,hc,hw⟩:=h7 i hi;exact⟨hs,wv,hc.below hb h4,hw.below hb⟩
theorem Zav.mono {lo lo':Nat} {w:World} {v:Value} {Fs:List Fd} (h:Zav lo w v Fs) (hl:lo'≤lo):Zav lo' w v Fs:=by
 rcases h with h | ⟨b,off,cap,h1,h2,h3,h4,h5,h6,h7⟩
 · exact Or.inl h
 · refine Or.inr ⟨b,off,cap,h1,h2,h3,h4,Nat.le_trans hl h5,h6,fun i hi=>?_⟩
   obtain⟨hs,wv,hc,hw⟩:=h7 i hi;exact⟨hs,wv,hc,hw.mono hl⟩
theorem Zav.form {lo:Nat} {w:World} {v:Value} {Fs:List Fd} (h:Zav lo w v Fs):∃ a cap,v=.slice a Fs.length cap:=by
 rcases h with ⟨a,cap,h,rfl⟩ | ⟨b,off,cap,h,_⟩
 · exact⟨a,cap,h⟩
 · exact⟨_,cap,h⟩
def Ze6 (Fs:List Fd):Prop:=Fs.length≤1048576∧∀ i (h:i < Fs.length),Fs[i].words.length≤1048576
def Zsg (Fs:List Fd) (left r:Int):Prop:= -1≤r∧r≤left∧(0≤r→Ze6 Fs)
theorem Zon (lo:Nat) (v:Value) (Fs:List Fd) (left:Int) (w:World) (h0:0≤left) (h1:left≤1048576) (hv:Zav lo w v Fs) :
 Calls prog 96 #[v,.int .i64 left] w fun e w'=>∃ r:Int,e=.returned (.int .i64 r)∧Zw_ w w'∧Zsg Fs left r:=by
 rcases hv with ⟨a,cap,rfl,rfl⟩ | ⟨b,off,cap,rfl,hne,hm,hbw,_,_,hc⟩
 · go_enter func96,ntmps96
   go_wp2
   go_loop [1,5] (fun l i=>∃ r:Int,l=.int .i64 r∧0≤r∧r≤left∧i=.int .i64 0) (fun _ _=>0)
   case atStart=>exact⟨_,rfl,by omega,by omega,rfl⟩
   case round=>
    obtain⟨r,rfl,hr0,hr1,rfl⟩:=hrel;go_wp2;go_ret;exact⟨r,rfl,Below.refl _ _,by omega,by omega,fun _=>⟨by simp,fun i h=>absurd h (by simp)⟩⟩
 · unfold maxLen at hm
   by_cases hle:(Fs.length:Int)≤left
   · go_enter func96,ntmps96
     go_wp2
     go_loopw [1,5] (fun l i wr=>∃ (r:Int) (k:Nat),l=.int .i64 r∧0≤r∧r≤left∧i=.int .i64 k∧k≤Fs.length∧Zw_ w wr∧∀ i (h:i < Fs.length),i < k→Fs[i].words.length≤1048576) (fun _ i _=>Fs.length - (intOf i).toNat)
     case atStart=>exact⟨_,0,rfl,by omega,by omega,rfl,by omega,Below.refl _ _,fun i h h'=>by omega⟩
     case round=>
      obtain⟨r,k,rfl,hr0,hr1,rfl,hk,hb,hall⟩:=hrel;have HA:=Zab hall;clear hall
      by_cases hlt:k < Fs.length
      · obtain⟨hsz,wv,hcell,hst⟩:=hc k hlt
        have hcell:=hcell.below hb hbw;obtain⟨c0,c1,c2,c3,c4,c5,c6,c7,c8,c9,c10⟩:=hcell;go_wp2_with fail;refine (ZkH _ _ _ _ _ _ _ _ _ _ _ Fs[k].words _ _ (hst.at.below hb) hr0 (by omega) hsz.s0 hsz.s5 hsz.s9 hsz.s10).mono ?_;rintro e w1 ⟨r1,rfl,hb1,q0,q1,q2⟩;have hB:Hid (Zw_ w w1):=hb.trans (hb1.mono hb.size);clear hb1 c0 c1 c2 c3 c4 c5 c6 c7 c8 c9 c10 hb;go_wp2
        all_goals first
         | (go_roundw
            case rel=>exact⟨_,k+1,rfl,by omega,by omega,by go_num,by omega,hB.out,fun i h h'=>by
                       by_cases e:i=k
                       · subst e;have:=q2 (by omega);omega
                       · exact HA.out i h (by omega)⟩
            case measure=>simp [intOf];omega)
         | (go_ret
            exact⟨-1,rfl,hB.out,by omega,by omega,fun h=>by omega⟩)
      · go_wp2
        go_ret;exact⟨r,rfl,hb,by omega,by omega,fun _=>⟨by omega,fun i h=>HA.out i h (by omega)⟩⟩
   · go_enter func96,ntmps96
     go_wp2;go_ret;exact⟨-1,rfl,Below.refl _ _,by omega,by omega,fun h=>by omega⟩
structure Sh where
 kind:Zy_
 fields:List Fd
def ZaU (lo:Nat) (w:World) (v:Value) (Ss:List Sh):Prop:=
 (∃ (a:Option Addr) (cap:Nat),v=.slice a 0 cap∧Ss=[])∨
 ∃ (b off cap:Nat),v=.slice (some ⟨b,off,none⟩) Ss.length cap∧Ss≠[]∧Ss.length≤maxLen∧b < w.heap.size∧lo≤b∧
  ∀ i (h:i < Ss.length),Ss[i].kind.size≤maxLen∧∃ fv,w.cell? ⟨b,off+i*2,none⟩=some (.string Ss[i].kind)∧w.cell? ⟨b,off+i*2+1,none⟩=some fv∧Zav lo w fv Ss[i].fields
theorem ZaU.below {lo:Nat} {w w':World} {v:Value} {Ss:List Sh} (h:ZaU lo w v Ss) (hb:Zw_ w w'):ZaU lo w' v Ss:=by
 rcases h with h | ⟨b,off,cap,h1,h2,h3,h4,h5,h7⟩
 · exact Or.inl h
 · refine Or.inr ⟨b,off,cap,h1,h2,h3,Zk_ h4 hb.size,h5,fun i hi=>?_⟩
   obtain⟨hs,fv,hc,hc',hw⟩:=h7 i hi;exact⟨hs,fv,by rw [hb.cell (p:=⟨b,_,none⟩) h4];exact hc,by rw [hb.cell (p:=⟨b,_,none⟩) h4];exact hc',hw.below hb⟩
theorem ZaU.mono {lo lo':Nat} {w:World} {v:Value} {Ss:List Sh} (h:ZaU lo w v Ss) (hl:lo'≤lo):ZaU lo' w v Ss:=by
 rcases h with h | ⟨b,off,cap,h1,h2,h3,h4,h5,h7⟩
 · exact Or.inl h
 · refine Or.inr ⟨b,off,cap,h1,h2,h3,h4,Nat.le_trans hl h5,fun i hi=>?_⟩
   obtain⟨hs,fv,hc,hc',hw⟩:=h7 i hi;exact⟨hs,fv,hc,hc',hw.mono hl⟩
theorem ZaU.form {lo:Nat} {w:World} {v:Value} {Ss:List Sh} (h:ZaU lo w v Ss):∃ a cap,v=.slice a Ss.length cap:=by
 rcases h with ⟨a,cap,h,rfl⟩ | ⟨b,off,cap,h,_⟩
 · exact⟨a,cap,h⟩
 · exact⟨_,cap,h⟩
def Zh3 (Ss:List Sh):Prop:=Ss.length≤1048576∧∀ i (h:i < Ss.length),Ze6 Ss[i].fields
def Ztc (Ss:List Sh) (left r:Int):Prop:= -1≤r∧r≤left∧(0≤r→Zh3 Ss)
theorem ZkI (lo:Nat) (kind:Zy_) (v:Value) (Fs:List Fd) (left:Int) (w:World) (h0:0≤left) (h1:left≤1048576) (hv:Zav lo w v Fs) (hs:kind.size≤maxLen) :
 Calls prog 49 #[.agg #[.string kind,v],.int .i64 left] w fun e w'=>∃ r:Int,e=.returned (.int .i64 r)∧Zw_ w w'∧Zsg Fs left r:=by
 have HV:=Zab hv;obtain⟨a,cap,rfl⟩:=hv.form;clear hv;unfold maxLen at hs;have HW:∀ o,Hid (Zw_ w (w.alloc o)):=fun o=>Zb_.alloc Zl_ _
 by_cases c1:(kind.size:Int)≤left
 · go_enter func49,ntmps49
   go_wp2_with fail;refine (Zon lo _ Fs _ _ (by omega) (by omega) (HV.out.below (HW _).out)).mono ?_;rintro e w1 ⟨r,rfl,hb1,q0,q1,q2⟩;have hB:Hid (Zw_ w w1):=(HW _).out.trans (hb1.mono (by simp));have HQ:=Zab q2;clear hb1 q2;go_wp2
   all_goals go_ret
   all_goals first
    | exact⟨_,rfl,hB.out,by omega,by omega,HQ.out⟩
    | exact⟨-1,rfl,hB.out,by omega,by omega,fun h=>by omega⟩
 · go_enter func49,ntmps49
   go_wp2;go_ret;exact⟨-1,rfl,(HW _).out,by omega,by omega,fun h=>by omega⟩
theorem Zou (lo:Nat) (v:Value) (Ss:List Sh) (left:Int) (w:World) (h0:0≤left) (h1:left≤1048576) (hv:ZaU lo w v Ss) :
 Calls prog 18 #[v,.int .i64 left] w fun e w'=>∃ r:Int,e=.returned (.int .i64 r)∧Zw_ w w'∧Ztc Ss left r:=by
 rcases hv with ⟨a,cap,rfl,rfl⟩ | ⟨b,off,cap,rfl,hne,hm,hbw,_,hc⟩
 · go_enter func18,ntmps18
   go_wp2
   go_loop [1,5] (fun l i=>∃ r:Int,l=.int .i64 r∧0≤r∧r≤left∧i=.int .i64 0) (fun _ _=>0)
   case atStart=>exact⟨_,rfl,by omega,by omega,rfl⟩
   case round=>
    obtain⟨r,rfl,hr0,hr1,rfl⟩:=hrel;go_wp2;go_ret;exact⟨r,rfl,Below.refl _ _,by omega,by omega,fun _=>⟨by simp,fun i h=>absurd h (by simp)⟩⟩
 · unfold maxLen at hm
   by_cases hle:(Ss.length:Int)≤left
   · go_enter func18,ntmps18
     go_wp2
     go_loopw [1,5] (fun l i wr=>∃ (r:Int) (k:Nat),l=.int .i64 r∧0≤r∧r≤left∧i=.int .i64 k∧k≤Ss.length∧Zw_ w wr∧∀ i (h:i < Ss.length),i < k→Ze6 Ss[i].fields) (fun _ i _=>Ss.length - (intOf i).toNat)
     case atStart=>exact⟨_,0,rfl,by omega,by omega,rfl,by omega,Below.refl _ _,fun i h h'=>by omega⟩
     case round=>
      obtain⟨r,k,rfl,hr0,hr1,rfl,hk,hb,hall⟩:=hrel;have HA:=Zab hall;clear hall
      by_cases hlt:k < Ss.length
      · obtain⟨hsz,fv,c0,c1,hst⟩:=hc k hlt
        have c0':wr.cell? ⟨b,off+k*2,none⟩=some (.string Ss[k].kind):=by rw [hb.cell (p:=⟨b,_,none⟩) hbw];exact c0
        have c1':wr.cell? ⟨b,off+k*2+1,none⟩=some fv:=by rw [hb.cell (p:=⟨b,_,none⟩) hbw];exact c1
        clear c0 c1;go_wp2_with fail;refine (ZkI lo _ _ Ss[k].fields _ _ hr0 (by omega) (hst.below hb) hsz).mono ?_;rintro e w1 ⟨r1,rfl,hb1,q0,q1,q2⟩;have hB:Hid (Zw_ w w1):=hb.trans (hb1.mono hb.size);have HQ:=Zab q2;clear hb1 c0' c1' hb q2;go_wp2
        all_goals first
         | (go_roundw
            case rel=>exact⟨_,k+1,rfl,by omega,by omega,by go_num,by omega,hB.out,fun i h h'=>by
                       by_cases e:i=k
                       · subst e;exact HQ.out (by omega)
                       · exact HA.out i h (by omega)⟩
            case measure=>simp [intOf];omega)
         | (go_ret
            exact⟨-1,rfl,hB.out,by omega,by omega,fun h=>by omega⟩)
      · go_wp2
        go_ret;exact⟨r,rfl,hb,by omega,by omega,fun _=>⟨by omega,fun i h=>HA.out i h (by omega)⟩⟩
   · go_enter func18,ntmps18
     go_wp2;go_ret;exact⟨-1,rfl,Below.refl _ _,by omega,by omega,fun h=>by omega⟩
theorem ZdS {lo:Nat} {w:World} {v:Value} (h:Zav lo w v []):∃ a cap,v=.slice a 0 cap:=h.form
theorem Zav.full {lo:Nat} {w:World} {v:Value} {Fs:List Fd} (h:Zav lo w v Fs) (hne:Fs≠[]):∃ (b off cap:Nat),v=.slice (some ⟨b,off,none⟩) Fs.length cap∧Fs.length≤maxLen∧b < w.heap.size∧Fs.length≤cap∧
 ∀ i (h:i < Fs.length),ZeG Fs[i]∧∃ wv,ZcC w b (off+i*11) Fs[i] wv∧Zan lo w wv Fs[i].words:=by
 rcases h with ⟨_,_,_,h⟩ | ⟨b,off,cap,h1,_,h3,h4,_,h6,h7⟩
 · exact absurd h hne
 · exact⟨b,off,cap,h1,h3,h4,h6,h7⟩
theorem ZaU.full {lo:Nat} {w:World} {v:Value} {Ss:List Sh} (h:ZaU lo w v Ss) (hne:Ss≠[]):∃ (b off cap:Nat),v=.slice (some ⟨b,off,none⟩) Ss.length cap∧Ss.length≤maxLen∧b < w.heap.size∧
 ∀ i (h:i < Ss.length),Ss[i].kind.size≤maxLen∧∃ fv,w.cell? ⟨b,off+i*2,none⟩=some (.string Ss[i].kind)∧w.cell? ⟨b,off+i*2+1,none⟩=some fv∧Zav lo w fv Ss[i].fields:=by
 rcases h with ⟨_,_,_,h⟩ | ⟨b,off,cap,h1,_,h3,h4,_,h7⟩
 · exact absurd h hne
 · exact⟨b,off,cap,h1,h3,h4,h7⟩
theorem ZlM (lo lo':Nat) (v v':Value) (Fs:List Fd) (w:World) (hv:Zav lo w v Fs) (hv':Zav lo' w v' Fs) :
 Calls prog 123 #[v,v'] w fun e w'=>e=.returned (.bool true)∧Zw_ w w':=by
 by_cases hL:Fs=[]
 · subst hL
   obtain⟨a,cap,rfl⟩:=ZdS hv;obtain⟨a',cap',rfl⟩:=ZdS hv';clear hv hv';go_enter func123,ntmps123;go_wp2
   go_loop [5] (fun i=>i=.int .i64 0) (fun _=>0)
   case atStart=>rfl
   case round=>
    subst hrel;go_wp2;go_ret;exact⟨rfl,Below.refl _ _⟩
 · obtain⟨b,off,cap,rfl,hm,hbw,_,hc⟩:=hv.full hL
   obtain⟨b',off',cap',rfl,_,hbw',_,hc'⟩:=hv'.full hL;clear hv hv';unfold maxLen at hm;go_enter func123,ntmps123;go_wp2
   go_loopw [5] (fun i wr=>∃ k:Nat,i=.int .i64 k∧k≤Fs.length∧Zw_ w wr) (fun i _=>Fs.length - (intOf i).toNat)
   case atStart=>exact⟨0,rfl,by omega,Below.refl _ _⟩
   case round=>
    obtain⟨k,rfl,hk,hb⟩:=hrel
    by_cases hlt:k < Fs.length
    · obtain⟨_,wv,hcell,hst⟩:=hc k hlt
      obtain⟨_,wv',hcell',hst'⟩:=hc' k hlt;have HST:Hid (Zaf wr wv Fs[k].words):=hst.at.below hb;have HST':Hid (Zaf wr wv' Fs[k].words):=hst'.at.below hb;obtain⟨a1,n1,cap1,rfl⟩:=hst.form;obtain⟨a2,n2,cap2,rfl⟩:=hst'.form;clear hst hst';obtain⟨c0,c1,c2,c3,c4,c5,c6,c7,c8,c9,c10⟩:=hcell.below hb hbw;obtain⟨d0,d1,d2,d3,d4,d5,d6,d7,d8,d9,d10⟩:=hcell'.below hb hbw';clear hcell hcell';have HB:=Zab hb;clear hb;go_wp2
      go_region_with (go_at_call 179;refine (Zi3 _ _ _ _ _ _ _ _ _ _ _ _ Fs[k].words _ (HST.out.below (Below.drew Zb_)) (HST'.out.below (Below.drew Zb_))).mono ?_;rintro e w1 ⟨rfl,hb1⟩;have hB:Hid (Zw_ w w1):=(HB.out.drew).trans (hb1.mono HB.out.size);clear hb1)
      all_goals
       go_wp2;go_roundw
       case rel=>exact⟨k+1,by go_num,by omega,hB.out⟩
       case measure=>simp [intOf];omega
    · go_wp2
      go_ret;exact⟨rfl,hb⟩
theorem Zi4 (lo lo':Nat) (kind:Zy_) (v v':Value) (Fs:List Fd) (w:World) (hv:Zav lo w v Fs) (hv':Zav lo' w v' Fs) :
 Calls prog 69 #[.agg #[.string kind,v],.agg #[.string kind,v']] w fun e w'=>e=.returned (.bool true)∧Zw_ w w':=by
 have HV:=Zab hv;have HV':=Zab hv';obtain⟨a,cap,rfl⟩:=hv.form;obtain⟨a',cap',rfl⟩:=hv'.form;clear hv hv';have HW:∀ o o',Hid (Zw_ w ((w.alloc o).alloc o')):=fun o o'=>(Zb_.alloc Zl_ _).alloc (by simp) _
 go_enter func69,ntmps69;go_wp2_with fail;refine (ZlM lo lo' _ _ Fs _ (HV.out.below (HW _ _).out) (HV'.out.below (HW _ _).out)).mono ?_;rintro e w1 ⟨rfl,hb⟩;have HB:Hid (Zw_ w w1):=(HW _ _).out.trans (hb.mono (by simp;omega));clear hb;go_wp2;go_ret;exact⟨rfl,HB.out⟩
theorem ZlT (lo lo':Nat) (v v':Value) (Ss:List Sh) (w:World) (hv:ZaU lo w v Ss) (hv':ZaU lo' w v' Ss) :
 Calls prog 30 #[v,v'] w fun e w'=>e=.returned (.bool true)∧Zw_ w w':=by
 by_cases hL:Ss=[]
 · subst hL
   obtain⟨a,cap,rfl⟩:=hv.form;obtain⟨a',cap',rfl⟩:=hv'.form;clear hv hv';go_enter func30,ntmps30;go_wp2
   go_loop [5] (fun i=>i=.int .i64 0) (fun _=>0)
   case atStart=>rfl
   case round=>
    subst hrel;go_wp2;go_ret;exact⟨rfl,Below.refl _ _⟩
 · obtain⟨b,off,cap,rfl,hm,hbw,hc⟩:=hv.full hL
   obtain⟨b',off',cap',rfl,_,hbw',hc'⟩:=hv'.full hL;clear hv hv';unfold maxLen at hm;go_enter func30,ntmps30;go_wp2
   go_loopw [5] (fun i wr=>∃ k:Nat,i=.int .i64 k∧k≤Ss.length∧Zw_ w wr) (fun i _=>Ss.length - (intOf i).toNat)
   case atStart=>exact⟨0,rfl,by omega,Below.refl _ _⟩
   case round=>
    obtain⟨k,rfl,hk,hb⟩:=hrel
    by_cases hlt:k < Ss.length
    · obtain⟨_,fv,c0,c1,hst⟩:=hc k hlt
      obtain⟨_,fv',d0,d1,hst'⟩:=hc' k hlt;have HST:Hid (Zav lo wr fv Ss[k].fields):=hst.below hb;have HST':Hid (Zav lo' wr fv' Ss[k].fields):=hst'.below hb;obtain⟨a1,cap1,rfl⟩:=hst.form;obtain⟨a2,cap2,rfl⟩:=hst'.form;clear hst hst';have e0:wr.cell? ⟨b,off+k*2,none⟩=some (.string Ss[k].kind):=by rw [hb.cell (p:=⟨b,_,none⟩) hbw];exact c0
      have e1:wr.cell? ⟨b,off+k*2+1,none⟩=some (.slice a1 Ss[k].fields.length cap1):=by rw [hb.cell (p:=⟨b,_,none⟩) hbw];exact c1
      have g0:wr.cell? ⟨b',off'+k*2,none⟩=some (.string Ss[k].kind):=by rw [hb.cell (p:=⟨b',_,none⟩) hbw'];exact d0
      have g1:wr.cell? ⟨b',off'+k*2+1,none⟩=some (.slice a2 Ss[k].fields.length cap2):=by rw [hb.cell (p:=⟨b',_,none⟩) hbw'];exact d1
      clear c0 c1 d0 d1;have HB:=Zab hb;clear hb;go_wp2
      go_region_with (go_at_call 69;refine (Zi4 lo lo' _ _ _ Ss[k].fields _ (HST.out.below (Below.drew Zb_)) (HST'.out.below (Below.drew Zb_))).mono ?_;rintro e w1 ⟨rfl,hb1⟩;have hB:Hid (Zw_ w w1):=(HB.out.drew).trans (hb1.mono HB.out.size);clear hb1)
      all_goals
       go_wp2;go_roundw
       case rel=>exact⟨k+1,by go_num,by omega,hB.out⟩
       case measure=>simp [intOf];omega
    · go_wp2
      go_ret;exact⟨rfl,hb⟩
theorem Tryz.info187:(prog.info? 187).map (fun i=>(i.zero,i.size,i.bytes))=some (some (.agg #[.string ⟨#[]⟩,.int .i64 0,.int .i64 0,.int .i64 0,.slice none 0 0,.string ⟨#[]⟩,.int .i64 0,.bool false,.bool false,.string ⟨#[]⟩,.string ⟨#[]⟩]),11,128):=by kernel_rfl
theorem Tryz.info128:(prog.info? 128).map (fun i=>(i.zero,i.size,i.bytes))=some (some (.agg #[.string ⟨#[]⟩,.slice none 0 0]),2,40):=by kernel_rfl
structure Zs5 (f:Nat→Value) (o:Nat) (fd:Fd) (wv:Value):Prop where
 r0:f (o)=(.string fd.nm)
 r1:f (o+1)=(.int .i64 fd.kd)
 r2:f (o+2)=(.int .i64 fd.le)
 r3:f (o+3)=(.int .i64 fd.mo)
 r4:f (o+4)=wv
 r5:f (o+5)=(.string fd.to)
 r6:f (o+6)=(.int .i64 fd.ro)
 r7:f (o+7)=(.bool fd.mu)
 r8:f (o+8)=(.bool fd.fx)
 r9:f (o+9)=(.string fd.df)
 r10:f (o+10)=(.string fd.we)
def ZbA (wr:World) (B:Nat) (Fs:List Fd) (k:Nat):Prop:=
 ∃ f,wr.rowIs B 187 (Fs.length*11) f∧∀ i (h:i < Fs.length),i < k→ZeG Fs[i]∧∃ wv,Zs5 f (i*11) Fs[i] wv∧Zan (B+1) wr wv Fs[i].words
theorem ZbA.below {wr w1:World} {B:Nat} {Fs:List Fd} {k:Nat} (h:ZbA wr B Fs k) (hb:Below wr.heap.size wr w1):ZbA w1 B Fs k:=by
 obtain⟨f,hr,hall⟩:=h;refine⟨f,hr.of_block (hb.block B hr.lt),fun i hi hik=>?_⟩;obtain⟨hs,wv,h1,h2⟩:=hall i hi hik;exact⟨hs,wv,h1,h2.below hb⟩
theorem ZbA.free {wr:World} {B:Nat} {Fs:List Fd} {k:Nat} (h:ZbA wr B Fs k) (i:Nat):wr.frozen? ⟨B,i,none⟩=false:=by
 obtain⟨f,hr,_⟩:=h;exact hr.frozen i
theorem ZbA.there {wr:World} {B:Nat} {Fs:List Fd} {k:Nat} (h:ZbA wr B Fs k) (i:Nat) (hi:i < Fs.length*11):∃ v,wr.cell? ⟨B,i,none⟩=some v:=by
 obtain⟨f,hr,_⟩:=h;exact⟨_,hr.cell hi⟩
theorem ZbA.lt {wr:World} {B:Nat} {Fs:List Fd} {k:Nat} (h:ZbA wr B Fs k):B < wr.heap.size:=by
 obtain⟨f,hr,_⟩:=h;exact hr.lt
theorem ZbA.step {w1:World} {B:Nat} {Fs:List Fd} {k:Nat} {wv:Value} (h:ZbA w1 B Fs k) (hk:k < Fs.length) (hz:ZeG Fs[k]) (hs:Zan (B+1) w1 wv Fs[k].words) :
 ZbA (((((((((((w1.setCell ⟨B,k*11,none⟩ (.string Fs[k].nm)).setCell ⟨B,k*11+1,none⟩ (.int .i64 Fs[k].kd)).setCell ⟨B,k*11+2,none⟩ (.int .i64 Fs[k].le)).setCell ⟨B,k*11+3,none⟩ (.int .i64 Fs[k].mo)).setCell ⟨B,k*11+4,none⟩ wv).setCell ⟨B,k*11+5,none⟩ (.string Fs[k].to)).setCell ⟨B,k*11+6,none⟩ (.int .i64 Fs[k].ro)).setCell ⟨B,k*11+7,none⟩ (.bool Fs[k].mu)).setCell ⟨B,k*11+8,none⟩ (.bool Fs[k].fx)).setCell ⟨B,k*11+9,none⟩ (.string Fs[k].df)).setCell ⟨B,k*11+10,none⟩ (.string Fs[k].we)) B Fs (k+1):=by
 obtain⟨f,hr,hall⟩:=h;refine⟨_,(((((((((((hr.set _ _).set _ _).set _ _).set _ _).set _ _).set _ _).set _ _).set _ _).set _ _).set _ _).set _ _),fun i hi hik=>?_⟩
 by_cases e:i=k
 · subst e
   refine⟨hz,wv,⟨?_,?_,?_,?_,?_,?_,?_,?_,?_,?_,?_⟩,?_⟩
   · simp
   · simp
   · simp
   · simp
   · simp
   · simp
   · simp
   · simp
   · simp
   · simp
   · simp
   · repeat (refine Zan.setCell ?_ (by simp only [];omega) _)
     exact hs
 · obtain⟨hz',wv',hrow,hst⟩:=hall i hi (by omega)
   refine⟨hz',wv',⟨?_,?_,?_,?_,?_,?_,?_,?_,?_,?_,?_⟩,?_⟩
   · rw [if_neg (by omega),if_neg (by omega),if_neg (by omega),if_neg (by omega),if_neg (by omega),if_neg (by omega),if_neg (by omega),if_neg (by omega),if_neg (by omega),if_neg (by omega),if_neg (by omega)];exact hrow.r0
   · rw [if_neg (by omega),if_neg (by omega),if_neg (by omega),if_neg (by omega),if_neg (by omega),if_neg (by omega),if_neg (by omega),if_neg (by omega),if_neg (by omega),if_neg (by omega),if_neg (by omega)];exact hrow.r1
   · rw [if_neg (by omega),if_neg (by omega),if_neg (by omega),if_neg (by omega),if_neg (by omega),if_neg (by omega),if_neg (by omega),if_neg (by omega),if_neg (by omega),if_neg (by omega),if_neg (by omega)];exact hrow.r2
   · rw [if_neg (by omega),if_neg (by omega),if_neg (by omega),if_neg (by omega),if_neg (by omega),if_neg (by omega),if_neg (by omega),if_neg (by omega),if_neg (by omega),if_neg (by omega),if_neg (by omega)];exact hrow.r3
   · rw [if_neg (by omega),if_neg (by omega),if_neg (by omega),if_neg (by omega),if_neg (by omega),if_neg (by omega),if_neg (by omega),if_neg (by omega),if_neg (by omega),if_neg (by omega),if_neg (by omega)];exact hrow.r4
   · rw [if_neg (by omega),if_neg (by omega),if_neg (by omega),if_neg (by omega),if_neg (by omega),if_neg (by omega),if_neg (by omega),if_neg (by omega),if_neg (by omega),if_neg (by omega),if_neg (by omega)];exact hrow.r5
   · rw [if_neg (by omega),if_neg (by omega),if_neg (by omega),if_neg (by omega),if_neg (by omega),if_neg (by omega),if_neg (by omega),if_neg (by omega),if_neg (by omega),if_neg (by omega),if_neg (by omega)];exact hrow.r6
   · rw [if_neg (by omega),if_neg (by omega),if_neg (by omega),if_neg (by omega),if_neg (by omega),if_neg (by omega),if_neg (by omega),if_neg (by omega),if_neg (by omega),if_neg (by omega),if_neg (by omega)];exact hrow.r7
   · rw [if_neg (by omega),if_neg (by omega),if_neg (by omega),if_neg (by omega),if_neg (by omega),if_neg (by omega),if_neg (by omega),if_neg (by omega),if_neg (by omega),if_neg (by omega),if_neg (by omega)];exact hrow.r8
   · rw [if_neg (by omega),if_neg (by omega),if_neg (by omega),if_neg (by omega),if_neg (by omega),if_neg (by omega),if_neg (by omega),if_neg (by omega),if_neg (by omega),if_neg (by omega),if_neg (by omega)];exact hrow.r9
   · rw [if_neg (by omega),if_neg (by omega),if_neg (by omega),if_neg (by omega),if_neg (by omega),if_neg (by omega),if_neg (by omega),if_neg (by omega),if_neg (by omega),if_neg (by omega),if_neg (by omega)];exact hrow.r10
   · repeat (refine Zan.setCell ?_ (by simp only [];omega) _)
     exact hst
theorem ZbA.done {wr:World} {B:Nat} {Fs:List Fd} {k:Nat} (h:ZbA wr B Fs k) (hk:Fs.length≤k) (hne:Fs≠[]) (hm:Fs.length≤maxLen):Zav B wr (.slice (some ⟨B,0,none⟩) Fs.length Fs.length) Fs:=by
 obtain⟨f,hr,hall⟩:=h;refine Or.inr ⟨B,0,Fs.length,rfl,hne,hm,hr.lt,Nat.le_refl _,Nat.le_refl _,fun i hi=>?_⟩;obtain⟨hz,wv,hrow,hst⟩:=hall i hi (by omega);refine⟨hz,wv,⟨?_,?_,?_,?_,?_,?_,?_,?_,?_,?_,?_⟩,hst.mono (by omega)⟩
 · rw [Nat.zero_add,hr.cell (by omega),hrow.r0]
 · rw [Nat.zero_add,hr.cell (by omega),hrow.r1]
 · rw [Nat.zero_add,hr.cell (by omega),hrow.r2]
 · rw [Nat.zero_add,hr.cell (by omega),hrow.r3]
 · rw [Nat.zero_add,hr.cell (by omega),hrow.r4]
 · rw [Nat.zero_add,hr.cell (by omega),hrow.r5]
 · rw [Nat.zero_add,hr.cell (by omega),hrow.r6]
 · rw [Nat.zero_add,hr.cell (by omega),hrow.r7]
 · rw [Nat.zero_add,hr.cell (by omega),hrow.r8]
 · rw [Nat.zero_add,hr.cell (by omega),hrow.r9]
 · rw [Nat.zero_add,hr.cell (by omega),hrow.r10]
theorem ZbA.new (w:World) (Fs:List Fd) (z:Array Value):ZbA (w.alloc (.cells (madeCells z (Fs.length*11)) 187)) w.heap.size Fs 0:=by
 refine⟨fun i=>(madeCells z (Fs.length*11)).getD i default,?_,fun i _ h=>by omega⟩;have:=World.rowIs_alloc w (madeCells z (Fs.length*11)) 187 (fun i=>(madeCells z (Fs.length*11)).getD i default) (fun i hi=>by simp [Array.getD,hi])
 rwa [size_madeCells] at this
theorem ZoG (lo:Nat) (v:Value) (Fs:List Fd) (w:World) (hv:Zav lo w v Fs) (hn:Ze6 Fs) :
 Calls prog 114 #[v] w fun e w'=>∃ v',e=.returned v'∧Zw_ w w'∧Zav w.heap.size w' v' Fs:=by
 obtain⟨i0,hi,hz0,hz1,hz2⟩:=info_parts Tryz.info187
 by_cases hL:Fs=[]
 · subst hL
   obtain⟨a,cap,rfl⟩:=ZdS hv;clear hv
   have hmk:∀ u:World,(Instr.makeSlice 126 (.int .i64 0) (.int .i64 0)).run prog u=.ok (.slice (some ⟨u.heap.size,0,none⟩) 0 0) (u.alloc (.cells (madeCells (Value.cells (.agg #[.string ⟨#[]⟩,.int .i64 0,.int .i64 0,.int .i64 0,.slice none 0 0,.string ⟨#[]⟩,.int .i64 0,.bool false,.bool false,.string ⟨#[]⟩,.string ⟨#[]⟩])) 0) 187)):=fun u=>by
    have h:=run_make (P:=prog) u 126 187 i0 _ underlying126 hi hz0 .i64 .i64 0 0 (by omega) (by omega) (by omega) (by omega)
    simpa [hz1] using h
   go_enter func114,ntmps114;go_wp2
   go_loop [4] (fun i=>i=.int .i64 0) (fun _=>0)
   case atStart=>rfl
   case round=>
    subst hrel;go_wp2;go_ret;exact⟨_,rfl,Zb_.alloc Zl_ _,Or.inl ⟨_,_,rfl,rfl⟩⟩
 · obtain⟨b,off,cap,rfl,hm,hbw,_,hc⟩:=hv.full hL
   clear hv;obtain⟨hn1,hn2⟩:=hn;have HM:Hid (Fs.length≤maxLen):=hm;unfold maxLen at hm
   have hmk:∀ u:World,(Instr.makeSlice 126 (.int .i64 (Fs.length:Int)) (.int .i64 (Fs.length:Int))).run prog u=.ok (.slice (some ⟨u.heap.size,0,none⟩) Fs.length Fs.length) (u.alloc (.cells (madeCells (Value.cells (.agg #[.string ⟨#[]⟩,.int .i64 0,.int .i64 0,.int .i64 0,.slice none 0 0,.string ⟨#[]⟩,.int .i64 0,.bool false,.bool false,.string ⟨#[]⟩,.string ⟨#[]⟩])) (Fs.length*11)) 187)):=fun u=>by
    have h:=run_make (P:=prog) u 126 187 i0 _ underlying126 hi hz0 .i64 .i64 Fs.length Fs.length (by omega) (by omega) (by rw [hz2];omega) (by omega);rw [hz1] at h
    simpa using h
   clear hi hz0 hz1 hz2;go_enter func114,ntmps114;go_wp2;clear hmk
   go_loopw [4] (fun i wr=>∃ k:Nat,i=.int .i64 k∧k≤Fs.length∧Zw_ w wr∧ZbA wr w.heap.size Fs k) (fun i _=>Fs.length - (intOf i).toNat)
   case atStart=>exact⟨0,rfl,by omega,Zb_.alloc Zl_ _,ZbA.new w Fs _⟩
   case round=>
    obtain⟨k,rfl,hk,hb,hf⟩:=hrel
    by_cases hlt:k < Fs.length
    · obtain⟨hsz,wv,hcell,hst⟩:=hc k hlt
      obtain⟨c0,c1,c2,c3,c4,c5,c6,c7,c8,c9,c10⟩:=hcell.below hb hbw;clear hcell;go_wp2_with fail;refine (ZkK _ _ _ _ _ _ _ _ _ _ _ Fs[k].words _ (hst.at.below hb) (hn2 k hlt)).mono ?_;rintro e w1 ⟨wv1,rfl,hb1,hs1⟩;have hf1:=hf.below hb1;have hs1':Zan (w.heap.size+1) w1 wv1 Fs[k].words:=hs1.mono hf.lt;have HST:=Zab (hf1.step hlt hsz hs1');have hB:Hid (Zw_ w w1):=hb.trans (hb1.mono hb.size);have hfr:=hf1.free;obtain⟨a1,n1,cap1,rfl⟩:=hs1.form;obtain⟨o0,ho0⟩:=hf1.there (k*11) (by omega);obtain⟨o1,ho1⟩:=hf1.there (k*11+1) (by omega);obtain⟨o2,ho2⟩:=hf1.there (k*11+2) (by omega);obtain⟨o3,ho3⟩:=hf1.there (k*11+3) (by omega);obtain⟨o4,ho4⟩:=hf1.there (k*11+4) (by omega);obtain⟨o5,ho5⟩:=hf1.there (k*11+5) (by omega);obtain⟨o6,ho6⟩:=hf1.there (k*11+6) (by omega);obtain⟨o7,ho7⟩:=hf1.there (k*11+7) (by omega);obtain⟨o8,ho8⟩:=hf1.there (k*11+8) (by omega)
      obtain⟨o9,ho9⟩:=hf1.there (k*11+9) (by omega);obtain⟨o10,ho10⟩:=hf1.there (k*11+10) (by omega);clear hf hf1 hs1 hs1' hb1 hb hst c0 c1 c2 c3 c4 c5 c6 c7 c8 c9 c10;go_wp2;go_roundw
      case rel=>
       exact⟨k+1,by go_num,by omega,(((((((((((hB.out.setCell Zl_ _).setCell Zl_ _).setCell Zl_ _).setCell Zl_ _).setCell Zl_ _).setCell Zl_ _).setCell Zl_ _).setCell Zl_ _).setCell Zl_ _).setCell Zl_ _).setCell Zl_ _),HST.out⟩
      case measure=>simp [intOf];omega
    · go_wp2
      go_ret;exact⟨_,rfl,hb,hf.done (by omega) hL HM.out⟩
theorem ZcC.setCell {w:World} {b o:Nat} {f:Fd} {wv:Value} (h:ZcC w b o f wv) {p:Addr} (hp:b≠p.block) (u:Value):ZcC (w.setCell p u) b o f wv:=by
 have e:∀ o,(w.setCell p u).cell? ⟨b,o,none⟩=w.cell? ⟨b,o,none⟩:=fun o=>Zar _ _ _ _ hp
 exact⟨by rw [e];exact h.c0,by rw [e];exact h.c1,by rw [e];exact h.c2,by rw [e];exact h.c3,by rw [e];exact h.c4,by rw [e];exact h.c5,by rw [e];exact h.c6,by rw [e];exact h.c7,by rw [e];exact h.c8,by rw [e];exact h.c9,by rw [e];exact h.c10⟩
theorem Zav.setCell {lo:Nat} {w:World} {v:Value} {Fs:List Fd} (h:Zav lo w v Fs) {p:Addr} (hp:p.block < lo) (u:Value):Zav lo (w.setCell p u) v Fs:=by
 rcases h with h | ⟨b,off,cap,h1,h2,h3,h4,h5,h6,h7⟩
 · exact Or.inl h
 · refine Or.inr ⟨b,off,cap,h1,h2,h3,by simpa [World.setCell] using h4,h5,h6,fun i hi=>?_⟩
   obtain⟨hs,wv,hc,hw⟩:=h7 i hi;exact⟨hs,wv,hc.setCell (by omega) u,hw.setCell hp u⟩
theorem ZkL (lo:Nat) (kind:Zy_) (v:Value) (Fs:List Fd) (w:World) (hv:Zav lo w v Fs) (hn:Ze6 Fs) :
 Calls prog 60 #[.agg #[.string kind,v]] w fun e w'=>∃ v',e=.returned (.agg #[.string kind,v'])∧Zw_ w w'∧Zav w.heap.size w' v' Fs:=by
 have HV:=Zab hv;obtain⟨a,cap,rfl⟩:=hv.form;clear hv;go_enter func60,ntmps60;go_wp2_with fail;refine (ZoG lo _ Fs _ (HV.out.below ?_) hn).mono ?_
 · exact ((Zb_.alloc Zl_ _).alloc (by simp) _).alloc (by simp;omega) _
 rintro e w1 ⟨v1,rfl,hb,hs⟩;obtain⟨a',cap',rfl⟩:=hs.form;have HS:Hid (Zav (w.heap.size+3) w1 (.slice a' Fs.length cap') Fs):=hs.mono (by simp);clear hs;have hz:w.heap.size+2 < w1.heap.size:=by have:=hb.size;simp at this;omega
 obtain⟨hc,hf⟩:=Zg7 hb;have HB:Hid (Zw_ w w1):=(((Zb_.alloc Zl_ _).alloc (by simp) _).alloc (by simp;omega) _).trans (hb.mono (by simp;omega));clear hb;go_wp2;refine bodyPost_ret (v:=.agg #[.string kind,.slice a' Fs.length cap']) (by simp [results,results60,go_sem,hc]) rfl ⟨_,rfl,?_,?_⟩
 · repeat (refine Below.setCell ?_ (by simp only [];omega) _)
   exact HB.out
 · refine Zav.mono (lo:=w.heap.size+3) ?_ (by omega)
   repeat (refine Zav.setCell ?_ (by simp only [];omega) _)
   exact HS.out
def ZbD (wr:World) (B:Nat) (Ss:List Sh) (k:Nat):Prop:=
 ∃ f,wr.rowIs B 128 (Ss.length*2) f∧∀ i (h:i < Ss.length),i < k→Ss[i].kind.size≤maxLen∧∃ fv,f (i*2)=.string Ss[i].kind∧f (i*2+1)=fv∧Zav (B+1) wr fv Ss[i].fields
theorem ZbD.below {wr w1:World} {B:Nat} {Ss:List Sh} {k:Nat} (h:ZbD wr B Ss k) (hb:Below wr.heap.size wr w1):ZbD w1 B Ss k:=by
 obtain⟨f,hr,hall⟩:=h;refine⟨f,hr.of_block (hb.block B hr.lt),fun i hi hik=>?_⟩;obtain⟨hs,fv,h0,h1,h2⟩:=hall i hi hik;exact⟨hs,fv,h0,h1,h2.below hb⟩
theorem ZbD.free {wr:World} {B:Nat} {Ss:List Sh} {k:Nat} (h:ZbD wr B Ss k) (i:Nat):wr.frozen? ⟨B,i,none⟩=false:=by
 obtain⟨f,hr,_⟩:=h;exact hr.frozen i
theorem ZbD.there {wr:World} {B:Nat} {Ss:List Sh} {k:Nat} (h:ZbD wr B Ss k) (i:Nat) (hi:i < Ss.length*2):∃ v,wr.cell? ⟨B,i,none⟩=some v:=by
 obtain⟨f,hr,_⟩:=h;exact⟨_,hr.cell hi⟩
theorem ZbD.lt {wr:World} {B:Nat} {Ss:List Sh} {k:Nat} (h:ZbD wr B Ss k):B < wr.heap.size:=by
 obtain⟨f,hr,_⟩:=h;exact hr.lt
theorem ZbD.step {w1:World} {B:Nat} {Ss:List Sh} {k:Nat} {fv:Value} (h:ZbD w1 B Ss k) (hk:k < Ss.length) (hz:Ss[k].kind.size≤maxLen) (hs:Zav (B+1) w1 fv Ss[k].fields) :
 ZbD ((w1.setCell ⟨B,k*2,none⟩ (.string Ss[k].kind)).setCell ⟨B,k*2+1,none⟩ fv) B Ss (k+1):=by
 obtain⟨f,hr,hall⟩:=h;refine⟨_,((hr.set _ _).set _ _),fun i hi hik=>?_⟩
 by_cases e:i=k
 · subst e
   refine⟨hz,fv,?_,?_,?_⟩
   · simp
   · simp
   · exact (hs.setCell (by simp only [];omega) _).setCell (by simp only [];omega) _
 · obtain⟨hz',fv',h0,h1,hst⟩:=hall i hi (by omega)
   refine⟨hz',fv',?_,?_,?_⟩
   · rw [if_neg (by omega),if_neg (by omega)];exact h0
   · rw [if_neg (by omega),if_neg (by omega)];exact h1
   · exact (hst.setCell (by simp only [];omega) _).setCell (by simp only [];omega) _
theorem ZbD.done {wr:World} {B:Nat} {Ss:List Sh} {k:Nat} (h:ZbD wr B Ss k) (hk:Ss.length≤k) (hne:Ss≠[]) (hm:Ss.length≤maxLen):ZaU B wr (.slice (some ⟨B,0,none⟩) Ss.length Ss.length) Ss:=by
 obtain⟨f,hr,hall⟩:=h;refine Or.inr ⟨B,0,Ss.length,rfl,hne,hm,hr.lt,Nat.le_refl _,fun i hi=>?_⟩;obtain⟨hz,fv,h0,h1,hst⟩:=hall i hi (by omega);refine⟨hz,fv,?_,?_,hst.mono (by omega)⟩
 · rw [Nat.zero_add,hr.cell (by omega),h0]
 · rw [Nat.zero_add,hr.cell (by omega),h1]
theorem ZbD.new (w:World) (Ss:List Sh) (z:Array Value):ZbD (w.alloc (.cells (madeCells z (Ss.length*2)) 128)) w.heap.size Ss 0:=by
 refine⟨fun i=>(madeCells z (Ss.length*2)).getD i default,?_,fun i _ h=>by omega⟩;have:=World.rowIs_alloc w (madeCells z (Ss.length*2)) 128 (fun i=>(madeCells z (Ss.length*2)).getD i default) (fun i hi=>by simp [Array.getD,hi])
 rwa [size_madeCells] at this
theorem ZoM (lo:Nat) (v:Value) (Ss:List Sh) (w:World) (hv:ZaU lo w v Ss) (hn:Zh3 Ss) :
 Calls prog 24 #[v] w fun e w'=>∃ v',e=.returned v'∧Zw_ w w'∧ZaU w.heap.size w' v' Ss:=by
 obtain⟨i0,hi,hz0,hz1,hz2⟩:=info_parts Tryz.info128
 by_cases hL:Ss=[]
 · subst hL
   obtain⟨a,cap,rfl⟩:=hv.form;clear hv
   have hmk:∀ u:World,(Instr.makeSlice 39 (.int .i64 0) (.int .i64 0)).run prog u=.ok (.slice (some ⟨u.heap.size,0,none⟩) 0 0) (u.alloc (.cells (madeCells (Value.cells (.agg #[.string ⟨#[]⟩,.slice none 0 0])) 0) 128)):=fun u=>by
    have h:=run_make (P:=prog) u 39 128 i0 _ underlying39 hi hz0 .i64 .i64 0 0 (by omega) (by omega) (by omega) (by omega)
    simpa [hz1] using h
   go_enter func24,ntmps24;go_wp2
   go_loop [4] (fun i=>i=.int .i64 0) (fun _=>0)
   case atStart=>rfl
   case round=>
    subst hrel;go_wp2;go_ret;exact⟨_,rfl,Zb_.alloc Zl_ _,Or.inl ⟨_,_,rfl,rfl⟩⟩
 · obtain⟨b,off,cap,rfl,hm,hbw,hc⟩:=hv.full hL
   clear hv;obtain⟨hn1,hn2⟩:=hn;have HM:Hid (Ss.length≤maxLen):=hm;unfold maxLen at hm
   have hmk:∀ u:World,(Instr.makeSlice 39 (.int .i64 (Ss.length:Int)) (.int .i64 (Ss.length:Int))).run prog u=.ok (.slice (some ⟨u.heap.size,0,none⟩) Ss.length Ss.length) (u.alloc (.cells (madeCells (Value.cells (.agg #[.string ⟨#[]⟩,.slice none 0 0])) (Ss.length*2)) 128)):=fun u=>by
    have h:=run_make (P:=prog) u 39 128 i0 _ underlying39 hi hz0 .i64 .i64 Ss.length Ss.length (by omega) (by omega) (by rw [hz2];omega) (by omega);rw [hz1] at h
    simpa using h
   clear hi hz0 hz1 hz2;go_enter func24,ntmps24;go_wp2;clear hmk
   go_loopw [4] (fun i wr=>∃ k:Nat,i=.int .i64 k∧k≤Ss.length∧Zw_ w wr∧ZbD wr w.heap.size Ss k) (fun i _=>Ss.length - (intOf i).toNat)
   case atStart=>exact⟨0,rfl,by omega,Zb_.alloc Zl_ _,ZbD.new w Ss _⟩
   case round=>
    obtain⟨k,rfl,hk,hb,hf⟩:=hrel
    by_cases hlt:k < Ss.length
    · obtain⟨hsz,fv,d0,d1,hst⟩:=hc k hlt
      have c0:wr.cell? ⟨b,off+k*2,none⟩=some (.string Ss[k].kind):=by rw [hb.cell (p:=⟨b,_,none⟩) hbw];exact d0
      have c1:wr.cell? ⟨b,off+k*2+1,none⟩=some fv:=by rw [hb.cell (p:=⟨b,_,none⟩) hbw];exact d1
      clear d0 d1;go_wp2_with fail;refine (ZkL lo _ _ Ss[k].fields _ (hst.below hb) (hn2 k hlt)).mono ?_;rintro e w1 ⟨wv1,rfl,hb1,hs1⟩;have hf1:=hf.below hb1;have hs1':Zav (w.heap.size+1) w1 wv1 Ss[k].fields:=hs1.mono hf.lt;have HST:=Zab (hf1.step hlt hsz hs1');have hB:Hid (Zw_ w w1):=hb.trans (hb1.mono hb.size);have hfr:=hf1.free;obtain⟨a1,cap1,rfl⟩:=hs1.form;obtain⟨o0,ho0⟩:=hf1.there (k*2) (by omega);obtain⟨o1,ho1⟩:=hf1.there (k*2+1) (by omega);clear hf hf1 hs1 hs1' hb1 hb hst c0 c1;go_wp2;go_roundw
      case rel=>
       exact⟨k+1,by go_num,by omega,((hB.out.setCell Zl_ _).setCell Zl_ _),HST.out⟩
      case measure=>simp [intOf];omega
    · go_wp2
      go_ret;exact⟨_,rfl,hb,hf.done (by omega) hL HM.out⟩
theorem Za0 {n:Nat} {p:Nat→Bool} (h:∀ i,i < n→p i=true):(List.range n).all p=true:=by
 rw [List.all_eq_true];intro i hi;exact h i (List.mem_range.1 hi)
theorem ZaW {n k:Nat} {p:Nat→Bool} (hk:k < n) (h:p k=false):(List.range n).all p=false:=by
 rw [List.all_eq_false];exact⟨k,List.mem_range.2 hk,by simp [h]⟩
def Zgk (L:List Zy_) (i:Nat):Bool:=
 Zaj (L.getD i ⟨#[]⟩)&&(i == 0 || Op.bytesLess (L.getD (i - 1) ⟨#[]⟩).toList (L.getD i ⟨#[]⟩).toList)
def Zlx (L:List Zy_):Bool:=(List.range L.length).all (Zgk L)
theorem Zik {L:List Zy_} {i:Nat} (h:i < L.length):L.getD i ⟨#[]⟩=L[i]:=by
 rw [List.getD_eq_getElem?_getD,List.getElem?_eq_getElem h];rfl
theorem Zhq {L:List Zy_} {i:Nat} (h:i < L.length) (hn:Zaj L[i]=false):Zgk L i=false:=by
 unfold Zgk;rw [Zik h,hn];rfl
theorem Zhs {L:List Zy_} (h:0 < L.length) (hn:Zaj L[0]=true):Zgk L 0=true:=by
 unfold Zgk;rw [Zik h,hn];rfl
theorem Zhr {L:List Zy_} {j:Nat} (h:j+1 < L.length) (hn:Zaj L[j+1]=true):Zgk L (j+1)=Op.bytesLess L[j].toList L[j+1].toList:=by
 unfold Zgk;rw [Zik h,hn,Nat.add_sub_cancel,Zik (by omega)];simp
theorem Zna {L:List Zy_} (h:Zgk L 0=true):∀ i,i < 1→Zgk L i=true:=fun i hi=>by
 have e:i=0:=by omega
 subst e;exact h
theorem Zbf (v:Value) (L:List Zy_) (w:World) (hv:Zaf w v L) :
 Calls prog 158 #[v] w fun e w'=>e=.returned (.bool (Zlx L))∧Zw_ w w':=by
 rcases hv with ⟨a,cap,rfl,rfl⟩ | ⟨b,off,cap,rfl,hne,hm,hbw,hc,hsz⟩
 · go_enter func158,ntmps158
   go_wp2
   go_loop [3] (fun i=>i=.int .i64 0) (fun _=>0)
   case atStart=>rfl
   case round=>
    subst hrel;go_wp2;go_ret;exact⟨rfl,Below.refl _ _⟩
 · unfold maxLen at hm
   go_enter func158,ntmps158;go_wp2
   go_loopw [3] (fun i wr=>∃ k:Nat,i=.int .i64 k∧k≤L.length∧Zw_ w wr∧∀ i,i < k→Zgk L i=true) (fun i _=>L.length - (intOf i).toNat)
   case atStart=>exact⟨0,rfl,by omega,Below.refl _ _,fun i h=>by omega⟩
   case round=>
    obtain⟨k,rfl,hk,hb,hall⟩:=hrel;have HA:=Zab hall;clear hall
    by_cases hlt:k < L.length
    · have hck:wr.cell? ⟨b,off+k,none⟩=some (.string L[k]):=by rw [hb.cell (p:=⟨b,_,none⟩) hbw];exact hc k hlt
      have hskk:=hsz L[k] (List.getElem_mem hlt)
      by_cases hn:Zaj L[k]=true
      · cases k with
        | zero=>
         have HX:=Zab (Zhs hlt hn);have hck0:wr.cell? ⟨b,off,none⟩=some (.string L[0]):=by simpa using hck
         clear hck;go_wp2
         go_quiet ((go_at_call 58;exact Calls.quiet_of_same (Zad _ _ hskk)))
         go_wp2;go_roundw
         case rel=>exact⟨1,by go_num,by omega,below_drewN hb _,Zna HX.out⟩
         case measure=>simp [intOf];omega
        | succ j=>
         have HX:=Zab (Zhr hlt hn);have hcj:wr.cell? ⟨b,off+j,none⟩=some (.string L[j]):=by rw [hb.cell (p:=⟨b,_,none⟩) hbw];exact hc j (by omega)
         by_cases hls:Op.bytesLess L[j].toList L[j+1].toList=true
         · go_wp2
           go_quiet ((go_at_call 58;exact Calls.quiet_of_same (Zad _ _ hskk)))
           go_wp2;go_roundw
           case rel=>exact⟨j+2,by go_num,by omega,below_drewN hb _,fun i hi=>by
                      by_cases e:i=j+1
                      · subst e;rw [HX.out];exact hls
                      · exact HA.out i (by omega)⟩
           case measure=>simp [intOf];omega
         · have hls':Op.bytesLess L[j].toList L[j+1].toList=false:=by simpa using hls
           clear hls;go_wp2
           go_quiet ((go_at_call 58;exact Calls.quiet_of_same (Zad _ _ hskk)))
           go_wp2;go_ret;exact⟨Zaa (ZaW hlt (by rw [HX.out];exact hls')).symm,below_drewN hb _⟩
      · have hn':Zaj L[k]=false:=by simpa using hn
        have HX:=Zab (Zhq hlt hn');go_wp2
        go_quiet ((go_at_call 58;exact Calls.quiet_of_same (Zad _ _ hskk)))
        go_wp2;go_ret;exact⟨Zaa (ZaW hlt HX.out).symm,below_drewN hb _⟩
    · go_wp2
      go_ret;exact⟨Zaa (Za0 (fun i hi=>HA.out i (by omega))).symm,hb⟩
theorem Zd5 (v:Value) (L:List Zy_) (w:World) (hv:Zaf w v L) :
 Calls prog 257 #[v] w fun e w'=>e=.returned (.bool (Zlx L))∧w'=w:=by
 rcases hv with ⟨a,cap,rfl,rfl⟩ | ⟨b,off,cap,rfl,hne,hm,hbw,hc,hsz⟩
 · go_enter func257,ntmps257
   go_wp2
   go_loop [7] (fun i=>i=.int .i64 0) (fun _=>0)
   case atStart=>rfl
   case round=>
    subst hrel;go_wp2;go_ret;exact⟨rfl,rfl⟩
 · unfold maxLen at hm
   go_enter func257,ntmps257;go_wp2
   go_loop [7] (fun i=>∃ k:Nat,i=.int .i64 k∧k≤L.length∧∀ i,i < k→Zgk L i=true) (fun i=>L.length - (intOf i).toNat)
   case atStart=>exact⟨0,rfl,by omega,fun i h=>by omega⟩
   case round=>
    obtain⟨k,rfl,hk,hall⟩:=hrel;have HA:=Zab hall;clear hall
    by_cases hlt:k < L.length
    · have hck:=hc k hlt
      have HSK:=Zab (hsz L[k] (List.getElem_mem hlt))
      by_cases hn:Zaj L[k]=true
      · cases k with
        | zero=>
         have HX:=Zab (Zhs hlt hn);have hck0:w.cell? ⟨b,off,none⟩=some (.string L[0]):=by simpa using hck
         clear hck;go_wp2_with fail;refine (Zag _ _ HSK.out).mono ?_;rintro e w1 ⟨rfl,rfl⟩;go_wp2
         go_round
         case rel=>exact⟨1,by go_num,by omega,Zna HX.out⟩
         case measure=>simp [intOf];omega
        | succ j=>
         have HX:=Zab (Zhr hlt hn);have hcj:=hc j (by omega)
         by_cases hls:Op.bytesLess L[j].toList L[j+1].toList=true
         · go_wp2_with fail
           refine (Zag _ _ HSK.out).mono ?_;rintro e w1 ⟨rfl,rfl⟩;go_wp2
           go_round
           case rel=>exact⟨j+2,by go_num,by omega,fun i hi=>by
                      by_cases e:i=j+1
                      · subst e;rw [HX.out];exact hls
                      · exact HA.out i (by omega)⟩
           case measure=>simp [intOf];omega
         · have hls':Op.bytesLess L[j].toList L[j+1].toList=false:=by simpa using hls
           clear hls;go_wp2_with fail;refine (Zag _ _ HSK.out).mono ?_;rintro e w1 ⟨rfl,rfl⟩;go_wp2;go_ret;exact⟨Zaa (ZaW hlt (by rw [HX.out];exact hls')).symm,rfl⟩
      · have hn':Zaj L[k]=false:=by simpa using hn
        have HX:=Zab (Zhq hlt hn');go_wp2_with fail;refine (Zag _ _ HSK.out).mono ?_;rintro e w1 ⟨rfl,rfl⟩;go_wp2;go_ret;exact⟨Zaa (ZaW hlt HX.out).symm,rfl⟩
    · go_wp2
      go_ret;exact⟨Zaa (Za0 (fun i hi=>HA.out i (by omega))).symm,rfl⟩
theorem Zc1 (w:World) (p q:Addr) (u:Value) (h:p≠q):(w.setCell p u).cell? q=w.cell? q:=by
 apply World.cell?_setCell_other;exact h
theorem Zc0 (w:World) (p:Addr) (u v:Value) (h:w.cell? p=some v):(w.setCell p u).cell? p=some u:=by
 apply World.cell?_setCell_same;exact h
def Zb3 (Ss:List Sh) (s:Zy_):Option Sh:=Ss.find? fun x=>x.kind.toList == s.toList
def Zk0 (Ss:List Sh) (s:Zy_):Bool:=(Zb3 Ss s).isSome
theorem Zfn {Ss:List Sh} {s:Zy_} {k:Nat} (hk:k < Ss.length) (h:(Ss[k].kind.toList == s.toList)=true) (hall:∀ i (h:i < Ss.length),i < k→(Ss[i].kind.toList == s.toList)=false):Zb3 Ss s=some Ss[k]:=by
 unfold Zb3;rw [List.find?_eq_some_iff_getElem];exact⟨h,k,hk,rfl,fun j hj=>by simp [hall j (by omega) hj]⟩
theorem Zfm {Ss:List Sh} {s:Zy_} (hall:∀ i (h:i < Ss.length),(Ss[i].kind.toList == s.toList)=false):Zb3 Ss s=none:=by
 unfold Zb3;rw [List.find?_eq_none];intro x hx;obtain⟨i,hi,rfl⟩:=List.getElem_of_mem hx;simp [hall i hi]
theorem Zjc {Ss:List Sh} {s:Zy_} {x:Sh} (h:Zb3 Ss s=some x):Zk0 Ss s=true:=by unfold Zk0;rw [h];rfl
theorem Zjb {Ss:List Sh} {s:Zy_} (h:Zb3 Ss s=none):Zk0 Ss s=false:=by unfold Zk0;rw [h];rfl
theorem ZgE (lo:Nat) (v:Value) (Ss:List Sh) (s:Zy_) (w:World) (hv:ZaU lo w v Ss) :
 Calls prog 163 #[v,.string s] w fun e w'=>∃ r:Int,e=.returned (.int .i64 r)∧w'=w∧decide (0≤r)=Zk0 Ss s:=by
 by_cases hL:Ss=[]
 · subst hL
   obtain⟨a,cap,rfl⟩:=hv.form;clear hv;go_enter func163,ntmps163;go_wp2
   go_loop [5] (fun i=>i=.int .i64 0) (fun _=>0)
   case atStart=>rfl
   case round=>
    subst hrel;go_wp2;go_ret;exact⟨-1,rfl,rfl,rfl⟩
 · obtain⟨b,off,cap,rfl,hm,hbw,hc⟩:=hv.full hL
   clear hv;unfold maxLen at hm;go_enter func163,ntmps163;go_wp2
   go_loop [5] (fun i=>∃ k:Nat,i=.int .i64 k∧k≤Ss.length∧∀ i (h:i < Ss.length),i < k→(Ss[i].kind.toList == s.toList)=false) (fun i=>Ss.length - (intOf i).toNat)
   case atStart=>exact⟨0,rfl,by omega,fun i _ h=>by omega⟩
   case round=>
    obtain⟨k,rfl,hk,hall⟩:=hrel;have HA:=Zab hall;clear hall
    by_cases hlt:k < Ss.length
    · obtain⟨_,fv,hck,_,_⟩:=hc k hlt
      by_cases he:(Ss[k].kind.toList == s.toList)=true
      · go_wp2
        go_ret;exact⟨k,rfl,rfl,by rw [Zjc (Zfn hlt he HA.out)];simp⟩
      · have he':(Ss[k].kind.toList == s.toList)=false:=by simpa using he
        clear he;go_wp2
        go_round
        case rel=>exact⟨k+1,by go_num,by omega,fun i h h'=>by
                   by_cases e:i=k
                   · subst e;exact he'
                   · exact HA.out i h (by omega)⟩
        case measure=>simp [intOf];omega
    · go_wp2
      go_ret;exact⟨-1,rfl,rfl,by rw [Zjb (Zfm fun i h=>HA.out i h (by omega))];rfl⟩
def Zm1 (lo:Nat) (Ss:List Sh) (s:Zy_) (e:Ending) (w':World):Prop:=
 (∃ x fv,Zb3 Ss s=some x∧e=.returned (.tuple #[.agg #[.string x.kind,fv],.bool true])∧Zav lo w' fv x.fields)∨
 (Zb3 Ss s=none∧e=.returned (.tuple #[.agg #[.string ⟨#[]⟩,.slice none 0 0],.bool false]))
theorem Ze2 (lo:Nat) (v:Value) (Ss:List Sh) (s:Zy_) (w:World) (hv:ZaU lo w v Ss) :
 Calls prog 134 #[v,.string s] w fun e w'=>Zw_ w w'∧Zm1 lo Ss s e w':=by
 by_cases hL:Ss=[]
 · subst hL
   obtain⟨a,cap,rfl⟩:=hv.form;clear hv;go_enter func134,ntmps134;go_wp2
   go_loop [10] (fun i=>i=.int .i64 0) (fun _=>0)
   case atStart=>rfl
   case round=>
    subst hrel;go_wp2;refine bodyPost_ret (v:=.tuple #[.agg #[.string ⟨#[]⟩,.slice none 0 0],.bool false]) (by simp [results,results134,go_sem]) rfl ⟨?_,Or.inr ⟨rfl,rfl⟩⟩;exact Zb_.alloc Zl_ _
 · obtain⟨b,off,cap,rfl,hm,hbw,hc⟩:=hv.full hL
   clear hv;unfold maxLen at hm;have hA:∀ (o:Obj) (wr:World),Below (w.heap.size+1) (w.alloc o) wr→Zw_ w wr:=fun o wr h=>(Zb_.alloc Zl_ o).trans (h.mono (by omega))
   go_enter func134,ntmps134;go_wp2
   go_loopw [10] (fun i wr=>∃ k:Nat,i=.int .i64 k∧k≤Ss.length∧Below (w.heap.size+1) (w.alloc (.cells #[.string ⟨#[]⟩,.slice none 0 0] 128)) wr∧∀ i (h:i < Ss.length),i < k→(Ss[i].kind.toList == s.toList)=false) (fun i _=>Ss.length - (intOf i).toNat)
   case atStart=>exact⟨0,rfl,by omega,Below.refl _ _,fun i _ h=>by omega⟩
   case round=>
    obtain⟨k,rfl,hk,hb,hall⟩:=hrel;have HA:=Zab hall;clear hall;have hz:w.heap.size < wr.heap.size:=by have:=hb.size;simp at this;omega
    have hB:Hid (Zw_ w wr):=hA _ _ hb;have q0:wr.cell? ⟨w.heap.size,0,none⟩=some (.string ⟨#[]⟩):=by rw [hb.cell (p:=⟨w.heap.size,_,none⟩) (by simp)];simp
    have q1:wr.cell? ⟨w.heap.size,1,none⟩=some (.slice none 0 0):=by rw [hb.cell (p:=⟨w.heap.size,_,none⟩) (by simp)];simp
    have qf:∀ o,wr.frozen? ⟨w.heap.size,o,none⟩=false:=fun o=>by rw [hb.frozen (p:=⟨w.heap.size,_,none⟩) (by simp)];simp
    have HBB:=Zab hb;clear hb
    by_cases hlt:k < Ss.length
    · obtain⟨_,fv,c0,c1,hst⟩:=hc k hlt
      have e0:wr.cell? ⟨b,off+k*2,none⟩=some (.string Ss[k].kind):=by rw [hB.out.cell (p:=⟨b,_,none⟩) hbw];exact c0
      have e1:wr.cell? ⟨b,off+k*2+1,none⟩=some fv:=by rw [hB.out.cell (p:=⟨b,_,none⟩) hbw];exact c1
      obtain⟨a1,cap1,rfl⟩:=hst.form;have HST:=Zab hst;clear c0 c1 hst
      by_cases he:(Ss[k].kind.toList == s.toList)=true
      · go_wp2
        have HF:Zw_ w (((wr.setCell ⟨w.heap.size,0,none⟩ (.string Ss[k].kind)).setCell ⟨w.heap.size,1,none⟩ (.slice a1 Ss[k].fields.length cap1)).alloc (.cells #[.string Ss[k].kind,.slice a1 Ss[k].fields.length cap1] 128)):=
         ((hB.out.setCell Zl_ _).setCell Zl_ _).alloc (by simp [World.setCell];omega) _
        have hold:∀ (X:World) (o:Obj) (j:Nat),w.heap.size < X.heap.size→(X.alloc o).cell? ⟨w.heap.size,j,none⟩=X.cell? ⟨w.heap.size,j,none⟩:=fun X o j h=>((Below.refl X.heap.size X).alloc Zl_ o).cell (p:=⟨w.heap.size,j,none⟩) h
        have f0:(((wr.setCell ⟨w.heap.size,0,none⟩ (.string Ss[k].kind)).setCell ⟨w.heap.size,1,none⟩ (.slice a1 Ss[k].fields.length cap1)).alloc (.cells #[.string Ss[k].kind,.slice a1 Ss[k].fields.length cap1] 128)).cell? ⟨w.heap.size,0,none⟩=some (.string Ss[k].kind):=by
         rw [hold _ _ _ (by simpa [World.setCell] using hz),Zc1 _ _ _ _ (by simp),Zc0 _ _ _ _ q0]
        have f1:(((wr.setCell ⟨w.heap.size,0,none⟩ (.string Ss[k].kind)).setCell ⟨w.heap.size,1,none⟩ (.slice a1 Ss[k].fields.length cap1)).alloc (.cells #[.string Ss[k].kind,.slice a1 Ss[k].fields.length cap1] 128)).cell? ⟨w.heap.size,1,none⟩=some (.slice a1 Ss[k].fields.length cap1):=by
         rw [hold _ _ _ (by simpa [World.setCell] using hz),Zc0 _ _ _ _ (by rw [Zc1 _ _ _ _ (by simp)];exact q1)]
        exact bodyPost_ret (v:=.tuple #[.agg #[.string Ss[k].kind,.slice a1 Ss[k].fields.length cap1],.bool true]) (by simp [results,results134,go_sem,f0,f1]) rfl ⟨HF,Or.inl ⟨Ss[k],_,Zfn hlt he HA.out,rfl,HST.out.below HF⟩⟩
      · have he':(Ss[k].kind.toList == s.toList)=false:=by simpa using he
        clear he;go_wp2;go_roundw
        case rel=>exact⟨k+1,by go_num,by omega,HBB.out.alloc (by omega) _,fun i h h'=>by
                   by_cases e:i=k
                   · subst e;exact he'
                   · exact HA.out i h (by omega)⟩
        case measure=>simp [intOf];omega
    · go_wp2
      refine bodyPost_ret (v:=.tuple #[.agg #[.string ⟨#[]⟩,.slice none 0 0],.bool false]) (by simp [results,results134,go_sem,q0,q1]) rfl ⟨?_,Or.inr ⟨Zfm fun i h=>HA.out i h (by omega),rfl⟩⟩;exact (hB.out.setCell Zl_ _).setCell Zl_ _
end Go.Proofs.YtcfjmagkinpaeaaGreat
