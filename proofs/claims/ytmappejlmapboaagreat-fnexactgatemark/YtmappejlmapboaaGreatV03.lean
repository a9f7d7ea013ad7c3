import Derived.Test.YtmappejlmapboaaGreatV01
set_option maxHeartbeats 16000000
set_option maxRecDepth 100000
open Go.Proofs.Tryz
namespace Go.Proofs.YtmappejlmapboaaGreat
open Go.RowKit Go.Deep
section
variable {w w':World} {lo lo':Nat} {v:Value}
structure Fd where
 nm:Zy_
 kd:Int
 le:Int
 mo:Int
 words:List Zy_
 to:Zy_
 ro:Int
 mu:Bool
 fx:Bool
 df:Zy_
 we:Zy_
variable {Fs:List Fd}
structure Zcw (w:World) (b o:Nat) (f:Fd) (wv:Value):Prop where
 c0:w.cell? ⟨b,o,none⟩=some (.string f.nm)
 c1:w.cell? ⟨b,o+1,none⟩=some (.int .i64 f.kd)
 c2:w.cell? ⟨b,o+2,none⟩=some (.int .i64 f.le)
 c3:w.cell? ⟨b,o+3,none⟩=some (.int .i64 f.mo)
 c4:w.cell? ⟨b,o+4,none⟩=some wv
 c5:w.cell? ⟨b,o+5,none⟩=some (.string f.to)
 c6:w.cell? ⟨b,o+6,none⟩=some (.int .i64 f.ro)
 c7:w.cell? ⟨b,o+7,none⟩=some (.bool f.mu)
 c8:w.cell? ⟨b,o+8,none⟩=some (.bool f.fx)
 c9:w.cell? ⟨b,o+9,none⟩=some (.string f.df)
 c10:w.cell? ⟨b,o+10,none⟩=some (.string f.we)
structure ZeD (f:Fd):Prop where
 s0:f.nm.size<=maxLen
 s5:f.to.size<=maxLen
 s9:f.df.size<=maxLen
 s10:f.we.size<=maxLen
theorem Zcw.below {b o:Nat}{f:Fd}{wv:Value} (h:Zcw w b o f wv) (hb:Zw_ w w') (hlt:b < w.heap.size):Zcw w' b o f wv:=by
 have e:∀ o,w'.cell? ⟨b,o,none⟩=w.cell? ⟨b,o,none⟩:=fun o=>hb.cell (p:=⟨b,o,none⟩) hlt
 exact⟨by rw [e];exact h.c0,by rw [e];exact h.c1,by rw [e];exact h.c2,by rw [e];exact h.c3,by rw [e];exact h.c4,by rw [e];exact h.c5,by rw [e];exact h.c6,by rw [e];exact h.c7,by rw [e];exact h.c8,by rw [e];exact h.c9,by rw [e];exact h.c10⟩
def Zau (lo:Nat) (w:World) (v:Value) (Fs:List Fd):Prop:=
 (∃ (a:Option Addr) (cap:Nat),v=.slice a 0 cap/\Fs=[])\/
 ∃ (b off cap:Nat),v=.slice (some ⟨b,off,none⟩) Fs.length cap/\Fs≠[]/\Fs.length<=maxLen/\b < w.heap.size/\lo<=b/\Fs.length<=cap/\
  ∀ i (h:i < Fs.length),ZeD Fs[i]/\∃ wv,Zcw w b (off+i*11) Fs[i] wv/\Zaq lo w wv Fs[i].words
theorem Zau.below (h:Zau lo w v Fs) (hb:Zw_ w w'):Zau lo w' v Fs:=by
 rcases h with h | ⟨b,off,cap,h1,h2,h3,h4,h5,h6,h7⟩
 . exact Or.inl h
 . refine Or.inr ⟨b,off,cap,h1,h2,h3,Zk_ h4 hb.size,h5,h6,fun i hi=>?_⟩
   obtain⟨hs,wv,hc,hw⟩:=h7 i hi;exact⟨hs,wv,hc.below hb h4,hw.below hb⟩
theorem Zau.mono (h:Zau lo w v Fs) (hl:lo'<=lo):Zau lo' w v Fs:=by
 rcases h with h | ⟨b,off,cap,h1,h2,h3,h4,h5,h6,h7⟩
 . exact Or.inl h
 . refine Or.inr ⟨b,off,cap,h1,h2,h3,h4,Nat.le_trans hl h5,h6,fun i hi=>?_⟩
   obtain⟨hs,wv,hc,hw⟩:=h7 i hi;exact⟨hs,wv,hc,hw.mono hl⟩
theorem Zau.form (h:Zau lo w v Fs):∃ a cap,v=.slice a Fs.length cap:=by
 rcases h with ⟨a,cap,h,rfl⟩ | ⟨b,off,cap,h,_⟩
 . exact⟨a,cap,h⟩
 . exact⟨_,cap,h⟩
def Zc3 (Fs:List Fd):Prop:=Fs.length<=1048576/\∀ i (h:i < Fs.length),Fs[i].words.length<=1048576
def Zrx (Fs:List Fd) (left r:Int):Prop:= -1<=r/\r<=left/\(0<=r->Zc3 Fs)
theorem Zoq (lo:Nat) (v:Value) (Fs:List Fd) (left:Int) (w:World) (h0:0<=left) (h1:left<=1048576) (hv:Zau lo w v Fs) :
 Calls prog 121 #[v,.int .i64 left] w fun e w'=>∃ r:Int,e=.returned (.int .i64 r)/\Zw_ w w'/\Zrx Fs left r:=by
 rcases hv with ⟨a,cap,rfl,rfl⟩ | ⟨b,off,cap,rfl,hne,hm,hbw,_,_,hc⟩
 . go_enter func121,ntmps121
   go_wp2
   go_loop [1,5] (fun l i=>∃ r:Int,l=.int .i64 r/\0<=r/\r<=left/\i=.int .i64 0) (fun _ _=>0)
   case atStart=>exact⟨_,rfl,by omega,by omega,rfl⟩
   case round=>
    obtain⟨r,rfl,hr0,hr1,rfl⟩:=hrel;go_wp2;go_ret;exact⟨r,rfl,Below.refl _ _,by omega,by omega,fun _=>⟨by simp,fun i h=>absurd h (by simp)⟩⟩
 . unfold maxLen at hm
   by_cases hle:(Fs.length:Int)<=left
   . go_enter func121,ntmps121
     go_wp2
     go_loopw [1,5] (fun l i wr=>∃ (r:Int) (k:Nat),l=.int .i64 r/\0<=r/\r<=left/\i=.int .i64 k/\k<=Fs.length/\Zw_ w wr/\∀ i (h:i < Fs.length),i < k->Fs[i].words.length<=1048576) (fun _ i _=>Fs.length - (intOf i).toNat)
     case atStart=>exact⟨_,0,rfl,by omega,by omega,rfl,by omega,Below.refl _ _,fun i h h'=>by omega⟩
     case round=>
      obtain⟨r,k,rfl,hr0,hr1,rfl,hk,hb,hall⟩:=hrel;have HA:=Zab hall;clear hall
      by_cases hlt:k < Fs.length
      . obtain⟨hsz,wv,hcell,hst⟩:=hc k hlt
        have hcell:=hcell.below hb hbw;obtain⟨c0,c1,c2,c3,c4,c5,c6,c7,c8,c9,c10⟩:=hcell;go_wp2_with fail;refine (ZkL _ _ _ _ _ _ _ _ _ _ _ Fs[k].words _ _ (hst.at.below hb) hr0 (by omega) hsz.s0 hsz.s5 hsz.s9 hsz.s10).mono ?_;rintro e w1 ⟨r1,rfl,hb1,q0,q1,q2⟩;have hB:Hd (Zw_ w w1):=hb.trans (hb1.mono hb.size);clear hb1 c0 c1 c2 c3 c4 c5 c6 c7 c8 c9 c10 hb;go_wp2
        all_goals first
         | (go_roundw
            case rel=>exact⟨_,k+1,rfl,by omega,by omega,by go_num,by omega,hB.o,fun i h h'=>by
                       by_cases e:i=k
                       . subst e;have:=q2 (by omega);omega
                       . exact HA.o i h (by omega)⟩
            . simp [intOf];omega)
         | (go_ret
            exact⟨-1,rfl,hB.o,by omega,by omega,fun h=>by omega⟩)
      . go_wp2
        go_ret;exact⟨r,rfl,hb,by omega,by omega,fun _=>⟨by omega,fun i h=>HA.o i h (by omega)⟩⟩
   . go_enter func121,ntmps121
     go_wp2;go_ret;exact⟨-1,rfl,Below.refl _ _,by omega,by omega,fun h=>by omega⟩
structure Sh where
 kind:Zy_
 fields:List Fd
variable {Ss:List Sh}
def ZaH (lo:Nat) (w:World) (v:Value) (Ss:List Sh):Prop:=
 (∃ (a:Option Addr) (cap:Nat),v=.slice a 0 cap/\Ss=[])\/
 ∃ (b off cap:Nat),v=.slice (some ⟨b,off,none⟩) Ss.length cap/\Ss≠[]/\Ss.length<=maxLen/\b < w.heap.size/\lo<=b/\
  ∀ i (h:i < Ss.length),Ss[i].kind.size<=maxLen/\∃ fv,w.cell? ⟨b,off+i*2,none⟩=some (.string Ss[i].kind)/\w.cell? ⟨b,off+i*2+1,none⟩=some fv/\Zau lo w fv Ss[i].fields
theorem ZaH.below (h:ZaH lo w v Ss) (hb:Zw_ w w'):ZaH lo w' v Ss:=by
 rcases h with h | ⟨b,off,cap,h1,h2,h3,h4,h5,h7⟩
 . exact Or.inl h
 . refine Or.inr ⟨b,off,cap,h1,h2,h3,Zk_ h4 hb.size,h5,fun i hi=>?_⟩
   obtain⟨hs,fv,hc,hc',hw⟩:=h7 i hi;exact⟨hs,fv,by rw [hb.cell (p:=⟨b,_,none⟩) h4];exact hc,by rw [hb.cell (p:=⟨b,_,none⟩) h4];exact hc',hw.below hb⟩
theorem ZaH.mono (h:ZaH lo w v Ss) (hl:lo'<=lo):ZaH lo' w v Ss:=by
 rcases h with h | ⟨b,off,cap,h1,h2,h3,h4,h5,h7⟩
 . exact Or.inl h
 . refine Or.inr ⟨b,off,cap,h1,h2,h3,h4,Nat.le_trans hl h5,fun i hi=>?_⟩
   obtain⟨hs,fv,hc,hc',hw⟩:=h7 i hi;exact⟨hs,fv,hc,hc',hw.mono hl⟩
theorem ZaH.form (h:ZaH lo w v Ss):∃ a cap,v=.slice a Ss.length cap:=by
 rcases h with ⟨a,cap,h,rfl⟩ | ⟨b,off,cap,h,_⟩
 . exact⟨a,cap,h⟩
 . exact⟨_,cap,h⟩
def Ze6 (Ss:List Sh):Prop:=Ss.length<=1048576/\∀ i (h:i < Ss.length),Zc3 Ss[i].fields
def Zsa (Ss:List Sh) (left r:Int):Prop:= -1<=r/\r<=left/\(0<=r->Ze6 Ss)
theorem ZkM (lo:Nat) (kind:Zy_) (v:Value) (Fs:List Fd) (left:Int) (w:World) (h0:0<=left) (h1:left<=1048576) (hv:Zau lo w v Fs) (hs:kind.size<=maxLen) :
 Calls prog 74 #[.agg #[.string kind,v],.int .i64 left] w fun e w'=>∃ r:Int,e=.returned (.int .i64 r)/\Zw_ w w'/\Zrx Fs left r:=by
 have HV:=Zab hv;obtain⟨a,cap,rfl⟩:=hv.form;clear hv;unfold maxLen at hs;have HW:∀ o,Hd (Zw_ w (w.alloc o)):=fun o=>Zb_.alloc Zl_ _
 by_cases c1:(kind.size:Int)<=left
 . go_enter func74,ntmps74
   go_wp2_with fail;refine (Zoq lo _ Fs _ _ (by omega) (by omega) (HV.o.below (HW _).o)).mono ?_;rintro e w1 ⟨r,rfl,hb1,q0,q1,q2⟩;have hB:Hd (Zw_ w w1):=(HW _).o.trans (hb1.mono (by simp));have HQ:=Zab q2;clear hb1 q2;go_wp2
   all_goals go_ret
   all_goals first
    | exact⟨_,rfl,hB.o,by omega,by omega,HQ.o⟩
    | exact⟨-1,rfl,hB.o,by omega,by omega,fun h=>by omega⟩
 . go_enter func74,ntmps74
   go_wp2;go_ret;exact⟨-1,rfl,(HW _).o,by omega,by omega,fun h=>by omega⟩
theorem Zoy (lo:Nat) (v:Value) (Ss:List Sh) (left:Int) (w:World) (h0:0<=left) (h1:left<=1048576) (hv:ZaH lo w v Ss) :
 Calls prog 27 #[v,.int .i64 left] w fun e w'=>∃ r:Int,e=.returned (.int .i64 r)/\Zw_ w w'/\Zsa Ss left r:=by
 rcases hv with ⟨a,cap,rfl,rfl⟩ | ⟨b,off,cap,rfl,hne,hm,hbw,_,hc⟩
 . go_enter func27,ntmps27
   go_wp2
   go_loop [1,5] (fun l i=>∃ r:Int,l=.int .i64 r/\0<=r/\r<=left/\i=.int .i64 0) (fun _ _=>0)
   case atStart=>exact⟨_,rfl,by omega,by omega,rfl⟩
   case round=>
    obtain⟨r,rfl,hr0,hr1,rfl⟩:=hrel;go_wp2;go_ret;exact⟨r,rfl,Below.refl _ _,by omega,by omega,fun _=>⟨by simp,fun i h=>absurd h (by simp)⟩⟩
 . unfold maxLen at hm
   by_cases hle:(Ss.length:Int)<=left
   . go_enter func27,ntmps27
     go_wp2
     go_loopw [1,5] (fun l i wr=>∃ (r:Int) (k:Nat),l=.int .i64 r/\0<=r/\r<=left/\i=.int .i64 k/\k<=Ss.length/\Zw_ w wr/\∀ i (h:i < Ss.length),i < k->Zc3 Ss[i].fields) (fun _ i _=>Ss.length - (intOf i).toNat)
     case atStart=>exact⟨_,0,rfl,by omega,by omega,rfl,by omega,Below.refl _ _,fun i h h'=>by omega⟩
     case round=>
      obtain⟨r,k,rfl,hr0,hr1,rfl,hk,hb,hall⟩:=hrel;have HA:=Zab hall;clear hall
      by_cases hlt:k < Ss.length
      . obtain⟨hsz,fv,c0,c1,hst⟩:=hc k hlt
        have c0':wr.cell? ⟨b,off+k*2,none⟩=some (.string Ss[k].kind):=by rw [hb.cell (p:=⟨b,_,none⟩) hbw];exact c0
        have c1':wr.cell? ⟨b,off+k*2+1,none⟩=some fv:=by rw [hb.cell (p:=⟨b,_,none⟩) hbw];exact c1
        clear c0 c1;go_wp2_with fail;refine (ZkM lo _ _ Ss[k].fields _ _ hr0 (by omega) (hst.below hb) hsz).mono ?_;rintro e w1 ⟨r1,rfl,hb1,q0,q1,q2⟩;have hB:Hd (Zw_ w w1):=hb.trans (hb1.mono hb.size);have HQ:=Zab q2;clear hb1 c0' c1' hb q2;go_wp2
        all_goals first
         | (go_roundw
            case rel=>exact⟨_,k+1,rfl,by omega,by omega,by go_num,by omega,hB.o,fun i h h'=>by
                       by_cases e:i=k
                       . subst e;exact HQ.o (by omega)
                       . exact HA.o i h (by omega)⟩
            . simp [intOf];omega)
         | (go_ret
            exact⟨-1,rfl,hB.o,by omega,by omega,fun h=>by omega⟩)
      . go_wp2
        go_ret;exact⟨r,rfl,hb,by omega,by omega,fun _=>⟨by omega,fun i h=>HA.o i h (by omega)⟩⟩
   . go_enter func27,ntmps27
     go_wp2;go_ret;exact⟨-1,rfl,Below.refl _ _,by omega,by omega,fun h=>by omega⟩
end
section
variable {lo:Nat} {w:World} {v:Value}
theorem Zc6 (h:Zau lo w v []):∃ a cap,v=.slice a 0 cap:=h.form
theorem Zau.full {Fs:List Fd} (h:Zau lo w v Fs) (hne:Fs≠[]):∃ (b off cap:Nat),v=.slice (some ⟨b,off,none⟩) Fs.length cap/\Fs.length<=maxLen/\b < w.heap.size/\Fs.length<=cap/\
 ∀ i (h:i < Fs.length),ZeD Fs[i]/\∃ wv,Zcw w b (off+i*11) Fs[i] wv/\Zaq lo w wv Fs[i].words:=by
 rcases h with ⟨_,_,_,h⟩ | ⟨b,off,cap,h1,_,h3,h4,_,h6,h7⟩
 . exact absurd h hne
 . exact⟨b,off,cap,h1,h3,h4,h6,h7⟩
theorem ZaH.full {Ss:List Sh} (h:ZaH lo w v Ss) (hne:Ss≠[]):∃ (b off cap:Nat),v=.slice (some ⟨b,off,none⟩) Ss.length cap/\Ss.length<=maxLen/\b < w.heap.size/\
 ∀ i (h:i < Ss.length),Ss[i].kind.size<=maxLen/\∃ fv,w.cell? ⟨b,off+i*2,none⟩=some (.string Ss[i].kind)/\w.cell? ⟨b,off+i*2+1,none⟩=some fv/\Zau lo w fv Ss[i].fields:=by
 rcases h with ⟨_,_,_,h⟩ | ⟨b,off,cap,h1,_,h3,h4,_,h7⟩
 . exact absurd h hne
 . exact⟨b,off,cap,h1,h3,h4,h7⟩
theorem ZlF (lo lo':Nat) (v v':Value) (Fs:List Fd) (w:World) (hv:Zau lo w v Fs) (hv':Zau lo' w v' Fs) :
 Calls prog 146 #[v,v'] w fun e w'=>e=.returned (.bool true)/\Zw_ w w':=by
 by_cases hL:Fs=[]
 . subst hL
   obtain⟨a,cap,rfl⟩:=Zc6 hv;obtain⟨a',cap',rfl⟩:=Zc6 hv';clear hv hv';go_enter func146,ntmps146;go_wp2
   go_loop [5] (fun i=>i=.int .i64 0) (fun _=>0)
   case atStart=>rfl
   case round=>
    subst hrel;go_wp2;go_ret;exact⟨rfl,Below.refl _ _⟩
 . obtain⟨b,off,cap,rfl,hm,hbw,_,hc⟩:=hv.full hL
   obtain⟨b',off',cap',rfl,_,hbw',_,hc'⟩:=hv'.full hL;clear hv hv';unfold maxLen at hm;go_enter func146,ntmps146;go_wp2
   go_loopw [5] (fun i wr=>∃ k:Nat,i=.int .i64 k/\k<=Fs.length/\Zw_ w wr) (fun i _=>Fs.length - (intOf i).toNat)
   case atStart=>exact⟨0,rfl,by omega,Below.refl _ _⟩
   case round=>
    obtain⟨k,rfl,hk,hb⟩:=hrel
    by_cases hlt:k < Fs.length
    . obtain⟨_,wv,hcell,hst⟩:=hc k hlt
      obtain⟨_,wv',hcell',hst'⟩:=hc' k hlt;have HST:Hd (Zaf wr wv Fs[k].words):=hst.at.below hb;have HST':Hd (Zaf wr wv' Fs[k].words):=hst'.at.below hb;obtain⟨a1,n1,cap1,rfl⟩:=hst.form;obtain⟨a2,n2,cap2,rfl⟩:=hst'.form;clear hst hst';obtain⟨c0,c1,c2,c3,c4,c5,c6,c7,c8,c9,c10⟩:=hcell.below hb hbw;obtain⟨d0,d1,d2,d3,d4,d5,d6,d7,d8,d9,d10⟩:=hcell'.below hb hbw';clear hcell hcell';have HB:=Zab hb;clear hb;go_wp2
      go_region_with (go_at_call 191;refine (Zi7 _ _ _ _ _ _ _ _ _ _ _ _ Fs[k].words _ (HST.o.below (Below.drew Zb_)) (HST'.o.below (Below.drew Zb_))).mono ?_;rintro e w1 ⟨rfl,hb1⟩;have hB:Hd (Zw_ w w1):=(HB.o.drew).trans (hb1.mono HB.o.size);clear hb1)
      all_goals
       go_wp2;go_roundw
       . exact⟨k+1,by go_num,by omega,hB.o⟩
       . simp [intOf];omega
    . go_wp2
      go_ret;exact⟨rfl,hb⟩
theorem Zi8 (lo lo':Nat) (kind:Zy_) (v v':Value) (Fs:List Fd) (w:World) (hv:Zau lo w v Fs) (hv':Zau lo' w v' Fs) :
 Calls prog 97 #[.agg #[.string kind,v],.agg #[.string kind,v']] w fun e w'=>e=.returned (.bool true)/\Zw_ w w':=by
 have HV:=Zab hv;have HV':=Zab hv';obtain⟨a,cap,rfl⟩:=hv.form;obtain⟨a',cap',rfl⟩:=hv'.form;clear hv hv';have HW:∀ o o',Hd (Zw_ w ((w.alloc o).alloc o')):=fun o o'=>(Zb_.alloc Zl_ _).alloc (by simp) _
 go_enter func97,ntmps97;go_wp2_with fail;refine (ZlF lo lo' _ _ Fs _ (HV.o.below (HW _ _).o) (HV'.o.below (HW _ _).o)).mono ?_;rintro e w1 ⟨rfl,hb⟩;have HB:Hd (Zw_ w w1):=(HW _ _).o.trans (hb.mono (by simp;omega));clear hb;go_wp2;go_ret;exact⟨rfl,HB.o⟩
theorem ZlN (lo lo':Nat) (v v':Value) (Ss:List Sh) (w:World) (hv:ZaH lo w v Ss) (hv':ZaH lo' w v' Ss) :
 Calls prog 45 #[v,v'] w fun e w'=>e=.returned (.bool true)/\Zw_ w w':=by
 by_cases hL:Ss=[]
 . subst hL
   obtain⟨a,cap,rfl⟩:=hv.form;obtain⟨a',cap',rfl⟩:=hv'.form;clear hv hv';go_enter func45,ntmps45;go_wp2
   go_loop [5] (fun i=>i=.int .i64 0) (fun _=>0)
   case atStart=>rfl
   case round=>
    subst hrel;go_wp2;go_ret;exact⟨rfl,Below.refl _ _⟩
 . obtain⟨b,off,cap,rfl,hm,hbw,hc⟩:=hv.full hL
   obtain⟨b',off',cap',rfl,_,hbw',hc'⟩:=hv'.full hL;clear hv hv';unfold maxLen at hm;go_enter func45,ntmps45;go_wp2
   go_loopw [5] (fun i wr=>∃ k:Nat,i=.int .i64 k/\k<=Ss.length/\Zw_ w wr) (fun i _=>Ss.length - (intOf i).toNat)
   case atStart=>exact⟨0,rfl,by omega,Below.refl _ _⟩
   case round=>
    obtain⟨k,rfl,hk,hb⟩:=hrel
    by_cases hlt:k < Ss.length
    . obtain⟨_,fv,c0,c1,hst⟩:=hc k hlt
      obtain⟨_,fv',d0,d1,hst'⟩:=hc' k hlt;have HST:Hd (Zau lo wr fv Ss[k].fields):=hst.below hb;have HST':Hd (Zau lo' wr fv' Ss[k].fields):=hst'.below hb;obtain⟨a1,cap1,rfl⟩:=hst.form;obtain⟨a2,cap2,rfl⟩:=hst'.form;clear hst hst';have e0:wr.cell? ⟨b,off+k*2,none⟩=some (.string Ss[k].kind):=by rw [hb.cell (p:=⟨b,_,none⟩) hbw];exact c0
      have e1:wr.cell? ⟨b,off+k*2+1,none⟩=some (.slice a1 Ss[k].fields.length cap1):=by rw [hb.cell (p:=⟨b,_,none⟩) hbw];exact c1
      have g0:wr.cell? ⟨b',off'+k*2,none⟩=some (.string Ss[k].kind):=by rw [hb.cell (p:=⟨b',_,none⟩) hbw'];exact d0
      have g1:wr.cell? ⟨b',off'+k*2+1,none⟩=some (.slice a2 Ss[k].fields.length cap2):=by rw [hb.cell (p:=⟨b',_,none⟩) hbw'];exact d1
      clear c0 c1 d0 d1;have HB:=Zab hb;clear hb;go_wp2
      go_region_with (go_at_call 97;refine (Zi8 lo lo' _ _ _ Ss[k].fields _ (HST.o.below (Below.drew Zb_)) (HST'.o.below (Below.drew Zb_))).mono ?_;rintro e w1 ⟨rfl,hb1⟩;have hB:Hd (Zw_ w w1):=(HB.o.drew).trans (hb1.mono HB.o.size);clear hb1)
      all_goals
       go_wp2;go_roundw
       . exact⟨k+1,by go_num,by omega,hB.o⟩
       . simp [intOf];omega
    . go_wp2
      go_ret;exact⟨rfl,hb⟩
end
section
variable {wr w1:World} {B k:Nat} {Fs:List Fd}
theorem Tryz.info178:(prog.info? 178).map (fun i=>(i.zero,i.size,i.bytes))=some (some (.agg #[.string ⟨#[]⟩,.int .i64 0,.int .i64 0,.int .i64 0,.slice none 0 0,.string ⟨#[]⟩,.int .i64 0,.bool false,.bool false,.string ⟨#[]⟩,.string ⟨#[]⟩]),11,128):=by kernel_rfl
theorem Tryz.info131:(prog.info? 131).map (fun i=>(i.zero,i.size,i.bytes))=some (some (.agg #[.string ⟨#[]⟩,.slice none 0 0]),2,40):=by kernel_rfl
structure Zr3 (f:Nat->Value) (o:Nat) (fd:Fd) (wv:Value):Prop where
 r0:f (o)=(.string fd.nm)
 r1:f (o+1)=(.int .i64 fd.kd)
 r2:f (o+2)=(.int .i64 fd.le)
 r3:f (o+3)=(.int .i64 fd.mo)
 r4:f (o+4)=wv
 r5:f (o+5)=(.string fd.to)
 r6:f (o+6)=(.int .i64 fd.ro)
 r7:f (o+7)=(.bool fd.mu)
 r8:f (o+8)=(.bool fd.fx)
 r9:f (o+9)=(.string fd.df)
 r10:f (o+10)=(.string fd.we)
def Zbd (wr:World) (B:Nat) (Fs:List Fd) (k:Nat):Prop:=
 ∃ f,wr.rowIs B 178 (Fs.length*11) f/\∀ i (h:i < Fs.length),i < k->ZeD Fs[i]/\∃ wv,Zr3 f (i*11) Fs[i] wv/\Zaq (B+1) wr wv Fs[i].words
theorem Zbd.below (h:Zbd wr B Fs k) (hb:Below wr.heap.size wr w1):Zbd w1 B Fs k:=by
 obtain⟨f,hr,hall⟩:=h;refine⟨f,hr.of_block (hb.block B hr.lt),fun i hi hik=>?_⟩;obtain⟨hs,wv,h1,h2⟩:=hall i hi hik;exact⟨hs,wv,h1,h2.below hb⟩
theorem Zbd.free (h:Zbd wr B Fs k) (i:Nat):wr.frozen? ⟨B,i,none⟩=false:=by
 obtain⟨f,hr,_⟩:=h;exact hr.frozen i
theorem Zbd.there (h:Zbd wr B Fs k) (i:Nat) (hi:i < Fs.length*11):∃ v,wr.cell? ⟨B,i,none⟩=some v:=by
 obtain⟨f,hr,_⟩:=h;exact⟨_,hr.cell hi⟩
theorem Zbd.lt (h:Zbd wr B Fs k):B < wr.heap.size:=by
 obtain⟨f,hr,_⟩:=h;exact hr.lt
theorem Zbd.step {wv:Value} (h:Zbd w1 B Fs k) (hk:k < Fs.length) (hz:ZeD Fs[k]) (hs:Zaq (B+1) w1 wv Fs[k].words) :
 Zbd (((((((((((w1.setCell ⟨B,k*11,none⟩ (.string Fs[k].nm)).setCell ⟨B,k*11+1,none⟩ (.int .i64 Fs[k].kd)).setCell ⟨B,k*11+2,none⟩ (.int .i64 Fs[k].le)).setCell ⟨B,k*11+3,none⟩ (.int .i64 Fs[k].mo)).setCell ⟨B,k*11+4,none⟩ wv).setCell ⟨B,k*11+5,none⟩ (.string Fs[k].to)).setCell ⟨B,k*11+6,none⟩ (.int .i64 Fs[k].ro)).setCell ⟨B,k*11+7,none⟩ (.bool Fs[k].mu)).setCell ⟨B,k*11+8,none⟩ (.bool Fs[k].fx)).setCell ⟨B,k*11+9,none⟩ (.string Fs[k].df)).setCell ⟨B,k*11+10,none⟩ (.string Fs[k].we)) B Fs (k+1):=by
 obtain⟨f,hr,hall⟩:=h;refine⟨_,(((((((((((hr.set _ _).set _ _).set _ _).set _ _).set _ _).set _ _).set _ _).set _ _).set _ _).set _ _).set _ _),fun i hi hik=>?_⟩
 by_cases e:i=k
 . subst e
   refine⟨hz,wv,⟨?_,?_,?_,?_,?_,?_,?_,?_,?_,?_,?_⟩,?_⟩
   . simp
   . simp
   . simp
   . simp
   . simp
   . simp
   . simp
   . simp
   . simp
   . simp
   . simp
   . repeat (refine Zaq.setCell ?_ (by simp only [];omega) _)
     exact hs
 . obtain⟨hz',wv',hrow,hst⟩:=hall i hi (by omega)
   refine⟨hz',wv',⟨?_,?_,?_,?_,?_,?_,?_,?_,?_,?_,?_⟩,?_⟩
   . rw [if_neg (by omega),if_neg (by omega),if_neg (by omega),if_neg (by omega),if_neg (by omega),if_neg (by omega),if_neg (by omega),if_neg (by omega),if_neg (by omega),if_neg (by omega),if_neg (by omega)];exact hrow.r0
   . rw [if_neg (by omega),if_neg (by omega),if_neg (by omega),if_neg (by omega),if_neg (by omega),if_neg (by omega),if_neg (by omega),if_neg (by omega),if_neg (by omega),if_neg (by omega),if_neg (by omega)];exact hrow.r1
   . rw [if_neg (by omega),if_neg (by omega),if_neg (by omega),if_neg (by omega),if_neg (by omega),if_neg (by omega),if_neg (by omega),if_neg (by omega),if_neg (by omega),if_neg (by omega),if_neg (by omega)];exact hrow.r2
   . rw [if_neg (by omega),if_neg (by omega),if_neg (by omega),if_neg (by omega),if_neg (by omega),if_neg (by omega),if_neg (by omega),if_neg (by omega),if_neg (by omega),if_neg (by omega),if_neg (by omega)];exact hrow.r3
   . rw [if_neg (by omega),if_neg (by omega),if_neg (by omega),if_neg (by omega),if_neg (by omega),if_neg (by omega),if_neg (by omega),if_neg (by omega),if_neg (by omega),if_neg (by omega),if_neg (by omega)];exact hrow.r4
   . rw [if_neg (by omega),if_neg (by omega),if_neg (by omega),if_neg (by omega),if_neg (by omega),if_neg (by omega),if_neg (by omega),if_neg (by omega),if_neg (by omega),if_neg (by omega),if_neg (by omega)];exact hrow.r5
   . rw [if_neg (by omega),if_neg (by omega),if_neg (by omega),if_neg (by omega),if_neg (by omega),if_neg (by omega),if_neg (by omega),if_neg (by omega),if_neg (by omega),if_neg (by omega),if_neg (by omega)];exact hrow.r6
   . rw [if_neg (by omega),if_neg (by omega),if_neg (by omega),if_neg (by omega),if_neg (by omega),if_neg (by omega),if_neg (by omega),if_neg (by omega),if_neg (by omega),if_neg (by omega),if_neg (by omega)];exact hrow.r7
   . rw [if_neg (by omega),if_neg (by omega),if_neg (by omega),if_neg (by omega),if_neg (by omega),if_neg (by omega),if_neg (by omega),if_neg (by omega),if_neg (by omega),if_neg (by omega),if_neg (by omega)];exact hrow.r8
   . rw [if_neg (by omega),if_neg (by omega),if_neg (by omega),if_neg (by omega),if_neg (by omega),if_neg (by omega),if_neg (by omega),if_neg (by omega),if_neg (by omega),if_neg (by omega),if_neg (by omega)];exact hrow.r9
   . rw [if_neg (by omega),if_neg (by omega),if_neg (by omega),if_neg (by omega),if_neg (by omega),if_neg (by omega),if_neg (by omega),if_neg (by omega),if_neg (by omega),if_neg (by omega),if_neg (by omega)];exact hrow.r10
   . repeat (refine Zaq.setCell ?_ (by simp only [];omega) _)
     exact hst
theorem Zbd.done (h:Zbd wr B Fs k) (hk:Fs.length<=k) (hne:Fs≠[]) (hm:Fs.length<=maxLen):Zau B wr (.slice (some ⟨B,0,none⟩) Fs.length Fs.length) Fs:=by
 obtain⟨f,hr,hall⟩:=h;refine Or.inr ⟨B,0,Fs.length,rfl,hne,hm,hr.lt,Nat.le_refl _,Nat.le_refl _,fun i hi=>?_⟩;obtain⟨hz,wv,hrow,hst⟩:=hall i hi (by omega);refine⟨hz,wv,⟨?_,?_,?_,?_,?_,?_,?_,?_,?_,?_,?_⟩,hst.mono (by omega)⟩
 . rw [Nat.zero_add,hr.cell (by omega),hrow.r0]
 . rw [Nat.zero_add,hr.cell (by omega),hrow.r1]
 . rw [Nat.zero_add,hr.cell (by omega),hrow.r2]
 . rw [Nat.zero_add,hr.cell (by omega),hrow.r3]
 . rw [Nat.zero_add,hr.cell (by omega),hrow.r4]
 . rw [Nat.zero_add,hr.cell (by omega),hrow.r5]
 . rw [Nat.zero_add,hr.cell (by omega),hrow.r6]
 . rw [Nat.zero_add,hr.cell (by omega),hrow.r7]
 . rw [Nat.zero_add,hr.cell (by omega),hrow.r8]
 . rw [Nat.zero_add,hr.cell (by omega),hrow.r9]
 . rw [Nat.zero_add,hr.cell (by omega),hrow.r10]
theorem Zbd.new (w:World) (Fs:List Fd) (z:Array Value):Zbd (w.alloc (.cells (madeCells z (Fs.length*11)) 178)) w.heap.size Fs 0:=by
 refine⟨fun i=>(madeCells z (Fs.length*11)).getD i default,?_,fun i _ h=>by omega⟩;have:=World.rowIs_alloc w (madeCells z (Fs.length*11)) 178 (fun i=>(madeCells z (Fs.length*11)).getD i default) (fun i hi=>by simp [Array.getD,hi])
 rwa [size_madeCells] at this
theorem ZoF (lo:Nat) (v:Value) (Fs:List Fd) (w:World) (hv:Zau lo w v Fs) (hn:Zc3 Fs) :
 Calls prog 138 #[v] w fun e w'=>∃ v',e=.returned v'/\Zw_ w w'/\Zau w.heap.size w' v' Fs:=by
 obtain⟨i0,hi,hz0,hz1,hz2⟩:=info_parts Tryz.info178
 by_cases hL:Fs=[]
 . subst hL
   obtain⟨a,cap,rfl⟩:=Zc6 hv;clear hv
   have hmk:∀ u:World,(Instr.makeSlice 129 (.int .i64 0) (.int .i64 0)).run prog u=.ok (.slice (some ⟨u.heap.size,0,none⟩) 0 0) (u.alloc (.cells (madeCells (Value.cells (.agg #[.string ⟨#[]⟩,.int .i64 0,.int .i64 0,.int .i64 0,.slice none 0 0,.string ⟨#[]⟩,.int .i64 0,.bool false,.bool false,.string ⟨#[]⟩,.string ⟨#[]⟩])) 0) 178)):=fun u=>by
    have h:=run_make (P:=prog) u 129 178 i0 _ underlying129 hi hz0 .i64 .i64 0 0 (by omega) (by omega) (by omega) (by omega)
    simpa [hz1] using h
   go_enter func138,ntmps138;go_wp2
   go_loop [4] (fun i=>i=.int .i64 0) (fun _=>0)
   case atStart=>rfl
   case round=>
    subst hrel;go_wp2;go_ret;exact⟨_,rfl,Zb_.alloc Zl_ _,Or.inl ⟨_,_,rfl,rfl⟩⟩
 . obtain⟨b,off,cap,rfl,hm,hbw,_,hc⟩:=hv.full hL
   clear hv;obtain⟨hn1,hn2⟩:=hn;have HM:Hd (Fs.length<=maxLen):=hm;unfold maxLen at hm
   have hmk:∀ u:World,(Instr.makeSlice 129 (.int .i64 (Fs.length:Int)) (.int .i64 (Fs.length:Int))).run prog u=.ok (.slice (some ⟨u.heap.size,0,none⟩) Fs.length Fs.length) (u.alloc (.cells (madeCells (Value.cells (.agg #[.string ⟨#[]⟩,.int .i64 0,.int .i64 0,.int .i64 0,.slice none 0 0,.string ⟨#[]⟩,.int .i64 0,.bool false,.bool false,.string ⟨#[]⟩,.string ⟨#[]⟩])) (Fs.length*11)) 178)):=fun u=>by
    have h:=run_make (P:=prog) u 129 178 i0 _ underlying129 hi hz0 .i64 .i64 Fs.length Fs.length (by omega) (by omega) (by rw [hz2];omega) (by omega);rw [hz1] at h
    simpa using h
   clear hi hz0 hz1 hz2;go_enter func138,ntmps138;go_wp2;clear hmk
   go_loopw [4] (fun i wr=>∃ k:Nat,i=.int .i64 k/\k<=Fs.length/\Zw_ w wr/\Zbd wr w.heap.size Fs k) (fun i _=>Fs.length - (intOf i).toNat)
   case atStart=>exact⟨0,rfl,by omega,Zb_.alloc Zl_ _,Zbd.new w Fs _⟩
   case round=>
    obtain⟨k,rfl,hk,hb,hf⟩:=hrel
    by_cases hlt:k < Fs.length
    . obtain⟨hsz,wv,hcell,hst⟩:=hc k hlt
      obtain⟨c0,c1,c2,c3,c4,c5,c6,c7,c8,c9,c10⟩:=hcell.below hb hbw;clear hcell;go_wp2_with fail;refine (ZkQ _ _ _ _ _ _ _ _ _ _ _ Fs[k].words _ (hst.at.below hb) (hn2 k hlt)).mono ?_;rintro e w1 ⟨wv1,rfl,hb1,hs1⟩;have hf1:=hf.below hb1;have hs1':Zaq (w.heap.size+1) w1 wv1 Fs[k].words:=hs1.mono hf.lt;have HST:=Zab (hf1.step hlt hsz hs1');have hB:Hd (Zw_ w w1):=hb.trans (hb1.mono hb.size);have hfr:=hf1.free;obtain⟨a1,n1,cap1,rfl⟩:=hs1.form;obtain⟨o0,ho0⟩:=hf1.there (k*11) (by omega);obtain⟨o1,ho1⟩:=hf1.there (k*11+1) (by omega);obtain⟨o2,ho2⟩:=hf1.there (k*11+2) (by omega);obtain⟨o3,ho3⟩:=hf1.there (k*11+3) (by omega);obtain⟨o4,ho4⟩:=hf1.there (k*11+4) (by omega);obtain⟨o5,ho5⟩:=hf1.there (k*11+5) (by omega);obtain⟨o6,ho6⟩:=hf1.there (k*11+6) (by omega);obtain⟨o7,ho7⟩:=hf1.there (k*11+7) (by omega);obtain⟨o8,ho8⟩:=hf1.there (k*11+8) (by omega)
      obtain⟨o9,ho9⟩:=hf1.there (k*11+9) (by omega);obtain⟨o10,ho10⟩:=hf1.there (k*11+10) (by omega);clear hf hf1 hs1 hs1' hb1 hb hst c0 c1 c2 c3 c4 c5 c6 c7 c8 c9 c10;go_wp2;go_roundw
      . 
       exact⟨k+1,by go_num,by omega,(((((((((((hB.o.setCell Zl_ _).setCell Zl_ _).setCell Zl_ _).setCell Zl_ _).setCell Zl_ _).setCell Zl_ _).setCell Zl_ _).setCell Zl_ _).setCell Zl_ _).setCell Zl_ _).setCell Zl_ _),HST.o⟩
      . simp [intOf];omega
    . go_wp2
      go_ret;exact⟨_,rfl,hb,hf.done (by omega) hL HM.o⟩
end
section
variable {w wr w1:World} {B k:Nat} {Ss:List Sh}
theorem Zcw.setCell {b o:Nat}{f:Fd}{wv:Value} (h:Zcw w b o f wv) {p:Addr} (hp:b≠p.block) (u:Value):Zcw (w.setCell p u) b o f wv:=by
 have e:∀ o,(w.setCell p u).cell? ⟨b,o,none⟩=w.cell? ⟨b,o,none⟩:=fun o=>Zar _ _ _ _ hp
 exact⟨by rw [e];exact h.c0,by rw [e];exact h.c1,by rw [e];exact h.c2,by rw [e];exact h.c3,by rw [e];exact h.c4,by rw [e];exact h.c5,by rw [e];exact h.c6,by rw [e];exact h.c7,by rw [e];exact h.c8,by rw [e];exact h.c9,by rw [e];exact h.c10⟩
theorem Zau.setCell {lo:Nat}{v:Value}{Fs:List Fd} (h:Zau lo w v Fs) {p:Addr} (hp:p.block < lo) (u:Value):Zau lo (w.setCell p u) v Fs:=by
 rcases h with h | ⟨b,off,cap,h1,h2,h3,h4,h5,h6,h7⟩
 . exact Or.inl h
 . refine Or.inr ⟨b,off,cap,h1,h2,h3,by simpa [World.setCell] using h4,h5,h6,fun i hi=>?_⟩
   obtain⟨hs,wv,hc,hw⟩:=h7 i hi;exact⟨hs,wv,hc.setCell (by omega) u,hw.setCell hp u⟩
theorem ZkT (lo:Nat) (kind:Zy_) (v:Value) (Fs:List Fd) (w:World) (hv:Zau lo w v Fs) (hn:Zc3 Fs) :
 Calls prog 86 #[.agg #[.string kind,v]] w fun e w'=>∃ v',e=.returned (.agg #[.string kind,v'])/\Zw_ w w'/\Zau w.heap.size w' v' Fs:=by
 have HV:=Zab hv;obtain⟨a,cap,rfl⟩:=hv.form;clear hv;go_enter func86,ntmps86;go_wp2_with fail;refine (ZoF lo _ Fs _ (HV.o.below ?_) hn).mono ?_
 . exact ((Zb_.alloc Zl_ _).alloc (by simp) _).alloc (by simp;omega) _
 rintro e w1 ⟨v1,rfl,hb,hs⟩;obtain⟨a',cap',rfl⟩:=hs.form;have HS:Hd (Zau (w.heap.size+3) w1 (.slice a' Fs.length cap') Fs):=hs.mono (by simp);clear hs;have hz:w.heap.size+2 < w1.heap.size:=by have:=hb.size;simp at this;omega
 obtain⟨hc,hf⟩:=ZfC hb;have HB:Hd (Zw_ w w1):=(((Zb_.alloc Zl_ _).alloc (by simp) _).alloc (by simp;omega) _).trans (hb.mono (by simp;omega));clear hb;go_wp2;refine bodyPost_ret (v:=.agg #[.string kind,.slice a' Fs.length cap']) (by simp [results,results86,go_sem,hc]) rfl ⟨_,rfl,?_,?_⟩
 . repeat (refine Below.setCell ?_ (by simp only [];omega) _)
   exact HB.o
 . refine Zau.mono (lo:=w.heap.size+3) ?_ (by omega)
   repeat (refine Zau.setCell ?_ (by simp only [];omega) _)
   exact HS.o
def Zbe (wr:World) (B:Nat) (Ss:List Sh) (k:Nat):Prop:=
 ∃ f,wr.rowIs B 131 (Ss.length*2) f/\∀ i (h:i < Ss.length),i < k->Ss[i].kind.size<=maxLen/\∃ fv,f (i*2)=.string Ss[i].kind/\f (i*2+1)=fv/\Zau (B+1) wr fv Ss[i].fields
theorem Zbe.below (h:Zbe wr B Ss k) (hb:Below wr.heap.size wr w1):Zbe w1 B Ss k:=by
 obtain⟨f,hr,hall⟩:=h;refine⟨f,hr.of_block (hb.block B hr.lt),fun i hi hik=>?_⟩;obtain⟨hs,fv,h0,h1,h2⟩:=hall i hi hik;exact⟨hs,fv,h0,h1,h2.below hb⟩
theorem Zbe.free (h:Zbe wr B Ss k) (i:Nat):wr.frozen? ⟨B,i,none⟩=false:=by
 obtain⟨f,hr,_⟩:=h;exact hr.frozen i
theorem Zbe.there (h:Zbe wr B Ss k) (i:Nat) (hi:i < Ss.length*2):∃ v,wr.cell? ⟨B,i,none⟩=some v:=by
 obtain⟨f,hr,_⟩:=h;exact⟨_,hr.cell hi⟩
theorem Zbe.lt (h:Zbe wr B Ss k):B < wr.heap.size:=by
 obtain⟨f,hr,_⟩:=h;exact hr.lt
theorem Zbe.step {fv:Value} (h:Zbe w1 B Ss k) (hk:k < Ss.length) (hz:Ss[k].kind.size<=maxLen) (hs:Zau (B+1) w1 fv Ss[k].fields) :
 Zbe ((w1.setCell ⟨B,k*2,none⟩ (.string Ss[k].kind)).setCell ⟨B,k*2+1,none⟩ fv) B Ss (k+1):=by
 obtain⟨f,hr,hall⟩:=h;refine⟨_,((hr.set _ _).set _ _),fun i hi hik=>?_⟩
 by_cases e:i=k
 . subst e
   refine⟨hz,fv,?_,?_,?_⟩
   . simp
   . simp
   . exact (hs.setCell (by simp only [];omega) _).setCell (by simp only [];omega) _
 . obtain⟨hz',fv',h0,h1,hst⟩:=hall i hi (by omega)
   refine⟨hz',fv',?_,?_,?_⟩
   . rw [if_neg (by omega),if_neg (by omega)];exact h0
   . rw [if_neg (by omega),if_neg (by omega)];exact h1
   . exact (hst.setCell (by simp only [];omega) _).setCell (by simp only [];omega) _
theorem Zbe.done (h:Zbe wr B Ss k) (hk:Ss.length<=k) (hne:Ss≠[]) (hm:Ss.length<=maxLen):ZaH B wr (.slice (some ⟨B,0,none⟩) Ss.length Ss.length) Ss:=by
 obtain⟨f,hr,hall⟩:=h;refine Or.inr ⟨B,0,Ss.length,rfl,hne,hm,hr.lt,Nat.le_refl _,fun i hi=>?_⟩;obtain⟨hz,fv,h0,h1,hst⟩:=hall i hi (by omega);refine⟨hz,fv,?_,?_,hst.mono (by omega)⟩
 . rw [Nat.zero_add,hr.cell (by omega),h0]
 . rw [Nat.zero_add,hr.cell (by omega),h1]
theorem Zbe.new (w:World) (Ss:List Sh) (z:Array Value):Zbe (w.alloc (.cells (madeCells z (Ss.length*2)) 131)) w.heap.size Ss 0:=by
 refine⟨fun i=>(madeCells z (Ss.length*2)).getD i default,?_,fun i _ h=>by omega⟩;have:=World.rowIs_alloc w (madeCells z (Ss.length*2)) 131 (fun i=>(madeCells z (Ss.length*2)).getD i default) (fun i hi=>by simp [Array.getD,hi])
 rwa [size_madeCells] at this
theorem ZoM (lo:Nat) (v:Value) (Ss:List Sh) (w:World) (hv:ZaH lo w v Ss) (hn:Ze6 Ss) :
 Calls prog 36 #[v] w fun e w'=>∃ v',e=.returned v'/\Zw_ w w'/\ZaH w.heap.size w' v' Ss:=by
 obtain⟨i0,hi,hz0,hz1,hz2⟩:=info_parts Tryz.info131
 by_cases hL:Ss=[]
 . subst hL
   obtain⟨a,cap,rfl⟩:=hv.form;clear hv
   have hmk:∀ u:World,(Instr.makeSlice 37 (.int .i64 0) (.int .i64 0)).run prog u=.ok (.slice (some ⟨u.heap.size,0,none⟩) 0 0) (u.alloc (.cells (madeCells (Value.cells (.agg #[.string ⟨#[]⟩,.slice none 0 0])) 0) 131)):=fun u=>by
    have h:=run_make (P:=prog) u 37 131 i0 _ underlying37 hi hz0 .i64 .i64 0 0 (by omega) (by omega) (by omega) (by omega)
    simpa [hz1] using h
   go_enter func36,ntmps36;go_wp2
   go_loop [4] (fun i=>i=.int .i64 0) (fun _=>0)
   case atStart=>rfl
   case round=>
    subst hrel;go_wp2;go_ret;exact⟨_,rfl,Zb_.alloc Zl_ _,Or.inl ⟨_,_,rfl,rfl⟩⟩
 . obtain⟨b,off,cap,rfl,hm,hbw,hc⟩:=hv.full hL
   clear hv;obtain⟨hn1,hn2⟩:=hn;have HM:Hd (Ss.length<=maxLen):=hm;unfold maxLen at hm
   have hmk:∀ u:World,(Instr.makeSlice 37 (.int .i64 (Ss.length:Int)) (.int .i64 (Ss.length:Int))).run prog u=.ok (.slice (some ⟨u.heap.size,0,none⟩) Ss.length Ss.length) (u.alloc (.cells (madeCells (Value.cells (.agg #[.string ⟨#[]⟩,.slice none 0 0])) (Ss.length*2)) 131)):=fun u=>by
    have h:=run_make (P:=prog) u 37 131 i0 _ underlying37 hi hz0 .i64 .i64 Ss.length Ss.length (by omega) (by omega) (by rw [hz2];omega) (by omega);rw [hz1] at h
    simpa using h
   clear hi hz0 hz1 hz2;go_enter func36,ntmps36;go_wp2;clear hmk
   go_loopw [4] (fun i wr=>∃ k:Nat,i=.int .i64 k/\k<=Ss.length/\Zw_ w wr/\Zbe wr w.heap.size Ss k) (fun i _=>Ss.length - (intOf i).toNat)
   case atStart=>exact⟨0,rfl,by omega,Zb_.alloc Zl_ _,Zbe.new w Ss _⟩
   case round=>
    obtain⟨k,rfl,hk,hb,hf⟩:=hrel
    by_cases hlt:k < Ss.length
    . obtain⟨hsz,fv,d0,d1,hst⟩:=hc k hlt
      have c0:wr.cell? ⟨b,off+k*2,none⟩=some (.string Ss[k].kind):=by rw [hb.cell (p:=⟨b,_,none⟩) hbw];exact d0
      have c1:wr.cell? ⟨b,off+k*2+1,none⟩=some fv:=by rw [hb.cell (p:=⟨b,_,none⟩) hbw];exact d1
      clear d0 d1;go_wp2_with fail;refine (ZkT lo _ _ Ss[k].fields _ (hst.below hb) (hn2 k hlt)).mono ?_;rintro e w1 ⟨wv1,rfl,hb1,hs1⟩;have hf1:=hf.below hb1;have hs1':Zau (w.heap.size+1) w1 wv1 Ss[k].fields:=hs1.mono hf.lt;have HST:=Zab (hf1.step hlt hsz hs1');have hB:Hd (Zw_ w w1):=hb.trans (hb1.mono hb.size);have hfr:=hf1.free;obtain⟨a1,cap1,rfl⟩:=hs1.form;obtain⟨o0,ho0⟩:=hf1.there (k*2) (by omega);obtain⟨o1,ho1⟩:=hf1.there (k*2+1) (by omega);clear hf hf1 hs1 hs1' hb1 hb hst c0 c1;go_wp2;go_roundw
      . 
       exact⟨k+1,by go_num,by omega,((hB.o.setCell Zl_ _).setCell Zl_ _),HST.o⟩
      . simp [intOf];omega
    . go_wp2
      go_ret;exact⟨_,rfl,hb,hf.done (by omega) hL HM.o⟩
end
section
variable {n i:Nat}
theorem ZaY {p:Nat->Bool} (h:∀ i,i < n->p i=true):(List.range n).all p=true:=by
 rw [List.all_eq_true];intro i hi;exact h i (List.mem_range.1 hi)
theorem ZaV {k:Nat}{p:Nat->Bool} (hk:k < n) (h:p k=false):(List.range n).all p=false:=by
 rw [List.all_eq_false];exact⟨k,List.mem_range.2 hk,by simp [h]⟩
def Zgy (L:List Zy_) (i:Nat):Bool:=
 Zap (L.getD i ⟨#[]⟩)&&(i == 0 || Op.bytesLess (L.getD (i - 1) ⟨#[]⟩).toList (L.getD i ⟨#[]⟩).toList)
def Zm8 (L:List Zy_):Bool:=(List.range L.length).all (Zgy L)
theorem Zij {L:List Zy_} (h:i < L.length):L.getD i ⟨#[]⟩=L[i]:=by
 rw [List.getD_eq_getElem?_getD,List.getElem?_eq_getElem h];rfl
theorem Zhv {L:List Zy_} (h:i < L.length) (hn:Zap L[i]=false):Zgy L i=false:=by
 unfold Zgy;rw [Zij h,hn];rfl
theorem Zhx {L:List Zy_} (h:0 < L.length) (hn:Zap L[0]=true):Zgy L 0=true:=by
 unfold Zgy;rw [Zij h,hn];rfl
theorem Zhw {L:List Zy_}{j:Nat} (h:j+1 < L.length) (hn:Zap L[j+1]=true):Zgy L (j+1)=Op.bytesLess L[j].toList L[j+1].toList:=by
 unfold Zgy;rw [Zij h,hn,Nat.add_sub_cancel,Zij (by omega)];simp
theorem Znn {L:List Zy_} (h:Zgy L 0=true):∀ i,i < 1->Zgy L i=true:=fun i hi=>by
 have e:i=0:=by omega
 subst e;exact h
theorem Zct (v:Value) (L:List Zy_) (w:World) (hv:Zaf w v L) :
 Calls prog 170 #[v] w fun e w'=>e=.returned (.bool (Zm8 L))/\Zw_ w w':=by
 rcases hv with ⟨a,cap,rfl,rfl⟩ | ⟨b,off,cap,rfl,hne,hm,hbw,hc,hsz⟩
 . go_enter func170,ntmps170
   go_wp2
   go_loop [3] (fun i=>i=.int .i64 0) (fun _=>0)
   case atStart=>rfl
   case round=>
    subst hrel;go_wp2;go_ret;exact⟨rfl,Below.refl _ _⟩
 . unfold maxLen at hm
   go_enter func170,ntmps170;go_wp2
   go_loopw [3] (fun i wr=>∃ k:Nat,i=.int .i64 k/\k<=L.length/\Zw_ w wr/\∀ i,i < k->Zgy L i=true) (fun i _=>L.length - (intOf i).toNat)
   case atStart=>exact⟨0,rfl,by omega,Below.refl _ _,fun i h=>by omega⟩
   case round=>
    obtain⟨k,rfl,hk,hb,hall⟩:=hrel;have HA:=Zab hall;clear hall
    by_cases hlt:k < L.length
    . have hck:wr.cell? ⟨b,off+k,none⟩=some (.string L[k]):=by rw [hb.cell (p:=⟨b,_,none⟩) hbw];exact hc k hlt
      have hskk:=hsz L[k] (List.getElem_mem hlt)
      by_cases hn:Zap L[k]=true
      . cases k with
        | zero=>
         have HX:=Zab (Zhx hlt hn);have hck0:wr.cell? ⟨b,off,none⟩=some (.string L[0]):=by simpa using hck
         clear hck;go_wp2
         go_quiet ((go_at_call 132;exact Calls.quiet_of_same (Zae _ _ hskk)))
         go_wp2;go_roundw
         . exact⟨1,by go_num,by omega,below_drewN hb _,Znn HX.o⟩
         . simp [intOf];omega
        | succ j=>
         have HX:=Zab (Zhw hlt hn);have hcj:wr.cell? ⟨b,off+j,none⟩=some (.string L[j]):=by rw [hb.cell (p:=⟨b,_,none⟩) hbw];exact hc j (by omega)
         by_cases hls:Op.bytesLess L[j].toList L[j+1].toList=true
         . go_wp2
           go_quiet ((go_at_call 132;exact Calls.quiet_of_same (Zae _ _ hskk)))
           go_wp2;go_roundw
           case rel=>exact⟨j+2,by go_num,by omega,below_drewN hb _,fun i hi=>by
                      by_cases e:i=j+1
                      . subst e;rw [HX.o];exact hls
                      . exact HA.o i (by omega)⟩
           . simp [intOf];omega
         . have hls':Op.bytesLess L[j].toList L[j+1].toList=false:=by simpa using hls
           clear hls;go_wp2
           go_quiet ((go_at_call 132;exact Calls.quiet_of_same (Zae _ _ hskk)))
           go_wp2;go_ret;exact⟨Zaa (ZaV hlt (by rw [HX.o];exact hls')).symm,below_drewN hb _⟩
      . have hn':Zap L[k]=false:=by simpa using hn
        have HX:=Zab (Zhv hlt hn');go_wp2
        go_quiet ((go_at_call 132;exact Calls.quiet_of_same (Zae _ _ hskk)))
        go_wp2;go_ret;exact⟨Zaa (ZaV hlt HX.o).symm,below_drewN hb _⟩
    . go_wp2
      go_ret;exact⟨Zaa (ZaY (fun i hi=>HA.o i (by omega))).symm,hb⟩
theorem ZfU (v:Value) (L:List Zy_) (w:World) (hv:Zaf w v L) :
 Calls prog 298 #[v] w fun e w'=>e=.returned (.bool (Zm8 L))/\w'=w:=by
 rcases hv with ⟨a,cap,rfl,rfl⟩ | ⟨b,off,cap,rfl,hne,hm,hbw,hc,hsz⟩
 . go_enter func298,ntmps298
   go_wp2
   go_loop [7] (fun i=>i=.int .i64 0) (fun _=>0)
   case atStart=>rfl
   case round=>
    subst hrel;go_wp2;go_ret;exact⟨rfl,rfl⟩
 . unfold maxLen at hm
   go_enter func298,ntmps298;go_wp2
   go_loop [7] (fun i=>∃ k:Nat,i=.int .i64 k/\k<=L.length/\∀ i,i < k->Zgy L i=true) (fun i=>L.length - (intOf i).toNat)
   case atStart=>exact⟨0,rfl,by omega,fun i h=>by omega⟩
   case round=>
    obtain⟨k,rfl,hk,hall⟩:=hrel;have HA:=Zab hall;clear hall
    by_cases hlt:k < L.length
    . have hck:=hc k hlt
      have HSK:=Zab (hsz L[k] (List.getElem_mem hlt))
      by_cases hn:Zap L[k]=true
      . cases k with
        | zero=>
         have HX:=Zab (Zhx hlt hn);have hck0:w.cell? ⟨b,off,none⟩=some (.string L[0]):=by simpa using hck
         clear hck;go_wp2_with fail;refine (Zan _ _ HSK.o).mono ?_;rintro e w1 ⟨rfl,rfl⟩;go_wp2
         go_round
         . exact⟨1,by go_num,by omega,Znn HX.o⟩
         . simp [intOf];omega
        | succ j=>
         have HX:=Zab (Zhw hlt hn);have hcj:=hc j (by omega)
         by_cases hls:Op.bytesLess L[j].toList L[j+1].toList=true
         . go_wp2_with fail
           refine (Zan _ _ HSK.o).mono ?_;rintro e w1 ⟨rfl,rfl⟩;go_wp2
           go_round
           case rel=>exact⟨j+2,by go_num,by omega,fun i hi=>by
                      by_cases e:i=j+1
                      . subst e;rw [HX.o];exact hls
                      . exact HA.o i (by omega)⟩
           . simp [intOf];omega
         . have hls':Op.bytesLess L[j].toList L[j+1].toList=false:=by simpa using hls
           clear hls;go_wp2_with fail;refine (Zan _ _ HSK.o).mono ?_;rintro e w1 ⟨rfl,rfl⟩;go_wp2;go_ret;exact⟨Zaa (ZaV hlt (by rw [HX.o];exact hls')).symm,rfl⟩
      . have hn':Zap L[k]=false:=by simpa using hn
        have HX:=Zab (Zhv hlt hn');go_wp2_with fail;refine (Zan _ _ HSK.o).mono ?_;rintro e w1 ⟨rfl,rfl⟩;go_wp2;go_ret;exact⟨Zaa (ZaV hlt HX.o).symm,rfl⟩
    . go_wp2
      go_ret;exact⟨Zaa (ZaY (fun i hi=>HA.o i (by omega))).symm,rfl⟩
end
section
variable {Ss:List Sh}
theorem ZcP (w:World) (p q:Addr) (u:Value) (h:p≠q):(w.setCell p u).cell? q=w.cell? q:=by
 apply World.cell?_setCell_other;exact h
theorem Zb2 (w:World) (p:Addr) (u v:Value) (h:w.cell? p=some v):(w.setCell p u).cell? p=some u:=by
 apply World.cell?_setCell_same;exact h
def Zca (Ss:List Sh) (s:Zy_):Option Sh:=Ss.find? fun x=>x.kind.toList == s.toList
def Zk0 (Ss:List Sh) (s:Zy_):Bool:=(Zca Ss s).isSome
theorem Zfp {s:Zy_}{k:Nat} (hk:k < Ss.length) (h:(Ss[k].kind.toList == s.toList)=true) (hall:∀ i (h:i < Ss.length),i < k->(Ss[i].kind.toList == s.toList)=false):Zca Ss s=some Ss[k]:=by
 unfold Zca;rw [List.find?_eq_some_iff_getElem];exact⟨h,k,hk,rfl,fun j hj=>by simp [hall j (by omega) hj]⟩
theorem Zfo {s:Zy_} (hall:∀ i (h:i < Ss.length),(Ss[i].kind.toList == s.toList)=false):Zca Ss s=none:=by
 unfold Zca;rw [List.find?_eq_none];intro x hx;obtain⟨i,hi,rfl⟩:=List.getElem_of_mem hx;simp [hall i hi]
theorem Zjf {s:Zy_}{x:Sh} (h:Zca Ss s=some x):Zk0 Ss s=true:=by unfold Zk0;rw [h];rfl
theorem Zje {s:Zy_} (h:Zca Ss s=none):Zk0 Ss s=false:=by unfold Zk0;rw [h];rfl
theorem ZgS (lo:Nat) (v:Value) (Ss:List Sh) (s:Zy_) (w:World) (hv:ZaH lo w v Ss) :
 Calls prog 162 #[v,.string s] w fun e w'=>∃ r:Int,e=.returned (.int .i64 r)/\w'=w/\decide (0<=r)=Zk0 Ss s:=by
 by_cases hL:Ss=[]
 . subst hL
   obtain⟨a,cap,rfl⟩:=hv.form;clear hv;go_enter func162,ntmps162;go_wp2
   go_loop [5] (fun i=>i=.int .i64 0) (fun _=>0)
   case atStart=>rfl
   case round=>
    subst hrel;go_wp2;go_ret;exact⟨-1,rfl,rfl,rfl⟩
 . obtain⟨b,off,cap,rfl,hm,hbw,hc⟩:=hv.full hL
   clear hv;unfold maxLen at hm;go_enter func162,ntmps162;go_wp2
   go_loop [5] (fun i=>∃ k:Nat,i=.int .i64 k/\k<=Ss.length/\∀ i (h:i < Ss.length),i < k->(Ss[i].kind.toList == s.toList)=false) (fun i=>Ss.length - (intOf i).toNat)
   case atStart=>exact⟨0,rfl,by omega,fun i _ h=>by omega⟩
   case round=>
    obtain⟨k,rfl,hk,hall⟩:=hrel;have HA:=Zab hall;clear hall
    by_cases hlt:k < Ss.length
    . obtain⟨_,fv,hck,_,_⟩:=hc k hlt
      by_cases he:(Ss[k].kind.toList == s.toList)=true
      . go_wp2
        go_ret;exact⟨k,rfl,rfl,by rw [Zjf (Zfp hlt he HA.o)];simp⟩
      . have he':(Ss[k].kind.toList == s.toList)=false:=by simpa using he
        clear he;go_wp2
        go_round
        case rel=>exact⟨k+1,by go_num,by omega,fun i h h'=>by
                   by_cases e:i=k
                   . subst e;exact he'
                   . exact HA.o i h (by omega)⟩
        . simp [intOf];omega
    . go_wp2
      go_ret;exact⟨-1,rfl,rfl,by rw [Zje (Zfo fun i h=>HA.o i h (by omega))];rfl⟩
def Zne (lo:Nat) (Ss:List Sh) (s:Zy_) (e:Ending) (w':World):Prop:=
 (∃ x fv,Zca Ss s=some x/\e=.returned (.tuple #[.agg #[.string x.kind,fv],.bool true])/\Zau lo w' fv x.fields)\/
 (Zca Ss s=none/\e=.returned (.tuple #[.agg #[.string ⟨#[]⟩,.slice none 0 0],.bool false]))
theorem ZkI (lo:Nat) (v:Value) (Ss:List Sh) (s:Zy_) (w:World) (hv:ZaH lo w v Ss) :
 Calls prog 189 #[v,.string s] w fun e w'=>Zw_ w w'/\Zne lo Ss s e w':=by
 by_cases hL:Ss=[]
 . subst hL
   obtain⟨a,cap,rfl⟩:=hv.form;clear hv;go_enter func189,ntmps189;go_wp2
   go_loop [10] (fun i=>i=.int .i64 0) (fun _=>0)
   case atStart=>rfl
   case round=>
    subst hrel;go_wp2;refine bodyPost_ret (v:=.tuple #[.agg #[.string ⟨#[]⟩,.slice none 0 0],.bool false]) (by simp [results,results189,go_sem]) rfl ⟨?_,Or.inr ⟨rfl,rfl⟩⟩;exact Zb_.alloc Zl_ _
 . obtain⟨b,off,cap,rfl,hm,hbw,hc⟩:=hv.full hL
   clear hv;unfold maxLen at hm;have hA:∀ (o:Obj) (wr:World),Below (w.heap.size+1) (w.alloc o) wr->Zw_ w wr:=fun o wr h=>(Zb_.alloc Zl_ o).trans (h.mono (by omega))
   go_enter func189,ntmps189;go_wp2
   go_loopw [10] (fun i wr=>∃ k:Nat,i=.int .i64 k/\k<=Ss.length/\Below (w.heap.size+1) (w.alloc (.cells #[.string ⟨#[]⟩,.slice none 0 0] 131)) wr/\∀ i (h:i < Ss.length),i < k->(Ss[i].kind.toList == s.toList)=false) (fun i _=>Ss.length - (intOf i).toNat)
   case atStart=>exact⟨0,rfl,by omega,Below.refl _ _,fun i _ h=>by omega⟩
   case round=>
    obtain⟨k,rfl,hk,hb,hall⟩:=hrel;have HA:=Zab hall;clear hall;have hz:w.heap.size < wr.heap.size:=by have:=hb.size;simp at this;omega
    have hB:Hd (Zw_ w wr):=hA _ _ hb;have q0:wr.cell? ⟨w.heap.size,0,none⟩=some (.string ⟨#[]⟩):=by rw [hb.cell (p:=⟨w.heap.size,_,none⟩) (by simp)];simp
    have q1:wr.cell? ⟨w.heap.size,1,none⟩=some (.slice none 0 0):=by rw [hb.cell (p:=⟨w.heap.size,_,none⟩) (by simp)];simp
    have qf:∀ o,wr.frozen? ⟨w.heap.size,o,none⟩=false:=fun o=>by rw [hb.frozen (p:=⟨w.heap.size,_,none⟩) (by simp)];simp
    have HBB:=Zab hb;clear hb
    by_cases hlt:k < Ss.length
    . obtain⟨_,fv,c0,c1,hst⟩:=hc k hlt
      have e0:wr.cell? ⟨b,off+k*2,none⟩=some (.string Ss[k].kind):=by rw [hB.o.cell (p:=⟨b,_,none⟩) hbw];exact c0
      have e1:wr.cell? ⟨b,off+k*2+1,none⟩=some fv:=by rw [hB.o.cell (p:=⟨b,_,none⟩) hbw];exact c1
      obtain⟨a1,cap1,rfl⟩:=hst.form;have HST:=Zab hst;clear c0 c1 hst
      by_cases he:(Ss[k].kind.toList == s.toList)=true
      . go_wp2
        have HF:Zw_ w (((wr.setCell ⟨w.heap.size,0,none⟩ (.string Ss[k].kind)).setCell ⟨w.heap.size,1,none⟩ (.slice a1 Ss[k].fields.length cap1)).alloc (.cells #[.string Ss[k].kind,.slice a1 Ss[k].fields.length cap1] 131)):=
         ((hB.o.setCell Zl_ _).setCell Zl_ _).alloc (by simp [World.setCell];omega) _
        have hold:∀ (X:World) (o:Obj) (j:Nat),w.heap.size < X.heap.size->(X.alloc o).cell? ⟨w.heap.size,j,none⟩=X.cell? ⟨w.heap.size,j,none⟩:=fun X o j h=>((Below.refl X.heap.size X).alloc Zl_ o).cell (p:=⟨w.heap.size,j,none⟩) h
        have f0:(((wr.setCell ⟨w.heap.size,0,none⟩ (.string Ss[k].kind)).setCell ⟨w.heap.size,1,none⟩ (.slice a1 Ss[k].fields.length cap1)).alloc (.cells #[.string Ss[k].kind,.slice a1 Ss[k].fields.length cap1] 131)).cell? ⟨w.heap.size,0,none⟩=some (.string Ss[k].kind):=by
         rw [hold _ _ _ (by simpa [World.setCell] using hz),ZcP _ _ _ _ (by simp),Zb2 _ _ _ _ q0]
        have f1:(((wr.setCell ⟨w.heap.size,0,none⟩ (.string Ss[k].kind)).setCell ⟨w.heap.size,1,none⟩ (.slice a1 Ss[k].fields.length cap1)).alloc (.cells #[.string Ss[k].kind,.slice a1 Ss[k].fields.length cap1] 131)).cell? ⟨w.heap.size,1,none⟩=some (.slice a1 Ss[k].fields.length cap1):=by
         rw [hold _ _ _ (by simpa [World.setCell] using hz),Zb2 _ _ _ _ (by rw [ZcP _ _ _ _ (by simp)];exact q1)]
        exact bodyPost_ret (v:=.tuple #[.agg #[.string Ss[k].kind,.slice a1 Ss[k].fields.length cap1],.bool true]) (by simp [results,results189,go_sem,f0,f1]) rfl ⟨HF,Or.inl ⟨Ss[k],_,Zfp hlt he HA.o,rfl,HST.o.below HF⟩⟩
      . have he':(Ss[k].kind.toList == s.toList)=false:=by simpa using he
        clear he;go_wp2;go_roundw
        case rel=>exact⟨k+1,by go_num,by omega,HBB.o.alloc (by omega) _,fun i h h'=>by
                   by_cases e:i=k
                   . subst e;exact he'
                   . exact HA.o i h (by omega)⟩
        . simp [intOf];omega
    . go_wp2
      refine bodyPost_ret (v:=.tuple #[.agg #[.string ⟨#[]⟩,.slice none 0 0],.bool false]) (by simp [results,results189,go_sem,q0,q1]) rfl ⟨?_,Or.inr ⟨Zfo fun i h=>HA.o i h (by omega),rfl⟩⟩;exact (hB.o.setCell Zl_ _).setCell Zl_ _
end
section
def ZbS (le mo:Int) (n:Nat) (to:Zy_) (ro:Int) (we:Zy_):Bool:=(le == 0)&&(mo == 0)&&((n:Int) == 0)&&to.toList.isEmpty&&(ro == 0)&&we.toList.isEmpty
def Zai (s:Zy_):Bool:=s.toList.isEmpty || Zap s
theorem Zbz (s:Zy_) (w:World) (hs:s.size<=maxLen) :
 Calls prog 216 #[.string s] w fun e w'=>e=.returned (.bool (Zai s))/\w'=w:=by
 have hk:=Zan s w hs
 cases he:s.toList.isEmpty with
 | true=>
  go_enter func216,ntmps216;go_wp2;go_ret;exact⟨Zaa (by simp [Zai,he]),rfl⟩
 | false=>
  go_enter func216,ntmps216;go_wp2_with fail;refine hk.mono ?_;rintro e w1 ⟨rfl,rfl⟩;go_wp2;go_ret;exact⟨Zaa (by simp [Zai,he]),rfl⟩
section
variable (nm to df we:Zy_) (le mo ro:Int) (mu fx:Bool) (a:Option Addr) (n cap:Nat) (w:World)
theorem Zeu (kd:Int) :
 Calls prog 282 #[.agg #[.string nm,.int .i64 kd,.int .i64 le,.int .i64 mo,.slice a n cap,.string to,.int .i64 ro,.bool mu,.bool fx,.string df,.string we]] w fun e w'=>e=.returned (.bool (ZbS le mo n to ro we))/\Zw_ w w':=by
 cases hle:(le == 0) with
 | false=>
  have gle:(le != 0)=true:=by simp [bne,hle]
  go_enter func282,ntmps282;go_wp2;go_ret;exact⟨Zaa (by simp [ZbS,hle]),Zb_.alloc Zl_ _⟩
 | true=>
  have gle:(le != 0)=false:=by simp [bne,hle]
  cases hmo:(mo == 0) with
  | false=>
   have gmo:(mo != 0)=true:=by simp [bne,hmo]
   go_enter func282,ntmps282;go_wp2;go_ret;exact⟨Zaa (by simp [ZbS,hle,hmo]),Zb_.alloc Zl_ _⟩
  | true=>
   have gmo:(mo != 0)=false:=by simp [bne,hmo]
   cases hn:((n:Int) == 0) with
   | false=>
    have gn:(0:Int) < n:=by simp at hn;omega
    go_enter func282,ntmps282;go_wp2;go_ret;exact⟨Zaa (by simp [ZbS,hle,hmo,hn]),Zb_.alloc Zl_ _⟩
   | true=>
    have gn:¬ (0:Int) < n:=by simp at hn;omega
    cases hto:to.toList.isEmpty with
    | false=>
     go_enter func282,ntmps282;go_wp2;go_ret;exact⟨Zaa (by simp [ZbS,hle,hmo,hn,hto]),Zb_.alloc Zl_ _⟩
    | true=>
     cases hro:(ro == 0) with
     | false=>
      have gro:(ro != 0)=true:=by simp [bne,hro]
      go_enter func282,ntmps282;go_wp2;go_ret;exact⟨Zaa (by simp [ZbS,hle,hmo,hn,hto,hro]),Zb_.alloc Zl_ _⟩
     | true=>
      have gro:(ro != 0)=false:=by simp [bne,hro]
      cases hwe:we.toList.isEmpty with
      | false=>
       go_enter func282,ntmps282;go_wp2;go_ret;exact⟨Zaa (by simp [ZbS,hle,hmo,hn,hto,hro,hwe]),Zb_.alloc Zl_ _⟩
      | true=>
       go_enter func282,ntmps282;go_wp2;go_ret;exact⟨Zaa (by simp [ZbS,hle,hmo,hn,hto,hro,hwe]),Zb_.alloc Zl_ _⟩
theorem ZoP (kd:Int) :
 Calls prog 317 #[.agg #[.int .i64 le,.int .i64 mo,.string we],.agg #[.string nm,.int .i64 kd,.int .i64 le,.int .i64 mo,.slice a n cap,.string to,.int .i64 ro,.bool mu,.bool fx,.string df,.string we]] w fun e w'=>e=.returned (.agg #[.string nm,.int .i64 kd,.int .i64 0,.int .i64 0,.slice a n cap,.string to,.int .i64 ro,.bool mu,.bool fx,.string df,.string ⟨#[]⟩])/\Zw_ w w':=by
 go_enter func317,ntmps317;go_wp2;refine bodyPost_ret (v:=.agg #[.string nm,.int .i64 kd,.int .i64 0,.int .i64 0,.slice a n cap,.string to,.int .i64 ro,.bool mu,.bool fx,.string df,.string ⟨#[]⟩]) (by simp [results,results317,go_sem]) rfl ⟨rfl,?_⟩
 repeat (first | exact Below.refl _ _ | refine Below.alloc ?_ (by simp;try omega) _ | refine Below.setCell ?_ (by simp only [];omega) _)
theorem ZoQ (kd:Int) :
 Calls prog 320 #[.agg #[.slice a n cap],.agg #[.string nm,.int .i64 kd,.int .i64 le,.int .i64 mo,.slice a n cap,.string to,.int .i64 ro,.bool mu,.bool fx,.string df,.string we]] w fun e w'=>e=.returned (.agg #[.string nm,.int .i64 kd,.int .i64 le,.int .i64 mo,.slice none 0 0,.string to,.int .i64 ro,.bool mu,.bool fx,.string df,.string we])/\Zw_ w w':=by
 go_enter func320,ntmps320;go_wp2;refine bodyPost_ret (v:=.agg #[.string nm,.int .i64 kd,.int .i64 le,.int .i64 mo,.slice none 0 0,.string to,.int .i64 ro,.bool mu,.bool fx,.string df,.string we]) (by simp [results,results320,go_sem]) rfl ⟨rfl,?_⟩
 repeat (first | exact Below.refl _ _ | refine Below.alloc ?_ (by simp;try omega) _ | refine Below.setCell ?_ (by simp only [];omega) _)
theorem ZoR (kd:Int) :
 Calls prog 323 #[.agg #[.int .i64 le,.int .i64 mo],.agg #[.string nm,.int .i64 kd,.int .i64 le,.int .i64 mo,.slice a n cap,.string to,.int .i64 ro,.bool mu,.bool fx,.string df,.string we]] w fun e w'=>e=.returned (.agg #[.string nm,.int .i64 kd,.int .i64 0,.int .i64 0,.slice a n cap,.string to,.int .i64 ro,.bool mu,.bool fx,.string df,.string we])/\Zw_ w w':=by
 go_enter func323,ntmps323;go_wp2;refine bodyPost_ret (v:=.agg #[.string nm,.int .i64 kd,.int .i64 0,.int .i64 0,.slice a n cap,.string to,.int .i64 ro,.bool mu,.bool fx,.string df,.string we]) (by simp [results,results323,go_sem]) rfl ⟨rfl,?_⟩
 repeat (first | exact Below.refl _ _ | refine Below.alloc ?_ (by simp;try omega) _ | refine Below.setCell ?_ (by simp only [];omega) _)
theorem Zm4 (kd:Int) :
 Calls prog 326 #[.agg #[.string to,.int .i64 ro,.bool mu,.string df],.agg #[.string nm,.int .i64 kd,.int .i64 le,.int .i64 mo,.slice a n cap,.string to,.int .i64 ro,.bool mu,.bool fx,.string df,.string we]] w fun e w'=>e=.returned (.agg #[.string nm,.int .i64 kd,.int .i64 le,.int .i64 mo,.slice a n cap,.string ⟨#[]⟩,.int .i64 0,.bool mu,.bool fx,.string df,.string we])/\Zw_ w w':=by
 go_enter func326,ntmps326;go_wp2;refine bodyPost_ret (v:=.agg #[.string nm,.int .i64 kd,.int .i64 le,.int .i64 mo,.slice a n cap,.string ⟨#[]⟩,.int .i64 0,.bool mu,.bool fx,.string df,.string we]) (by simp [results,results326,go_sem]) rfl ⟨rfl,?_⟩
 repeat (first | exact Below.refl _ _ | refine Below.alloc ?_ (by simp;try omega) _ | refine Below.setCell ?_ (by simp only [];omega) _)
def Ze8 (n:Nat) (to:Zy_) (ro:Int):Bool:=((n:Int) == 0)&&to.toList.isEmpty&&(ro == 0)
def Zez (le mo:Int) (to:Zy_) (ro:Int) (we:Zy_):Bool:=(le == 0)&&(mo == 0)&&we.toList.isEmpty&&to.toList.isEmpty&&(ro == 0)
def ZeN (n:Nat) (to:Zy_) (ro:Int) (we:Zy_):Bool:=we.toList.isEmpty&&((n:Int) == 0)&&to.toList.isEmpty&&(ro == 0)
def ZeO (le mo:Int) (n:Nat) (we:Zy_):Bool:=(le == 0)&&(mo == 0)&&we.toList.isEmpty&&((n:Int) == 0)
theorem ZqE :
 Calls prog 231 #[.agg #[.string nm,.int .i64 1,.int .i64 le,.int .i64 mo,.slice a n cap,.string to,.int .i64 ro,.bool mu,.bool fx,.string df,.string we]] w fun e w'=>e=.returned (.bool (Ze8 n to ro))/\Zw_ w w':=by
 cases hn:((n:Int) == 0) with
 | false=>
  have gn:(0:Int) < n:=by simp at hn;omega
  go_enter func231,ntmps231;go_wp2;go_ret;exact⟨Zaa (by simp [Ze8,hn]),Zb_.alloc Zl_ _⟩
 | true=>
  have gn:¬ (0:Int) < n:=by simp at hn;omega
  cases hto:to.toList.isEmpty with
  | false=>
   go_enter func231,ntmps231;go_wp2;go_ret;exact⟨Zaa (by simp [Ze8,hn,hto]),Zb_.alloc Zl_ _⟩
  | true=>
   cases hro:(ro == 0) with
   | false=>
    have gro:(ro != 0)=true:=by simp [bne,hro]
    go_enter func231,ntmps231;go_wp2;go_ret;exact⟨Zaa (by simp [Ze8,hn,hto,hro]),Zb_.alloc Zl_ _⟩
   | true=>
    have gro:(ro != 0)=false:=by simp [bne,hro]
    go_enter func231,ntmps231;go_wp2;go_ret;exact⟨Zaa (by simp [Ze8,hn,hto,hro]),Zb_.alloc Zl_ _⟩
theorem ZqF :
 Calls prog 231 #[.agg #[.string nm,.int .i64 2,.int .i64 le,.int .i64 mo,.slice a n cap,.string to,.int .i64 ro,.bool mu,.bool fx,.string df,.string we]] w fun e w'=>e=.returned (.bool (Zez le mo to ro we))/\Zw_ w w':=by
 cases hle:(le == 0) with
 | false=>
  have gle:(le != 0)=true:=by simp [bne,hle]
  go_enter func231,ntmps231;go_wp2;go_ret;exact⟨Zaa (by simp [Zez,hle]),Zb_.alloc Zl_ _⟩
 | true=>
  have gle:(le != 0)=false:=by simp [bne,hle]
  cases hmo:(mo == 0) with
  | false=>
   have gmo:(mo != 0)=true:=by simp [bne,hmo]
   go_enter func231,ntmps231;go_wp2;go_ret;exact⟨Zaa (by simp [Zez,hle,hmo]),Zb_.alloc Zl_ _⟩
  | true=>
   have gmo:(mo != 0)=false:=by simp [bne,hmo]
   cases hwe:we.toList.isEmpty with
   | false=>
    go_enter func231,ntmps231;go_wp2;go_ret;exact⟨Zaa (by simp [Zez,hle,hmo,hwe]),Zb_.alloc Zl_ _⟩
   | true=>
    cases hto:to.toList.isEmpty with
    | false=>
     go_enter func231,ntmps231;go_wp2;go_ret;exact⟨Zaa (by simp [Zez,hle,hmo,hwe,hto]),Zb_.alloc Zl_ _⟩
    | true=>
     cases hro:(ro == 0) with
     | false=>
      have gro:(ro != 0)=true:=by simp [bne,hro]
      go_enter func231,ntmps231;go_wp2;go_ret;exact⟨Zaa (by simp [Zez,hle,hmo,hwe,hto,hro]),Zb_.alloc Zl_ _⟩
     | true=>
      have gro:(ro != 0)=false:=by simp [bne,hro]
      go_enter func231,ntmps231;go_wp2;go_ret;exact⟨Zaa (by simp [Zez,hle,hmo,hwe,hto,hro]),Zb_.alloc Zl_ _⟩
theorem ZqG :
 Calls prog 231 #[.agg #[.string nm,.int .i64 3,.int .i64 le,.int .i64 mo,.slice a n cap,.string to,.int .i64 ro,.bool mu,.bool fx,.string df,.string we]] w fun e w'=>e=.returned (.bool (ZeN n to ro we))/\Zw_ w w':=by
 cases hwe:we.toList.isEmpty with
 | false=>
  go_enter func231,ntmps231;go_wp2;go_ret;exact⟨Zaa (by simp [ZeN,hwe]),Zb_.alloc Zl_ _⟩
 | true=>
  cases hn:((n:Int) == 0) with
  | false=>
   have gn:(0:Int) < n:=by simp at hn;omega
   go_enter func231,ntmps231;go_wp2;go_ret;exact⟨Zaa (by simp [ZeN,hwe,hn]),Zb_.alloc Zl_ _⟩
  | true=>
   have gn:¬ (0:Int) < n:=by simp at hn;omega
   cases hto:to.toList.isEmpty with
   | false=>
    go_enter func231,ntmps231;go_wp2;go_ret;exact⟨Zaa (by simp [ZeN,hwe,hn,hto]),Zb_.alloc Zl_ _⟩
   | true=>
    cases hro:(ro == 0) with
    | false=>
     have gro:(ro != 0)=true:=by simp [bne,hro]
     go_enter func231,ntmps231;go_wp2;go_ret;exact⟨Zaa (by simp [ZeN,hwe,hn,hto,hro]),Zb_.alloc Zl_ _⟩
    | true=>
     have gro:(ro != 0)=false:=by simp [bne,hro]
     go_enter func231,ntmps231;go_wp2;go_ret;exact⟨Zaa (by simp [ZeN,hwe,hn,hto,hro]),Zb_.alloc Zl_ _⟩
theorem ZqH :
 Calls prog 231 #[.agg #[.string nm,.int .i64 4,.int .i64 le,.int .i64 mo,.slice a n cap,.string to,.int .i64 ro,.bool mu,.bool fx,.string df,.string we]] w fun e w'=>e=.returned (.bool (ZeO le mo n we))/\Zw_ w w':=by
 cases hle:(le == 0) with
 | false=>
  have gle:(le != 0)=true:=by simp [bne,hle]
  go_enter func231,ntmps231;go_wp2;go_ret;exact⟨Zaa (by simp [ZeO,hle]),Zb_.alloc Zl_ _⟩
 | true=>
  have gle:(le != 0)=false:=by simp [bne,hle]
  cases hmo:(mo == 0) with
  | false=>
   have gmo:(mo != 0)=true:=by simp [bne,hmo]
   go_enter func231,ntmps231;go_wp2;go_ret;exact⟨Zaa (by simp [ZeO,hle,hmo]),Zb_.alloc Zl_ _⟩
  | true=>
   have gmo:(mo != 0)=false:=by simp [bne,hmo]
   cases hwe:we.toList.isEmpty with
   | false=>
    go_enter func231,ntmps231;go_wp2;go_ret;exact⟨Zaa (by simp [ZeO,hle,hmo,hwe]),Zb_.alloc Zl_ _⟩
   | true=>
    cases hn:((n:Int) == 0) with
    | false=>
     have gn:(0:Int) < n:=by simp at hn;omega
     go_enter func231,ntmps231;go_wp2;go_ret;exact⟨Zaa (by simp [ZeO,hle,hmo,hwe,hn]),Zb_.alloc Zl_ _⟩
    | true=>
     have gn:¬ (0:Int) < n:=by simp at hn;omega
     go_enter func231,ntmps231;go_wp2;go_ret;exact⟨Zaa (by simp [ZeO,hle,hmo,hwe,hn]),Zb_.alloc Zl_ _⟩
end
end
theorem ZaK (w u:World) (O:Array Value) (T:TypeId) (h:Below (w.heap.size+1) (w.alloc (.cells O T)) u) (i:Nat):u.cell? ⟨w.heap.size,i,none⟩=O[i]?:=by
 rw [h.cell (p:=⟨w.heap.size,i,none⟩) (by simp)];simp
def ZbX (le mo:Int) (we:Zy_):Bool:=decide (0<=le)&&decide (le<=mo)&&decide (mo<=1000000)&&Zai we
def ZdN (n:Nat) (L:List Zy_):Bool:=decide (1<=(n:Int))&&decide ((n:Int)<=6)&&Zm8 L
def ZcE (le mo:Int):Bool:=decide (1<=le)&&decide (le<=mo)&&decide (mo<=40)
def ZkF (ro:Int) (mu:Bool):Bool:=ro == 1 || ro == 3 || ro == 2&&!mu
def ZcX (Ss:List Sh) (to:Zy_) (ro:Int) (mu:Bool) (df:Zy_):Bool:=Zk0 Ss to&&df.toList.isEmpty&&ZkF ro mu
theorem un1 (n:Nat) (to:Zy_) (ro:Int):ZbS 0 0 n to ro ⟨#[]⟩=Ze8 n to ro:=by simp [ZbS,Ze8,ByteArray.toList_eq]
theorem un2 (le mo:Int) (to:Zy_) (ro:Int) (we:Zy_):ZbS le mo 0 to ro we=Zez le mo to ro we:=by
 simp only [ZbS,Zez];cases (le == 0) <;> cases (mo == 0) <;> cases to.toList.isEmpty <;> cases (ro == 0) <;> cases we.toList.isEmpty <;> rfl
theorem un3 (n:Nat) (to:Zy_) (ro:Int) (we:Zy_):ZbS 0 0 n to ro we=ZeN n to ro we:=by
 simp only [ZbS,ZeN];cases ((n:Int) == 0) <;> cases to.toList.isEmpty <;> cases (ro == 0) <;> cases we.toList.isEmpty <;> rfl
theorem un4 (le mo:Int) (n:Nat) (we:Zy_):ZbS le mo n ⟨#[]⟩ 0 we=ZeO le mo n we:=by
 simp only [ZbS,ZeO,ByteArray.toList_eq];cases (le == 0) <;> cases (mo == 0) <;> cases ((n:Int) == 0) <;> cases we.data.toList.isEmpty <;> rfl
section
variable (nm to df we:Zy_) (le mo ro:Int) (mu fx:Bool) (a:Option Addr) (n cap:Nat) (w:World)
theorem ZqD (kd:Int) (h1:kd≠1) (h2:kd≠2) (h3:kd≠3) (h4:kd≠4) :
 Calls prog 231 #[.agg #[.string nm,.int .i64 kd,.int .i64 le,.int .i64 mo,.slice a n cap,.string to,.int .i64 ro,.bool mu,.bool fx,.string df,.string we]] w fun e w'=>∃ b,e=.returned (.bool b)/\Zw_ w w':=by
 have b1:(kd == 1)=false:=beq_eq_false_iff_ne.2 h1;have b2:(kd == 2)=false:=beq_eq_false_iff_ne.2 h2;have b3:(kd == 3)=false:=beq_eq_false_iff_ne.2 h3;have b4:(kd == 4)=false:=beq_eq_false_iff_ne.2 h4;have c1:(kd != 1)=true:=by simp [bne,b1]
 have c2:(kd != 2)=true:=by simp [bne,b2]
 clear h1 h2 h3 h4;go_enter func231,ntmps231;go_wp2
 all_goals go_ret
 all_goals exact⟨_,rfl,Zb_.alloc Zl_ _⟩
theorem Zrh (lv:Value) (hs:we.size<=maxLen) :
 Calls prog 316 #[.agg #[.int .i64 le,.int .i64 mo,.string we],lv] w fun e w'=>e=.returned (.bool (ZbX le mo we))/\Zw_ w w':=by
 have HW:∀ o,Hd (Zw_ w (w.alloc o)):=fun o=>Zb_.alloc Zl_ _
 have hk:=fun u=>Zbz we u hs
 by_cases h1:0<=le
 . by_cases h2:le<=mo
   . by_cases h3:mo<=1000000
     . go_enter func316,ntmps316
       go_wp2_with fail;refine (hk _).mono ?_;rintro e w1 ⟨rfl,rfl⟩;go_wp2;go_ret;exact⟨Zaa (by simp [ZbX,h1,h2,h3]),(HW _).o⟩
     . go_enter func316,ntmps316
       go_wp2;go_ret;exact⟨Zaa (by rw [Bool.eq_iff_iff];simp [ZbX];omega),(HW _).o⟩
   . go_enter func316,ntmps316
     go_wp2;go_ret;exact⟨Zaa (by rw [Bool.eq_iff_iff];simp [ZbX];omega),(HW _).o⟩
 . go_enter func316,ntmps316
   go_wp2;go_ret;exact⟨Zaa (by rw [Bool.eq_iff_iff];simp [ZbX];omega),(HW _).o⟩
theorem Zri (lv:Value) (L:List Zy_) (hv:Zaf w (.slice a L.length cap) L) :
 Calls prog 319 #[.agg #[.slice a L.length cap],lv] w fun e w'=>e=.returned (.bool (ZdN L.length L))/\Zw_ w w':=by
 have HV:=Zab hv;clear hv;have HW:∀ o,Hd (Zw_ w (w.alloc o)):=fun o=>Zb_.alloc Zl_ _
 by_cases h1:(1:Int)<=L.length
 . by_cases h2:(L.length:Int)<=6
   . go_enter func319,ntmps319
     go_wp2_with fail;refine (ZfU _ L _ (HV.o.below (HW _).o)).mono ?_;rintro e w1 ⟨rfl,rfl⟩;go_wp2;go_ret;exact⟨Zaa (by simp [ZdN,h1,h2]),(HW _).o⟩
   . go_enter func319,ntmps319
     go_wp2;go_ret;exact⟨Zaa (by rw [Bool.eq_iff_iff];simp [ZdN];omega),(HW _).o⟩
 . go_enter func319,ntmps319
   go_wp2;go_ret;exact⟨Zaa (by rw [Bool.eq_iff_iff];simp [ZdN];omega),(HW _).o⟩
theorem Zrj (lv:Value) :
 Calls prog 322 #[.agg #[.int .i64 le,.int .i64 mo],lv] w fun e w'=>e=.returned (.bool (ZcE le mo))/\Zw_ w w':=by
 have HW:∀ o,Hd (Zw_ w (w.alloc o)):=fun o=>Zb_.alloc Zl_ _
 by_cases h1:1<=le
 . by_cases h2:le<=mo
   . go_enter func322,ntmps322
     go_wp2;go_ret;exact⟨Zaa (by simp [ZcE,h1,h2]),(HW _).o⟩
   . go_enter func322,ntmps322
     go_wp2;go_ret;exact⟨Zaa (by rw [Bool.eq_iff_iff];simp [ZcE];omega),(HW _).o⟩
 . go_enter func322,ntmps322
   go_wp2;go_ret;exact⟨Zaa (by rw [Bool.eq_iff_iff];simp [ZcE];omega),(HW _).o⟩
theorem Zrk (lo:Nat) (lv:Value) (Ss:List Sh) (hv:ZaH lo w lv Ss) :
 Calls prog 325 #[.agg #[.string to,.int .i64 ro,.bool mu,.string df],lv] w fun e w'=>e=.returned (.bool (ZcX Ss to ro mu df))/\Zw_ w w':=by
 have HV:=Zab hv;obtain⟨la,lcap,rfl⟩:=hv.form;clear hv;have HW:∀ o,Hd (Zw_ w (w.alloc o)):=fun o=>Zb_.alloc Zl_ _
 go_enter func325,ntmps325;go_wp2_with fail;refine (ZkI lo _ Ss _ _ (HV.o.below (HW _).o)).mono ?_;rintro e w1 ⟨hb1,hsh⟩;have hz:w.heap.size < w1.heap.size:=by have:=hb1.size;simp at this;omega
 have hbx:=fun i=>ZaK w w1 #[.string to,.int .i64 ro,.bool mu,.string df] 333 (by have:=hb1;simp at this;exact this) i
 have HB:Hd (Zw_ w w1):=(HW _).o.trans (hb1.mono (by simp));clear hb1
 rcases hsh with ⟨x,fv,hx,rfl,hfd⟩ | ⟨hx,rfl⟩
 . have HK:Hd (Zk0 Ss to=true):=Zjf hx
   obtain⟨fa,fcap,rfl⟩:=hfd.form;clear hfd hx
   cases hd:df.toList.isEmpty with
   | false=>
    go_wp2;go_ret;exact⟨Zaa (by simp [ZcX,hd]),HB.o.alloc (by omega) _⟩
   | true=>
    cases a1:(ro == 1) with
    | true=>
     go_wp2;go_ret;exact⟨Zaa (by simp [ZcX,ZkF,hd,HK.o,a1]),HB.o.alloc (by omega) _⟩
    | false=>
     cases a3:(ro == 3) with
     | true=>
      go_wp2;go_ret;exact⟨Zaa (by simp [ZcX,ZkF,hd,HK.o,a1,a3]),HB.o.alloc (by omega) _⟩
     | false=>
      cases a2:(ro == 2) with
      | true=>
       go_wp2;go_ret;exact⟨Zaa (by simp [ZcX,ZkF,hd,HK.o,a1,a3,a2]),HB.o.alloc (by omega) _⟩
      | false=>
       go_wp2;go_ret;exact⟨Zaa (by simp [ZcX,ZkF,hd,HK.o,a1,a3,a2]),HB.o.alloc (by omega) _⟩
 . have HK:Hd (Zk0 Ss to=false):=Zje hx
   clear hx;go_wp2;go_ret;exact⟨Zaa (by simp [ZcX,HK.o]),HB.o.alloc (by omega) _⟩
end
end Go.Proofs.YtmappejlmapboaaGreat
