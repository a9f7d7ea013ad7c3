import Derived.Test.YtdeammfdkaomlaaGreatM00
set_option maxHeartbeats 16000000
set_option maxRecDepth 100000
open Go.Proofs.Tryz
namespace Go.Proofs.YtdeammfdkaomlaaGreat
open Go.RowKit Go.Deep
section
variable {lo B k:Nat} {w wr:World} {v:Value} {Xl:List Int}
def ZeA (x:Int):Prop:=x=x
def ZaR (lo:Nat) (w:World) (v:Value) (Xl:List Int):Prop:=
 (∃ (a:Option Addr) (cap:Nat),v=.slice a 0 cap/\Xl=[])\/
 ∃ (b off cap:Nat),v=.slice (some ⟨b,off,none⟩) Xl.length cap/\Xl≠[]/\Xl.length<=maxLen/\b < w.heap.size/\lo<=b/\Xl.length<=cap/\
  ∀ i (h:i < Xl.length),ZeA Xl[i]/\w.cell? ⟨b,off+i,none⟩=some (.int .i64 Xl[i])
theorem ZaR.below {w':World} (h:ZaR lo w v Xl) (hb:Zw_ w w'):ZaR lo w' v Xl:=by
 rcases h with h | ⟨b,off,cap,h1,h2,h3,h4,h5,h6,h7⟩
 . exact Or.inl h
 . refine Or.inr ⟨b,off,cap,h1,h2,h3,Zk_ h4 hb.size,h5,h6,fun i hi=>⟨(h7 i hi).1,?_⟩⟩
   rw [hb.cell (p:=⟨b,_,none⟩) h4];exact (h7 i hi).2
theorem ZaR.mono {lo':Nat} (h:ZaR lo w v Xl) (hl:lo'<=lo):ZaR lo' w v Xl:=by
 rcases h with h | ⟨b,off,cap,h1,h2,h3,h4,h5,h6,h7⟩
 . exact Or.inl h
 . exact Or.inr ⟨b,off,cap,h1,h2,h3,h4,Nat.le_trans hl h5,h6,h7⟩
theorem ZaR.form (h:ZaR lo w v Xl):∃ a cap,v=.slice a Xl.length cap:=by
 rcases h with ⟨a,cap,h,rfl⟩ | ⟨b,off,cap,h,_⟩
 . exact⟨a,cap,h⟩
 . exact⟨_,cap,h⟩
theorem ZaR.max (h:ZaR lo w v Xl):Xl.length<=maxLen:=by
 rcases h with ⟨a,cap,h,rfl⟩ | ⟨b,off,cap,h,_,h3,_⟩
 . exact Nat.zero_le _
 . exact h3
theorem ZaR.full (h:ZaR lo w v Xl) (hne:Xl≠[]):∃ (b off cap:Nat),v=.slice (some ⟨b,off,none⟩) Xl.length cap/\Xl.length<=maxLen/\b < w.heap.size/\Xl.length<=cap/\
 ∀ i (h:i < Xl.length),ZeA Xl[i]/\w.cell? ⟨b,off+i,none⟩=some (.int .i64 Xl[i]):=by
 rcases h with ⟨_,_,_,h⟩ | ⟨b,off,cap,h1,_,h3,h4,_,h6,h7⟩
 . exact absurd h hne
 . exact⟨b,off,cap,h1,h3,h4,h6,h7⟩
theorem ZaR.full' {a:Option Addr}{n cap:Nat} (h:ZaR lo w (.slice a n cap) Xl) (hL:0 < Xl.length) :
 ∃ b off,a=some ⟨b,off,none⟩/\b < w.heap.size/\lo<=b/\∀ i (h:i < Xl.length),ZeA Xl[i]/\w.cell? ⟨b,off+i,none⟩=some (.int .i64 Xl[i]):=by
 rcases h with ⟨a',cap',h,rfl⟩ | ⟨b',off',cap',h1,h2,h3,h4,h5,h6,h7⟩
 . simp at hL
 . injection h1 with e1 e2 e3
   exact⟨b',off',e1,h4,h5,h7⟩
def ZaS (Xl:List Int):Prop:=Xl.length<=1048576
def Zk0 (Xl:List Int) (left r:Int):Prop:= -1<=r/\r<=left/\(0<=r->ZaS Xl)
theorem ZfE (lo:Nat) (v:Value) (Xl:List Int) (left:Int) (w:World) (h0:0<=left) (h1:left<=1048576) (hv:ZaR lo w v Xl) :
 Calls prog 50 #[v,.int .i64 left] w fun e w'=>∃ r:Int,e=.returned (.int .i64 r)/\Zw_ w w'/\Zk0 Xl left r:=by
 have hm:=hv.max;unfold maxLen at hm;obtain⟨a,cap,rfl⟩:=hv.form;clear hv
 by_cases hle:(Xl.length:Int)<=left
 . go_enter func50,ntmps50
   go_wp2;go_ret;exact⟨_,rfl,Below.refl _ _,by omega,by omega,fun _=>by unfold ZaS;omega⟩
 . go_enter func50,ntmps50
   go_wp2;go_ret;exact⟨-1,rfl,Below.refl _ _,by omega,by omega,fun h=>by omega⟩
theorem ZeC (lo lo':Nat) (v v':Value) (Xl:List Int) (w:World) (hv:ZaR lo w v Xl) (hv':ZaR lo' w v' Xl) :
 Calls prog 75 #[v,v'] w fun e w'=>e=.returned (.bool true)/\Zw_ w w':=by
 by_cases hL:Xl=[]
 . subst hL
   obtain⟨a,cap,rfl⟩:=hv.form;obtain⟨a',cap',rfl⟩:=hv'.form;clear hv hv';go_enter func75,ntmps75;go_wp2
   go_loop [5] (fun i=>i=.int .i64 0) (fun _=>0)
   case atStart=>rfl
   case round=>
    subst hrel;go_wp2;go_ret;exact⟨rfl,Below.refl _ _⟩
 . obtain⟨b,off,cap,rfl,hm,hbw,_,hc⟩:=hv.full hL
   obtain⟨b',off',cap',rfl,_,hbw',_,hc'⟩:=hv'.full hL;clear hv hv';unfold maxLen at hm;go_enter func75,ntmps75;go_wp2
   go_loopw [5] (fun i wr=>∃ k:Nat,i=.int .i64 k/\k<=Xl.length/\Zw_ w wr) (fun i _=>Xl.length - (intOf i).toNat)
   case atStart=>exact⟨0,rfl,by omega,Below.refl _ _⟩
   case round=>
    obtain⟨k,rfl,hk,hb⟩:=hrel
    by_cases hlt:k < Xl.length
    . have c0:wr.cell? ⟨b,off+k,none⟩=some (.int .i64 Xl[k]):=by rw [hb.cell (p:=⟨b,_,none⟩) hbw];exact (hc k hlt).2
      have d0:wr.cell? ⟨b',off'+k,none⟩=some (.int .i64 Xl[k]):=by rw [hb.cell (p:=⟨b',_,none⟩) hbw'];exact (hc' k hlt).2
      have HB:=Zaa hb;clear hb;go_wp2
      try go_quiet (fail)
      try go_wp2
      go_roundw
      . exact⟨k+1,by go_num,by omega,by first | exact HB.o | exact below_drewN HB.o _⟩
      . simp [intOf];omega
    . go_wp2
      go_ret;exact⟨rfl,hb⟩
theorem Tryz.infoRis:(prog.info? 3).map (fun i=>(i.zero,i.size,i.bytes))=some (some (.int .i64 0),1,8):=by kernel_rfl
def Zcc (wr:World) (B:Nat) (Xl:List Int) (k:Nat):Prop:=∃ f,wr.rowIs B 3 Xl.length f/\∀ i (h:i < Xl.length),i < k->ZeA Xl[i]/\f i=.int .i64 Xl[i]
theorem Zcc.step (h:Zcc wr B Xl k) (hk:k < Xl.length) (hz:ZeA Xl[k]):Zcc (wr.setCell ⟨B,k,none⟩ (.int .i64 Xl[k])) B Xl (k+1):=by
 obtain⟨f,hr,hall⟩:=h;refine⟨_,hr.set _ _,fun i hi hik=>?_⟩
 by_cases e:i=k
 . subst e
   exact⟨hz,by simp⟩
 . obtain⟨hz',h0⟩:=hall i hi (by omega)
   exact⟨hz',by rw [if_neg e];exact h0⟩
theorem Zcc.there (h:Zcc wr B Xl k) (i:Nat) (hi:i < Xl.length):∃ v,wr.cell? ⟨B,i,none⟩=some v:=by
 obtain⟨f,hr,_⟩:=h;exact⟨_,hr.cell hi⟩
theorem Zcc.free (h:Zcc wr B Xl k) (i:Nat):wr.frozen? ⟨B,i,none⟩=false:=by
 obtain⟨f,hr,_⟩:=h;exact hr.frozen i
end
section
variable {lo lo':Nat} {w w':World} {v0:Value} {cs:List Value}
structure Ra where
 ix:Int
 fr:List Int
variable {U:Ra}
def Zcn (U:Ra):Prop:=ZaS U.fr
structure Zj3 (lo:Nat) (w:World) (v0:Value) (U:Ra):Prop where
 l0:ZaR lo w v0 U.fr
theorem Zj3.below (h:Zj3 lo w v0 U) (hb:Zw_ w w'):Zj3 lo w' v0 U:=⟨h.l0.below hb⟩
theorem Zj3.mono (h:Zj3 lo w v0 U) (hl:lo'<=lo):Zj3 lo' w v0 U:=⟨h.l0.mono hl⟩
def raL (U:Ra) (a0:Option Addr) (k0:Nat):List Value:=[.int .i64 U.ix,.slice a0 U.fr.length k0]
def RaC (lo:Nat) (w:World) (cs:List Value) (U:Ra):Prop:=∃ a0 k0,cs=raL U a0 k0/\Zj3 lo w (.slice a0 U.fr.length k0) U
theorem RaC.below (h:RaC lo w cs U) (hb:Zw_ w w'):RaC lo w' cs U:=by
 obtain⟨a0,k0,h1,h2⟩:=h;exact⟨a0,k0,h1,h2.below hb⟩
theorem RaC.mono (h:RaC lo w cs U) (hl:lo'<=lo):RaC lo' w cs U:=by
 obtain⟨a0,k0,h1,h2⟩:=h;exact⟨a0,k0,h1,h2.mono hl⟩
theorem RaC.len (h:RaC lo w cs U):cs.length=2:=by
 obtain⟨a0,k0,h1,h2⟩:=h;rw [h1];rfl
theorem ZkQ (lo:Nat) (cs:List Value) (U:Ra) (left:Int) (w:World) (h0:0<=left) (h1:left<=1048576) (h:RaC lo w cs U) :
 Calls prog 119 #[.agg cs.toArray,.int .i64 left] w
  fun e w'=>∃ r:Int,e=.returned (.int .i64 r)/\Zw_ w w'/\-1<=r/\r<=left/\(0<=r->Zcn U):=by
 obtain⟨a0,k0,rfl,h⟩:=h
 show Calls prog 119 #[.agg #[.int .i64 U.ix,.slice a0 U.fr.length k0],.int .i64 left] w _
 have HL:=Zaa h;clear h;go_enter func119,ntmps119;go_wp2_with fail;generalize hWa:w.alloc _=Wa;have HB:Hd (Zw_ w Wa):=by unfold Hd;rw [<- hWa];exact Zab _ _
 have FX:Hd (Box Wa w.heap.size #[.int .i64 U.ix,.slice a0 U.fr.length k0]):=by unfold Hd;rw [<- hWa];exact Box.new _ _ _ _ rfl
 clear hWa;refine (ZfE lo _ U.fr _ _ (by omega) (by omega) ((HL.o.below HB.o).l0)).mono ?_;rintro e w0 ⟨q0,rfl,hb,p0a,p0b,p0c⟩;have Q0:=Zaa p0c;replace HB:=Zaa (bt HB.o hb);replace FX:=Zaa (FX.o.on hb);clear hb p0c
 by_cases m0:q0 < 0
 . go_wp2
   go_ret;exact⟨-1,rfl,HB.o,by omega,by omega,fun h=>by omega⟩
 go_wp2;go_ret;exact⟨_,rfl,HB.o,by omega,by omega,fun h=>Q0.o (by omega)⟩
theorem ZkJ (lo lo':Nat) (cs cs':List Value) (U:Ra) (w:World) (h:RaC lo w cs U) (h':RaC lo' w cs' U) :
 Calls prog 155 #[.agg cs.toArray,.agg cs'.toArray] w fun e w'=>e=.returned (.bool true)/\Zw_ w w':=by
 obtain⟨a0,k0,rfl,h⟩:=h;obtain⟨d0,e0,rfl,h'⟩:=h'
 show Calls prog 155 #[.agg #[.int .i64 U.ix,.slice a0 U.fr.length k0],.agg #[.int .i64 U.ix,.slice d0 U.fr.length e0]] w _
 have HL:=Zaa h;have HR:=Zaa h';clear h h';go_enter func155,ntmps155;go_wp2_with fail;generalize hWa:(World.alloc (w.alloc _) _)=Wa;have HB:Hd (Zw_ w Wa):=by unfold Hd;rw [<- hWa];exact (Zab w _).alloc (by simp) _
 have FX:Hd (Box Wa w.heap.size #[.int .i64 U.ix,.slice a0 U.fr.length k0]):=by unfold Hd;rw [<- hWa];exact (Box.new _ _ _ _ rfl).on (Zab _ _)
 have FY:Hd (Box Wa (w.heap.size+1) #[.int .i64 U.ix,.slice d0 U.fr.length e0]):=by unfold Hd;rw [<- hWa];exact Box.new _ _ _ _ (by simp)
 clear hWa;refine (ZeC lo lo' _ _ U.fr _ ((HL.o.below HB.o).l0) ((HR.o.below HB.o).l0)).mono ?_;rintro e w0 ⟨rfl,hb⟩;replace HB:=Zaa (bt HB.o hb);replace FX:=Zaa (FX.o.on hb);replace FY:=Zaa (FY.o.on hb);clear hb;have g0:=FX.o.cell;have g1:=FY.o.cell;go_wp2;go_ret;exact⟨rfl,HB.o⟩
end
variable {lo:Nat} {w:World} {v:Value} {Xl:List Ra}
theorem Zgo:(prog.info? 170).map (·.size)=some 2:=by kernel_rfl
theorem Zi5:(prog.info? 162).map (·.size)=some 2:=by kernel_rfl
def ZbA (lo:Nat) (w:World) (v:Value) (Xl:List Ra):Prop:=
 (∃ (a:Option Addr) (cap:Nat),v=.slice a 0 cap/\Xl=[])\/
 ∃ (b off cap:Nat),v=.slice (some ⟨b,off,none⟩) Xl.length cap/\Xl≠[]/\Xl.length<=maxLen/\b < w.heap.size/\lo<=b/\Xl.length<=cap/\
  ∀ i (h:i < Xl.length),∃ cs,w.rangeAt b (off+i*2) cs/\RaC lo w cs Xl[i]
theorem ZbA.below {w':World} (h:ZbA lo w v Xl) (hb:Zw_ w w'):ZbA lo w' v Xl:=by
 rcases h with h | ⟨b,off,cap,h1,h2,h3,h4,h5,h6,h7⟩
 . exact Or.inl h
 . refine Or.inr ⟨b,off,cap,h1,h2,h3,Zk_ h4 hb.size,h5,h6,fun i hi=>?_⟩
   obtain⟨cs,hr,hc⟩:=h7 i hi;exact⟨cs,Zaz hr hb h4,hc.below hb⟩
theorem ZbA.mono {lo':Nat} (h:ZbA lo w v Xl) (hl:lo'<=lo):ZbA lo' w v Xl:=by
 rcases h with h | ⟨b,off,cap,h1,h2,h3,h4,h5,h6,h7⟩
 . exact Or.inl h
 . refine Or.inr ⟨b,off,cap,h1,h2,h3,h4,Nat.le_trans hl h5,h6,fun i hi=>?_⟩
   obtain⟨cs,hr,hc⟩:=h7 i hi;exact⟨cs,hr,hc.mono hl⟩
theorem ZbA.form (h:ZbA lo w v Xl):∃ a cap,v=.slice a Xl.length cap:=by
 rcases h with ⟨a,cap,h,rfl⟩ | ⟨b,off,cap,h,_⟩
 . exact⟨a,cap,h⟩
 . exact⟨_,cap,h⟩
theorem ZbA.max (h:ZbA lo w v Xl):Xl.length<=maxLen:=by
 rcases h with ⟨a,cap,h,rfl⟩ | ⟨b,off,cap,h,_,h3,_⟩
 . exact Nat.zero_le _
 . exact h3
theorem ZbA.full' {a:Option Addr}{n cap:Nat} (h:ZbA lo w (.slice a n cap) Xl) (hL:0 < Xl.length) :
 ∃ b off,a=some ⟨b,off,none⟩/\b < w.heap.size/\lo<=b/\∀ i (h:i < Xl.length),∃ cs,w.rangeAt b (off+i*2) cs/\RaC lo w cs Xl[i]:=by
 rcases h with ⟨a',cap',h,rfl⟩ | ⟨b',off',cap',h1,h2,h3,h4,h5,h6,h7⟩
 . simp at hL
 . injection h1 with e1 e2 e3
   exact⟨b',off',e1,h4,h5,h7⟩
def Zb9 (Xl:List Ra):Prop:=Xl.length<=1048576/\∀ i (h:i < Xl.length),Zcn Xl[i]
def ZkZ (Xl:List Ra) (left r:Int):Prop:= -1<=r/\r<=left/\(0<=r->Zb9 Xl)
theorem ZiQ (lo:Nat) (v:Value) (Xl:List Ra) (left:Int) (w:World) (h0:0<=left) (h1:left<=1048576) (hv:ZbA lo w v Xl) :
 Calls prog 52 #[v,.int .i64 left] w fun e w'=>∃ r:Int,e=.returned (.int .i64 r)/\Zw_ w w'/\ZkZ Xl left r:=by
 rcases hv with ⟨a,cap,rfl,rfl⟩ | ⟨b,off,cap,rfl,hne,hm,hbw,_,_,hc⟩
 . go_enter func52,ntmps52
   go_wp2
   go_loop [1,5] (fun l i=>∃ r:Int,l=.int .i64 r/\0<=r/\r<=left/\i=.int .i64 0) (fun _ _=>0)
   case atStart=>exact⟨_,rfl,by omega,by omega,rfl⟩
   case round=>
    obtain⟨r,rfl,hr0,hr1,rfl⟩:=hrel;go_wp2;go_ret;exact⟨r,rfl,Below.refl _ _,by omega,by omega,fun _=>⟨by simp,fun i h=>by simp at h⟩⟩
 . unfold maxLen at hm
   by_cases hle:(Xl.length:Int)<=left
   . go_enter func52,ntmps52
     go_wp2
     go_loopw [1,5] (fun l i wr=>∃ (r:Int) (k:Nat),l=.int .i64 r/\0<=r/\r<=left/\i=.int .i64 k/\k<=Xl.length/\Zw_ w wr/\∀ j (hj:j < Xl.length),j < k->Zcn Xl[j]) (fun _ i _=>Xl.length - (intOf i).toNat)
     case atStart=>exact⟨_,0,rfl,by omega,by omega,rfl,by omega,Below.refl _ _,fun j _ h=>by omega⟩
     case round=>
      obtain⟨r,k,rfl,hr0,hr1,rfl,hk,hb,hall⟩:=hrel;have HA:=Zaa hall;clear hall
      by_cases hlt:k < Xl.length
      . obtain⟨cs,hr,hx⟩:=hc k hlt
        have HX:=Zaa (hx.below hb);have HR:=Zaa (Zaz hr hb hbw);have HZ:Hd ((prog.info? 162).map (·.size)=some cs.length):=by unfold Hd;rw [hx.len];exact Zi5
        clear hr hx;go_wp2_with (refine wpList_load_mid rfl 162 (.tmp 20) rfl b (off+k*2) rfl cs _ HR.o underlying162 rfl HZ.o ?_);refine (ZkQ lo _ _ _ _ hr0 (by omega) HX.o).mono ?_;rintro e w1 ⟨r1,rfl,hb1,q0,q1,q2⟩;have HQ2:=Zaa q2;have hB:Hd (Zw_ w w1):=hb.trans (hb1.mono hb.size);clear hb1 hb q2 HX HR HZ
        by_cases hneg:r1 < 0
        . go_wp2
          go_ret;exact⟨-1,rfl,hB.o,by omega,by omega,fun h=>by omega⟩
        . have HL:Hd (Zcn Xl[k]):=HQ2.o (by omega)
          clear HQ2;go_wp2;go_roundw
          case rel=>exact⟨_,k+1,rfl,by omega,by omega,by go_num,by omega,hB.o,fun j hj h=>by
                     by_cases e:j=k
                     . subst e;exact HL.o
                     . exact HA.o j hj (by omega)⟩
          . simp [intOf];omega
      . go_wp2
        go_ret;exact⟨r,rfl,hb,by omega,by omega,fun _=>⟨by omega,fun j hj=>HA.o j hj (by omega)⟩⟩
   . go_enter func52,ntmps52
     go_wp2;go_ret;exact⟨-1,rfl,Below.refl _ _,by omega,by omega,fun h=>by omega⟩
theorem Zg7 (lo lo':Nat) (v v':Value) (Xl:List Ra) (w:World) (hv:ZbA lo w v Xl) (hv':ZbA lo' w v' Xl) :
 Calls prog 77 #[v,v'] w fun e w'=>e=.returned (.bool true)/\Zw_ w w':=by
 have hm:=hv.max;unfold maxLen at hm;have HV:=Zaa hv;have HW:=Zaa hv';obtain⟨a,cap,rfl⟩:=hv.form;obtain⟨a',cap',rfl⟩:=hv'.form;clear hv hv';go_enter func77,ntmps77;go_wp2
 go_loopw [5] (fun i wr=>∃ k:Nat,i=.int .i64 k/\k<=Xl.length/\Zw_ w wr) (fun i _=>Xl.length - (intOf i).toNat)
 case atStart=>exact⟨0,rfl,by omega,Below.refl _ _⟩
 case round=>
  obtain⟨k,rfl,hk,hb⟩:=hrel
  by_cases hlt:k < Xl.length
  . obtain⟨b,off,rfl,hbw,-,hc⟩:=HV.o.full' (by omega)
    obtain⟨b',off',rfl,hbw',-,hc'⟩:=HW.o.full' (by omega);obtain⟨cs,hr,hx⟩:=hc k hlt;obtain⟨cs',hr',hx'⟩:=hc' k hlt;have HX:=Zaa (hx.below hb);have HX':=Zaa (hx'.below hb);have HB:=Zaa hb;have hz:(prog.info? 170).map (·.size)=some cs.length:=by rw [hx.len];exact Zgo
    have hz':(prog.info? 170).map (·.size)=some cs'.length:=by rw [hx'.len];exact Zgo
    have hRr:Hd (wr.rangeAt b (off+k*2) cs/\b < wr.heap.size):=⟨Zaz hr hb hbw,Zk_ hbw hb.size⟩;have hRr':Hd (wr.rangeAt b' (off'+k*2) cs'/\b' < wr.heap.size):=⟨Zaz hr' hb hbw',Zk_ hbw' hb.size⟩;have i0:(0:Int)<=(k:Int):=by omega
    have i1:(k:Int) < (Xl.length:Int):=by omega
    have KP:Hd (∀ W,Below wr.heap.size wr W->W.rangeAt b (off+k*2) cs/\W.rangeAt b' (off'+k*2) cs'):=fun W hW=>⟨Zaz hRr.o.1 hW hRr.o.2,Zaz hRr'.o.1 hW hRr'.o.2⟩
    have HZ1:=Zaa hz;have HZ2:=Zaa hz';clear hc hc' hr hr' hx hx' hb hz hz' hRr hRr';go_wp2;refine wp_region_held_drew (S:=fun W=>W.rangeAt b (off+k*2) cs/\W.rangeAt b' (off'+k*2) cs') (by kernel_rfl) (KP.o _ (Zb_.drew)) (fun hHeld=>?_);refine tH 0 (.slice (some ⟨b,off,none⟩) Xl.length cap) rfl hHeld ?_;simp only [Act.put,List.setIfInBounds_toArray];refine tH 1 (.int .i64 k) rfl hHeld ?_;simp only [Act.put];refine tH 2 (.pointer (some ⟨b,off+k*2,none⟩)) rfl hHeld ?_;simp only [Act.put];refine wpAnyH_take (i:=3) rfl (by kernel_rfl) (by kernel_rfl) (by kernel_rfl) (fun _ _ _ h=>h) (yieldsIf_load_mid (by rfl) 170 (.tmp 19) rfl b (off+k*2) rfl cs _ (fun _ h=>h.1) underlying170 rfl HZ1.o) hHeld ?_;simp only [Act.put];refine tH 4 ((.slice (some ⟨b',off',none⟩) Xl.length cap')) rfl hHeld ?_;simp only [Act.put];refine tH 5 (.int .i64 k) rfl hHeld ?_;simp only [Act.put]
    refine tH 6 ((.pointer (some ⟨b',off'+k*2,none⟩))) rfl hHeld ?_;simp only [Act.put];refine wpAnyH_take (i:=7) rfl (by kernel_rfl) (by kernel_rfl) (by kernel_rfl) (fun _ _ _ h=>h) (yieldsIf_load_mid (by rfl) 170 (.tmp 23) rfl b' (off'+k*2) rfl cs' _ (fun _ h=>h.2) underlying170 rfl HZ2.o) hHeld ?_;simp only [Act.put];refine wpAnyH_ready (rs:=[8]) (by kernel_rfl) (by simp) ?_;refine AllReadyH.cons rfl (fun K hK=>?_) AllReadyH.nil
    go_simp
    refine (ZkJ lo lo' _ _ _ _ (HX.o.below (Zb_.drew)) (HX'.o.below (Zb_.drew))).mono ?_;rintro e w1 ⟨rfl,hb1⟩;have HC1:Hd (Below wr.heap.size wr w1):=bt (Zb_.drew) hb1;have hB:Hd (Zw_ w w1):=bt HB.o HC1.o;clear hb1
    try go_wp2_with fail
    refine hK.out _ _ (KP.o _ HC1.o) (fun hHeld=>?_);clear hK K
    try simp only [Act.put,List.setIfInBounds_toArray,List.set_cons_zero,List.set_cons_succ]
    refine tH 9 (.bool false) rfl hHeld ?_;simp only [Act.put,List.setIfInBounds_toArray];refine wpAnyH_done (by kernel_rfl) ?_ _;go_wp2;go_roundw
    . exact⟨k+1,by go_num,by omega,hB.o⟩
    . simp [intOf];omega
  . go_wp2
    go_ret;exact⟨rfl,hb⟩
theorem ZaT:(prog.info? 170).map (fun i=>(i.zero,i.size,i.bytes))=some (some (.agg #[.int .i64 0,.slice none 0 0]),2,32):=by kernel_rfl
end Go.Proofs.YtdeammfdkaomlaaGreat
