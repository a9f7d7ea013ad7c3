import Derived.Test.YtkiefplmnoapfaaGreatV04
set_option maxHeartbeats 16000000
set_option maxRecDepth 100000
open Go.Proofs.Tryz
namespace Go.Proofs.YtkiefplmnoapfaaGreat
open Go.RowKit Go.Deep
section
variable {lo B k:Nat} {w wr:World} {v:Value}
def Zdm (x:Zy_):Prop:=x.size<=maxLen
def Za2 (lo:Nat) (w:World) (v:Value) (Xl:List Zy_):Prop:=
 (∃ (a:Option Addr) (cap:Nat),v=.slice a 0 cap/\Xl=[])\/
 ∃ (b off cap:Nat),v=.slice (some ⟨b,off,none⟩) Xl.length cap/\Xl≠[]/\Xl.length<=maxLen/\b < w.heap.size/\lo<=b/\Xl.length<=cap/\
  ∀ i (h:i < Xl.length),Zdm Xl[i]/\w.cell? ⟨b,off+i,none⟩=some (.string Xl[i])
theorem Za2.below {w':World}{Xl:List Zy_} (h:Za2 lo w v Xl) (hb:Zw_ w w'):Za2 lo w' v Xl:=by
 rcases h with h | ⟨b,off,cap,h1,h2,h3,h4,h5,h6,h7⟩
 . exact Or.inl h
 . refine Or.inr ⟨b,off,cap,h1,h2,h3,Zk_ h4 hb.size,h5,h6,fun i hi=>⟨(h7 i hi).1,?_⟩⟩
   rw [hb.cell (p:=⟨b,_,none⟩) h4];exact (h7 i hi).2
theorem Za2.mono {lo':Nat}{Xl:List Zy_} (h:Za2 lo w v Xl) (hl:lo'<=lo):Za2 lo' w v Xl:=by
 rcases h with h | ⟨b,off,cap,h1,h2,h3,h4,h5,h6,h7⟩
 . exact Or.inl h
 . exact Or.inr ⟨b,off,cap,h1,h2,h3,h4,Nat.le_trans hl h5,h6,h7⟩
theorem Za2.set {Xl:List Zy_} (h:Za2 lo w v Xl) {p:Addr} (hp:p.block < lo) (u:Value):Za2 lo (w.setCell p u) v Xl:=by
 rcases h with h | ⟨b,off,cap,h1,h2,h3,h4,h5,h6,h7⟩
 . exact Or.inl h
 . refine Or.inr ⟨b,off,cap,h1,h2,h3,by simpa [World.setCell] using h4,h5,h6,fun i hi=>⟨(h7 i hi).1,?_⟩⟩
   rw [ZbR _ _ _ _ (by show b≠p.block;omega)];exact (h7 i hi).2
theorem Za2.form {Xl:List Zy_} (h:Za2 lo w v Xl):∃ a cap,v=.slice a Xl.length cap:=by
 rcases h with ⟨a,cap,h,rfl⟩ | ⟨b,off,cap,h,_⟩
 . exact⟨a,cap,h⟩
 . exact⟨_,cap,h⟩
theorem Za2.max {Xl:List Zy_} (h:Za2 lo w v Xl):Xl.length<=maxLen:=by
 rcases h with ⟨a,cap,h,rfl⟩ | ⟨b,off,cap,h,_,h3,_⟩
 . exact Nat.zero_le _
 . exact h3
theorem Za2.full {Xl:List Zy_} (h:Za2 lo w v Xl) (hne:Xl≠[]):∃ (b off cap:Nat),v=.slice (some ⟨b,off,none⟩) Xl.length cap/\Xl.length<=maxLen/\b < w.heap.size/\Xl.length<=cap/\
 ∀ i (h:i < Xl.length),Zdm Xl[i]/\w.cell? ⟨b,off+i,none⟩=some (.string Xl[i]):=by
 rcases h with ⟨_,_,_,h⟩ | ⟨b,off,cap,h1,_,h3,h4,_,h6,h7⟩
 . exact absurd h hne
 . exact⟨b,off,cap,h1,h3,h4,h6,h7⟩
theorem Za2.full' {a:Option Addr}{n cap:Nat}{Xl:List Zy_} (h:Za2 lo w (.slice a n cap) Xl) (hL:0 < Xl.length) :
 ∃ b off,a=some ⟨b,off,none⟩/\b < w.heap.size/\lo<=b/\∀ i (h:i < Xl.length),Zdm Xl[i]/\w.cell? ⟨b,off+i,none⟩=some (.string Xl[i]):=by
 rcases h with ⟨a',cap',h,rfl⟩ | ⟨b',off',cap',h1,h2,h3,h4,h5,h6,h7⟩
 . simp at hL
 . injection h1 with e1 e2 e3
   exact⟨b',off',e1,h4,h5,h7⟩
def Zbf (Xl:List Zy_):Prop:=Xl.length<=1048576
def ZkW (Xl:List Zy_) (left r:Int):Prop:= -1<=r/\r<=left/\(0<=r->Zbf Xl)
theorem ZiL (lo:Nat) (v:Value) (Xl:List Zy_) (left:Int) (w:World) (h0:0<=left) (h1:left<=1048576) (hv:Za2 lo w v Xl) :
 Calls prog 23 #[v,.int .i64 left] w fun e w'=>∃ r:Int,e=.returned (.int .i64 r)/\Zw_ w w'/\ZkW Xl left r:=by
 rcases hv with ⟨a,cap,rfl,rfl⟩ | ⟨b,off,cap,rfl,hne,hm,hbw,_,_,hc⟩
 . go_enter func23,ntmps23
   go_wp2
   go_loop [1,5] (fun l i=>∃ r:Int,l=.int .i64 r/\0<=r/\r<=left/\i=.int .i64 0) (fun _ _=>0)
   case atStart=>exact⟨_,rfl,by omega,by omega,rfl⟩
   case round=>
    obtain⟨r,rfl,hr0,hr1,rfl⟩:=hrel;go_wp2;go_ret;exact⟨r,rfl,Below.refl _ _,by omega,by omega,fun _=>by unfold Zbf;simp⟩
 . unfold maxLen at hm
   by_cases hle:(Xl.length:Int)<=left
   . go_enter func23,ntmps23
     go_wp2
     go_loopw [1,5] (fun l i wr=>∃ (r:Int) (k:Nat),l=.int .i64 r/\0<=r/\r<=left/\i=.int .i64 k/\k<=Xl.length/\Zw_ w wr) (fun _ i _=>Xl.length - (intOf i).toNat)
     case atStart=>exact⟨_,0,rfl,by omega,by omega,rfl,by omega,Below.refl _ _⟩
     case round=>
      obtain⟨r,k,rfl,hr0,hr1,rfl,hk,hb⟩:=hrel
      by_cases hlt:k < Xl.length
      . obtain⟨hs,c0⟩:=hc k hlt
        unfold Zdm maxLen at hs;rw [<- hb.cell (p:=⟨b,off+k,none⟩) hbw] at c0;have HB:=Zaa hb;clear hb
        by_cases hneg:r - (Xl[k].size:Int) < 0
        . go_wp2
          go_ret;exact⟨-1,rfl,HB.o,by omega,by omega,fun h=>by omega⟩
        . go_wp2
          go_roundw
          . exact⟨_,k+1,rfl,by omega,by omega,by go_num,by omega,HB.o⟩
          . simp [intOf];omega
      . go_wp2
        go_ret;exact⟨r,rfl,hb,by omega,by omega,fun _=>by unfold Zbf;omega⟩
   . go_enter func23,ntmps23
     go_wp2;go_ret;exact⟨-1,rfl,Below.refl _ _,by omega,by omega,fun h=>by omega⟩
theorem Zg3 (lo lo':Nat) (v v':Value) (Xl:List Zy_) (w:World) (hv:Za2 lo w v Xl) (hv':Za2 lo' w v' Xl) :
 Calls prog 43 #[v,v'] w fun e w'=>e=.returned (.bool true)/\Zw_ w w':=by
 by_cases hL:Xl=[]
 . subst hL
   obtain⟨a,cap,rfl⟩:=hv.form;obtain⟨a',cap',rfl⟩:=hv'.form;clear hv hv';go_enter func43,ntmps43;go_wp2
   go_loop [5] (fun i=>i=.int .i64 0) (fun _=>0)
   case atStart=>rfl
   case round=>
    subst hrel;go_wp2;go_ret;exact⟨rfl,Below.refl _ _⟩
 . obtain⟨b,off,cap,rfl,hm,hbw,_,hc⟩:=hv.full hL
   obtain⟨b',off',cap',rfl,_,hbw',_,hc'⟩:=hv'.full hL;clear hv hv';unfold maxLen at hm;go_enter func43,ntmps43;go_wp2
   go_loopw [5] (fun i wr=>∃ k:Nat,i=.int .i64 k/\k<=Xl.length/\Zw_ w wr) (fun i _=>Xl.length - (intOf i).toNat)
   case atStart=>exact⟨0,rfl,by omega,Below.refl _ _⟩
   case round=>
    obtain⟨k,rfl,hk,hb⟩:=hrel
    by_cases hlt:k < Xl.length
    . have c0:wr.cell? ⟨b,off+k,none⟩=some (.string Xl[k]):=by rw [hb.cell (p:=⟨b,_,none⟩) hbw];exact (hc k hlt).2
      have d0:wr.cell? ⟨b',off'+k,none⟩=some (.string Xl[k]):=by rw [hb.cell (p:=⟨b',_,none⟩) hbw'];exact (hc' k hlt).2
      have HB:=Zaa hb;clear hb;go_wp2
      try go_quiet (fail)
      try go_wp2
      go_roundw
      . exact⟨k+1,by go_num,by omega,by first | exact HB.o | exact below_drewN HB.o _⟩
      . simp [intOf];omega
    . go_wp2
      go_ret;exact⟨rfl,hb⟩
theorem Tryz.infoRts:(prog.info? 9).map (fun i=>(i.zero,i.size,i.bytes))=some (some (.string ⟨#[]⟩),1,16):=by kernel_rfl
def ZbY (wr:World) (B:Nat) (Xl:List Zy_) (k:Nat):Prop:=∃ f,wr.rowIs B 9 Xl.length f/\∀ i (h:i < Xl.length),i < k->Zdm Xl[i]/\f i=.string Xl[i]
theorem ZbY.step {Xl:List Zy_} (h:ZbY wr B Xl k) (hk:k < Xl.length) (hz:Zdm Xl[k]):ZbY (wr.setCell ⟨B,k,none⟩ (.string Xl[k])) B Xl (k+1):=by
 obtain⟨f,hr,hall⟩:=h;refine⟨_,hr.set _ _,fun i hi hik=>?_⟩
 by_cases e:i=k
 . subst e
   exact⟨hz,by simp⟩
 . obtain⟨hz',h0⟩:=hall i hi (by omega)
   exact⟨hz',by rw [if_neg e];exact h0⟩
theorem ZbY.done {Xl:List Zy_} (h:ZbY wr B Xl k) (hk:Xl.length<=k) (hne:Xl≠[]) (hm:Xl.length<=maxLen):Za2 B wr (.slice (some ⟨B,0,none⟩) Xl.length Xl.length) Xl:=by
 obtain⟨f,hr,hall⟩:=h;refine Or.inr ⟨B,0,Xl.length,rfl,hne,hm,hr.lt,Nat.le_refl _,Nat.le_refl _,fun i hi=>?_⟩;obtain⟨hz,h0⟩:=hall i hi (by omega);exact⟨hz,by rw [Nat.zero_add,hr.cell hi,h0]⟩
theorem ZbY.there {Xl:List Zy_} (h:ZbY wr B Xl k) (i:Nat) (hi:i < Xl.length):∃ v,wr.cell? ⟨B,i,none⟩=some v:=by
 obtain⟨f,hr,_⟩:=h;exact⟨_,hr.cell hi⟩
theorem ZbY.free {Xl:List Zy_} (h:ZbY wr B Xl k) (i:Nat):wr.frozen? ⟨B,i,none⟩=false:=by
 obtain⟨f,hr,_⟩:=h;exact hr.frozen i
theorem Zi0 (lo:Nat) (v:Value) (Xl:List Zy_) (w:World) (hv:Za2 lo w v Xl) (hn:Zbf Xl) :
 Calls prog 34 #[v] w fun e w'=>∃ v',e=.returned v'/\Zw_ w w'/\Za2 w.heap.size w' v' Xl:=by
 unfold Zbf at hn
 by_cases hL:Xl=[]
 . subst hL
   obtain⟨a,cap,rfl⟩:=hv.form;clear hv
   have hmk:∀ u:World,(Instr.makeSlice 26 (.int .i64 0) (.int .i64 0)).run prog u=.ok (.slice (some ⟨u.heap.size,0,none⟩) 0 0) (u.alloc (.cells (madeCells #[.string ⟨#[]⟩] 0) 9)):=
    fun u=>run_make_row' 26 9 (.string ⟨#[]⟩) 16 underlying26 Tryz.infoRts rfl .i64 .i64 0 (by omega) (by omega) u
   go_enter func34,ntmps34;go_wp2
   go_loop [4] (fun i=>i=.int .i64 0) (fun _=>0)
   case atStart=>rfl
   case round=>
    subst hrel;go_wp2;go_ret;exact⟨_,rfl,Zb_.alloc Zl_ _,Or.inl ⟨_,_,rfl,rfl⟩⟩
 . obtain⟨b,off,cap,rfl,hm,hbw,_,hc⟩:=hv.full hL
   clear hv;have HM:Hd (Xl.length<=maxLen):=hm;unfold maxLen at hm
   have hmk:∀ u:World,(Instr.makeSlice 26 (.int .i64 (Xl.length:Int)) (.int .i64 (Xl.length:Int))).run prog u=.ok (.slice (some ⟨u.heap.size,0,none⟩) Xl.length Xl.length) (u.alloc (.cells (madeCells #[.string ⟨#[]⟩] Xl.length) 9)):=
    fun u=>run_make_row' 26 9 (.string ⟨#[]⟩) 16 underlying26 Tryz.infoRts rfl .i64 .i64 Xl.length (by omega) (by omega) u
   go_enter func34,ntmps34;go_wp2;clear hmk
   go_loopw [4] (fun i wr=>∃ k:Nat,i=.int .i64 k/\k<=Xl.length/\Zw_ w wr/\ZbY wr w.heap.size Xl k) (fun i _=>Xl.length - (intOf i).toNat)
   case atStart=>exact⟨0,rfl,by omega,Zb_.alloc Zl_ _,⟨_,World.rowIs_made w (.string ⟨#[]⟩) Xl.length 9,fun i _ h=>by omega⟩⟩
   case round=>
    obtain⟨k,rfl,hk,hb,hf⟩:=hrel
    by_cases hlt:k < Xl.length
    . obtain⟨hz,hck⟩:=hc k hlt
      rw [<- hb.cell (p:=⟨b,off+k,none⟩) hbw] at hck;obtain⟨v0,hold⟩:=hf.there k hlt;have hfz:=hf.free k;have HZ:=Zaa hz;have HF:=Zaa hf;have HB:=Zaa hb;clear hz hf hb;go_wp2;go_roundw
      . exact⟨k+1,by go_num,by omega,HB.o.setCell Zl_ _,HF.o.step hlt HZ.o⟩
      . simp [intOf];omega
    . go_wp2
      go_ret;exact⟨_,rfl,hb,hf.done (by omega) hL HM.o⟩
end
section
variable {lo:Nat} {w:World} {v0:Value}
structure Rd where
 pr:Int
 kn:Int
 sl:List Rs
variable {U:Rd}
def Zcx (U:Rd):Prop:=Zbe U.sl
structure Zes (lo:Nat) (w:World) (v0:Value) (U:Rd):Prop where
 l0:Zaq lo w v0 U.sl
theorem Zes.below {w':World} (h:Zes lo w v0 U) (hb:Zw_ w w'):Zes lo w' v0 U:=⟨h.l0.below hb⟩
theorem Zes.mono {lo':Nat} (h:Zes lo w v0 U) (hl:lo'<=lo):Zes lo' w v0 U:=⟨h.l0.mono hl⟩
theorem Zes.set (h:Zes lo w v0 U) {p:Addr} (hp:p.block < lo) (u:Value):Zes lo (w.setCell p u) v0 U:=⟨h.l0.set hp u⟩
def rdL (U:Rd) (a0:Option Addr) (k0:Nat):List Value:=[.int .i64 U.pr,.int .i64 U.kn,.slice a0 U.sl.length k0]
def RdC (lo:Nat) (w:World) (cs:List Value) (U:Rd):Prop:=∃ a0 k0,cs=rdL U a0 k0/\Zes lo w (.slice a0 U.sl.length k0) U
theorem ZjZ (lo:Nat) (cs:List Value) (U:Rd) (left:Int) (w:World) (h0:0<=left) (h1:left<=1048576) (h:RdC lo w cs U) :
 Calls prog 21 #[.agg cs.toArray,.int .i64 left] w
  fun e w'=>∃ r:Int,e=.returned (.int .i64 r)/\Zw_ w w'/\-1<=r/\r<=left/\(0<=r->Zcx U):=by
 obtain⟨a0,k0,rfl,h⟩:=h
 show Calls prog 21 #[.agg #[.int .i64 U.pr,.int .i64 U.kn,.slice a0 U.sl.length k0],.int .i64 left] w _
 have HL:=Zaa h;clear h;go_enter func21,ntmps21;go_wp2_with fail;generalize hWa:w.alloc _=Wa;have HB:Hd (Zw_ w Wa):=by unfold Hd;rw [<- hWa];exact Zab _ _
 have FX:Hd (Box Wa w.heap.size #[.int .i64 U.pr,.int .i64 U.kn,.slice a0 U.sl.length k0]):=by unfold Hd;rw [<- hWa];exact Box.new _ _ _ _ rfl
 clear hWa;refine (Zen lo _ U.sl _ _ (by omega) (by omega) ((HL.o.below HB.o).l0)).mono ?_;rintro e w0 ⟨q0,rfl,hb,p0a,p0b,p0c⟩;have Q0:=Zaa p0c;replace HB:=Zaa (bt HB.o hb);replace FX:=Zaa (FX.o.on hb);clear hb p0c
 by_cases m0:q0 < 0
 . go_wp2
   go_ret;exact⟨-1,rfl,HB.o,by omega,by omega,fun h=>by omega⟩
 go_wp2;go_ret;exact⟨_,rfl,HB.o,by omega,by omega,fun h=>Q0.o (by omega)⟩
theorem ZjU (lo lo':Nat) (cs cs':List Value) (U:Rd) (w:World) (h:RdC lo w cs U) (h':RdC lo' w cs' U) :
 Calls prog 42 #[.agg cs.toArray,.agg cs'.toArray] w fun e w'=>e=.returned (.bool true)/\Zw_ w w':=by
 obtain⟨a0,k0,rfl,h⟩:=h;obtain⟨d0,e0,rfl,h'⟩:=h'
 show Calls prog 42 #[.agg #[.int .i64 U.pr,.int .i64 U.kn,.slice a0 U.sl.length k0],.agg #[.int .i64 U.pr,.int .i64 U.kn,.slice d0 U.sl.length e0]] w _
 have HL:=Zaa h;have HR:=Zaa h';clear h h';go_enter func42,ntmps42;go_wp2_with fail;generalize hWa:(World.alloc (w.alloc _) _)=Wa;have HB:Hd (Zw_ w Wa):=by unfold Hd;rw [<- hWa];exact (Zab w _).alloc (by simp) _
 have FX:Hd (Box Wa w.heap.size #[.int .i64 U.pr,.int .i64 U.kn,.slice a0 U.sl.length k0]):=by unfold Hd;rw [<- hWa];exact (Box.new _ _ _ _ rfl).on (Zab _ _)
 have FY:Hd (Box Wa (w.heap.size+1) #[.int .i64 U.pr,.int .i64 U.kn,.slice d0 U.sl.length e0]):=by unfold Hd;rw [<- hWa];exact Box.new _ _ _ _ (by simp)
 clear hWa;refine (ZdD lo lo' _ _ U.sl _ ((HL.o.below HB.o).l0) ((HR.o.below HB.o).l0)).mono ?_;rintro e w0 ⟨rfl,hb⟩;replace HB:=Zaa (bt HB.o hb);replace FX:=Zaa (FX.o.on hb);replace FY:=Zaa (FY.o.on hb);clear hb;have g0:=FX.o.cell;have g1:=FY.o.cell;go_wp2;go_ret;exact⟨rfl,HB.o⟩
theorem Zj1 (lo:Nat) (cs:List Value) (U:Rd) (w:World) (h:RdC lo w cs U) (hn:Zcx U) :
 Calls prog 32 #[.agg cs.toArray] w
  fun e w'=>∃ cs',e=.returned (.agg cs'.toArray)/\Zw_ w w'/\RdC w.heap.size w' cs' U:=by
 obtain⟨a0,k0,rfl,h⟩:=h
 show Calls prog 32 #[.agg #[.int .i64 U.pr,.int .i64 U.kn,.slice a0 U.sl.length k0]] w _
 have HL:=Zaa h;have hn0:=hn;clear h;go_enter func32,ntmps32;go_wp2_with fail
 obtain⟨wz,hwz,FX,FR,FO,HB⟩:∃ wz,wz=((w.alloc (.cells #[.int .i64 U.pr,.int .i64 U.kn,.slice a0 U.sl.length k0] 24)).alloc (.cells #[.int .i64 0,.int .i64 0,.slice none 0 0] 37)).alloc (.cells #[.int .i64 U.pr,.int .i64 U.kn,.slice none 0 0] 37)/\
  Hd (Box wz w.heap.size #[.int .i64 U.pr,.int .i64 U.kn,.slice a0 U.sl.length k0])/\Hd (Box wz (w.heap.size+1) #[.int .i64 0,.int .i64 0,.slice none 0 0])/\Hd (Box wz (w.heap.size+1+1) #[.int .i64 U.pr,.int .i64 U.kn,.slice none 0 0])/\Hd (Zw_ w wz):=
  ⟨_,rfl,((Box.new w _ _ _ rfl).on (Zab _ _)).on (Zab _ _),(Box.new _ _ _ _ (by simp)).on (Zab _ _),Box.new _ _ _ _ (by simp),((Zab _ _).trans ((Zab _ _).mono (by simp))).trans ((Zab _ _).mono (by simp;omega))⟩
 rw [<- hwz];clear hwz;generalize wz=v0 at*;have hz0:w.heap.size+3<=v0.heap.size:=by have:=FO.o.lt;omega
 refine (Zep lo _ U.sl _ ((HL.o.below HB.o).l0) hn0).mono ?_;rintro e x0 ⟨u,rfl,hb,hs⟩;obtain⟨b0,m0,rfl⟩:=hs.form;have N0:=Zaa (hs.mono hz0);replace FX:=Zaa (FX.o.on hb);replace FR:=Zaa (FR.o.on hb);replace FO:=Zaa (FO.o.on hb);replace HB:=Zaa (bt HB.o hb);clear hb hs hz0;have g0:=FO.o.cell;have g1:=FO.o.free;have g2:=FR.o.cell;have g3:=FR.o.free;have g4:=FX.o.cell;go_wp2;refine bodyPost_ret (v:=.agg #[.int .i64 U.pr,.int .i64 U.kn,.slice b0 U.sl.length m0]) (by simp [results,results32,go_sem,g2]) rfl ⟨rdL U b0 m0,rfl,?_,b0,m0,rfl,⟨?_⟩⟩
 . repeat (refine Below.setCell ?_ (by simp only [];omega) _)
   exact HB.o
 . refine Zaq.mono (lo:=w.heap.size+3) ?_ (by omega)
   repeat (refine Zaq.set ?_ (by simp only [];omega) _)
   exact N0.o
end
variable {k:Nat}
theorem Zfr {X:Type}{L:List X}{f:X->Bool} (hk:k < L.length) (h:f L[k]=false):L.all f=false:=by
 rw [List.all_eq_false];exact⟨L[k],List.getElem_mem hk,by simp [h]⟩
theorem Zf0 {X:Type}{L:List X}{f:X->Bool} (h:∀ i (h:i < L.length),f L[i]=true):L.all f=true:=by
 rw [List.all_eq_true];intro x hx;obtain⟨i,hi,rfl⟩:=List.getElem_of_mem hx;exact h i hi
theorem ZkD {X:Type}{L:List X}{f:X->Bool} (h:L.all f=true) {k:Nat} (hk:k < L.length):f L[k]=true:=List.all_eq_true.1 h _ (List.getElem_mem hk)
theorem Zd1 {X:Type}{L:List X}{f:X->Bool} (hall:∀ j (h:j < L.length),j < k->f L[j]=true) (hk:k < L.length) (h:f L[k]=true):∀ j (h:j < L.length),j < k+1->f L[j]=true:=fun j hj hjk=>by
 by_cases e:j=k
 . subst e;exact h
 . exact hall j hj (by omega)
theorem Zay (n lo hi:Int) (w:World) :
 Calls prog 70 #[.int .i64 n,.int .i64 lo,.int .i64 hi] w fun e w'=>e=.returned (.bool (inB lo hi n))/\w'=w:=by
 rw [ZdK]
 by_cases h1:lo<=n
 . by_cases h2:n<=hi
   all_goals
    go_enter func70,ntmps70;go_wp2;go_ret;exact⟨Zac (by simp [h1,h2]),rfl⟩
 . go_enter func70,ntmps70
   go_wp2;go_ret;refine⟨Zac ?_,rfl⟩;rw [Bool.eq_iff_iff];simp;omega
def ZbO (x:Rs):Bool:=inB 0 1000000 x.ba&&(decide (x.tx.size<=160)&&!(x.ba == 0&&!x.tx.toList.isEmpty))
def ZaT (L:List Rs):Bool:=decide (L.length<=120)&&L.all ZbO
theorem Za1 (lo:Nat) (v:Value) (L:List Rs) (w:World) (hv:Zaq lo w v L) :
 Calls prog 74 #[v] w fun e w'=>e=.returned (.bool (ZaT L))/\w'=w:=by
 have HV:=Zaa hv;have hm:=hv.max;unfold maxLen at hm;obtain⟨a,cap,rfl⟩:=hv.form;clear hv;have HI:Hd (ZaT L=(decide (L.length<=120)&&L.all ZbO)):=rfl
 by_cases l0:L.length<=120
 case neg=>
  have HE:Hd (ZaT L=false):=by unfold Hd;rw [HI.o,decide_eq_false l0];rfl
  have d0:decide ((120:Int) < (L.length:Int))=true:=by simp;omega
  go_enter func74,ntmps74;go_wp2;go_ret;exact⟨Zac HE.o.symm,rfl⟩
 have d0:decide ((120:Int) < (L.length:Int))=false:=by simp;omega
 have HE1:Hd (ZaT L=L.all ZbO):=by unfold Hd;rw [HI.o,decide_eq_true l0];rfl
 go_enter func74,ntmps74;go_wp2;clear d0
 go_loop [3] (fun i=>∃ k:Nat,i=.int .i64 k/\k<=L.length/\∀ j (hj:j < L.length),j < k->ZbO L[j]=true) (fun i=>L.length - (intOf i).toNat)
 case atStart=>exact⟨0,rfl,by omega,fun j _ h=>by omega⟩
 case round=>
  obtain⟨k,rfl,hk,hall⟩:=hrel;have HAL:=Zaa hall;clear hall
  by_cases hlt:k < L.length
  . obtain⟨b,off,rfl,hbw,-,hc⟩:=HV.o.full' (by omega)
    obtain⟨hsz,hcc⟩:=hc k hlt;obtain⟨x,hx⟩:∃ x,x=L[k]:=⟨_,rfl⟩
    rw [<- hx] at hsz hcc;have HX:=Zaa hx;have e0:=hcc.c0;have e1:=hcc.c1;have i0:(0:Int)<=(k:Int):=by omega
    have i1:(k:Int) < (L.length:Int):=by omega
    have hs:=hsz.s0;unfold maxLen at hs;clear hc hcc hsz hx
    cases h1:inB 0 1000000 x.ba with
    | false=>
     have HN:Hd (ZbO x=false):=by unfold Hd ZbO;rw [h1];rfl
     go_wp2_with (go_at_call 70;refine (Zay _ _ _ _).mono ?_;rintro e w' ⟨rfl,rfl⟩);go_ret;exact⟨Zac (by rw [HE1.o];exact (Zfr hlt (by rw [<- HX.o];exact HN.o)).symm),rfl⟩
    | true=>
     by_cases h2:x.tx.size<=160
     case neg=>
      have HN:Hd (ZbO x=false):=by unfold Hd ZbO;rw [h1,decide_eq_false h2];rfl
      have d2:decide ((160:Int) < (x.tx.size:Int))=true:=by simp;omega
      go_wp2_with (go_at_call 70;refine (Zay _ _ _ _).mono ?_;rintro e w' ⟨rfl,rfl⟩);go_ret;exact⟨Zac (by rw [HE1.o];exact (Zfr hlt (by rw [<- HX.o];exact HN.o)).symm),rfl⟩
     have d2:decide ((160:Int) < (x.tx.size:Int))=false:=by simp;omega
     have HS:Hd (ZbO x=!(x.ba == 0&&!x.tx.toList.isEmpty)):=by unfold Hd ZbO;rw [h1,decide_eq_true h2];rfl
     cases h3:(x.ba == 0) with
     | false=>
      have HY:Hd (ZbO x=true):=by unfold Hd;rw [HS.o,h3];rfl
      go_wp2_with (go_at_call 70;refine (Zay _ _ _ _).mono ?_;rintro e w' ⟨rfl,rfl⟩)
      go_round
      . exact⟨k+1,by go_num,by omega,Zd1 HAL.o hlt (by rw [<- HX.o];exact HY.o)⟩
      . simp [intOf];omega
     | true=>
      cases h4:x.tx.toList.isEmpty with
      | true=>
       have HY:Hd (ZbO x=true):=by unfold Hd;rw [HS.o,h3,h4];rfl
       go_wp2_with (go_at_call 70;refine (Zay _ _ _ _).mono ?_;rintro e w' ⟨rfl,rfl⟩)
       go_round
       . exact⟨k+1,by go_num,by omega,Zd1 HAL.o hlt (by rw [<- HX.o];exact HY.o)⟩
       . simp [intOf];omega
      | false=>
       have HN:Hd (ZbO x=false):=by unfold Hd;rw [HS.o,h3,h4];rfl
       go_wp2_with (go_at_call 70;refine (Zay _ _ _ _).mono ?_;rintro e w' ⟨rfl,rfl⟩);go_ret;exact⟨Zac (by rw [HE1.o];exact (Zfr hlt (by rw [<- HX.o];exact HN.o)).symm),rfl⟩
  . have HT:Hd (L.all ZbO=true):=Zf0 (fun i hi=>HAL.o i hi (by omega))
    go_wp2;go_ret;exact⟨Zac (by rw [HE1.o,HT.o]),rfl⟩
end Go.Proofs.YtkiefplmnoapfaaGreat
