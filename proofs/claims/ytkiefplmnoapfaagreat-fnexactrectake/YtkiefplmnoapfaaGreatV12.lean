import Derived.Test.YtkiefplmnoapfaaGreatV08
set_option maxHeartbeats 16000000
set_option maxRecDepth 100000
open Go.Proofs.Tryz
namespace Go.Proofs.YtkiefplmnoapfaaGreat
open Go.RowKit Go.Deep
theorem Zf8 (lo hi:Nat) (v:Value) (Xl:List Rs) (k:Int) (w:World) (hv:Zap lo hi w v (Zct k Xl)) (hn:Zbe Xl) (h0:0<=k) (hk:k<=2000000000000000000) :
 Calls prog 55 #[v,.int .i64 k] w fun e w'=>e=.returned (.int .i64 (k+2*(Xl.length:Int)))/\Zw_ w w':=by
 have:=Zdc lo hi v Xl k w hv hn h0 hk;rw [ZeK] at this
 simpa using this
def Zjc (D:Rd) (i:Nat):Bool:=match D.sl[i]? with
 | some x=>!(decide (D.pr < x.ba) || (decide ((i:Int) < D.kn)&&x.ba == 0))
 | none=>true
def Za4 (D:Rd):Bool:=inB 0 1000000 D.pr&&(ZaT D.sl&&(inB 0 (D.sl.length:Nat) D.kn&&(List.range D.sl.length).all (Zjc D)))
theorem Ze0 {D:Rd}{k:Nat} (h:k < D.sl.length):Zjc D k=!(decide (D.pr < D.sl[k].ba) || (decide ((k:Int) < D.kn)&&D.sl[k].ba == 0)):=by
 unfold Zjc;rw [List.getElem?_eq_getElem h]
theorem ZdN (lo:Nat) (cs:List Value) (D:Rd) (w:World) (h:RdC lo w cs D) :
 Calls prog 71 #[.agg cs.toArray] w fun e w'=>e=.returned (.bool (Za4 D))/\Zw_ w w':=by
 obtain⟨a0,k0,rfl,h⟩:=h
 show Calls prog 71 #[.agg #[.int .i64 D.pr,.int .i64 D.kn,.slice a0 D.sl.length k0]] w _
 have HK:=Zaa h;have hm:=h.l0.max;unfold maxLen at hm;clear h;have HI:Hd (Za4 D=(inB 0 1000000 D.pr&&(ZaT D.sl&&(inB 0 (D.sl.length:Nat) D.kn&&(List.range D.sl.length).all (Zjc D))))):=rfl;have HO:∀ o,Hd (Zw_ w (w.alloc o)):=fun o=>Zab w o
 go_enter func71,ntmps71
 cases h1:inB 0 1000000 D.pr with
 | false=>
  have HE:Hd (Za4 D=false):=by unfold Hd;rw [HI.o,h1];rfl
  go_wp2_with (go_at_call 70;refine (Zay _ _ _ _).mono ?_;rintro e w' ⟨rfl,rfl⟩);go_ret;exact⟨Zac HE.o.symm,(HO _).o⟩
 | true=>
 cases h2:ZaT D.sl with
 | false=>
  have HE:Hd (Za4 D=false):=by unfold Hd;rw [HI.o,h1,h2];rfl
  go_wp2_with (first
   | (go_at_call 70;refine (Zay _ _ _ _).mono ?_;rintro e w' ⟨rfl,rfl⟩)
   | (go_at_call 74;refine (Za1 lo _ D.sl _ (HK.o.below (HO _).o).l0).mono ?_;rintro e w' ⟨rfl,rfl⟩))
  go_ret;exact⟨Zac HE.o.symm,(HO _).o⟩
 | true=>
 cases h3:inB 0 (D.sl.length:Nat) D.kn with
 | false=>
  have HE:Hd (Za4 D=false):=by unfold Hd;rw [HI.o,h1,h2,h3];rfl
  go_wp2_with (first
   | (go_at_call_of 70 (.int .i64 D.pr);refine (Zay _ _ _ _).mono ?_;rintro e w' ⟨rfl,rfl⟩)
   | (go_at_call 70;refine (Zay _ _ _ _).mono ?_;rintro e w' ⟨rfl,rfl⟩)
   | (go_at_call 74;refine (Za1 lo _ D.sl _ (HK.o.below (HO _).o).l0).mono ?_;rintro e w' ⟨rfl,rfl⟩))
  go_ret;exact⟨Zac HE.o.symm,(HO _).o⟩
 | true=>
 have HE1:Hd (Za4 D=(List.range D.sl.length).all (Zjc D)):=by unfold Hd;rw [HI.o,h1,h2,h3];rfl
 go_wp2_with (first
  | (go_at_call 70;refine (Zay _ _ _ _).mono ?_;rintro e w' ⟨rfl,rfl⟩)
  | (go_at_call 74;refine (Za1 lo _ D.sl _ (HK.o.below (HO _).o).l0).mono ?_;rintro e w' ⟨rfl,rfl⟩))
 generalize hWa:w.alloc _=Wa;have HB0:Hd (Zw_ w Wa):=by rw [<- hWa];exact Zab w _
 have HX:Hd (Box Wa w.heap.size #[.int .i64 D.pr,.int .i64 D.kn,.slice a0 D.sl.length k0]):=by rw [<- hWa];exact Box.new _ _ _ _ rfl
 clear hWa h1 h2 h3 HO
 go_loopw [3] (fun i wr=>∃ k:Nat,i=.int .i64 k/\k<=D.sl.length/\Below Wa.heap.size Wa wr/\∀ j,j < k->Zjc D j=true) (fun i _=>D.sl.length - (intOf i).toNat)
 case atStart=>exact⟨0,rfl,by omega,Below.refl _ _,fun j h=>by omega⟩
 case round=>
  obtain⟨k,rfl,hk,hb,hall⟩:=hrel;have HAL:=Zaa hall;have HBr:=Zaa hb;have y:=(HX.o.on hb).cell 2;simp at y;clear hall hb
  by_cases hlt:k < D.sl.length
  . obtain⟨b,off,rfl,hbw,-,hc⟩:=HK.o.l0.full' (by omega)
    obtain⟨hsz,hcc⟩:=hc k hlt;obtain⟨x,hx⟩:∃ x,x=D.sl[k]:=⟨_,rfl⟩
    have HDK:Hd (Zjc D k=!(decide (D.pr < x.ba) || (decide ((k:Int) < D.kn)&&x.ba == 0))):=by unfold Hd;rw [hx];exact Ze0 hlt
    rw [<- hx] at hcc;have HC:=Zaa (hcc.below (bt HB0.o HBr.o) hbw);clear hc hsz hcc hx;go_wp2
    go_cut [53] (fun c wc=>c=.bool (!(Zjc D k))/\Below wr.heap.size wr wc)
    case first=>
     have xn:Nonempty (In (Up wr)):=⟨⟨wr,Below.refl _ _⟩⟩;have xs:=fun (X:In (Up wr))=>Zbn X
     have x0:∀ X:In (Up wr),X.w.cell? ⟨w.heap.size,0,none⟩=some (.int .i64 D.pr):=fun X=>Up.cell X (by rw [(HX.o.on HBr.o).cell 0];rfl)
     have x1:∀ X:In (Up wr),X.w.cell? ⟨w.heap.size,1,none⟩=some (.int .i64 D.kn):=fun X=>Up.cell X (by rw [(HX.o.on HBr.o).cell 1];rfl)
     have x2:∀ X:In (Up wr),X.w.cell? ⟨w.heap.size,2,none⟩=some (.slice (some ⟨b,off,none⟩) D.sl.length k0):=fun X=>Up.cell X (by rw [(HX.o.on HBr.o).cell 2];rfl)
     have s0:∀ X:In (Up wr),_:=fun X=>Up.cell X HC.o.c0
     have i0:(0:Int)<=(k:Int):=by omega
     have i1:(k:Int) < (D.sl.length:Int):=by omega
     clear y;refine Zaf (Up wr) (by kernel_rfl) (by kernel_rfl) (Zb_.drew) ?_
     cases q1:decide (D.pr < x.ba) with
     | true=>
      repeat (go_big_quiet_step (fail))
      refine wpQuiet_nil ?_;intro wn hw;obtain⟨X,hX⟩:=hw;have HWN:Below wr.heap.size wr wn:=by rw [hX];exact X.h
      clear hX X x0 x1 x2 s0 xs xn;go_wp2;go_meet;exact⟨congrArg Value.bool (by rw [HDK.o,q1];rfl),HWN⟩
     | false=>
      cases q2:decide ((k:Int) < D.kn) with
      | false=>
       repeat (go_big_quiet_step (fail))
       refine wpQuiet_nil ?_;intro wn hw;obtain⟨X,hX⟩:=hw;have HWN:Below wr.heap.size wr wn:=by rw [hX];exact X.h
       clear hX X x0 x1 x2 s0 xs xn;go_wp2;go_meet;exact⟨congrArg Value.bool (by rw [HDK.o,q1,q2];rfl),HWN⟩
      | true=>
       cases q3:(x.ba == 0) with
       | false=>
        repeat (go_big_quiet_step (fail))
        refine wpQuiet_nil ?_;intro wn hw;obtain⟨X,hX⟩:=hw;have HWN:Below wr.heap.size wr wn:=by rw [hX];exact X.h
        clear hX X x0 x1 x2 s0 xs xn;go_wp2;go_meet;exact⟨congrArg Value.bool (by rw [HDK.o,q1,q2,q3];rfl),HWN⟩
       | true=>
        repeat (go_big_quiet_step (fail))
        refine wpQuiet_nil ?_;intro wn hw;obtain⟨X,hX⟩:=hw;have HWN:Below wr.heap.size wr wn:=by rw [hX];exact X.h
        clear hX X x0 x1 x2 s0 xs xn;go_wp2;go_meet;exact⟨congrArg Value.bool (by rw [HDK.o,q1,q2,q3];rfl),HWN⟩
    case rest=>
    obtain⟨rfl,hbc⟩:=hcut;have HBc:Hd (Below Wa.heap.size Wa wc):=bt HBr.o hbc;clear hbc y
    cases h7:Zjc D k with
    | false=>
     have HNo:Hd (Za4 D=false):=by unfold Hd;rw [HE1.o];exact ZaR hlt h7
     go_wp2;go_ret;exact⟨Zac HNo.o.symm,bt HB0.o HBc.o⟩
    | true=>
     have HT:=Zaa h7;go_wp2;go_roundw
     case rel=>exact⟨k+1,by go_num,by omega,HBc.o,fun j hj=>by
                by_cases e:j=k
                . rw [e];exact HT.o
                . exact HAL.o j (by omega)⟩
     . simp [intOf];omega
  . have HE2:Hd (Za4 D=true):=by unfold Hd;rw [HE1.o];exact Zbk (fun i hi=>HAL.o i (by omega))
    go_wp2;go_ret;exact⟨Zac HE2.o.symm,bt HB0.o HBr.o⟩
end Go.Proofs.YtkiefplmnoapfaaGreat
