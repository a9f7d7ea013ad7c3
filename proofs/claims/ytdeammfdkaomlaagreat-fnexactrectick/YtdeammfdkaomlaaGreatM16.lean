import Derived.Test.YtdeammfdkaomlaaGreatM09
import Derived.Test.YtdeammfdkaomlaaGreatM15
set_option maxHeartbeats 16000000
set_option maxRecDepth 100000
open Go.Proofs.Tryz
namespace Go.Proofs.YtdeammfdkaomlaaGreat
open Go.RowKit Go.Deep
def Zci (U:Rr):Bool:=!U.ld&&(!U.ty&&(U.ba == 0&&decide (U.ye.length+U.be.length+U.ac.length=0)))
theorem Ze6 {lo:Nat}{w:World}{cs:List Value}{U:Rr} (h:RrC lo w cs U) :
 cs[0]?=some (.int .i64 U.nu)/\cs[1]?=some (.int .i64 U.of)/\cs[2]?=some (.bool U.up)/\cs[11]?=some (.bool U.ld)/\cs[12]?=some (.bool U.ty)/\cs[13]?=some (.int .i64 U.ba)/\cs[17]?=some (.int .i64 U.hd)/\cs[6]?=some (.int .i64 U.dk.pr)/\
 (∃ a k,cs[9]?=some (.slice a U.he.length k))/\(∃ a k,cs[10]?=some (.slice a U.wi.length k))/\(∃ a k,cs[14]?=some (.slice a U.ye.length k))/\(∃ a k,cs[15]?=some (.slice a U.be.length k))/\∃ a k,cs[16]?=some (.slice a U.ac.length k):=by
 obtain⟨a0,k0,a1,k1,a2,k2,a3,k3,a4,k4,a5,k5,a6,k6,rfl,h⟩:=h;exact⟨rfl,rfl,rfl,rfl,rfl,rfl,rfl,rfl,⟨_,_,rfl⟩,⟨_,_,rfl⟩,⟨_,_,rfl⟩,⟨_,_,rfl⟩,⟨_,_,rfl⟩⟩
theorem Zca (lo:Nat) (cs:List Value) (U:Rr) (w:World) (h:RrC lo w cs U) (hn:Zba U) :
 Calls prog 126 #[.agg cs.toArray] w fun e w'=>e=.returned (.bool (Zci U))/\Zw_ w w':=by
 obtain⟨-,-,-,c11,c12,c13,-,-,-,-,⟨a4,k4,c14⟩,⟨a5,k5,c15⟩,⟨a6,k6,c16⟩⟩:=Ze6 h;obtain⟨-,-,-,-,n4,⟨n5,-⟩,⟨n6,-⟩⟩:=hn;unfold ZaS at n4;clear h;have HQ:Hd (Zci U=(!U.ld&&(!U.ty&&(U.ba == 0&&decide (U.ye.length+U.be.length+U.ac.length=0))))):=rfl;have HO:∀ o,Hd (Zw_ w (w.alloc o)):=fun o=>Zab w o
 cases q1:U.ld with
 | true=>
  rw [q1] at c11;go_enter func126,ntmps126;go_wp2;go_ret;exact⟨Zac (by rw [HQ.o,q1];rfl),(HO _).o⟩
 | false=>
 cases q2:U.ty with
 | true=>
  rw [q1] at c11;rw [q2] at c12;go_enter func126,ntmps126;go_wp2;go_ret;exact⟨Zac (by rw [HQ.o,q1,q2];rfl),(HO _).o⟩
 | false=>
 cases q3:(U.ba == 0) with
 | false=>
  rw [q1] at c11;rw [q2] at c12;go_enter func126,ntmps126;go_wp2;go_ret;exact⟨Zac (by rw [HQ.o,q1,q2,q3];rfl),(HO _).o⟩
 | true=>
  rw [q1] at c11;rw [q2] at c12;go_enter func126,ntmps126;go_wp2;go_ret;refine⟨Zac ?_,(HO _).o⟩;rw [HQ.o,q1,q2,q3,Bool.eq_iff_iff];simp only [Bool.not_false,Bool.true_and,beq_iff_eq,decide_eq_true_eq]
  omega
def ZbS (U:Rr) (i:Nat):Bool:=match U.he[i]? with
 | some m=>Zds m U.of&&m.fr == U.nu
 | none=>true
def Zf2 (U:Rr):Bool:=if U.ld || U.ty then inB 1 U.dk.pr U.ba&&(!(U.ty&&decide (0 < U.ac.length))&&!(U.ld&&decide (0 < U.ye.length+U.be.length))) else Zci U
def Ze5 (U:Rr):Bool:=(List.range U.he.length).all (ZbS U)&&(Zbq U.of U.ye&&(ZaI U.be&&(ZbH U.of U.ac&&(!(U.ld&&U.ty)&&(Zf2 U&&(U.up || (Zci U&&((U.he.length+U.wi.length:Nat)+U.hd == 0))))))))
def ZaM (U:Rr):Bool:=inB 1 5 U.of&&(inB 1 U.of U.nu&&(ZaW U.sf&&(ZaW U.dk&&(decide (U.he.length<=400)&&(ZbC U.wi&&(inB 0 1000000 U.hd&&Ze5 U))))))
theorem Zey (lo:Nat) (cs:List Value) (U:Rr) (w:World) (h:RrC lo w cs U) (hn:Zba U) :
 Calls prog 53 #[.agg cs.toArray] w fun e w'=>e=.returned (.bool (ZaM U))/\Zw_ w w':=by
 have HN:=Zaa hn;have HC:=Zaa h;obtain⟨a0,k0,a1,k1,a2,k2,a3,k3,a4,k4,a5,k5,a6,k6,hcs,h⟩:=h;have HL:=Zaa h;have c0:cs[0]?=some (.int .i64 U.nu):=by rw [hcs];rfl
 have c1:cs[1]?=some (.int .i64 U.of):=by rw [hcs];rfl
 have c2:cs[2]?=some (.bool U.up):=by rw [hcs];rfl
 have c3:cs[3]?=some (.int .i64 U.sf.pr):=by rw [hcs];rfl
 have c4:cs[4]?=some (.int .i64 U.sf.kn):=by rw [hcs];rfl
 have c5:cs[5]?=some (.slice a0 U.sf.sl.length k0):=by rw [hcs];rfl
 have c6:cs[6]?=some (.int .i64 U.dk.pr):=by rw [hcs];rfl
 have c7:cs[7]?=some (.int .i64 U.dk.kn):=by rw [hcs];rfl
 have c8:cs[8]?=some (.slice a1 U.dk.sl.length k1):=by rw [hcs];rfl
 have c9:cs[9]?=some (.slice a2 U.he.length k2):=by rw [hcs];rfl
 have c10:cs[10]?=some (.slice a3 U.wi.length k3):=by rw [hcs];rfl
 have c11:cs[11]?=some (.bool U.ld):=by rw [hcs];rfl
 have c12:cs[12]?=some (.bool U.ty):=by rw [hcs];rfl
 have c13:cs[13]?=some (.int .i64 U.ba):=by rw [hcs];rfl
 have c14:cs[14]?=some (.slice a4 U.ye.length k4):=by rw [hcs];rfl
 have c15:cs[15]?=some (.slice a5 U.be.length k5):=by rw [hcs];rfl
 have c16:cs[16]?=some (.slice a6 U.ac.length k6):=by rw [hcs];rfl
 have c17:cs[17]?=some (.int .i64 U.hd):=by rw [hcs];rfl
 have hm:=h.l2.max;unfold maxLen at hm;clear h hcs hn;have HE:Hd (ZaM U=(inB 1 5 U.of&&(inB 1 U.of U.nu&&(ZaW U.sf&&(ZaW U.dk&&(decide (U.he.length<=400)&&(ZbC U.wi&&(inB 0 1000000 U.hd&&Ze5 U)))))))):=rfl;go_enter func53,ntmps53;go_wp2_with fail;generalize hWa:w.alloc _=Wa;have HB:Hd (Zw_ w Wa):=by unfold Hd;rw [<- hWa];exact (Zab w _)
 have F:Hd (Box Wa w.heap.size cs.toArray):=by unfold Hd;rw [<- hWa];exact (Box.new _ _ _ _ rfl)
 clear hWa;refine (Zaq _ _ _ _).mono ?_;rintro e wt ⟨rfl,hw⟩;rw [hw];clear hw wt
 cases q1:inB 1 5 U.of with
 | false=>
  have HNo:Hd (ZaM U=false):=by unfold Hd;rw [HE.o,q1];rfl
  go_wp2;go_ret;exact⟨Zac HNo.o.symm,HB.o⟩
 | true=>
 have g0:Wa.cell? ⟨w.heap.size,0,none⟩=some (.int .i64 U.nu):=by rw [F.o.cell 0,List.getElem?_toArray];exact c0
 have g1:Wa.cell? ⟨w.heap.size,1,none⟩=some (.int .i64 U.of):=by rw [F.o.cell 1,List.getElem?_toArray];exact c1
 go_wp2_with fail;clear g0 g1;refine (Zaq _ _ _ _).mono ?_;rintro e wt ⟨rfl,hw⟩;rw [hw];clear hw wt
 cases q2:inB 1 U.of U.nu with
 | false=>
  have HNo:Hd (ZaM U=false):=by unfold Hd;rw [HE.o,q1,q2];rfl
  go_wp2;go_ret;exact⟨Zac HNo.o.symm,HB.o⟩
 | true=>
 have g3:Wa.cell? ⟨w.heap.size,3,none⟩=some (.int .i64 U.sf.pr):=by rw [F.o.cell 3,List.getElem?_toArray];exact c3
 have g4:Wa.cell? ⟨w.heap.size,4,none⟩=some (.int .i64 U.sf.kn):=by rw [F.o.cell 4,List.getElem?_toArray];exact c4
 have g5:Wa.cell? ⟨w.heap.size,5,none⟩=some (.slice a0 U.sf.sl.length k0):=by rw [F.o.cell 5,List.getElem?_toArray];exact c5
 go_wp2_with fail;clear g3 g4 g5;refine (ZdN lo _ U.sf _ ⟨_,_,rfl,⟨(HL.o.below HB.o).l0⟩⟩).mono ?_;rintro e w1 ⟨rfl,hb⟩;replace HB:Hd (Zw_ w w1):=bt HB.o hb;replace F:=Zaa (F.o.on hb);clear hb
 cases q3:ZaW U.sf with
 | false=>
  have HNo:Hd (ZaM U=false):=by unfold Hd;rw [HE.o,q1,q2,q3];rfl
  go_wp2;go_ret;exact⟨Zac HNo.o.symm,HB.o⟩
 | true=>
 have g6:w1.cell? ⟨w.heap.size,6,none⟩=some (.int .i64 U.dk.pr):=by rw [F.o.cell 6,List.getElem?_toArray];exact c6
 have g7:w1.cell? ⟨w.heap.size,7,none⟩=some (.int .i64 U.dk.kn):=by rw [F.o.cell 7,List.getElem?_toArray];exact c7
 have g8:w1.cell? ⟨w.heap.size,8,none⟩=some (.slice a1 U.dk.sl.length k1):=by rw [F.o.cell 8,List.getElem?_toArray];exact c8
 go_wp2_with fail;clear g6 g7 g8;refine (ZdN lo _ U.dk _ ⟨_,_,rfl,⟨(HL.o.below HB.o).l1⟩⟩).mono ?_;rintro e w2 ⟨rfl,hb⟩;replace HB:Hd (Zw_ w w2):=bt HB.o hb;replace F:=Zaa (F.o.on hb);clear hb
 cases q4:ZaW U.dk with
 | false=>
  have HNo:Hd (ZaM U=false):=by unfold Hd;rw [HE.o,q1,q2,q3,q4];rfl
  go_wp2;go_ret;exact⟨Zac HNo.o.symm,HB.o⟩
 | true=>
 by_cases q5:U.he.length<=400
 case neg=>
  have d5:decide ((400:Int) < (U.he.length:Int))=true:=by simp;omega
  have HNo:Hd (ZaM U=false):=by unfold Hd;rw [HE.o,q1,q2,q3,q4,decide_eq_false q5];rfl
  have g9:w2.cell? ⟨w.heap.size,9,none⟩=some (.slice a2 U.he.length k2):=by rw [F.o.cell 9,List.getElem?_toArray];exact c9
  go_wp2;go_ret;exact⟨Zac HNo.o.symm,HB.o⟩
 have d5:decide ((400:Int) < (U.he.length:Int))=false:=by simp;omega
 have g9:w2.cell? ⟨w.heap.size,9,none⟩=some (.slice a2 U.he.length k2):=by rw [F.o.cell 9,List.getElem?_toArray];exact c9
 have g10:w2.cell? ⟨w.heap.size,10,none⟩=some (.slice a3 U.wi.length k3):=by rw [F.o.cell 10,List.getElem?_toArray];exact c10
 go_wp2_with fail;clear g9 g10;refine (ZeZ lo _ U.wi _ (HL.o.below HB.o).l3).mono ?_;rintro e w3 ⟨rfl,hb⟩;replace HB:Hd (Zw_ w w3):=bt HB.o hb;replace F:=Zaa (F.o.on hb);clear hb
 cases q6:ZbC U.wi with
 | false=>
  have HNo:Hd (ZaM U=false):=by unfold Hd;rw [HE.o,q1,q2,q3,q4,decide_eq_true q5,q6];rfl
  go_wp2;go_ret;exact⟨Zac HNo.o.symm,HB.o⟩
 | true=>
 have g17:w3.cell? ⟨w.heap.size,17,none⟩=some (.int .i64 U.hd):=by rw [F.o.cell 17,List.getElem?_toArray];exact c17
 go_wp2_with fail;clear g17;refine (Zaq _ _ _ _).mono ?_;rintro e wt ⟨rfl,hw⟩;rw [hw];clear hw wt
 cases q7:inB 0 1000000 U.hd with
 | false=>
  have HNo:Hd (ZaM U=false):=by unfold Hd;rw [HE.o,q1,q2,q3,q4,decide_eq_true q5,q6,q7];rfl
  go_wp2;go_ret;exact⟨Zac HNo.o.symm,HB.o⟩
 | true=>
 have HR':Hd (ZaM U=Ze5 U):=by unfold Hd;rw [HE.o,q1,q2,q3,q4,decide_eq_true q5,q6,q7];rfl
 clear HE;have HE1:Hd (Ze5 U=((List.range U.he.length).all (ZbS U)&&(Zbq U.of U.ye&&(ZaI U.be&&(ZbH U.of U.ac&&(!(U.ld&&U.ty)&&(Zf2 U&&(U.up || (Zci U&&((U.he.length+U.wi.length:Nat)+U.hd == 0)))))))))):=rfl;have HQ7:=Zaa q7;go_wp2
 go_loopw [3] (fun i wr=>∃ k:Nat,i=.int .i64 k/\k<=U.he.length/\Below w3.heap.size w3 wr/\∀ j,j < k->ZbS U j=true) (fun i _=>U.he.length - (intOf i).toNat)
 case atStart=>exact⟨0,rfl,by omega,Below.refl _ _,fun j h=>by omega⟩
 case round=>
  obtain⟨k,rfl,hk,hb,hall⟩:=hrel;have HAL:=Zaa hall;have HBr:=Zaa hb;have FR:=Zaa (F.o.on hb);have y:wr.cell? ⟨w.heap.size,9,none⟩=some (.slice a2 U.he.length k2):=by rw [FR.o.cell 9,List.getElem?_toArray];exact c9
  clear hall hb
  by_cases hlt:k < U.he.length
  . obtain⟨b,off,hab,hbw,-,hc⟩:=(HL.o.below HB.o).l2.full' (by omega)
    subst hab;obtain⟨m,hm'⟩:∃ m,m=U.he[k]:=⟨_,rfl⟩
    have HDK:Hd (ZbS U k=(Zds m U.of&&m.fr == U.nu)):=by unfold Hd ZbS;rw [List.getElem?_eq_getElem hlt,hm']
    obtain⟨ms,hr,b0,m0,rfl,hf⟩:=hc k hlt;rw [<- hm'] at hf hr;have HM:Hd (RmC lo wr (rmL m b0 m0) m):=⟨_,_,rfl,hf.below HBr.o⟩;have HR:=Zaa (Zaz hr HBr.o hbw);clear hc hr hf hm';go_wp2
    go_cut [72] (fun c wc=>c=.bool (!(ZbS U k))/\Below wr.heap.size wr wc)
    case first=>
     have xn:Nonempty (In (Up wr)):=⟨⟨wr,Below.refl _ _⟩⟩;have xs:=fun (X:In (Up wr))=>Zbc X
     have x0:∀ X:In (Up wr),X.w.cell? ⟨w.heap.size,0,none⟩=some (.int .i64 U.nu):=fun X=>Up.cell X (by rw [FR.o.cell 0,List.getElem?_toArray];exact c0)
     have x1:∀ X:In (Up wr),X.w.cell? ⟨w.heap.size,1,none⟩=some (.int .i64 U.of):=fun X=>Up.cell X (by rw [FR.o.cell 1,List.getElem?_toArray];exact c1)
     have x9:∀ X:In (Up wr),X.w.cell? ⟨w.heap.size,9,none⟩=some (.slice (some ⟨b,off,none⟩) U.he.length k2):=fun X=>Up.cell X y
     have s0:∀ X:In (Up wr),X.w.cell? ⟨b,off+k*8,none⟩=some (.int .i64 m.kd):=fun X=>Up.cell X (HR.o 0 _ rfl)
     have s1:∀ X:In (Up wr),X.w.cell? ⟨b,off+k*8+1,none⟩=some (.int .i64 m.fr):=fun X=>Up.cell X (HR.o 1 _ rfl)
     have s2:∀ X:In (Up wr),X.w.cell? ⟨b,off+k*8+2,none⟩=some (.int .i64 m.tt):=fun X=>Up.cell X (HR.o 2 _ rfl)
     have s3:∀ X:In (Up wr),X.w.cell? ⟨b,off+k*8+3,none⟩=some (.int .i64 m.ba):=fun X=>Up.cell X (HR.o 3 _ rfl)
     have s4:∀ X:In (Up wr),X.w.cell? ⟨b,off+k*8+4,none⟩=some (.int .i64 m.ix):=fun X=>Up.cell X (HR.o 4 _ rfl)
     have s5:∀ X:In (Up wr),X.w.cell? ⟨b,off+k*8+5,none⟩=some (.int .i64 m.kn):=fun X=>Up.cell X (HR.o 5 _ rfl)
     have s6:∀ X:In (Up wr),X.w.cell? ⟨b,off+k*8+6,none⟩=some (.string m.tx):=fun X=>Up.cell X (HR.o 6 _ rfl)
     have s7:∀ X:In (Up wr),X.w.cell? ⟨b,off+k*8+7,none⟩=some (.slice b0 m.sl.length m0):=fun X=>Up.cell X (HR.o 7 _ rfl)
     have i0:(0:Int)<=(k:Int):=by omega
     have i1:(k:Int) < (U.he.length:Int):=by omega
     clear y;refine Zaf (Up wr) (by kernel_rfl) (by kernel_rfl) (Zb_.drew) ?_
     cases r1:Zds m U.of with
     | false=>
      repeat (go_big_quiet_step ((go_at_call 122;rename_i Y;exact (Zc1 lo _ m U.of _ (HM.o.below Y.h)).mono fun _ _ h=>⟨h.1,Up.next Y h.2⟩)))
      refine wpQuiet_nil ?_;intro wn hw;obtain⟨X,hX⟩:=hw;have HWN:Below wr.heap.size wr wn:=by rw [hX];exact X.h
      clear hX X x0 x1 x9 s0 s1 s2 s3 s4 s5 s6 s7 xs xn;go_wp2;go_meet;exact⟨congrArg Value.bool (by rw [HDK.o,r1];rfl),HWN⟩
     | true=>
      cases r2:(m.fr == U.nu) with
      | false=>
       repeat (go_big_quiet_step ((go_at_call 122;rename_i Y;exact (Zc1 lo _ m U.of _ (HM.o.below Y.h)).mono fun _ _ h=>⟨h.1,Up.next Y h.2⟩)))
       refine wpQuiet_nil ?_;intro wn hw;obtain⟨X,hX⟩:=hw;have HWN:Below wr.heap.size wr wn:=by rw [hX];exact X.h
       clear hX X x0 x1 x9 s0 s1 s2 s3 s4 s5 s6 s7 xs xn;go_wp2;go_meet;exact⟨congrArg Value.bool (by rw [HDK.o,r1,bne,r2];rfl),HWN⟩
      | true=>
       repeat (go_big_quiet_step ((go_at_call 122;rename_i Y;exact (Zc1 lo _ m U.of _ (HM.o.below Y.h)).mono fun _ _ h=>⟨h.1,Up.next Y h.2⟩)))
       refine wpQuiet_nil ?_;intro wn hw;obtain⟨X,hX⟩:=hw;have HWN:Below wr.heap.size wr wn:=by rw [hX];exact X.h
       clear hX X x0 x1 x9 s0 s1 s2 s3 s4 s5 s6 s7 xs xn;go_wp2;go_meet;exact⟨congrArg Value.bool (by rw [HDK.o,r1,bne,r2];rfl),HWN⟩
    case rest=>
    obtain⟨rfl,hbc⟩:=hcut;have HBc:Hd (Below w3.heap.size w3 wc):=bt HBr.o hbc;clear hbc y
    cases h7:ZbS U k with
    | false=>
     have HNo:Hd (ZaM U=false):=by unfold Hd;rw [HR'.o,HE1.o,ZaN hlt h7];rfl
     go_wp2;go_ret;exact⟨Zac HNo.o.symm,bt HB.o HBc.o⟩
    | true=>
     have HT:=Zaa h7;go_wp2;go_roundw
     case rel=>exact⟨k+1,by go_num,by omega,HBc.o,fun j hj=>by
                by_cases e:j=k
                . rw [e];exact HT.o
                . exact HAL.o j (by omega)⟩
     . simp [intOf];omega
  . have HE2:Hd (Ze5 U=(Zbq U.of U.ye&&(ZaI U.be&&(ZbH U.of U.ac&&(!(U.ld&&U.ty)&&(Zf2 U&&(U.up || (Zci U&&((U.he.length+U.wi.length:Nat)+U.hd == 0))))))))):=by unfold Hd;rw [HE1.o,Zbj (fun i hi=>HAL.o i (by omega))];rfl
    have HB3:Hd (Zw_ w wr):=bt HB.o HBr.o;have g14:wr.cell? ⟨w.heap.size,14,none⟩=some (.slice a4 U.ye.length k4):=by rw [FR.o.cell 14,List.getElem?_toArray];exact c14
    have g1:wr.cell? ⟨w.heap.size,1,none⟩=some (.int .i64 U.of):=by rw [FR.o.cell 1,List.getElem?_toArray];exact c1
    go_wp2_with fail;clear g14 g1 y;refine (Zbk lo _ U.ye U.of _ (HL.o.below HB3.o).l4).mono ?_;rintro e w4 ⟨rfl,hb⟩;have HB4:Hd (Zw_ w w4):=bt HB3.o hb;have F4:=Zaa (FR.o.on hb);clear hb
    cases q8:Zbq U.of U.ye with
    | false=>
     have HNo:Hd (ZaM U=false):=by unfold Hd;rw [HR'.o,HE2.o,q8];rfl
     go_wp2;go_ret;exact⟨Zac HNo.o.symm,HB4.o⟩
    | true=>
    have g15:w4.cell? ⟨w.heap.size,15,none⟩=some (.slice a5 U.be.length k5):=by rw [F4.o.cell 15,List.getElem?_toArray];exact c15
    go_wp2_with fail;clear g15;refine (ZaU lo _ U.be _ (HL.o.below HB4.o).l5).mono ?_;rintro e wt ⟨rfl,hw⟩;rw [hw];clear hw wt
    cases q9:ZaI U.be with
    | false=>
     have HNo:Hd (ZaM U=false):=by unfold Hd;rw [HR'.o,HE2.o,q8,q9];rfl
     go_wp2;go_ret;exact⟨Zac HNo.o.symm,HB4.o⟩
    | true=>
    have g16:w4.cell? ⟨w.heap.size,16,none⟩=some (.slice a6 U.ac.length k6):=by rw [F4.o.cell 16,List.getElem?_toArray];exact c16
    have g1:w4.cell? ⟨w.heap.size,1,none⟩=some (.int .i64 U.of):=by rw [F4.o.cell 1,List.getElem?_toArray];exact c1
    go_wp2_with fail;clear g16 g1;refine (Zf1 lo _ U.ac U.of _ (HL.o.below HB4.o).l6).mono ?_;rintro e w5 ⟨rfl,hb⟩;have HB5:Hd (Zw_ w w5):=bt HB4.o hb;have F5:=Zaa (F4.o.on hb);clear hb
    cases q10:ZbH U.of U.ac with
    | false=>
     have HNo:Hd (ZaM U=false):=by unfold Hd;rw [HR'.o,HE2.o,q8,q9,q10];rfl
     go_wp2;go_ret;exact⟨Zac HNo.o.symm,HB5.o⟩
    | true=>
    have HE3:Hd (ZaM U=(!(U.ld&&U.ty)&&(Zf2 U&&(U.up || (Zci U&&((U.he.length+U.wi.length:Nat)+U.hd == 0)))))):=by unfold Hd;rw [HR'.o,HE2.o,q8,q9,q10];rfl
    clear HE2 HE1 HR' HBr FR HB4 F4;have HLd:Hd (Zf2 U=if U.ld || U.ty then inB 1 U.dk.pr U.ba&&(!(U.ty&&decide (0 < U.ac.length))&&!(U.ld&&decide (0 < U.ye.length+U.be.length))) else Zci U):=rfl;have HQd:Hd (Zci U=(!U.ld&&(!U.ty&&(U.ba == 0&&decide (U.ye.length+U.be.length+U.ac.length=0))))):=rfl;have HZ:Hd ((prog.info? 61).map (·.size)=some cs.length):=by unfold Hd;rw [HC.o.len];exact ZaA
    cases ql:U.ld with
    | true=>
     cases qt:U.ty with
     | true=>
      have g11:w5.cell? ⟨w.heap.size,11,none⟩=some (.bool true):=by rw [F5.o.cell 11,List.getElem?_toArray,c11,ql]
      have g12:w5.cell? ⟨w.heap.size,12,none⟩=some (.bool true):=by rw [F5.o.cell 12,List.getElem?_toArray,c12,qt]
      go_wp2;go_ret;exact⟨Zac (by rw [HE3.o,ql,qt];rfl),HB5.o⟩
     | false=>
      have g11:w5.cell? ⟨w.heap.size,11,none⟩=some (.bool true):=by rw [F5.o.cell 11,List.getElem?_toArray,c11,ql]
      have g12:w5.cell? ⟨w.heap.size,12,none⟩=some (.bool false):=by rw [F5.o.cell 12,List.getElem?_toArray,c12,qt]
      have g13:w5.cell? ⟨w.heap.size,13,none⟩=some (.int .i64 U.ba):=by rw [F5.o.cell 13,List.getElem?_toArray,c13]
      have g6:w5.cell? ⟨w.heap.size,6,none⟩=some (.int .i64 U.dk.pr):=by rw [F5.o.cell 6,List.getElem?_toArray,c6]
      go_wp2_with fail;clear g13 g6;refine (Zaq _ _ _ _).mono ?_;rintro e wt ⟨rfl,hw⟩;rw [hw];clear hw wt;have hqn:Zci U=false:=by rw [HQd.o,ql];rfl
      have HQN:=Zaa hqn;clear hqn
      cases q11:inB 1 U.dk.pr U.ba with
      | false=>
       go_wp2;go_ret;exact⟨Zac (by rw [HE3.o,HLd.o,ql,qt,q11];rfl),HB5.o⟩
      | true=>
       have n4:=HN.o.2.2.2.2.1;have n5:=HN.o.2.2.2.2.2.1.1;unfold ZaS at n4;have g14:w5.cell? ⟨w.heap.size,14,none⟩=some (.slice a4 U.ye.length k4):=by rw [F5.o.cell 14,List.getElem?_toArray,c14]
       have g15:w5.cell? ⟨w.heap.size,15,none⟩=some (.slice a5 U.be.length k5):=by rw [F5.o.cell 15,List.getElem?_toArray,c15]
       by_cases z:0 < U.ye.length+U.be.length
       . have dz:decide ((0:Int) < (U.ye.length:Int)+(U.be.length:Int))=true:=by rw [decide_eq_true_eq];omega
         go_wp2;go_ret;exact⟨Zac (by rw [HE3.o,HLd.o,ql,qt,q11,decide_eq_true z];rfl),HB5.o⟩
       have dz:decide ((0:Int) < (U.ye.length:Int)+(U.be.length:Int))=false:=by rw [decide_eq_false_iff_not];omega
       cases qu:U.up with
       | true=>
        have g2:w5.cell? ⟨w.heap.size,2,none⟩=some (.bool true):=by rw [F5.o.cell 2,List.getElem?_toArray,c2,qu]
        go_wp2;go_ret;exact⟨Zac (by rw [HE3.o,HLd.o,ql,qt,q11,decide_eq_false z,qu];rfl),HB5.o⟩
       | false=>
        have g2:w5.cell? ⟨w.heap.size,2,none⟩=some (.bool false):=by rw [F5.o.cell 2,List.getElem?_toArray,c2,qu]
        go_wp2_with (first|(with_reducible refine wpList_load_mid (by with_reducible rfl) 61 (.tmp 1) (by with_reducible rfl) w.heap.size 0 (by with_unfolding_all rfl) cs _ (F5.o.range rfl) underlying61 (by with_unfolding_all rfl) HZ.o ?_)|(with_reducible refine ZaY (by with_unfolding_all rfl) 61 (.tmp 1) (by with_reducible rfl) w.heap.size 0 (by with_unfolding_all rfl) cs _ (F5.o.range rfl) underlying61 (by with_unfolding_all rfl) HZ.o ?_));refine (Zca lo cs U _ (HC.o.below HB5.o) HN.o).mono ?_;rintro e w7 ⟨rfl,hb⟩;have HBw7:Hd (Zw_ w w7):=bt HB5.o hb;have Fw7:=Zaa (F5.o.on hb);clear hb;rw [HQN.o];go_wp2;go_ret;exact⟨Zac (by rw [HE3.o,HLd.o,ql,qt,q11,decide_eq_false z,qu,HQN.o];rfl),HBw7.o⟩
    | false=>
     cases qt:U.ty with
     | true=>
      have g11:w5.cell? ⟨w.heap.size,11,none⟩=some (.bool false):=by rw [F5.o.cell 11,List.getElem?_toArray,c11,ql]
      have g12:w5.cell? ⟨w.heap.size,12,none⟩=some (.bool true):=by rw [F5.o.cell 12,List.getElem?_toArray,c12,qt]
      have g13:w5.cell? ⟨w.heap.size,13,none⟩=some (.int .i64 U.ba):=by rw [F5.o.cell 13,List.getElem?_toArray,c13]
      have g6:w5.cell? ⟨w.heap.size,6,none⟩=some (.int .i64 U.dk.pr):=by rw [F5.o.cell 6,List.getElem?_toArray,c6]
      go_wp2_with fail;clear g13 g6;refine (Zaq _ _ _ _).mono ?_;rintro e wt ⟨rfl,hw⟩;rw [hw];clear hw wt;have hqn:Zci U=false:=by rw [HQd.o,ql,qt];rfl
      have HQN:=Zaa hqn;clear hqn
      cases q11:inB 1 U.dk.pr U.ba with
      | false=>
       go_wp2;go_ret;exact⟨Zac (by rw [HE3.o,HLd.o,ql,qt,q11];rfl),HB5.o⟩
      | true=>
       have n4:=HN.o.2.2.2.2.1;have n5:=HN.o.2.2.2.2.2.1.1;unfold ZaS at n4;have HA16:Hd (cs[16]?=some (.slice a6 U.ac.length k6)):=c16;clear c16;obtain⟨na,hna⟩:∃ n:Nat,n=U.ac.length:=⟨_,rfl⟩
       have hnm:na<=1048576:=by rw [hna];exact HN.o.2.2.2.2.2.2.1
       have HNA:=Zaa hna;have g16:w5.cell? ⟨w.heap.size,16,none⟩=some (.slice a6 na k6):=by rw [F5.o.cell 16,List.getElem?_toArray,HNA.o];exact HA16.o
       clear hna
       by_cases z:0 < na
       . have dz:decide ((0:Int) < (na:Int))=true:=by rw [decide_eq_true_eq];omega
         go_wp2;go_ret;exact⟨Zac (by rw [HE3.o,HLd.o,ql,qt,q11,<- HNA.o,decide_eq_true z];rfl),HB5.o⟩
       obtain rfl:na=0:=by omega
       have HZA:Hd (decide (0 < U.ac.length)=false):=by unfold Hd;rw [<- HNA.o];rfl
       clear z hnm
       cases qu:U.up with
       | true=>
        have g2:w5.cell? ⟨w.heap.size,2,none⟩=some (.bool true):=by rw [F5.o.cell 2,List.getElem?_toArray,c2,qu]
        go_wp2;go_ret;exact⟨Zac (by rw [HE3.o,HLd.o,ql,qt,q11,HZA.o,qu];rfl),HB5.o⟩
       | false=>
        have g2:w5.cell? ⟨w.heap.size,2,none⟩=some (.bool false):=by rw [F5.o.cell 2,List.getElem?_toArray,c2,qu]
        go_wp2_with (first|(with_reducible refine wpList_load_mid (by with_reducible rfl) 61 (.tmp 1) (by with_reducible rfl) w.heap.size 0 (by with_unfolding_all rfl) cs _ (F5.o.range rfl) underlying61 (by with_unfolding_all rfl) HZ.o ?_)|(with_reducible refine ZaY (by with_unfolding_all rfl) 61 (.tmp 1) (by with_reducible rfl) w.heap.size 0 (by with_unfolding_all rfl) cs _ (F5.o.range rfl) underlying61 (by with_unfolding_all rfl) HZ.o ?_));refine (Zca lo cs U _ (HC.o.below HB5.o) HN.o).mono ?_;rintro e w7 ⟨rfl,hb⟩;have HBw7:Hd (Zw_ w w7):=bt HB5.o hb;have Fw7:=Zaa (F5.o.on hb);clear hb;rw [HQN.o];go_wp2;go_ret;exact⟨Zac (by rw [HE3.o,HLd.o,ql,qt,q11,HZA.o,qu,HQN.o];rfl),HBw7.o⟩
     | false=>
      have g11:w5.cell? ⟨w.heap.size,11,none⟩=some (.bool false):=by rw [F5.o.cell 11,List.getElem?_toArray,c11,ql]
      have g12:w5.cell? ⟨w.heap.size,12,none⟩=some (.bool false):=by rw [F5.o.cell 12,List.getElem?_toArray,c12,qt]
      go_wp2_with (first|(with_reducible refine wpList_load_mid (by with_reducible rfl) 61 (.tmp 1) (by with_reducible rfl) w.heap.size 0 (by with_unfolding_all rfl) cs _ (F5.o.range rfl) underlying61 (by with_unfolding_all rfl) HZ.o ?_)|(with_reducible refine ZaY (by with_unfolding_all rfl) 61 (.tmp 1) (by with_reducible rfl) w.heap.size 0 (by with_unfolding_all rfl) cs _ (F5.o.range rfl) underlying61 (by with_unfolding_all rfl) HZ.o ?_));refine (Zca lo cs U _ (HC.o.below HB5.o) HN.o).mono ?_;rintro e w6 ⟨rfl,hb⟩;have HBw6:Hd (Zw_ w w6):=bt HB5.o hb;have Fw6:=Zaa (F5.o.on hb);clear hb;clear g11 g12
      cases qq:Zci U with
      | false=>
       go_wp2;go_ret;exact⟨Zac (by rw [HE3.o,HLd.o,ql,qt,qq];rfl),HBw6.o⟩
      | true=>
       cases qu:U.up with
       | true=>
        have g2:w6.cell? ⟨w.heap.size,2,none⟩=some (.bool true):=by rw [Fw6.o.cell 2,List.getElem?_toArray,c2,qu]
        go_wp2;go_ret;exact⟨Zac (by rw [HE3.o,HLd.o,ql,qt,qq,qu];rfl),HBw6.o⟩
       | false=>
        have g2:w6.cell? ⟨w.heap.size,2,none⟩=some (.bool false):=by rw [Fw6.o.cell 2,List.getElem?_toArray,c2,qu]
        go_wp2_with (first|(with_reducible refine wpList_load_mid (by with_reducible rfl) 61 (.tmp 1) (by with_reducible rfl) w.heap.size 0 (by with_unfolding_all rfl) cs _ (Fw6.o.range rfl) underlying61 (by with_unfolding_all rfl) HZ.o ?_)|(with_reducible refine ZaY (by with_unfolding_all rfl) 61 (.tmp 1) (by with_reducible rfl) w.heap.size 0 (by with_unfolding_all rfl) cs _ (Fw6.o.range rfl) underlying61 (by with_unfolding_all rfl) HZ.o ?_));refine (Zca lo cs U _ (HC.o.below HBw6.o) HN.o).mono ?_;rintro e w7 ⟨rfl,hb⟩;have HBw7:Hd (Zw_ w w7):=bt HBw6.o hb;have Fw7:=Zaa (Fw6.o.on hb);clear hb;clear g2;rw [qq];have g9:w7.cell? ⟨w.heap.size,9,none⟩=some (.slice a2 U.he.length k2):=by rw [Fw7.o.cell 9,List.getElem?_toArray,c9]
        have g10:w7.cell? ⟨w.heap.size,10,none⟩=some (.slice a3 U.wi.length k3):=by rw [Fw7.o.cell 10,List.getElem?_toArray,c10]
        have g17:w7.cell? ⟨w.heap.size,17,none⟩=some (.int .i64 U.hd):=by rw [Fw7.o.cell 17,List.getElem?_toArray,c17]
        obtain⟨-,-,⟨n2,-⟩,n3,-⟩:=HN.o;unfold Zbo at n3;have n7:=HQ7.o;simp only [ZgF,Bool.and_eq_true,decide_eq_true_eq] at n7;go_wp2;go_ret;refine⟨Zac ?_,HBw7.o⟩;rw [HE3.o,HLd.o,ql,qt,qq,qu,Bool.eq_iff_iff];simp only [Bool.and_false,Bool.not_false,Bool.true_and,Bool.false_or,Bool.false_eq_true,if_false,beq_iff_eq]
        omega
end Go.Proofs.YtdeammfdkaomlaaGreat
