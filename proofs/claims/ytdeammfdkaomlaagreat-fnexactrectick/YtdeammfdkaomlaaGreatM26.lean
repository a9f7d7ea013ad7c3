import Derived.Test.YtdeammfdkaomlaaGreatM25
set_option maxHeartbeats 16000000
set_option maxRecDepth 100000
open Go.Proofs.Tryz
namespace Go.Proofs.YtdeammfdkaomlaaGreat
open Go.RowKit Go.Deep
theorem Zjp (u:World):Sem.run prog (nilAhead 365 217 (.agg #[]) "loop.example/wharfhall/impl.sound") u=.ok (some false) u:=by kernel_rfl
theorem Zjm (u:World):Sem.run prog (method 365 217 (.agg #[]) "loop.example/wharfhall/impl.sound") u=.ok (246,.agg #[]) u:=by kernel_rfl
theorem Zhs (lo:Nat) (cs:List Value) (U:Rr) (w:World) (h:RrC lo w cs U) (h1:(inB 1 5 U.of&&inB 1 U.of U.nu)=true) (h2:(ZaW U.sf)=true) (h3:(ZaW U.dk)=true) (h4:(decide (U.he.length<=400)&&(List.range U.he.length).all (ZbS U))=true) (h5:(ZbC U.wi)=true) (h6:(inB 0 1000000 U.hd)=true) (h7:(Zbq U.of U.ye)=true) (h8:(ZaI U.be)=true) (h9:(ZbH U.of U.ac)=true)
 (ql:U.ld=true) :
 Calls prog 70 #[.agg cs.toArray] w fun e w'=>e=.returned (.bool (ZcF U))/\Zw_ w w':=by
 have HS:Hd (Zcu U=Zhi U):=by unfold Hd Zcu;rw [ql];rfl
 have HRO:Hd (Ending.returned (Zdy U)=.returned (.iface 217 (.agg #[]))):=by unfold Hd Zdy;rw [ql];rfl
 have hna:=Zjp;have hme:=Zjm;have HC:=Zaa h;obtain⟨a0,k0,a1,k1,a2,k2,a3,k3,a4,k4,a5,k5,a6,k6,hcs,h⟩:=h;have HL:=Zaa h;have c0:cs[0]?=some (.int .i64 U.nu):=by rw [hcs];rfl
 have c1:cs[1]?=some (.int .i64 U.of):=by rw [hcs];rfl
 have c2:cs[2]?=some (.bool U.up):=by rw [hcs];rfl
 have c3:cs[3]?=some (.int .i64 U.sf.pr):=by rw [hcs];rfl
 have c4:cs[4]?=some (.int .i64 U.sf.kn):=by rw [hcs];rfl
 have c5:cs[5]?=some (.slice a0 U.sf.sl.length k0):=by rw [hcs];rfl
 have c6:cs[6]?=some (.int .i64 U.dk.pr):=by rw [hcs];rfl
 have c7:cs[7]?=some (.int .i64 U.dk.kn):=by rw [hcs];rfl
 have c8:cs[8]?=some (.slice a1 U.dk.sl.length k1):=by rw [hcs];rfl
 have c10:cs[10]?=some (.slice a3 U.wi.length k3):=by rw [hcs];rfl
 have c14:cs[14]?=some (.slice a4 U.ye.length k4):=by rw [hcs];rfl
 have c15:cs[15]?=some (.slice a5 U.be.length k5):=by rw [hcs];rfl
 have c16:cs[16]?=some (.slice a6 U.ac.length k6):=by rw [hcs];rfl
 have c17:cs[17]?=some (.int .i64 U.hd):=by rw [hcs];rfl
 clear h hcs;have HE:Hd (ZcF U=((inB 1 5 U.of&&inB 1 U.of U.nu)&&(ZaW U.sf&&(ZaW U.dk&&((decide (U.he.length<=400)&&(List.range U.he.length).all (ZbS U))&&(ZbC U.wi&&(inB 0 1000000 U.hd&&(Zbq U.of U.ye&&(ZaI U.be&&(ZbH U.of U.ac&&(Zcu U&&(U.up || ZdO U)))))))))))):=rfl;have HZ:Hd ((prog.info? 61).map (·.size)=some cs.length):=by unfold Hd;rw [HC.o.len];exact ZaA
 go_enter func70,ntmps70;go_wp2_with fail;generalize hWa:w.alloc _=Wa;have HB:Hd (Zw_ w Wa):=by unfold Hd;rw [<- hWa];exact (Zab w _)
 have F:Hd (Box Wa w.heap.size cs.toArray):=by unfold Hd;rw [<- hWa];exact (Box.new _ _ _ _ rfl)
 clear hWa;have xn:Nonempty (In (Up Wa)):=⟨⟨Wa,Below.refl _ _⟩⟩;have xs:=fun (X:In (Up Wa))=>Zbc X
 have x0:∀ X:In (Up Wa),X.w.cell? ⟨w.heap.size,0,none⟩=some (.int .i64 U.nu):=fun X=>Up.cell X (by rw [F.o.cell 0,List.getElem?_toArray];exact c0)
 have x1:∀ X:In (Up Wa),X.w.cell? ⟨w.heap.size,1,none⟩=some (.int .i64 U.of):=fun X=>Up.cell X (by rw [F.o.cell 1,List.getElem?_toArray];exact c1)
 have x2:∀ X:In (Up Wa),X.w.cell? ⟨w.heap.size,2,none⟩=some (.bool U.up):=fun X=>Up.cell X (by rw [F.o.cell 2,List.getElem?_toArray];exact c2)
 have x3:∀ X:In (Up Wa),X.w.cell? ⟨w.heap.size,3,none⟩=some (.int .i64 U.sf.pr):=fun X=>Up.cell X (by rw [F.o.cell 3,List.getElem?_toArray];exact c3)
 have x4:∀ X:In (Up Wa),X.w.cell? ⟨w.heap.size,4,none⟩=some (.int .i64 U.sf.kn):=fun X=>Up.cell X (by rw [F.o.cell 4,List.getElem?_toArray];exact c4)
 have x5:∀ X:In (Up Wa),X.w.cell? ⟨w.heap.size,5,none⟩=some (.slice a0 U.sf.sl.length k0):=fun X=>Up.cell X (by rw [F.o.cell 5,List.getElem?_toArray];exact c5)
 have x6:∀ X:In (Up Wa),X.w.cell? ⟨w.heap.size,6,none⟩=some (.int .i64 U.dk.pr):=fun X=>Up.cell X (by rw [F.o.cell 6,List.getElem?_toArray];exact c6)
 have x7:∀ X:In (Up Wa),X.w.cell? ⟨w.heap.size,7,none⟩=some (.int .i64 U.dk.kn):=fun X=>Up.cell X (by rw [F.o.cell 7,List.getElem?_toArray];exact c7)
 have x8:∀ X:In (Up Wa),X.w.cell? ⟨w.heap.size,8,none⟩=some (.slice a1 U.dk.sl.length k1):=fun X=>Up.cell X (by rw [F.o.cell 8,List.getElem?_toArray];exact c8)
 have x10:∀ X:In (Up Wa),X.w.cell? ⟨w.heap.size,10,none⟩=some (.slice a3 U.wi.length k3):=fun X=>Up.cell X (by rw [F.o.cell 10,List.getElem?_toArray];exact c10)
 have x14:∀ X:In (Up Wa),X.w.cell? ⟨w.heap.size,14,none⟩=some (.slice a4 U.ye.length k4):=fun X=>Up.cell X (by rw [F.o.cell 14,List.getElem?_toArray];exact c14)
 have x15:∀ X:In (Up Wa),X.w.cell? ⟨w.heap.size,15,none⟩=some (.slice a5 U.be.length k5):=fun X=>Up.cell X (by rw [F.o.cell 15,List.getElem?_toArray];exact c15)
 have x16:∀ X:In (Up Wa),X.w.cell? ⟨w.heap.size,16,none⟩=some (.slice a6 U.ac.length k6):=fun X=>Up.cell X (by rw [F.o.cell 16,List.getElem?_toArray];exact c16)
 have x17:∀ X:In (Up Wa),X.w.cell? ⟨w.heap.size,17,none⟩=some (.int .i64 U.hd):=fun X=>Up.cell X (by rw [F.o.cell 17,List.getElem?_toArray];exact c17)
 clear c0 c1 c2 c3 c4 c5 c6 c7 c8 c10 c14 c15 c16 c17
 cases h10:Zhi U with
 | false=>
  refine Zaf (Up Wa) (by kernel_rfl) (by kernel_rfl) (Zb_.drew) ?_
  repeat (first
   | (with_reducible refine Zao ?_ 61 (.tmp 1) (by with_reducible rfl) w.heap.size 0 (by with_unfolding_all rfl) cs _ (fun W hW=>by obtain⟨X,rfl⟩:=hW;exact (F.o.on X.h).range rfl) underlying61 (by with_unfolding_all rfl) HZ.o ?_
      . with_unfolding_all rfl
      simp only [Act.put,List.setIfInBounds_toArray,List.set_cons_zero,List.set_cons_succ])
   | go_big_quiet_step (first
    | (go_at_call 136;rename_i Y;exact (Zau _ _ _).mono fun _ _ h=>⟨h.1.trans (rb h1),Up.same Y h.2⟩)
    | (go_at_call_of 137 (Value.agg #[.int .i64 U.sf.pr,.int .i64 U.sf.kn,.slice a0 U.sf.sl.length k0]);rename_i Y;exact (Zal lo _ U.sf _ ⟨_,_,rfl,⟨((HL.o.below (bt HB.o Y.h)).l0)⟩⟩).mono fun _ _ h=>⟨h.1.trans (rb h2),Up.next Y h.2⟩)
    | (go_at_call_of 137 (Value.agg #[.int .i64 U.dk.pr,.int .i64 U.dk.kn,.slice a1 U.dk.sl.length k1]);rename_i Y;exact (Zal lo _ U.dk _ ⟨_,_,rfl,⟨((HL.o.below (bt HB.o Y.h)).l1)⟩⟩).mono fun _ _ h=>⟨h.1.trans (rb h3),Up.next Y h.2⟩)
    | (go_at_call 138;rename_i Y;exact (Za0 lo cs U _ (HC.o.below (bt HB.o Y.h))).mono fun _ _ h=>⟨h.1.trans (rb h4),Up.next Y h.2⟩)
    | (go_at_call 139;rename_i Y;exact (ZaL lo _ U.wi _ ((HL.o.below (bt HB.o Y.h)).l3)).mono fun _ _ h=>⟨h.1.trans (rb h5),Up.same Y h.2⟩)
    | (go_at_call 33;rename_i Y;exact (Zah _ _ _ _).mono fun _ _ h=>⟨h.1.trans (rb h6),Up.same Y h.2⟩)
    | (go_at_call 140;rename_i Y;exact (ZaF lo _ U.ye U.of _ ((HL.o.below (bt HB.o Y.h)).l4)).mono fun _ _ h=>⟨h.1.trans (rb h7),Up.same Y h.2⟩)
    | (go_at_call 141;rename_i Y;exact (Zav lo _ U.be _ ((HL.o.below (bt HB.o Y.h)).l5)).mono fun _ _ h=>⟨h.1.trans (rb h8),Up.next Y h.2⟩)
    | (go_at_call 142;rename_i Y;exact (Zby lo _ U.ac U.of _ ((HL.o.below (bt HB.o Y.h)).l6)).mono fun _ _ h=>⟨h.1.trans (rb h9),Up.next Y h.2⟩)
    | (go_at_call 143;rename_i Y;exact (ZbM lo cs U _ (HC.o.below (bt HB.o Y.h))).mono fun _ _ h=>⟨h.1.trans HRO.o,Up.next Y h.2⟩)
    | (go_at_call 246;rename_i Y;exact (Zee lo cs U _ (HC.o.below (bt HB.o Y.h))).mono fun _ _ h=>⟨h.1.trans (rb h10),Up.next Y h.2⟩)))
  refine wpQuiet_nil ?_;intro wn hw;obtain⟨X,hX⟩:=hw;have HWN:Hd (Below Wa.heap.size Wa wn):=by unfold Hd;rw [hX];exact X.h
  clear hX X x0 x1 x2 x3 x4 x5 x6 x7 x8 x10 x14 x15 x16 x17 xs xn;go_wp2;go_ret;exact⟨Zac (by rw [HE.o,h1,h2,h3,h4,h5,h6,h7,h8,h9,HS.o,h10];rfl),bt HB.o HWN.o⟩
 | true=>
 cases h11:U.up with
 | true=>
  rw [h11] at x2;refine Zaf (Up Wa) (by kernel_rfl) (by kernel_rfl) (Zb_.drew) ?_
  repeat (first
   | (with_reducible refine Zao ?_ 61 (.tmp 1) (by with_reducible rfl) w.heap.size 0 (by with_unfolding_all rfl) cs _ (fun W hW=>by obtain⟨X,rfl⟩:=hW;exact (F.o.on X.h).range rfl) underlying61 (by with_unfolding_all rfl) HZ.o ?_
      . with_unfolding_all rfl
      simp only [Act.put,List.setIfInBounds_toArray,List.set_cons_zero,List.set_cons_succ])
   | go_big_quiet_step (first
    | (go_at_call 136;rename_i Y;exact (Zau _ _ _).mono fun _ _ h=>⟨h.1.trans (rb h1),Up.same Y h.2⟩)
    | (go_at_call_of 137 (Value.agg #[.int .i64 U.sf.pr,.int .i64 U.sf.kn,.slice a0 U.sf.sl.length k0]);rename_i Y;exact (Zal lo _ U.sf _ ⟨_,_,rfl,⟨((HL.o.below (bt HB.o Y.h)).l0)⟩⟩).mono fun _ _ h=>⟨h.1.trans (rb h2),Up.next Y h.2⟩)
    | (go_at_call_of 137 (Value.agg #[.int .i64 U.dk.pr,.int .i64 U.dk.kn,.slice a1 U.dk.sl.length k1]);rename_i Y;exact (Zal lo _ U.dk _ ⟨_,_,rfl,⟨((HL.o.below (bt HB.o Y.h)).l1)⟩⟩).mono fun _ _ h=>⟨h.1.trans (rb h3),Up.next Y h.2⟩)
    | (go_at_call 138;rename_i Y;exact (Za0 lo cs U _ (HC.o.below (bt HB.o Y.h))).mono fun _ _ h=>⟨h.1.trans (rb h4),Up.next Y h.2⟩)
    | (go_at_call 139;rename_i Y;exact (ZaL lo _ U.wi _ ((HL.o.below (bt HB.o Y.h)).l3)).mono fun _ _ h=>⟨h.1.trans (rb h5),Up.same Y h.2⟩)
    | (go_at_call 33;rename_i Y;exact (Zah _ _ _ _).mono fun _ _ h=>⟨h.1.trans (rb h6),Up.same Y h.2⟩)
    | (go_at_call 140;rename_i Y;exact (ZaF lo _ U.ye U.of _ ((HL.o.below (bt HB.o Y.h)).l4)).mono fun _ _ h=>⟨h.1.trans (rb h7),Up.same Y h.2⟩)
    | (go_at_call 141;rename_i Y;exact (Zav lo _ U.be _ ((HL.o.below (bt HB.o Y.h)).l5)).mono fun _ _ h=>⟨h.1.trans (rb h8),Up.next Y h.2⟩)
    | (go_at_call 142;rename_i Y;exact (Zby lo _ U.ac U.of _ ((HL.o.below (bt HB.o Y.h)).l6)).mono fun _ _ h=>⟨h.1.trans (rb h9),Up.next Y h.2⟩)
    | (go_at_call 143;rename_i Y;exact (ZbM lo cs U _ (HC.o.below (bt HB.o Y.h))).mono fun _ _ h=>⟨h.1.trans HRO.o,Up.next Y h.2⟩)
    | (go_at_call 246;rename_i Y;exact (Zee lo cs U _ (HC.o.below (bt HB.o Y.h))).mono fun _ _ h=>⟨h.1.trans (rb h10),Up.next Y h.2⟩)))
  refine wpQuiet_nil ?_;intro wn hw;obtain⟨X,hX⟩:=hw;have HWN:Hd (Below Wa.heap.size Wa wn):=by unfold Hd;rw [hX];exact X.h
  clear hX X x0 x1 x2 x3 x4 x5 x6 x7 x8 x10 x14 x15 x16 x17 xs xn;go_wp2;go_ret;exact⟨Zac (by rw [HE.o,h1,h2,h3,h4,h5,h6,h7,h8,h9,HS.o,h10,h11];rfl),bt HB.o HWN.o⟩
 | false=>
  rw [h11] at x2;refine Zaf (Up Wa) (by kernel_rfl) (by kernel_rfl) (Zb_.drew) ?_
  repeat (first
   | (with_reducible refine Zao ?_ 61 (.tmp 1) (by with_reducible rfl) w.heap.size 0 (by with_unfolding_all rfl) cs _ (fun W hW=>by obtain⟨X,rfl⟩:=hW;exact (F.o.on X.h).range rfl) underlying61 (by with_unfolding_all rfl) HZ.o ?_
      . with_unfolding_all rfl
      simp only [Act.put,List.setIfInBounds_toArray,List.set_cons_zero,List.set_cons_succ])
   | go_big_quiet_step (first
    | (go_at_call 136;rename_i Y;exact (Zau _ _ _).mono fun _ _ h=>⟨h.1.trans (rb h1),Up.same Y h.2⟩)
    | (go_at_call_of 137 (Value.agg #[.int .i64 U.sf.pr,.int .i64 U.sf.kn,.slice a0 U.sf.sl.length k0]);rename_i Y;exact (Zal lo _ U.sf _ ⟨_,_,rfl,⟨((HL.o.below (bt HB.o Y.h)).l0)⟩⟩).mono fun _ _ h=>⟨h.1.trans (rb h2),Up.next Y h.2⟩)
    | (go_at_call_of 137 (Value.agg #[.int .i64 U.dk.pr,.int .i64 U.dk.kn,.slice a1 U.dk.sl.length k1]);rename_i Y;exact (Zal lo _ U.dk _ ⟨_,_,rfl,⟨((HL.o.below (bt HB.o Y.h)).l1)⟩⟩).mono fun _ _ h=>⟨h.1.trans (rb h3),Up.next Y h.2⟩)
    | (go_at_call 138;rename_i Y;exact (Za0 lo cs U _ (HC.o.below (bt HB.o Y.h))).mono fun _ _ h=>⟨h.1.trans (rb h4),Up.next Y h.2⟩)
    | (go_at_call 139;rename_i Y;exact (ZaL lo _ U.wi _ ((HL.o.below (bt HB.o Y.h)).l3)).mono fun _ _ h=>⟨h.1.trans (rb h5),Up.same Y h.2⟩)
    | (go_at_call 33;rename_i Y;exact (Zah _ _ _ _).mono fun _ _ h=>⟨h.1.trans (rb h6),Up.same Y h.2⟩)
    | (go_at_call 140;rename_i Y;exact (ZaF lo _ U.ye U.of _ ((HL.o.below (bt HB.o Y.h)).l4)).mono fun _ _ h=>⟨h.1.trans (rb h7),Up.same Y h.2⟩)
    | (go_at_call 141;rename_i Y;exact (Zav lo _ U.be _ ((HL.o.below (bt HB.o Y.h)).l5)).mono fun _ _ h=>⟨h.1.trans (rb h8),Up.next Y h.2⟩)
    | (go_at_call 142;rename_i Y;exact (Zby lo _ U.ac U.of _ ((HL.o.below (bt HB.o Y.h)).l6)).mono fun _ _ h=>⟨h.1.trans (rb h9),Up.next Y h.2⟩)
    | (go_at_call 143;rename_i Y;exact (ZbM lo cs U _ (HC.o.below (bt HB.o Y.h))).mono fun _ _ h=>⟨h.1.trans HRO.o,Up.next Y h.2⟩)
    | (go_at_call 246;rename_i Y;exact (Zee lo cs U _ (HC.o.below (bt HB.o Y.h))).mono fun _ _ h=>⟨h.1.trans (rb h10),Up.next Y h.2⟩)
    | (go_at_call 144;rename_i Y;exact (ZdE lo cs U _ (HC.o.below (bt HB.o Y.h))).mono fun _ _ h=>⟨h.1,Up.next Y h.2⟩)))
  refine wpQuiet_nil ?_;intro wn hw;obtain⟨X,hX⟩:=hw;have HWN:Hd (Below Wa.heap.size Wa wn):=by unfold Hd;rw [hX];exact X.h
  clear hX X x0 x1 x2 x3 x4 x5 x6 x7 x8 x10 x14 x15 x16 x17 xs xn;go_wp2;go_ret;exact⟨Zac (by rw [HE.o,h1,h2,h3,h4,h5,h6,h7,h8,h9,HS.o,h10,h11];rfl),bt HB.o HWN.o⟩
end Go.Proofs.YtdeammfdkaomlaaGreat
