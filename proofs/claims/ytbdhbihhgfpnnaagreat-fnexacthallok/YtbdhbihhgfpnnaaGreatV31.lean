import Derived.Test.YtbdhbihhgfpnnaaGreatV26
import Derived.Test.YtbdhbihhgfpnnaaGreatV30
set_option maxHeartbeats 16000000
set_option maxRecDepth 100000
open Go.Proofs.Tryz
namespace Go.Proofs.YtbdhbihhgfpnnaaGreat
open Go.RowKit Go.Deep
theorem ZgS (lo:Nat) (sv cv bv:Value) (B:Sb) (s:Zy_) (w:World) (h:Zc5 lo w sv cv bv B) :
 Calls prog 56 #[.agg #[.int .i64 B.now,sv,cv,bv],.string s] w fun e w'=>∃ r:Int,e=.returned (.int .i64 r)/\Zw_ w w'/\(ZrL B.ss s r):=by
 have HK:=Zab h;obtain⟨a0,k0,rfl⟩:=h.svs.form;obtain⟨a1,k1,rfl⟩:=h.cps.form;obtain⟨a2,k2,rfl⟩:=h.bes.form;have hmx:=h.svs.max;unfold maxLen at hmx;clear h;go_enter func56,ntmps56;go_wp2;generalize hWa:w.alloc _=Wa;have HB0:Hd (Zw_ w Wa):=by rw [<- hWa];exact Zac w _
 have HX0:Hd (Box Wa w.heap.size #[.int .i64 B.now,.slice a0 B.ss.length k0,.slice a1 B.cs.length k1,.slice a2 B.bs.length k2]):=by rw [<- hWa];exact Box.new _ _ _ _ rfl
 clear hWa;have x1:=HX0.o.cell 1;simp at x1
 go_loop [5] (fun i=>∃ k:Nat,i=.int .i64 k/\k<=B.ss.length/\(∀ j (hj:j < B.ss.length),j < k->(B.ss[j].nm.toList == s.toList)=false)) (fun i=>B.ss.length - (intOf i).toNat)
 case atStart=>exact⟨0,rfl,by omega,fun j _ h=>by omega⟩
 case round=>
  obtain⟨k,rfl,hk,hall⟩:=hrel;have HA:=Zab hall;clear hall
  by_cases hlt:k < B.ss.length
  . obtain⟨b,off,rfl,hbw,-,hc⟩:=HK.o.svs.full' (by omega)
    obtain⟨hs,hc⟩:=hc k hlt;have c0:=(hc.below HB0.o hbw).c0;clear hc hs
    cases he:(B.ss[k].nm.toList == s.toList) with
    | true=>
     have HS:=Zab (ZrL.at hlt HA.o he);go_wp2;go_ret;exact⟨_,rfl,HB0.o,HS.o⟩
    | false=>
     have HN:=Zab he;go_wp2
     go_round
     case rel=>exact⟨k+1,by go_num,by omega,fun j hj h=>by
                by_cases e:j=k
                . subst e;exact HN.o
                . exact HA.o j hj (by omega)⟩
     . simp [intOf];omega
  . have HS:=Zab ((show ZrL B.ss s (-1:Int) from Or.inl ⟨rfl,ZmT (f:=fun x:Sv=>x.nm.toList == s.toList) (fun j hj=>HA.o j hj (by omega))⟩))
    go_wp2;go_ret;exact⟨_,rfl,HB0.o,HS.o⟩
theorem Zne (lo:Nat) (sv cv bv:Value) (B:Sb) (s:Zy_) (w:World) (h:Zc5 lo w sv cv bv B) :
 Calls prog 109 #[.agg #[.int .i64 B.now,sv,cv,bv],.string s] w fun e w'=>∃ r:Int,e=.returned (.int .i64 r)/\Zw_ w w'/\(ZrI B.bs s r):=by
 have HK:=Zab h;obtain⟨a0,k0,rfl⟩:=h.svs.form;obtain⟨a1,k1,rfl⟩:=h.cps.form;obtain⟨a2,k2,rfl⟩:=h.bes.form;have hmx:=h.bes.max;unfold maxLen at hmx;clear h;go_enter func109,ntmps109;go_wp2;generalize hWa:w.alloc _=Wa;have HB0:Hd (Zw_ w Wa):=by rw [<- hWa];exact Zac w _
 have HX0:Hd (Box Wa w.heap.size #[.int .i64 B.now,.slice a0 B.ss.length k0,.slice a1 B.cs.length k1,.slice a2 B.bs.length k2]):=by rw [<- hWa];exact Box.new _ _ _ _ rfl
 clear hWa;have x1:=HX0.o.cell 3;simp at x1
 go_loop [5] (fun i=>∃ k:Nat,i=.int .i64 k/\k<=B.bs.length/\(∀ j (hj:j < B.bs.length),j < k->(B.bs[j].nm.toList == s.toList)=false)) (fun i=>B.bs.length - (intOf i).toNat)
 case atStart=>exact⟨0,rfl,by omega,fun j _ h=>by omega⟩
 case round=>
  obtain⟨k,rfl,hk,hall⟩:=hrel;have HA:=Zab hall;clear hall
  by_cases hlt:k < B.bs.length
  . obtain⟨b,off,rfl,hbw,-,hc⟩:=HK.o.bes.full' (by omega)
    obtain⟨hs,hc⟩:=hc k hlt;have c0:=(hc.below HB0.o hbw).c0;clear hc hs
    cases he:(B.bs[k].nm.toList == s.toList) with
    | true=>
     have HS:=Zab ((show ZrI B.bs s (k:Int) from by unfold ZrI;rw [decide_eq_true (by omega)];exact (ZrP (f:=fun x:Be=>x.nm.toList == s.toList) hlt he).symm));go_wp2;go_ret;exact⟨_,rfl,HB0.o,HS.o⟩
    | false=>
     have HN:=Zab he;go_wp2
     go_round
     case rel=>exact⟨k+1,by go_num,by omega,fun j hj h=>by
                by_cases e:j=k
                . subst e;exact HN.o
                . exact HA.o j hj (by omega)⟩
     . simp [intOf];omega
  . have HS:=Zab ((show ZrI B.bs s (-1:Int) from by unfold ZrI;rw [decide_eq_false (by omega)];exact (ZoV (f:=fun x:Be=>x.nm.toList == s.toList) (fun j hj=>HA.o j hj (by omega))).symm))
    go_wp2;go_ret;exact⟨_,rfl,HB0.o,HS.o⟩
theorem ZiT (a b:Cp) (w:World) :
 Calls prog 55 #[.agg #[.string a.se,.int .i64 a.nu,.int .i64 a.ve,.int .i64 a.im,.int .i64 a.st,.bool a.en,.string a.be],.agg #[.string b.se,.int .i64 b.nu,.int .i64 b.ve,.int .i64 b.im,.int .i64 b.st,.bool b.en,.string b.be]] w fun e w'=>e=.returned (.bool (Zbb a b))/\Zw_ w w':=by
 have HI:Hd (Zbb a b=(Op.bytesLess a.se.toList b.se.toList || ((a.se.toList == b.se.toList)&&decide (a.nu < b.nu)))):=rfl;have HO:∀ o o',Hd (Zw_ w ((w.alloc o).alloc o')):=fun o o'=>(Zac w o).alloc (by simp) o'
 go_enter func55,ntmps55
 cases h1:Op.bytesLess a.se.toList b.se.toList with
 | true=>
  have HE:Hd (Zbb a b=true):=by unfold Hd;rw [HI.o,h1];rfl
  go_wp2;go_ret;exact⟨Zaa HE.o.symm,(HO _ _).o⟩
 | false=>
  cases h2:(a.se.toList == b.se.toList) with
  | false=>
   have HE:Hd (Zbb a b=false):=by unfold Hd;rw [HI.o,h1,h2];rfl
   go_wp2;go_ret;exact⟨Zaa HE.o.symm,(HO _ _).o⟩
  | true=>
   have HE:Hd (Zbb a b=decide (a.nu < b.nu)):=by unfold Hd;rw [HI.o,h1,h2];rfl
   go_wp2;go_ret;exact⟨Zaa HE.o.symm,(HO _ _).o⟩
theorem Zeg (lo:Nat) (sv cv bv:Value) (B:Sb) (c:Cp) (w:World) (h:Zc5 lo w sv cv bv B) (hss:B.ss.all (svB B.now)=true) :
 Calls prog 54 #[.agg #[.int .i64 B.now,sv,cv,bv],.agg #[.string c.se,.int .i64 c.nu,.int .i64 c.ve,.int .i64 c.im,.int .i64 c.st,.bool c.en,.string c.be]] w fun e w'=>e=.returned (.bool (cpB B c))/\Zw_ w w':=by
 have HK:=Zab h;have HSS:=Zab hss;obtain⟨a0,k0,rfl⟩:=h.svs.form;obtain⟨a1,k1,rfl⟩:=h.cps.form;obtain⟨a2,k2,rfl⟩:=h.bes.form;clear h hss;go_enter func54,ntmps54;go_wp2_with fail;generalize hWa:World.alloc (w.alloc _) _=Wa;have HB0:Hd (Zw_ w Wa):=by rw [<- hWa];exact (Zac w _).alloc (by simp) _
 have FA0:Hd (Box Wa w.heap.size #[.int .i64 B.now,.slice a0 B.ss.length k0,.slice a1 B.cs.length k1,.slice a2 B.bs.length k2]):=by rw [<- hWa];exact (Box.new _ _ _ _ rfl).on (Zac _ _)
 have FB0:Hd (Box Wa (w.heap.size+1) #[.string c.se,.int .i64 c.nu,.int .i64 c.ve,.int .i64 c.im,.int .i64 c.st,.bool c.en,.string c.be]):=by rw [<- hWa];exact Box.new _ _ _ _ (by simp)
 clear hWa;refine (ZgS lo _ _ _ B c.se _ (HK.o.below HB0.o)).mono ?_;rintro e w1 ⟨r,rfl,hb1,hr⟩;have HB1:Hd (Zw_ w w1):=zbt HB0.o hb1;have FA1:=Zab (FA0.o.on hb1);have FB1:=Zab (FB0.o.on hb1);clear hb1 FA0 FB0 HB0;have y4:=FB1.o.cell 4;have y6:=FB1.o.cell 6;simp at y4 y6;have xn:Nonempty (In (Up w1)):=⟨⟨w1,Below.refl _ _⟩⟩;have xs:=fun (X:In (Up w1))=>Zb4 X
 have x0:∀ X:In (Up w1),X.w.cell? ⟨w.heap.size,0,none⟩=some (.int .i64 B.now):=fun X=>Up.cell X (by rw [FA1.o.cell 0];rfl)
 have x1:∀ X:In (Up w1),X.w.cell? ⟨w.heap.size,1,none⟩=some (.slice a0 B.ss.length k0):=fun X=>Up.cell X (by rw [FA1.o.cell 1];rfl)
 have z1:∀ X:In (Up w1),X.w.cell? ⟨w.heap.size+1,1,none⟩=some (.int .i64 c.nu):=fun X=>Up.cell X (by rw [FB1.o.cell 1];rfl)
 have z2:∀ X:In (Up w1),X.w.cell? ⟨w.heap.size+1,2,none⟩=some (.int .i64 c.ve):=fun X=>Up.cell X (by rw [FB1.o.cell 2];rfl)
 have z3:∀ X:In (Up w1),X.w.cell? ⟨w.heap.size+1,3,none⟩=some (.int .i64 c.im):=fun X=>Up.cell X (by rw [FB1.o.cell 3];rfl)
 have z4:∀ X:In (Up w1),X.w.cell? ⟨w.heap.size+1,4,none⟩=some (.int .i64 c.st):=fun X=>Up.cell X (by rw [FB1.o.cell 4];rfl)
 rcases hr with ⟨rfl,hf⟩ | ⟨rfl,hi,hf⟩
 . have HE:Hd (cpB B c=false):=by unfold Hd cpB;rw [hf]
   clear hf;go_wp2
   go_cut [44] (fun q wc=>q=.bool true/\Below w1.heap.size w1 wc)
   case first=>
    refine Zal (Up w1) (by kernel_rfl) (by kernel_rfl) (Zb_.drew) ?_
    repeat (go_big_quiet_step (first|(go_at_call 51;rename_i X;exact (ZaP _ _ _ _).mono fun _ _ h=>⟨h.1,X,h.2⟩)))
    refine wpQuiet_nil ?_;intro wn hw;obtain⟨X,hX⟩:=hw;have HWN:Below w1.heap.size w1 wn:=by rw [hX];exact X.h
    clear hX X x0 x1 z1 z2 z3 z4 xs xn;go_wp2;go_meet;exact⟨rfl,HWN⟩
   case rest=>
   obtain⟨rfl,hbc⟩:=hcut;have HBc:Hd (Zw_ w wc):=zbt HB1.o hbc;clear hbc x0 x1 z1 z2 z3 z4 xs xn y4 y6;go_wp2;go_ret;exact⟨Zaa HE.o.symm,HBc.o⟩
 . generalize svI B.ss c.se=i at*
   have hnx:=Zp3 (ZrO HSS.o hi);have HE0:Hd (cpB B c=(inB 1 (B.ss[i].nx - 1) c.nu&&(inB 1 B.now c.ve&&(inB 1 1000000 c.im&&(inB 1 4 c.st&&(if c.st == 1 then c.be.toList.isEmpty else ZfY B.bs c.be)))))):=by unfold Hd cpB;rw [hf];rfl
   have hw:IntKind.i64.wrap (B.ss[i].nx - 1)=B.ss[i].nx - 1:=by rw [IntWalk.i64_left];unfold wrap64;omega
   obtain⟨b,off,rfl,hbw,-,hc⟩:=HK.o.svs.full' (by omega);have c7:=((hc i hi).2.below HB1.o hbw).c7;have s7:∀ X:In (Up w1),X.w.cell? ⟨b,off+i*13+7,none⟩=some (.int .i64 B.ss[i].nx):=fun X=>Up.cell X c7
   have i0:(0:Int)<=(i:Int):=by omega
   have i1:(i:Int) < (B.ss.length:Int):=by omega
   have hneg:decide ((i:Int) < 0)=false:=by simp
   clear hf hc c7 hnx;go_wp2
   go_cut [44] (fun q wc=>q=.bool (!(inB 1 (B.ss[i].nx - 1) c.nu&&(inB 1 B.now c.ve&&(inB 1 1000000 c.im&&inB 1 4 c.st))))/\Below w1.heap.size w1 wc)
   case first=>
    refine Zal (Up w1) (by kernel_rfl) (by kernel_rfl) (Zb_.drew) ?_
    cases q1:inB 1 (B.ss[i].nx - 1) c.nu with
    | false=>
     repeat (go_big_quiet_step (first|(go_at_call 51;rename_i X;exact (ZaP _ _ _ _).mono fun _ _ h=>⟨h.1,X,h.2⟩)))
     refine wpQuiet_nil ?_;intro wn hw;obtain⟨X,hX⟩:=hw;have HWN:Below w1.heap.size w1 wn:=by rw [hX];exact X.h
     clear hX X x0 x1 z1 z2 z3 z4 xs xn s7;go_wp2;go_meet;exact⟨congrArg Value.bool (by rw [q1];rfl),HWN⟩
    | true=>
    cases q2:inB 1 B.now c.ve with
    | false=>
     repeat (go_big_quiet_step (first|(go_at_call 51;rename_i X;exact (ZaP _ _ _ _).mono fun _ _ h=>⟨h.1,X,h.2⟩)))
     refine wpQuiet_nil ?_;intro wn hw;obtain⟨X,hX⟩:=hw;have HWN:Below w1.heap.size w1 wn:=by rw [hX];exact X.h
     clear hX X x0 x1 z1 z2 z3 z4 xs xn s7;go_wp2;go_meet;exact⟨congrArg Value.bool (by rw [q1,q2];rfl),HWN⟩
    | true=>
    cases q3:inB 1 1000000 c.im with
    | false=>
     repeat (go_big_quiet_step (first|(go_at_call 51;rename_i X;exact (ZaP _ _ _ _).mono fun _ _ h=>⟨h.1,X,h.2⟩)))
     refine wpQuiet_nil ?_;intro wn hw;obtain⟨X,hX⟩:=hw;have HWN:Below w1.heap.size w1 wn:=by rw [hX];exact X.h
     clear hX X x0 x1 z1 z2 z3 z4 xs xn s7;go_wp2;go_meet;exact⟨congrArg Value.bool (by rw [q1,q2,q3];rfl),HWN⟩
    | true=>
    cases q4:inB 1 4 c.st with
    | false=>
     repeat (go_big_quiet_step (first|(go_at_call 51;rename_i X;exact (ZaP _ _ _ _).mono fun _ _ h=>⟨h.1,X,h.2⟩)))
     refine wpQuiet_nil ?_;intro wn hw;obtain⟨X,hX⟩:=hw;have HWN:Below w1.heap.size w1 wn:=by rw [hX];exact X.h
     clear hX X x0 x1 z1 z2 z3 z4 xs xn s7;go_wp2;go_meet;exact⟨congrArg Value.bool (by rw [q1,q2,q3,q4];rfl),HWN⟩
    | true=>
    repeat (go_big_quiet_step (first|(go_at_call 51;rename_i X;exact (ZaP _ _ _ _).mono fun _ _ h=>⟨h.1,X,h.2⟩)))
    refine wpQuiet_nil ?_;intro wn hw;obtain⟨X,hX⟩:=hw;have HWN:Below w1.heap.size w1 wn:=by rw [hX];exact X.h
    clear hX X x0 x1 z1 z2 z3 z4 xs xn s7;go_wp2;go_meet;exact⟨congrArg Value.bool (by rw [q1,q2,q3,q4];rfl),HWN⟩
   case rest=>
   obtain⟨rfl,hbc⟩:=hcut;have HBc:Hd (Zw_ w wc):=zbt HB1.o hbc;have FAc:=Zab (FA1.o.on hbc);have FBc:=Zab (FB1.o.on hbc);clear hbc x0 x1 z1 z2 z3 z4 xs xn y4 y6 s7 hw hneg i0 i1 FA1 FB1 HB1;have y4:=FBc.o.cell 4;have y6:=FBc.o.cell 6;simp at y4 y6
   cases h5:(inB 1 (B.ss[i].nx - 1) c.nu&&(inB 1 B.now c.ve&&(inB 1 1000000 c.im&&inB 1 4 c.st))) with
   | false=>
    have HE:Hd (cpB B c=false):=by
     unfold Hd;rw [HE0.o]
     cases q1:inB 1 (B.ss[i].nx - 1) c.nu <;> cases q2:inB 1 B.now c.ve <;> cases q3:inB 1 1000000 c.im <;> cases q4:inB 1 4 c.st <;> first | rfl|(exfalso;rw [q1,q2,q3,q4] at h5;cases h5)
    go_wp2;go_ret;exact⟨Zaa HE.o.symm,HBc.o⟩
   | true=>
    have HE:Hd (cpB B c=if c.st == 1 then c.be.toList.isEmpty else ZfY B.bs c.be):=by
     unfold Hd;simp only [Bool.and_eq_true] at h5;rw [HE0.o,h5.1,h5.2.1,h5.2.2.1,h5.2.2.2]
     rfl
    cases h6:(c.st == 1) with
    | true=>
     have HE2:Hd (cpB B c=c.be.toList.isEmpty):=by unfold Hd;rw [HE.o,h6];rfl
     go_wp2;go_ret;exact⟨Zaa HE2.o.symm,HBc.o⟩
    | false=>
     have HE2:Hd (cpB B c=ZfY B.bs c.be):=by unfold Hd;rw [HE.o,h6];rfl
     have g0:=FAc.o.cell;go_wp2_with fail;clear g0;refine (Zne lo _ _ _ B c.be _ (HK.o.below HBc.o)).mono ?_;rintro e w3 ⟨r3,rfl,hb3,hr3⟩;have HB3:Hd (Zw_ w w3):=zbt HBc.o hb3;have HR:=Zab hr3;clear hb3 hr3;go_wp2;go_ret;exact⟨Zaa (by rw [HE2.o];exact HR.o),HB3.o⟩
def svL (x:Sv):List Value:=[.string x.nm,.int .i64 x.ve,.bool x.gn,.int .i64 x.im,.int .i64 x.wa,.int .i64 x.dn,.int .i64 x.ov,.int .i64 x.nx,.int .i64 x.pr,.int .i64 x.ls,.int .i64 x.ms,.int .i64 x.ld,.int .i64 x.cl]
theorem Zcn.rng {w:World}{b o:Nat}{x:Sv} (h:Zcn w b o x):w.rangeAt b o (svL x):=fun j v hv=>by
 obtain⟨c0,c1,c2,c3,c4,c5,c6,c7,c8,c9,c10,c11,c12⟩:=h
 match j,hv with
 | 0,hv=>rw [<- hv];exact c0
 | 1,hv=>rw [<- hv];exact c1
 | 2,hv=>rw [<- hv];exact c2
 | 3,hv=>rw [<- hv];exact c3
 | 4,hv=>rw [<- hv];exact c4
 | 5,hv=>rw [<- hv];exact c5
 | 6,hv=>rw [<- hv];exact c6
 | 7,hv=>rw [<- hv];exact c7
 | 8,hv=>rw [<- hv];exact c8
 | 9,hv=>rw [<- hv];exact c9
 | 10,hv=>rw [<- hv];exact c10
 | 11,hv=>rw [<- hv];exact c11
 | 12,hv=>rw [<- hv];exact c12
 | n+13,hv=>simp [svL] at hv
theorem Za9:(prog.info? 118).map (·.size)=some 13:=by kernel_rfl
section
variable (lo:Nat) (sv cv bv:Value) (B:Sb) (w:World)
theorem ZiK (h:Zc5 lo w sv cv bv B) :
 Calls prog 19 #[.agg #[.int .i64 B.now,sv,cv,bv]] w fun e w'=>e=.returned (.bool (ZaW B))/\Zw_ w w':=by
 have HI:Hd (ZaW B=(inB 0 1000000 B.now&&(decide (B.ss.length<=8)&&(decide (B.cs.length<=200)&&(decide (B.bs.length<=6)&&((B.ss.all (svB B.now)&&ZcK rSv B.ss)&&((B.bs.all beB&&ZcK rBe B.bs)&&(B.cs.all (cpB B)&&ZcK Zbb B.cs)))))))):=rfl;have HK:=Zab h;have HO:∀ o,Hd (Zw_ w (w.alloc o)):=fun o=>Zac w o
 obtain⟨a0,k0,rfl⟩:=h.svs.form;obtain⟨a1,k1,rfl⟩:=h.cps.form;obtain⟨a2,k2,rfl⟩:=h.bes.form;clear h;go_enter func19,ntmps19
 cases h0:inB 0 1000000 B.now with
 | false=>
  have HE:Hd (ZaW B=false):=by unfold Hd;rw [HI.o,h0];rfl
  go_wp2_with (go_at_call 51;refine (ZaP _ _ _ _).mono ?_;rintro e w' ⟨rfl,rfl⟩);go_ret;exact⟨Zaa HE.o.symm,(HO _).o⟩
 | true=>
 by_cases l0:B.ss.length<=8
 case neg=>
  have hgt:decide ((8:Int) < (B.ss.length:Int))=true:=by simp;omega
  have HE:Hd (ZaW B=false):=by unfold Hd;rw [HI.o,h0,decide_eq_false l0];rfl
  go_wp2_with (go_at_call 51;refine (ZaP _ _ _ _).mono ?_;rintro e w' ⟨rfl,rfl⟩);go_ret;exact⟨Zaa HE.o.symm,(HO _).o⟩
 have gl0:decide ((8:Int) < (B.ss.length:Int))=false:=by simp;omega
 by_cases l1:B.cs.length<=200
 case neg=>
  have hgt:decide ((200:Int) < (B.cs.length:Int))=true:=by simp;omega
  have HE:Hd (ZaW B=false):=by unfold Hd;rw [HI.o,h0,decide_eq_true l0,decide_eq_false l1];rfl
  go_wp2_with (go_at_call 51;refine (ZaP _ _ _ _).mono ?_;rintro e w' ⟨rfl,rfl⟩);go_ret;exact⟨Zaa HE.o.symm,(HO _).o⟩
 have gl1:decide ((200:Int) < (B.cs.length:Int))=false:=by simp;omega
 by_cases l2:B.bs.length<=6
 case neg=>
  have hgt:decide ((6:Int) < (B.bs.length:Int))=true:=by simp;omega
  have HE:Hd (ZaW B=false):=by unfold Hd;rw [HI.o,h0,decide_eq_true l0,decide_eq_true l1,decide_eq_false l2];rfl
  go_wp2_with (go_at_call 51;refine (ZaP _ _ _ _).mono ?_;rintro e w' ⟨rfl,rfl⟩);go_ret;exact⟨Zaa HE.o.symm,(HO _).o⟩
 have gl2:decide ((6:Int) < (B.bs.length:Int))=false:=by simp;omega
 have HE1:Hd (ZaW B=((B.ss.all (svB B.now)&&ZcK rSv B.ss)&&((B.bs.all beB&&ZcK rBe B.bs)&&(B.cs.all (cpB B)&&ZcK Zbb B.cs)))):=by unfold Hd;rw [HI.o,h0,decide_eq_true l0,decide_eq_true l1,decide_eq_true l2];rfl
 go_wp2_with (go_at_call 51;refine (ZaP _ _ _ _).mono ?_;rintro e w' ⟨rfl,rfl⟩);generalize hWa:w.alloc _=Wa;have HB0:Hd (Zw_ w Wa):=by rw [<- hWa];exact Zac w _
 have HX0:Hd (Box Wa w.heap.size #[.int .i64 B.now,.slice a0 B.ss.length k0,.slice a1 B.cs.length k1,.slice a2 B.bs.length k2]):=by rw [<- hWa];exact Box.new _ _ _ _ rfl
 clear hWa h0 gl0 gl1 gl2
 go_loopw [3] (fun i wr=>∃ k:Nat,i=.int .i64 k/\k<=B.ss.length/\Zw_ w wr/\Box wr w.heap.size #[.int .i64 B.now,.slice a0 B.ss.length k0,.slice a1 B.cs.length k1,.slice a2 B.bs.length k2]/\(∀ j (hj:j < B.ss.length),j < k->svB B.now B.ss[j]=true)/\(∀ j,j < k->ZfK rSv B.ss j=true)) (fun i _=>B.ss.length - (intOf i).toNat)
 case atStart=>exact⟨0,rfl,by omega,HB0.o,HX0.o,fun j _ h=>by omega,fun j h=>by omega⟩
 case round=>
  obtain⟨k,rfl,hk,hb,hx,hall,hris⟩:=hrel;have HAL:=Zab hall;have HRI:=Zab hris;have HBr:=Zab hb;have HX:=Zab hx;have y:=hx.cell 1;simp at y;clear hall hb hx hris HB0 HX0
  by_cases hlt:k < B.ss.length
  . obtain⟨b,off,rfl,hbw,-,hc⟩:=HK.o.svs.full' (by omega)
    have HCL:=Zab hc;obtain⟨hsz,hc⟩:=hc k hlt;have HC:=Zab (hc.below HBr.o hbw);have HZS:=Zab hsz;have hbr:b < wr.heap.size:=Zk_ hbw HBr.o.size
    clear hc hsz;go_wp2
    go_cut [63] (fun c wc=>c=.bool (!(svB B.now B.ss[k]&&ZfK rSv B.ss k))/\Below wr.heap.size wr wc)
    case first=>
     have xn:Nonempty (In (Up wr)):=⟨⟨wr,Below.refl _ _⟩⟩;have xs:=fun (X:In (Up wr))=>Zb4 X
     have x0:∀ X:In (Up wr),X.w.cell? ⟨w.heap.size,0,none⟩=some (.int .i64 B.now):=fun X=>Up.cell X (by rw [HX.o.cell 0];rfl)
     have x1:∀ X:In (Up wr),X.w.cell? ⟨w.heap.size,1,none⟩=some (.slice (some ⟨b,off,none⟩) B.ss.length k0):=fun X=>Up.cell X (by rw [HX.o.cell 1];rfl)
     have s0:∀ X:In (Up wr),_:=fun X=>Up.cell X HC.o.c0
     have i0:(0:Int)<=(k:Int):=by omega
     have i1:(k:Int) < (B.ss.length:Int):=by omega
     clear y;refine Zal (Up wr) (by kernel_rfl) (by kernel_rfl) (Zb_.drew) ?_
     cases h5:svB B.now B.ss[k] with
     | false=>
      repeat (go_big_quiet_step (first|(go_at_call 52;rename_i X;exact (Zbi B.ss[k] B.now _ HZS.o).mono fun _ _ h=>⟨h.1,Up.next X h.2⟩)))
      refine Za3 (by rfl) 118 (.tmp 38) rfl b (off+k*13) rfl (svL B.ss[k]) _ (fun W hW=>by obtain⟨X,rfl⟩:=hW;exact Zc1 HC.o.rng X.h hbr) underlying118 rfl Za9 ?_;simp only [Act.put,List.setIfInBounds_toArray,List.set_cons_zero,List.set_cons_succ]
      repeat (go_big_quiet_step (first|(go_at_call 52;rename_i X;exact (Zbi B.ss[k] B.now _ HZS.o).mono fun _ _ h=>⟨h.1,Up.next X h.2⟩)))
      refine wpQuiet_nil ?_;intro wn hw;obtain⟨X,hX⟩:=hw;have HWN:Below wr.heap.size wr wn:=by rw [hX];exact X.h
      clear hX X x0 x1 s0 xs xn;go_wp2;go_meet;exact⟨congrArg Value.bool (by rw [h5];rfl),HWN⟩
     | true=>
      by_cases h0:k=0
      . have hd0:decide (0 < k)=false:=by simp;omega
        have HR0:Hd (ZfK rSv B.ss k=true):=by unfold Hd;rw [h0];rfl
        clear h0
        repeat (go_big_quiet_step (first|(go_at_call 52;rename_i X;exact (Zbi B.ss[k] B.now _ HZS.o).mono fun _ _ h=>⟨h.1,Up.next X h.2⟩)))
        refine Za3 (by rfl) 118 (.tmp 38) rfl b (off+k*13) rfl (svL B.ss[k]) _ (fun W hW=>by obtain⟨X,rfl⟩:=hW;exact Zc1 HC.o.rng X.h hbr) underlying118 rfl Za9 ?_;simp only [Act.put,List.setIfInBounds_toArray,List.set_cons_zero,List.set_cons_succ]
        repeat (go_big_quiet_step (first|(go_at_call 52;rename_i X;exact (Zbi B.ss[k] B.now _ HZS.o).mono fun _ _ h=>⟨h.1,Up.next X h.2⟩)))
        refine wpQuiet_nil ?_;intro wn hw;obtain⟨X,hX⟩:=hw;have HWN:Below wr.heap.size wr wn:=by rw [hX];exact X.h
        clear hX X x0 x1 s0 xs xn;go_wp2;go_meet;exact⟨congrArg Value.bool (by rw [h5,HR0.o];rfl),HWN⟩
      . have hd0:decide (0 < k)=true:=by simp;omega
        obtain⟨m,hkm⟩:∃ m,k=m+1:=⟨k - 1,by omega⟩
        have hlt0:m < B.ss.length:=by omega
        have HCM:=Zab ((HCL.o m hlt0).2.below HBr.o hbw);have t0:∀ X:In (Up wr),_:=fun X=>Up.cell X HCM.o.c0
        have HRK:Hd (ZfK rSv B.ss k=rSv B.ss[m] B.ss[k]):=by
         subst hkm;exact ZdJ hlt
        have hkw:IntKind.i64.wrap ((k:Int) - 1)=m:=by rw [IntWalk.i64_left];unfold wrap64;omega
        have i2:(0:Int)<=(m:Int):=by omega
        have i3:(m:Int) < (B.ss.length:Int):=by omega
        clear hkm h0
        cases h8:Op.bytesLess B.ss[m].nm.toList B.ss[k].nm.toList with
        | false=>
         have HG:Hd (rSv B.ss[m] B.ss[k]=false):=h8
         repeat (go_big_quiet_step (first|(go_at_call 52;rename_i X;exact (Zbi B.ss[k] B.now _ HZS.o).mono fun _ _ h=>⟨h.1,Up.next X h.2⟩)))
         refine Za3 (by rfl) 118 (.tmp 38) rfl b (off+k*13) rfl (svL B.ss[k]) _ (fun W hW=>by obtain⟨X,rfl⟩:=hW;exact Zc1 HC.o.rng X.h hbr) underlying118 rfl Za9 ?_;simp only [Act.put,List.setIfInBounds_toArray,List.set_cons_zero,List.set_cons_succ]
         repeat (go_big_quiet_step (first|(go_at_call 52;rename_i X;exact (Zbi B.ss[k] B.now _ HZS.o).mono fun _ _ h=>⟨h.1,Up.next X h.2⟩)))
         refine wpQuiet_nil ?_;intro wn hw;obtain⟨X,hX⟩:=hw;have HWN:Below wr.heap.size wr wn:=by rw [hX];exact X.h
         clear hX X x0 x1 s0 xs xn t0;go_wp2;go_meet;exact⟨congrArg Value.bool (by rw [h5,HRK.o,HG.o];rfl),HWN⟩
        | true=>
         have HG:Hd (rSv B.ss[m] B.ss[k]=true):=h8
         repeat (go_big_quiet_step (first|(go_at_call 52;rename_i X;exact (Zbi B.ss[k] B.now _ HZS.o).mono fun _ _ h=>⟨h.1,Up.next X h.2⟩)))
         refine Za3 (by rfl) 118 (.tmp 38) rfl b (off+k*13) rfl (svL B.ss[k]) _ (fun W hW=>by obtain⟨X,rfl⟩:=hW;exact Zc1 HC.o.rng X.h hbr) underlying118 rfl Za9 ?_;simp only [Act.put,List.setIfInBounds_toArray,List.set_cons_zero,List.set_cons_succ]
         repeat (go_big_quiet_step (first|(go_at_call 52;rename_i X;exact (Zbi B.ss[k] B.now _ HZS.o).mono fun _ _ h=>⟨h.1,Up.next X h.2⟩)))
         refine wpQuiet_nil ?_;intro wn hw;obtain⟨X,hX⟩:=hw;have HWN:Below wr.heap.size wr wn:=by rw [hX];exact X.h
         clear hX X x0 x1 s0 xs xn t0;go_wp2;go_meet;exact⟨congrArg Value.bool (by rw [h5,HRK.o,HG.o];rfl),HWN⟩
    case rest=>
    obtain⟨rfl,hbc⟩:=hcut;have HBc:Hd (Zw_ w wc):=zbt HBr.o hbc;have HXc:=Zab (HX.o.on hbc);clear hbc y
    cases h7:svB B.now B.ss[k] with
    | false=>
     have HNo:Hd (ZaW B=false):=by unfold Hd;rw [HE1.o,Zbc hlt h7];cases ZcK rSv B.ss <;> rfl
     go_wp2;go_ret;exact⟨Zaa HNo.o.symm,HBc.o⟩
    | true=>
     cases h9:ZfK rSv B.ss k with
     | false=>
      have HNo:Hd (ZaW B=false):=by
       unfold Hd;rw [HE1.o,show ZcK rSv B.ss=false from ZaC hlt h9];cases B.ss.all (svB B.now) <;> rfl
      go_wp2;go_ret;exact⟨Zaa HNo.o.symm,HBc.o⟩
     | true=>
      have HT:=Zab h7;have HT9:=Zab h9;go_wp2;go_roundw
      case rel=>exact⟨k+1,by go_num,by omega,HBc.o,HXc.o,Zbr HAL.o hlt HT.o,fun j hj=>by
                 by_cases e:j=k
                 . rw [e];exact HT9.o
                 . exact HRI.o j (by omega)⟩
      . simp [intOf];omega
  . have HALL:Hd (B.ss.all (svB B.now)=true):=Zb2 (fun i hi=>HAL.o i hi (by omega))
    have HRIS:Hd (ZcK rSv B.ss=true):=ZaH (fun i hi=>HRI.o i (by omega));have HE2:Hd (ZaW B=((B.bs.all beB&&ZcK rBe B.bs)&&(B.cs.all (cpB B)&&ZcK Zbb B.cs))):=by unfold Hd;rw [HE1.o,HALL.o,HRIS.o];rfl
    have HSS:=Zab HALL.o;clear HE1 HALL HRIS HAL HRI;obtain⟨W1,hW1⟩:∃ W,W=wr:=⟨_,rfl⟩
    subst hW1;have HB1:=HBr;have HX1:=HX;clear HBr HX;go_wp2;clear y
    go_loopw [4] (fun i wr=>∃ k:Nat,i=.int .i64 k/\k<=B.bs.length/\Zw_ w wr/\Box wr w.heap.size #[.int .i64 B.now,.slice a0 B.ss.length k0,.slice a1 B.cs.length k1,.slice a2 B.bs.length k2]/\(∀ j (hj:j < B.bs.length),j < k->beB B.bs[j]=true)/\(∀ j,j < k->ZfK rBe B.bs j=true)) (fun i _=>B.bs.length - (intOf i).toNat)
    case atStart=>exact⟨0,rfl,by omega,HB1.o,HX1.o,fun j _ h=>by omega,fun j h=>by omega⟩
    case round=>
     obtain⟨k,rfl,hk,hb,hx,hall,hris⟩:=hrel;have HAL:=Zab hall;have HRI:=Zab hris;have HBr:=Zab hb;have HX:=Zab hx;have y:=hx.cell 3;simp at y;clear hall hb hx hris HB1 HX1
     by_cases hlt:k < B.bs.length
     . obtain⟨b,off,rfl,hbw,-,hc⟩:=HK.o.bes.full' (by omega)
       have HCL:=Zab hc;obtain⟨hsz,hc⟩:=hc k hlt;have HC:=Zab (hc.below HBr.o hbw);have HZS:=Zab hsz;have hbr:b < wr.heap.size:=Zk_ hbw HBr.o.size
       clear hc hsz;go_wp2
       go_cut [98] (fun c wc=>c=.bool (!(beB B.bs[k]&&ZfK rBe B.bs k))/\Below wr.heap.size wr wc)
       case first=>
        have xn:Nonempty (In (Up wr)):=⟨⟨wr,Below.refl _ _⟩⟩;have xs:=fun (X:In (Up wr))=>Zb4 X
        have x3:∀ X:In (Up wr),X.w.cell? ⟨w.heap.size,3,none⟩=some (.slice (some ⟨b,off,none⟩) B.bs.length k2):=fun X=>Up.cell X (by rw [HX.o.cell 3];rfl)
        have s0:∀ X:In (Up wr),_:=fun X=>Up.cell X HC.o.c0
        have i0:(0:Int)<=(k:Int):=by omega
        have i1:(k:Int) < (B.bs.length:Int):=by omega
        clear y;refine Zal (Up wr) (by kernel_rfl) (by kernel_rfl) (Zb_.drew) ?_
        cases h5:beB B.bs[k] with
        | false=>
         have h5n:nmB B.bs[k].nm=false:=h5
         repeat (go_big_quiet_step (first|(go_at_call 53;rename_i X;exact (Zau _ _ HZS.o.s0).mono fun _ _ h=>⟨h.1,X,h.2⟩)))
         refine wpQuiet_nil ?_;intro wn hw;obtain⟨X,hX⟩:=hw;have HWN:Below wr.heap.size wr wn:=by rw [hX];exact X.h
         clear hX X x3 s0 xs xn;go_wp2;go_meet;exact⟨congrArg Value.bool (by rw [h5];rfl),HWN⟩
        | true=>
         have h5n:nmB B.bs[k].nm=true:=h5
         by_cases h0:k=0
         . have hd0:decide (0 < k)=false:=by simp;omega
           have HR0:Hd (ZfK rBe B.bs k=true):=by unfold Hd;rw [h0];rfl
           clear h0
           repeat (go_big_quiet_step (first|(go_at_call 53;rename_i X;exact (Zau _ _ HZS.o.s0).mono fun _ _ h=>⟨h.1,X,h.2⟩)))
           refine wpQuiet_nil ?_;intro wn hw;obtain⟨X,hX⟩:=hw;have HWN:Below wr.heap.size wr wn:=by rw [hX];exact X.h
           clear hX X x3 s0 xs xn;go_wp2;go_meet;exact⟨congrArg Value.bool (by rw [h5,HR0.o];rfl),HWN⟩
         . have hd0:decide (0 < k)=true:=by simp;omega
           obtain⟨m,hkm⟩:∃ m,k=m+1:=⟨k - 1,by omega⟩
           have hlt0:m < B.bs.length:=by omega
           have HCM:=Zab ((HCL.o m hlt0).2.below HBr.o hbw);have t0:∀ X:In (Up wr),_:=fun X=>Up.cell X HCM.o.c0
           have HRK:Hd (ZfK rBe B.bs k=rBe B.bs[m] B.bs[k]):=by
            subst hkm;exact ZdJ hlt
           have hkw:IntKind.i64.wrap ((k:Int) - 1)=m:=by rw [IntWalk.i64_left];unfold wrap64;omega
           have i2:(0:Int)<=(m:Int):=by omega
           have i3:(m:Int) < (B.bs.length:Int):=by omega
           clear hkm h0
           cases h8:Op.bytesLess B.bs[m].nm.toList B.bs[k].nm.toList with
           | false=>
            have HG:Hd (rBe B.bs[m] B.bs[k]=false):=h8
            repeat (go_big_quiet_step (first|(go_at_call 53;rename_i X;exact (Zau _ _ HZS.o.s0).mono fun _ _ h=>⟨h.1,X,h.2⟩)))
            refine wpQuiet_nil ?_;intro wn hw;obtain⟨X,hX⟩:=hw;have HWN:Below wr.heap.size wr wn:=by rw [hX];exact X.h
            clear hX X x3 s0 xs xn t0;go_wp2;go_meet;exact⟨congrArg Value.bool (by rw [h5,HRK.o,HG.o];rfl),HWN⟩
           | true=>
            have HG:Hd (rBe B.bs[m] B.bs[k]=true):=h8
            repeat (go_big_quiet_step (first|(go_at_call 53;rename_i X;exact (Zau _ _ HZS.o.s0).mono fun _ _ h=>⟨h.1,X,h.2⟩)))
            refine wpQuiet_nil ?_;intro wn hw;obtain⟨X,hX⟩:=hw;have HWN:Below wr.heap.size wr wn:=by rw [hX];exact X.h
            clear hX X x3 s0 xs xn t0;go_wp2;go_meet;exact⟨congrArg Value.bool (by rw [h5,HRK.o,HG.o];rfl),HWN⟩
       case rest=>
       obtain⟨rfl,hbc⟩:=hcut;have HBc:Hd (Zw_ w wc):=zbt HBr.o hbc;have HXc:=Zab (HX.o.on hbc);clear hbc y
       cases h7:beB B.bs[k] with
       | false=>
        have HNo:Hd (ZaW B=false):=by unfold Hd;rw [HE2.o,Zbc hlt h7];cases ZcK rBe B.bs <;> rfl
        go_wp2;go_ret;exact⟨Zaa HNo.o.symm,HBc.o⟩
       | true=>
        cases h9:ZfK rBe B.bs k with
        | false=>
         have HNo:Hd (ZaW B=false):=by
          unfold Hd;rw [HE2.o,show ZcK rBe B.bs=false from ZaC hlt h9];cases B.bs.all beB <;> rfl
         go_wp2;go_ret;exact⟨Zaa HNo.o.symm,HBc.o⟩
        | true=>
         have HT:=Zab h7;have HT9:=Zab h9;go_wp2;go_roundw
         case rel=>exact⟨k+1,by go_num,by omega,HBc.o,HXc.o,Zbr HAL.o hlt HT.o,fun j hj=>by
                    by_cases e:j=k
                    . rw [e];exact HT9.o
                    . exact HRI.o j (by omega)⟩
         . simp [intOf];omega
     . have HALL:Hd (B.bs.all (beB)=true):=Zb2 (fun i hi=>HAL.o i hi (by omega))
       have HRIS:Hd (ZcK rBe B.bs=true):=ZaH (fun i hi=>HRI.o i (by omega));have HE3:Hd (ZaW B=(B.cs.all (cpB B)&&ZcK Zbb B.cs)):=by unfold Hd;rw [HE2.o,HALL.o,HRIS.o];rfl
       clear HE2 HALL HRIS HAL HRI;obtain⟨W2,hW2⟩:∃ W,W=wr:=⟨_,rfl⟩
       subst hW2;have HB2:=HBr;have HX2:=HX;clear HBr HX;go_wp2;clear y
       go_loopw [5] (fun i wr=>∃ k:Nat,i=.int .i64 k/\k<=B.cs.length/\Zw_ w wr/\Box wr w.heap.size #[.int .i64 B.now,.slice a0 B.ss.length k0,.slice a1 B.cs.length k1,.slice a2 B.bs.length k2]/\(∀ j (hj:j < B.cs.length),j < k->cpB B B.cs[j]=true)/\(∀ j,j < k->ZfK Zbb B.cs j=true)) (fun i _=>B.cs.length - (intOf i).toNat)
       case atStart=>exact⟨0,rfl,by omega,HB2.o,HX2.o,fun j _ h=>by omega,fun j h=>by omega⟩
       case round=>
        obtain⟨k,rfl,hk,hb,hx,hall,hris⟩:=hrel;have HAL:=Zab hall;have HRI:=Zab hris;have HBr:=Zab hb;have HX:=Zab hx;have y:=hx.cell 2;simp at y;clear hall hb hx hris HB2 HX2
        by_cases hlt:k < B.cs.length
        . obtain⟨b,off,rfl,hbw,-,hc⟩:=HK.o.cps.full' (by omega)
          have HCL:=Zab hc;obtain⟨hsz,hc⟩:=hc k hlt;have HC:=Zab (hc.below HBr.o hbw);have HZS:=Zab hsz;have hbr:b < wr.heap.size:=Zk_ hbw HBr.o.size
          clear hc hsz;go_wp2
          go_cut [132] (fun c wc=>c=.bool (!(cpB B B.cs[k]&&ZfK Zbb B.cs k))/\Below wr.heap.size wr wc)
          case first=>
           have xn:Nonempty (In (Up wr)):=⟨⟨wr,Below.refl _ _⟩⟩;have xs:=fun (X:In (Up wr))=>Zb4 X
           have x0:∀ X:In (Up wr),X.w.cell? ⟨w.heap.size,0,none⟩=some (.int .i64 B.now):=fun X=>Up.cell X (by rw [HX.o.cell 0];rfl)
           have x1:∀ X:In (Up wr),X.w.cell? ⟨w.heap.size,1,none⟩=some (.slice a0 B.ss.length k0):=fun X=>Up.cell X (by rw [HX.o.cell 1];rfl)
           have x2:∀ X:In (Up wr),X.w.cell? ⟨w.heap.size,2,none⟩=some (.slice (some ⟨b,off,none⟩) B.cs.length k1):=fun X=>Up.cell X (by rw [HX.o.cell 2];rfl)
           have x3:∀ X:In (Up wr),X.w.cell? ⟨w.heap.size,3,none⟩=some (.slice a2 B.bs.length k2):=fun X=>Up.cell X (by rw [HX.o.cell 3];rfl)
           have s0:∀ X:In (Up wr),_:=fun X=>Up.cell X HC.o.c0
           have s1:∀ X:In (Up wr),_:=fun X=>Up.cell X HC.o.c1
           have s2:∀ X:In (Up wr),_:=fun X=>Up.cell X HC.o.c2
           have s3:∀ X:In (Up wr),_:=fun X=>Up.cell X HC.o.c3
           have s4:∀ X:In (Up wr),_:=fun X=>Up.cell X HC.o.c4
           have s5:∀ X:In (Up wr),_:=fun X=>Up.cell X HC.o.c5
           have s6:∀ X:In (Up wr),_:=fun X=>Up.cell X HC.o.c6
           have i0:(0:Int)<=(k:Int):=by omega
           have i1:(k:Int) < (B.cs.length:Int):=by omega
           clear y;refine Zal (Up wr) (by kernel_rfl) (by kernel_rfl) (Zb_.drew) ?_
           cases h5:cpB B B.cs[k] with
           | false=>
            repeat (go_big_quiet_step (first|(go_at_call 54;rename_i X;exact (Zeg lo _ _ _ B B.cs[k] _ (HK.o.below (zbt HBr.o X.h)) HSS.o).mono fun _ _ h=>⟨h.1,Up.next X h.2⟩)))
            refine wpQuiet_nil ?_;intro wn hw;obtain⟨X,hX⟩:=hw;have HWN:Below wr.heap.size wr wn:=by rw [hX];exact X.h
            clear hX X x0 x1 x2 x3 s0 s1 s2 s3 s4 s5 s6 xs xn;go_wp2;go_meet;exact⟨congrArg Value.bool (by rw [h5];rfl),HWN⟩
           | true=>
            by_cases h0:k=0
            . have hd0:decide (0 < k)=false:=by simp;omega
              have HR0:Hd (ZfK Zbb B.cs k=true):=by unfold Hd;rw [h0];rfl
              clear h0
              repeat (go_big_quiet_step (first|(go_at_call 54;rename_i X;exact (Zeg lo _ _ _ B B.cs[k] _ (HK.o.below (zbt HBr.o X.h)) HSS.o).mono fun _ _ h=>⟨h.1,Up.next X h.2⟩)))
              refine wpQuiet_nil ?_;intro wn hw;obtain⟨X,hX⟩:=hw;have HWN:Below wr.heap.size wr wn:=by rw [hX];exact X.h
              clear hX X x0 x1 x2 x3 s0 s1 s2 s3 s4 s5 s6 xs xn;go_wp2;go_meet;exact⟨congrArg Value.bool (by rw [h5,HR0.o];rfl),HWN⟩
            . have hd0:decide (0 < k)=true:=by simp;omega
              obtain⟨m,hkm⟩:∃ m,k=m+1:=⟨k - 1,by omega⟩
              have hlt0:m < B.cs.length:=by omega
              have HCM:=Zab ((HCL.o m hlt0).2.below HBr.o hbw);have t0:∀ X:In (Up wr),_:=fun X=>Up.cell X HCM.o.c0
              have t1:∀ X:In (Up wr),_:=fun X=>Up.cell X HCM.o.c1
              have t2:∀ X:In (Up wr),_:=fun X=>Up.cell X HCM.o.c2
              have t3:∀ X:In (Up wr),_:=fun X=>Up.cell X HCM.o.c3
              have t4:∀ X:In (Up wr),_:=fun X=>Up.cell X HCM.o.c4
              have t5:∀ X:In (Up wr),_:=fun X=>Up.cell X HCM.o.c5
              have t6:∀ X:In (Up wr),_:=fun X=>Up.cell X HCM.o.c6
              have HRK:Hd (ZfK Zbb B.cs k=Zbb B.cs[m] B.cs[k]):=by
               subst hkm;exact ZdJ hlt
              have hkw:IntKind.i64.wrap ((k:Int) - 1)=m:=by rw [IntWalk.i64_left];unfold wrap64;omega
              have i2:(0:Int)<=(m:Int):=by omega
              have i3:(m:Int) < (B.cs.length:Int):=by omega
              clear hkm h0
              cases h8:Zbb B.cs[m] B.cs[k] with
              | false=>
               repeat (go_big_quiet_step (first|(go_at_call 54;rename_i X;exact (Zeg lo _ _ _ B B.cs[k] _ (HK.o.below (zbt HBr.o X.h)) HSS.o).mono fun _ _ h=>⟨h.1,Up.next X h.2⟩)|(go_at_call 55;rename_i X;exact (ZiT B.cs[m] B.cs[k] _).mono fun _ _ h=>⟨h.1,Up.next X h.2⟩)))
               refine wpQuiet_nil ?_;intro wn hw;obtain⟨X,hX⟩:=hw;have HWN:Below wr.heap.size wr wn:=by rw [hX];exact X.h
               clear hX X x0 x1 x2 x3 s0 s1 s2 s3 s4 s5 s6 xs xn t0 t1 t2 t3 t4 t5 t6;go_wp2;go_meet;exact⟨congrArg Value.bool (by rw [h5,HRK.o,h8];rfl),HWN⟩
              | true=>
               repeat (go_big_quiet_step (first|(go_at_call 54;rename_i X;exact (Zeg lo _ _ _ B B.cs[k] _ (HK.o.below (zbt HBr.o X.h)) HSS.o).mono fun _ _ h=>⟨h.1,Up.next X h.2⟩)|(go_at_call 55;rename_i X;exact (ZiT B.cs[m] B.cs[k] _).mono fun _ _ h=>⟨h.1,Up.next X h.2⟩)))
               refine wpQuiet_nil ?_;intro wn hw;obtain⟨X,hX⟩:=hw;have HWN:Below wr.heap.size wr wn:=by rw [hX];exact X.h
               clear hX X x0 x1 x2 x3 s0 s1 s2 s3 s4 s5 s6 xs xn t0 t1 t2 t3 t4 t5 t6;go_wp2;go_meet;exact⟨congrArg Value.bool (by rw [h5,HRK.o,h8];rfl),HWN⟩
          case rest=>
          obtain⟨rfl,hbc⟩:=hcut;have HBc:Hd (Zw_ w wc):=zbt HBr.o hbc;have HXc:=Zab (HX.o.on hbc);clear hbc y
          cases h7:cpB B B.cs[k] with
          | false=>
           have HNo:Hd (ZaW B=false):=by unfold Hd;rw [HE3.o,Zbc hlt h7];rfl
           go_wp2;go_ret;exact⟨Zaa HNo.o.symm,HBc.o⟩
          | true=>
           cases h9:ZfK Zbb B.cs k with
           | false=>
            have HNo:Hd (ZaW B=false):=by
             unfold Hd;rw [HE3.o,show ZcK Zbb B.cs=false from ZaC hlt h9];cases B.cs.all (cpB B) <;> rfl
            go_wp2;go_ret;exact⟨Zaa HNo.o.symm,HBc.o⟩
           | true=>
            have HT:=Zab h7;have HT9:=Zab h9;go_wp2;go_roundw
            case rel=>exact⟨k+1,by go_num,by omega,HBc.o,HXc.o,Zbr HAL.o hlt HT.o,fun j hj=>by
                       by_cases e:j=k
                       . rw [e];exact HT9.o
                       . exact HRI.o j (by omega)⟩
            . simp [intOf];omega
        . have HALL:Hd (B.cs.all (cpB B)=true):=Zb2 (fun i hi=>HAL.o i hi (by omega))
          have HRIS:Hd (ZcK Zbb B.cs=true):=ZaH (fun i hi=>HRI.o i (by omega));have HT:Hd (ZaW B=true):=by unfold Hd;rw [HE3.o,HALL.o,HRIS.o];rfl
          go_wp2;go_ret;exact⟨Zaa HT.o.symm,HBr.o⟩
end
end Go.Proofs.YtbdhbihhgfpnnaaGreat
