import Derived.Test.YtcfjmagkinpaeaaGreatGAQ6
set_option maxHeartbeats 16000000
set_option maxRecDepth 100000
open Go.Proofs.Tryz
namespace Go.Proofs.YtcfjmagkinpaeaaGreat
open Go.RowKit Go.Deep
section
variable (sv mv tv va ha qa:Value) (Ss:List Sh) (Ms:List Md) (Ts:List Tm) (A:Ak) (w:World)
theorem ZsO (hl:ZaO 0 w sv mv tv Ss Ms Ts) (h:Za6 0 w va ha qa A) (hv:A.verb=1) (hn:Zaj A.who=true) :
 Calls prog 113 #[.agg #[sv,mv,tv],.agg #[.string A.who,.int .i64 A.verb,.string A.kd,.string A.nm,.string A.tm,va,ha,.int .i64 A.seen,.string A.hold,.string A.tw,qa,.string A.rk,.string A.rt,.string A.rp,.int .i64 A.num]] w fun e w'=>e=.returned (.bool (ZiR Ss Ts A&&no1 A))∧Zw_ w w':=by
 have HL:=Zab hl;have HA:=Zab h;have HZ:=Zab h.sz;obtain⟨a,cap,rfl⟩:=hl.shs.form;obtain⟨a1,cap1,rfl⟩:=hl.mds.form;obtain⟨a2,cap2,rfl⟩:=hl.tms.form;obtain⟨b0,k0,rfl⟩:=h.vs.at.form';obtain⟨b1,k1,rfl⟩:=h.hs.at.form';obtain⟨b2,k2,rfl⟩:=h.vb.form;clear hl h;have hin:inB 1 6 A.verb=true:=by rw [hv];decide
 have hle:decide (A.verb≤4)=true:=by rw [hv];rfl
 have e1:(A.verb == 1)=true:=by rw [hv];rfl
 have HV:=Zab hv;clear hv;have sn1:A.who.size≤maxLen:=HZ.out.who;have sn2:A.nm.size≤maxLen:=HZ.out.nm;have sn3:A.hold.size≤maxLen:=HZ.out.hold;have sn4:A.tw.size≤maxLen:=HZ.out.tw;go_enter func113,ntmps113;go_wp2_with (first|(go_at_call 58;refine (Zad _ _ (by with_reducible assumption)).mono ?_;rintro e w' ⟨rfl,rfl⟩)|(go_at_call 54;refine (Zal _ _ _ _).mono ?_;rintro e w' ⟨rfl,rfl⟩));generalize hWa:World.alloc (w.alloc _) _=Wa;have HB0:Hid (Zw_ w Wa):=by rw [← hWa];exact (Zac w _).alloc (by simp) _
 have FA0:Hid (Box Wa w.heap.size #[.slice a Ss.length cap,.slice a1 Ms.length cap1,.slice a2 Ts.length cap2]):=by rw [← hWa];exact (Box.new _ _ _ _ rfl).on (Zac _ _)
 have FB0:Hid (Box Wa (w.heap.size+1) #[.string A.who,.int .i64 A.verb,.string A.kd,.string A.nm,.string A.tm,.slice b0 A.vs.length k0,.slice b1 A.hs.length k1,.int .i64 A.seen,.string A.hold,.string A.tw,.slice b2 A.vb.length k2,.string A.rk,.string A.rt,.string A.rp,.int .i64 A.num]):=by rw [← hWa];exact Box.new _ _ _ _ (by simp)
 clear hWa;refine (ZnX _ _ _ _ _ _ A _ HV.out).mono ?_;rintro e w1 ⟨rfl,hb1⟩;have HB1:Hid (Zw_ w w1):=bt HB0.out hb1;have FA1:=Zab (FA0.out.on hb1);have FB1:=Zab (FB0.out.on hb1);clear hb1 FA0 FB0 HB0;go_wp2_with fail;refine (ZbN _ _ _ _ _ _ _ _ _ _ _ _ _ _ _ _ _ _ _ _ _ _).mono ?_;rintro e w2 ⟨rfl,hb2⟩;have HB2:Hid (Zw_ w w2):=bt HB1.out hb2;have FA2:=Zab (FA1.out.on hb2);have FB2:=Zab (FB1.out.on hb2);clear hb2 FA1 FB1 HB1
 cases qn:noB ⟨#[]⟩ ⟨#[]⟩ ⟨#[]⟩ 0 0 A.seen A.hold A.tw A.vb.length A.rk A.rt A.rp A.num with
 | false=>
  go_wp2;go_ret;exact⟨Zaa (by rw [show no1 A=false from qn,Bool.and_false]),HB2.out⟩
 | true=>
  have HNO:Hid (no1 A=true):=qn;have g0:=FA2.out.cell;have g1:=FB2.out.cell;go_wp2_with (first|(go_at_call 58;refine (Zad _ _ (by with_reducible assumption)).mono ?_;rintro e w' ⟨rfl,rfl⟩)|(go_at_call 54;refine (Zal _ _ _ _).mono ?_;rintro e w' ⟨rfl,rfl⟩));clear g0 g1;refine (Zbh 0 _ Ss A.kd _ (HL.out.below HB2.out).shs).mono ?_;rintro e w3 ⟨rfl,hsh⟩;have g0:=FA2.out.cell;have g1:=FB2.out.cell
  rcases hsh with ⟨k,hk,rfl,hx⟩ | ⟨rfl,hx⟩
  case inr=>
   have HR:Hid (ZiR Ss Ts A=false):=by unfold Hid ZiR;rw [ZdA hx];rfl
   go_wp2_with (first|(go_at_call 58;refine (Zad _ _ (by with_reducible assumption)).mono ?_;rintro e w' ⟨rfl,rfl⟩)|(go_at_call 54;refine (Zal _ _ _ _).mono ?_;rintro e w' ⟨rfl,rfl⟩));go_ret;exact⟨Zaa (by rw [HR.out,Bool.false_and]),HB2.out⟩
  have hx':Zb3 Ss A.kd=some Ss[k]:=hx.trans (List.getElem?_eq_getElem hk);have hk0:decide ((k:Int) < 0)=false:=by simp
  cases qa:Zaj A.nm with
  | false=>
   have HR:Hid (ZiR Ss Ts A=false):=by unfold Hid ZiR;rw [ZbO hx',qa];rfl
   go_wp2_with (first|(go_at_call 58;refine (Zad _ _ (by with_reducible assumption)).mono ?_;rintro e w' ⟨rfl,rfl⟩)|(go_at_call 54;refine (Zal _ _ _ _).mono ?_;rintro e w' ⟨rfl,rfl⟩));go_ret;exact⟨Zaa (by rw [HR.out,Bool.false_and]),HB2.out⟩
  | true=>
   have HNM:Hid (Zcy Ss A=true):=by unfold Hid;rw [ZbO hx',qa]
   have HVL:Hid (ZfA Ss A=decide (A.vs.length=Ss[k].fields.length)):=Zej hx';clear hx hx';obtain⟨sb,so,rfl,hsb,hsc⟩:=(HL.out.below HB2.out).shs.full' (by omega);obtain⟨_,fv,_,c1,hf⟩:=hsc k hk;obtain⟨fa,fc,rfl⟩:=hf.form;have C1:=Zab c1;clear hf hsc c1;go_wp2_with (first|(go_at_call 58;refine (Zad _ _ (by with_reducible assumption)).mono ?_;rintro e w' ⟨rfl,rfl⟩)|(go_at_call 54;refine (Zal _ _ _ _).mono ?_;rintro e w' ⟨rfl,rfl⟩));clear g0 g1;have HT2:=Zab (HL.out.below HB2.out).tms;have HH2:=Zab (HA.out.below HB2.out).hs;have xn:Nonempty (In (Up w')):=⟨⟨w',Below.refl _ _⟩⟩;have x0:∀ X:In (Up w'),X.w.cell? ⟨w.heap.size,0,none⟩=some (.slice (some ⟨sb,so,none⟩) Ss.length cap):=fun X=>Up.cell X (by rw [FA2.out.cell 0];rfl)
   have x2:∀ X:In (Up w'),X.w.cell? ⟨w.heap.size,2,none⟩=some (.slice a2 Ts.length cap2):=fun X=>Up.cell X (by rw [FA2.out.cell 2];rfl)
   have y4:∀ X:In (Up w'),X.w.cell? ⟨w.heap.size+1,4,none⟩=some (.string A.tm):=fun X=>Up.cell X (by rw [FB2.out.cell 4];rfl)
   have y5:∀ X:In (Up w'),X.w.cell? ⟨w.heap.size+1,5,none⟩=some (.slice b0 A.vs.length k0):=fun X=>Up.cell X (by rw [FB2.out.cell 5];rfl)
   have y6:∀ X:In (Up w'),X.w.cell? ⟨w.heap.size+1,6,none⟩=some (.slice b1 A.hs.length k1):=fun X=>Up.cell X (by rw [FB2.out.cell 6];rfl)
   have y7:∀ X:In (Up w'),X.w.cell? ⟨w.heap.size+1,7,none⟩=some (.int .i64 A.seen):=fun X=>Up.cell X (by rw [FB2.out.cell 7];rfl)
   have z1:∀ X:In (Up w'),X.w.cell? ⟨sb,so+k*2+1,none⟩=some (.slice fa Ss[k].fields.length fc):=fun X=>Up.cell X C1.out
   have xs:=fun (X:In (Up w'))=>ZcH X
   cases qv:decide (A.vs.length=Ss[k].fields.length) with
   | false=>
    have hd:((A.vs.length:Int) == (Ss[k].fields.length:Int))=false:=by rw [ZgL,qv]
    refine Zae (Up w') (by kernel_rfl) (by kernel_rfl) (Zb_.drew) ?_
    repeat (go_big_quiet_step (
     first
     | (go_at_call 101;rename_i X;exact (ZaG 0 _ Ts A.tm _ (HT2.out.below X.h)).mono fun _ _ h=>⟨h.1,X,h.2⟩)
     | (go_at_call 158;rename_i X;exact (Zbf _ A.hs _ (HH2.out.below X.h).at).mono fun _ _ h=>⟨h.1,Up.next X h.2⟩)))
    refine wpQuiet_nil ?_;intro wn hw;obtain⟨X,hX⟩:=hw;have HWN:Hid (Below w'.heap.size w' wn):=by rw [hX];exact X.h
    clear hX X x0 x2 y4 y5 y6 y7 z1 xs xn;go_wp2;go_ret;exact⟨Zaa (by unfold ZiR;rw [HNM.out,HNO.out,HVL.out];simp [qv]),bt HB2.out HWN.out⟩
   | true=>
    have hd:((A.vs.length:Int) == (Ss[k].fields.length:Int))=true:=by rw [ZgL,qv]
    cases qt:ZeL Ts A.tm with
    | false=>
     refine Zae (Up w') (by kernel_rfl) (by kernel_rfl) (Zb_.drew) ?_
     repeat (go_big_quiet_step (
      first
      | (go_at_call 101;rename_i X;exact (ZaG 0 _ Ts A.tm _ (HT2.out.below X.h)).mono fun _ _ h=>⟨h.1,X,h.2⟩)
      | (go_at_call 158;rename_i X;exact (Zbf _ A.hs _ (HH2.out.below X.h).at).mono fun _ _ h=>⟨h.1,Up.next X h.2⟩)))
     refine wpQuiet_nil ?_;intro wn hw;obtain⟨X,hX⟩:=hw;have HWN:Hid (Below w'.heap.size w' wn):=by rw [hX];exact X.h
     clear hX X x0 x2 y4 y5 y6 y7 z1 xs xn;go_wp2;go_ret;exact⟨Zaa (by unfold ZiR;rw [HNM.out,HNO.out,HVL.out];simp [qv,qt]),bt HB2.out HWN.out⟩
    | true=>
     cases qh:decide (A.hs.length≤3) with
     | false=>
      have hd3:decide ((A.hs.length:Int)≤3)=false:=by rw [Zit,qh]
      refine Zae (Up w') (by kernel_rfl) (by kernel_rfl) (Zb_.drew) ?_
      repeat (go_big_quiet_step (
       first
       | (go_at_call 101;rename_i X;exact (ZaG 0 _ Ts A.tm _ (HT2.out.below X.h)).mono fun _ _ h=>⟨h.1,X,h.2⟩)
       | (go_at_call 158;rename_i X;exact (Zbf _ A.hs _ (HH2.out.below X.h).at).mono fun _ _ h=>⟨h.1,Up.next X h.2⟩)))
      refine wpQuiet_nil ?_;intro wn hw;obtain⟨X,hX⟩:=hw;have HWN:Hid (Below w'.heap.size w' wn):=by rw [hX];exact X.h
      clear hX X x0 x2 y4 y5 y6 y7 z1 xs xn;go_wp2;go_ret;exact⟨Zaa (by unfold ZiR;rw [HNM.out,HNO.out,HVL.out];simp [qv,qt,qh]),bt HB2.out HWN.out⟩
     | true=>
      have hd3:decide ((A.hs.length:Int)≤3)=true:=by rw [Zit,qh]
      refine Zae (Up w') (by kernel_rfl) (by kernel_rfl) (Zb_.drew) ?_
      repeat (go_big_quiet_step (
       first
       | (go_at_call 101;rename_i X;exact (ZaG 0 _ Ts A.tm _ (HT2.out.below X.h)).mono fun _ _ h=>⟨h.1,X,h.2⟩)
       | (go_at_call 158;rename_i X;exact (Zbf _ A.hs _ (HH2.out.below X.h).at).mono fun _ _ h=>⟨h.1,Up.next X h.2⟩)))
      refine wpQuiet_nil ?_;intro wn hw;obtain⟨X,hX⟩:=hw;have HWN:Hid (Below w'.heap.size w' wn):=by rw [hX];exact X.h
      clear hX X x0 x2 y4 y5 y6 y7 z1 xs xn;go_wp2;go_ret;exact⟨Zaa (by unfold ZiR;rw [HNM.out,HNO.out,HVL.out];simp [qv,qt,qh]),bt HB2.out HWN.out⟩
end
section
variable (sv mv tv va ha qa:Value) (Ss:List Sh) (Ms:List Md) (Ts:List Tm) (A:Ak) (w:World)
theorem ZsP (hl:ZaO 0 w sv mv tv Ss Ms Ts) (h:Za6 0 w va ha qa A) (hv:A.verb=2) (hn:Zaj A.who=true) :
 Calls prog 113 #[.agg #[sv,mv,tv],.agg #[.string A.who,.int .i64 A.verb,.string A.kd,.string A.nm,.string A.tm,va,ha,.int .i64 A.seen,.string A.hold,.string A.tw,qa,.string A.rk,.string A.rt,.string A.rp,.int .i64 A.num]] w fun e w'=>e=.returned (.bool (ZjY Ss A&&no2 A))∧Zw_ w w':=by
 have HL:=Zab hl;have HA:=Zab h;have HZ:=Zab h.sz;obtain⟨a,cap,rfl⟩:=hl.shs.form;obtain⟨a1,cap1,rfl⟩:=hl.mds.form;obtain⟨a2,cap2,rfl⟩:=hl.tms.form;obtain⟨b0,k0,rfl⟩:=h.vs.at.form';obtain⟨b1,k1,rfl⟩:=h.hs.at.form';obtain⟨b2,k2,rfl⟩:=h.vb.form;clear hl h;have hin:inB 1 6 A.verb=true:=by rw [hv];decide
 have hle:decide (A.verb≤4)=true:=by rw [hv];rfl
 have e1:(A.verb == 1)=false:=by rw [hv];rfl
 have e2:(A.verb == 2)=true:=by rw [hv];rfl
 have HV:=Zab hv;clear hv;have sn1:A.who.size≤maxLen:=HZ.out.who;have sn2:A.nm.size≤maxLen:=HZ.out.nm;have sn3:A.hold.size≤maxLen:=HZ.out.hold;have sn4:A.tw.size≤maxLen:=HZ.out.tw;go_enter func113,ntmps113;go_wp2_with (first|(go_at_call 58;refine (Zad _ _ (by with_reducible assumption)).mono ?_;rintro e w' ⟨rfl,rfl⟩)|(go_at_call 54;refine (Zal _ _ _ _).mono ?_;rintro e w' ⟨rfl,rfl⟩));generalize hWa:World.alloc (w.alloc _) _=Wa;have HB0:Hid (Zw_ w Wa):=by rw [← hWa];exact (Zac w _).alloc (by simp) _
 have FA0:Hid (Box Wa w.heap.size #[.slice a Ss.length cap,.slice a1 Ms.length cap1,.slice a2 Ts.length cap2]):=by rw [← hWa];exact (Box.new _ _ _ _ rfl).on (Zac _ _)
 have FB0:Hid (Box Wa (w.heap.size+1) #[.string A.who,.int .i64 A.verb,.string A.kd,.string A.nm,.string A.tm,.slice b0 A.vs.length k0,.slice b1 A.hs.length k1,.int .i64 A.seen,.string A.hold,.string A.tw,.slice b2 A.vb.length k2,.string A.rk,.string A.rt,.string A.rp,.int .i64 A.num]):=by rw [← hWa];exact Box.new _ _ _ _ (by simp)
 clear hWa;refine (ZnY _ _ _ _ _ _ A _ HV.out).mono ?_;rintro e w1 ⟨rfl,hb1⟩;have HB1:Hid (Zw_ w w1):=bt HB0.out hb1;have FA1:=Zab (FA0.out.on hb1);have FB1:=Zab (FB0.out.on hb1);clear hb1 FA0 FB0 HB0;go_wp2_with fail;refine (ZbN _ _ _ _ _ _ _ _ _ _ _ _ _ _ _ _ _ _ _ _ _ _).mono ?_;rintro e w2 ⟨rfl,hb2⟩;have HB2:Hid (Zw_ w w2):=bt HB1.out hb2;have FA2:=Zab (FA1.out.on hb2);have FB2:=Zab (FB1.out.on hb2);clear hb2 FA1 FB1 HB1
 cases qn:noB ⟨#[]⟩ ⟨#[]⟩ A.tm 0 A.hs.length 0 A.hold A.tw A.vb.length A.rk A.rt A.rp A.num with
 | false=>
  go_wp2;go_ret;exact⟨Zaa (by rw [show no2 A=false from qn,Bool.and_false]),HB2.out⟩
 | true=>
  have HNO:Hid (no2 A=true):=qn;have g0:=FA2.out.cell;have g1:=FB2.out.cell;go_wp2_with (first|(go_at_call 58;refine (Zad _ _ (by with_reducible assumption)).mono ?_;rintro e w' ⟨rfl,rfl⟩)|(go_at_call 54;refine (Zal _ _ _ _).mono ?_;rintro e w' ⟨rfl,rfl⟩));clear g0 g1;refine (Zbh 0 _ Ss A.kd _ (HL.out.below HB2.out).shs).mono ?_;rintro e w3 ⟨rfl,hsh⟩;have g0:=FA2.out.cell;have g1:=FB2.out.cell
  rcases hsh with ⟨k,hk,rfl,hx⟩ | ⟨rfl,hx⟩
  case inr=>
   have HR:Hid (ZjY Ss A=false):=by unfold Hid ZjY;rw [ZdA hx];rfl
   go_wp2_with (first|(go_at_call 58;refine (Zad _ _ (by with_reducible assumption)).mono ?_;rintro e w' ⟨rfl,rfl⟩)|(go_at_call 54;refine (Zal _ _ _ _).mono ?_;rintro e w' ⟨rfl,rfl⟩));go_ret;exact⟨Zaa (by rw [HR.out,Bool.false_and]),HB2.out⟩
  have hx':Zb3 Ss A.kd=some Ss[k]:=hx.trans (List.getElem?_eq_getElem hk);have hk0:decide ((k:Int) < 0)=false:=by simp
  cases qa:Zaj A.nm with
  | false=>
   have HR:Hid (ZjY Ss A=false):=by unfold Hid ZjY;rw [ZbO hx',qa];rfl
   go_wp2_with (first|(go_at_call 58;refine (Zad _ _ (by with_reducible assumption)).mono ?_;rintro e w' ⟨rfl,rfl⟩)|(go_at_call 54;refine (Zal _ _ _ _).mono ?_;rintro e w' ⟨rfl,rfl⟩));go_ret;exact⟨Zaa (by rw [HR.out,Bool.false_and]),HB2.out⟩
  | true=>
   have HNM:Hid (Zcy Ss A=true):=by unfold Hid;rw [ZbO hx',qa]
   have HVL:Hid (ZfA Ss A=decide (A.vs.length=Ss[k].fields.length)):=Zej hx';clear hx hx';obtain⟨sb,so,rfl,hsb,hsc⟩:=(HL.out.below HB2.out).shs.full' (by omega);obtain⟨_,fv,_,c1,hf⟩:=hsc k hk;obtain⟨fa,fc,rfl⟩:=hf.form;have C1:=Zab c1;clear hf hsc c1;go_wp2_with (first|(go_at_call 58;refine (Zad _ _ (by with_reducible assumption)).mono ?_;rintro e w' ⟨rfl,rfl⟩)|(go_at_call 54;refine (Zal _ _ _ _).mono ?_;rintro e w' ⟨rfl,rfl⟩));clear g0 g1;have HT2:=Zab (HL.out.below HB2.out).tms;have HH2:=Zab (HA.out.below HB2.out).hs;have xn:Nonempty (In (Up w')):=⟨⟨w',Below.refl _ _⟩⟩;have x0:∀ X:In (Up w'),X.w.cell? ⟨w.heap.size,0,none⟩=some (.slice (some ⟨sb,so,none⟩) Ss.length cap):=fun X=>Up.cell X (by rw [FA2.out.cell 0];rfl)
   have x2:∀ X:In (Up w'),X.w.cell? ⟨w.heap.size,2,none⟩=some (.slice a2 Ts.length cap2):=fun X=>Up.cell X (by rw [FA2.out.cell 2];rfl)
   have y4:∀ X:In (Up w'),X.w.cell? ⟨w.heap.size+1,4,none⟩=some (.string A.tm):=fun X=>Up.cell X (by rw [FB2.out.cell 4];rfl)
   have y5:∀ X:In (Up w'),X.w.cell? ⟨w.heap.size+1,5,none⟩=some (.slice b0 A.vs.length k0):=fun X=>Up.cell X (by rw [FB2.out.cell 5];rfl)
   have y6:∀ X:In (Up w'),X.w.cell? ⟨w.heap.size+1,6,none⟩=some (.slice b1 A.hs.length k1):=fun X=>Up.cell X (by rw [FB2.out.cell 6];rfl)
   have y7:∀ X:In (Up w'),X.w.cell? ⟨w.heap.size+1,7,none⟩=some (.int .i64 A.seen):=fun X=>Up.cell X (by rw [FB2.out.cell 7];rfl)
   have z1:∀ X:In (Up w'),X.w.cell? ⟨sb,so+k*2+1,none⟩=some (.slice fa Ss[k].fields.length fc):=fun X=>Up.cell X C1.out
   have xs:=fun (X:In (Up w'))=>ZcH X
   cases qv:decide (A.vs.length=Ss[k].fields.length) with
   | false=>
    have hd:((A.vs.length:Int) == (Ss[k].fields.length:Int))=false:=by rw [ZgL,qv]
    refine Zae (Up w') (by kernel_rfl) (by kernel_rfl) (Zb_.drew) ?_
    repeat (go_big_quiet_step (
     first
     | (go_at_call 101;rename_i X;exact (ZaG 0 _ Ts A.tm _ (HT2.out.below X.h)).mono fun _ _ h=>⟨h.1,X,h.2⟩)
     | (go_at_call 158;rename_i X;exact (Zbf _ A.hs _ (HH2.out.below X.h).at).mono fun _ _ h=>⟨h.1,Up.next X h.2⟩)))
    refine wpQuiet_nil ?_;intro wn hw;obtain⟨X,hX⟩:=hw;have HWN:Hid (Below w'.heap.size w' wn):=by rw [hX];exact X.h
    clear hX X x0 x2 y4 y5 y6 y7 z1 xs xn;go_wp2;go_ret;exact⟨Zaa (by unfold ZjY;rw [HNM.out,HNO.out,HVL.out];simp [qv]),bt HB2.out HWN.out⟩
   | true=>
    have hd:((A.vs.length:Int) == (Ss[k].fields.length:Int))=true:=by rw [ZgL,qv]
    refine Zae (Up w') (by kernel_rfl) (by kernel_rfl) (Zb_.drew) ?_
    repeat (go_big_quiet_step (
     first
     | (go_at_call 101;rename_i X;exact (ZaG 0 _ Ts A.tm _ (HT2.out.below X.h)).mono fun _ _ h=>⟨h.1,X,h.2⟩)
     | (go_at_call 158;rename_i X;exact (Zbf _ A.hs _ (HH2.out.below X.h).at).mono fun _ _ h=>⟨h.1,Up.next X h.2⟩)))
    refine wpQuiet_nil ?_;intro wn hw;obtain⟨X,hX⟩:=hw;have HWN:Hid (Below w'.heap.size w' wn):=by rw [hX];exact X.h
    clear hX X x0 x2 y4 y5 y6 y7 z1 xs xn;go_wp2;go_ret;exact⟨Zaa (by unfold ZjY;rw [HNM.out,HNO.out,HVL.out];simp [qv]),bt HB2.out HWN.out⟩
end
section
variable (sv mv tv va ha qa:Value) (Ss:List Sh) (Ms:List Md) (Ts:List Tm) (A:Ak) (w:World)
theorem ZsQ (hl:ZaO 0 w sv mv tv Ss Ms Ts) (h:Za6 0 w va ha qa A) (hv:A.verb=3) (hn:Zaj A.who=true) :
 Calls prog 113 #[.agg #[sv,mv,tv],.agg #[.string A.who,.int .i64 A.verb,.string A.kd,.string A.nm,.string A.tm,va,ha,.int .i64 A.seen,.string A.hold,.string A.tw,qa,.string A.rk,.string A.rt,.string A.rp,.int .i64 A.num]] w fun e w'=>e=.returned (.bool (ZkN Ss A&&no3 A))∧Zw_ w w':=by
 have HL:=Zab hl;have HA:=Zab h;have HZ:=Zab h.sz;obtain⟨a,cap,rfl⟩:=hl.shs.form;obtain⟨a1,cap1,rfl⟩:=hl.mds.form;obtain⟨a2,cap2,rfl⟩:=hl.tms.form;obtain⟨b0,k0,rfl⟩:=h.vs.at.form';obtain⟨b1,k1,rfl⟩:=h.hs.at.form';obtain⟨b2,k2,rfl⟩:=h.vb.form;clear hl h;have hin:inB 1 6 A.verb=true:=by rw [hv];decide
 have hle:decide (A.verb≤4)=true:=by rw [hv];rfl
 have e1:(A.verb == 1)=false:=by rw [hv];rfl
 have e2:(A.verb == 2)=false:=by rw [hv];rfl
 have e3:(A.verb == 3)=true:=by rw [hv];rfl
 have HV:=Zab hv;clear hv;have sn1:A.who.size≤maxLen:=HZ.out.who;have sn2:A.nm.size≤maxLen:=HZ.out.nm;have sn3:A.hold.size≤maxLen:=HZ.out.hold;have sn4:A.tw.size≤maxLen:=HZ.out.tw;go_enter func113,ntmps113;go_wp2_with (first|(go_at_call 58;refine (Zad _ _ (by with_reducible assumption)).mono ?_;rintro e w' ⟨rfl,rfl⟩)|(go_at_call 54;refine (Zal _ _ _ _).mono ?_;rintro e w' ⟨rfl,rfl⟩));generalize hWa:World.alloc (w.alloc _) _=Wa;have HB0:Hid (Zw_ w Wa):=by rw [← hWa];exact (Zac w _).alloc (by simp) _
 have FA0:Hid (Box Wa w.heap.size #[.slice a Ss.length cap,.slice a1 Ms.length cap1,.slice a2 Ts.length cap2]):=by rw [← hWa];exact (Box.new _ _ _ _ rfl).on (Zac _ _)
 have FB0:Hid (Box Wa (w.heap.size+1) #[.string A.who,.int .i64 A.verb,.string A.kd,.string A.nm,.string A.tm,.slice b0 A.vs.length k0,.slice b1 A.hs.length k1,.int .i64 A.seen,.string A.hold,.string A.tw,.slice b2 A.vb.length k2,.string A.rk,.string A.rt,.string A.rp,.int .i64 A.num]):=by rw [← hWa];exact Box.new _ _ _ _ (by simp)
 clear hWa;refine (ZnZ _ _ _ _ _ _ A _ HV.out).mono ?_;rintro e w1 ⟨rfl,hb1⟩;have HB1:Hid (Zw_ w w1):=bt HB0.out hb1;have FA1:=Zab (FA0.out.on hb1);have FB1:=Zab (FB0.out.on hb1);clear hb1 FA0 FB0 HB0;go_wp2_with fail;refine (ZbN _ _ _ _ _ _ _ _ _ _ _ _ _ _ _ _ _ _ _ _ _ _).mono ?_;rintro e w2 ⟨rfl,hb2⟩;have HB2:Hid (Zw_ w w2):=bt HB1.out hb2;have FA2:=Zab (FA1.out.on hb2);have FB2:=Zab (FB1.out.on hb2);clear hb2 FA1 FB1 HB1
 cases qn:noB ⟨#[]⟩ ⟨#[]⟩ A.tm A.vs.length A.hs.length 0 A.hold A.tw A.vb.length A.rk A.rt A.rp A.num with
 | false=>
  go_wp2;go_ret;exact⟨Zaa (by rw [show no3 A=false from qn,Bool.and_false]),HB2.out⟩
 | true=>
  have HNO:Hid (no3 A=true):=qn;have g0:=FA2.out.cell;have g1:=FB2.out.cell;go_wp2_with (first|(go_at_call 58;refine (Zad _ _ (by with_reducible assumption)).mono ?_;rintro e w' ⟨rfl,rfl⟩)|(go_at_call 54;refine (Zal _ _ _ _).mono ?_;rintro e w' ⟨rfl,rfl⟩));clear g0 g1;refine (Zbh 0 _ Ss A.kd _ (HL.out.below HB2.out).shs).mono ?_;rintro e w3 ⟨rfl,hsh⟩;have g0:=FA2.out.cell;have g1:=FB2.out.cell
  rcases hsh with ⟨k,hk,rfl,hx⟩ | ⟨rfl,hx⟩
  case inr=>
   have HR:Hid (ZkN Ss A=false):=by unfold Hid ZkN;rw [ZdA hx];rfl
   go_wp2_with (first|(go_at_call 58;refine (Zad _ _ (by with_reducible assumption)).mono ?_;rintro e w' ⟨rfl,rfl⟩)|(go_at_call 54;refine (Zal _ _ _ _).mono ?_;rintro e w' ⟨rfl,rfl⟩));go_ret;exact⟨Zaa (by rw [HR.out,Bool.false_and]),HB2.out⟩
  have hx':Zb3 Ss A.kd=some Ss[k]:=hx.trans (List.getElem?_eq_getElem hk);have hk0:decide ((k:Int) < 0)=false:=by simp
  cases qa:Zaj A.nm with
  | false=>
   have HR:Hid (ZkN Ss A=false):=by unfold Hid ZkN;rw [ZbO hx',qa];rfl
   go_wp2_with (first|(go_at_call 58;refine (Zad _ _ (by with_reducible assumption)).mono ?_;rintro e w' ⟨rfl,rfl⟩)|(go_at_call 54;refine (Zal _ _ _ _).mono ?_;rintro e w' ⟨rfl,rfl⟩));go_ret;exact⟨Zaa (by rw [HR.out,Bool.false_and]),HB2.out⟩
  | true=>
   have HNM:Hid (Zcy Ss A=true):=by unfold Hid;rw [ZbO hx',qa]
   have HVL:Hid (ZfA Ss A=decide (A.vs.length=Ss[k].fields.length)):=Zej hx';clear hx hx';have HR:Hid ((ZkN Ss A&&no3 A)=decide (0≤A.seen)):=by unfold Hid ZkN;rw [HNM.out,HNO.out];simp
   go_wp2_with (first|(go_at_call 58;refine (Zad _ _ (by with_reducible assumption)).mono ?_;rintro e w' ⟨rfl,rfl⟩)|(go_at_call 54;refine (Zal _ _ _ _).mono ?_;rintro e w' ⟨rfl,rfl⟩));go_ret;exact⟨Zaa HR.out.symm,HB2.out⟩
end
section
variable (sv mv tv va ha qa:Value) (Ss:List Sh) (Ms:List Md) (Ts:List Tm) (A:Ak) (w:World)
theorem ZsR (hl:ZaO 0 w sv mv tv Ss Ms Ts) (h:Za6 0 w va ha qa A) (hv:A.verb=4) (hn:Zaj A.who=true) :
 Calls prog 113 #[.agg #[sv,mv,tv],.agg #[.string A.who,.int .i64 A.verb,.string A.kd,.string A.nm,.string A.tm,va,ha,.int .i64 A.seen,.string A.hold,.string A.tw,qa,.string A.rk,.string A.rt,.string A.rp,.int .i64 A.num]] w fun e w'=>e=.returned (.bool (Zls Ss A&&no4 A))∧Zw_ w w':=by
 have HL:=Zab hl;have HA:=Zab h;have HZ:=Zab h.sz;obtain⟨a,cap,rfl⟩:=hl.shs.form;obtain⟨a1,cap1,rfl⟩:=hl.mds.form;obtain⟨a2,cap2,rfl⟩:=hl.tms.form;obtain⟨b0,k0,rfl⟩:=h.vs.at.form';obtain⟨b1,k1,rfl⟩:=h.hs.at.form';obtain⟨b2,k2,rfl⟩:=h.vb.form;clear hl h;have hin:inB 1 6 A.verb=true:=by rw [hv];decide
 have hle:decide (A.verb≤4)=true:=by rw [hv];rfl
 have e1:(A.verb == 1)=false:=by rw [hv];rfl
 have e2:(A.verb == 2)=false:=by rw [hv];rfl
 have e3:(A.verb == 3)=false:=by rw [hv];rfl
 have e4:(A.verb == 4)=true:=by rw [hv];rfl
 have HV:=Zab hv;clear hv;have sn1:A.who.size≤maxLen:=HZ.out.who;have sn2:A.nm.size≤maxLen:=HZ.out.nm;have sn3:A.hold.size≤maxLen:=HZ.out.hold;have sn4:A.tw.size≤maxLen:=HZ.out.tw;go_enter func113,ntmps113;go_wp2_with (first|(go_at_call 58;refine (Zad _ _ (by with_reducible assumption)).mono ?_;rintro e w' ⟨rfl,rfl⟩)|(go_at_call 54;refine (Zal _ _ _ _).mono ?_;rintro e w' ⟨rfl,rfl⟩));generalize hWa:World.alloc (w.alloc _) _=Wa;have HB0:Hid (Zw_ w Wa):=by rw [← hWa];exact (Zac w _).alloc (by simp) _
 have FA0:Hid (Box Wa w.heap.size #[.slice a Ss.length cap,.slice a1 Ms.length cap1,.slice a2 Ts.length cap2]):=by rw [← hWa];exact (Box.new _ _ _ _ rfl).on (Zac _ _)
 have FB0:Hid (Box Wa (w.heap.size+1) #[.string A.who,.int .i64 A.verb,.string A.kd,.string A.nm,.string A.tm,.slice b0 A.vs.length k0,.slice b1 A.hs.length k1,.int .i64 A.seen,.string A.hold,.string A.tw,.slice b2 A.vb.length k2,.string A.rk,.string A.rt,.string A.rp,.int .i64 A.num]):=by rw [← hWa];exact Box.new _ _ _ _ (by simp)
 clear hWa;refine (Zn0 _ _ _ _ _ _ A _ HV.out).mono ?_;rintro e w1 ⟨rfl,hb1⟩;have HB1:Hid (Zw_ w w1):=bt HB0.out hb1;have FA1:=Zab (FA0.out.on hb1);have FB1:=Zab (FB0.out.on hb1);clear hb1 FA0 FB0 HB0;go_wp2_with fail;refine (ZbN _ _ _ _ _ _ _ _ _ _ _ _ _ _ _ _ _ _ _ _ _ _).mono ?_;rintro e w2 ⟨rfl,hb2⟩;have HB2:Hid (Zw_ w w2):=bt HB1.out hb2;have FA2:=Zab (FA1.out.on hb2);have FB2:=Zab (FB1.out.on hb2);clear hb2 FA1 FB1 HB1
 cases qn:noB ⟨#[]⟩ ⟨#[]⟩ A.tm A.vs.length A.hs.length A.seen ⟨#[]⟩ A.tw A.vb.length A.rk A.rt A.rp A.num with
 | false=>
  go_wp2;go_ret;exact⟨Zaa (by rw [show no4 A=false from qn,Bool.and_false]),HB2.out⟩
 | true=>
  have HNO:Hid (no4 A=true):=qn;have g0:=FA2.out.cell;have g1:=FB2.out.cell;go_wp2_with (first|(go_at_call 58;refine (Zad _ _ (by with_reducible assumption)).mono ?_;rintro e w' ⟨rfl,rfl⟩)|(go_at_call 54;refine (Zal _ _ _ _).mono ?_;rintro e w' ⟨rfl,rfl⟩));clear g0 g1;refine (Zbh 0 _ Ss A.kd _ (HL.out.below HB2.out).shs).mono ?_;rintro e w3 ⟨rfl,hsh⟩;have g0:=FA2.out.cell;have g1:=FB2.out.cell
  rcases hsh with ⟨k,hk,rfl,hx⟩ | ⟨rfl,hx⟩
  case inr=>
   have HR:Hid (Zls Ss A=false):=by unfold Hid Zls;rw [ZdA hx];rfl
   go_wp2_with (first|(go_at_call 58;refine (Zad _ _ (by with_reducible assumption)).mono ?_;rintro e w' ⟨rfl,rfl⟩)|(go_at_call 54;refine (Zal _ _ _ _).mono ?_;rintro e w' ⟨rfl,rfl⟩));go_ret;exact⟨Zaa (by rw [HR.out,Bool.false_and]),HB2.out⟩
  have hx':Zb3 Ss A.kd=some Ss[k]:=hx.trans (List.getElem?_eq_getElem hk);have hk0:decide ((k:Int) < 0)=false:=by simp
  cases qa:Zaj A.nm with
  | false=>
   have HR:Hid (Zls Ss A=false):=by unfold Hid Zls;rw [ZbO hx',qa];rfl
   go_wp2_with (first|(go_at_call 58;refine (Zad _ _ (by with_reducible assumption)).mono ?_;rintro e w' ⟨rfl,rfl⟩)|(go_at_call 54;refine (Zal _ _ _ _).mono ?_;rintro e w' ⟨rfl,rfl⟩));go_ret;exact⟨Zaa (by rw [HR.out,Bool.false_and]),HB2.out⟩
  | true=>
   have HNM:Hid (Zcy Ss A=true):=by unfold Hid;rw [ZbO hx',qa]
   have HVL:Hid (ZfA Ss A=decide (A.vs.length=Ss[k].fields.length)):=Zej hx';clear hx hx';have HR:Hid ((Zls Ss A&&no4 A)=Zaj A.hold):=by unfold Hid Zls;rw [HNM.out,HNO.out];simp
   go_wp2_with (first|(go_at_call 58;refine (Zad _ _ (by with_reducible assumption)).mono ?_;rintro e w' ⟨rfl,rfl⟩)|(go_at_call 54;refine (Zal _ _ _ _).mono ?_;rintro e w' ⟨rfl,rfl⟩));go_ret;exact⟨Zaa HR.out.symm,HB2.out⟩
end
section
variable (sv mv tv va ha qa:Value) (Ss:List Sh) (Ms:List Md) (Ts:List Tm) (A:Ak) (w:World)
theorem ZsS (hl:ZaO 0 w sv mv tv Ss Ms Ts) (h:Za6 0 w va ha qa A) (hv:A.verb=5) (hn:Zaj A.who=true) :
 Calls prog 113 #[.agg #[sv,mv,tv],.agg #[.string A.who,.int .i64 A.verb,.string A.kd,.string A.nm,.string A.tm,va,ha,.int .i64 A.seen,.string A.hold,.string A.tw,qa,.string A.rk,.string A.rt,.string A.rp,.int .i64 A.num]] w fun e w'=>e=.returned (.bool (ZmX A&&no5 A))∧Zw_ w w':=by
 have HL:=Zab hl;have HA:=Zab h;have HZ:=Zab h.sz;obtain⟨a,cap,rfl⟩:=hl.shs.form;obtain⟨a1,cap1,rfl⟩:=hl.mds.form;obtain⟨a2,cap2,rfl⟩:=hl.tms.form;obtain⟨b0,k0,rfl⟩:=h.vs.at.form';obtain⟨b1,k1,rfl⟩:=h.hs.at.form';obtain⟨b2,k2,rfl⟩:=h.vb.form;clear hl h;have hin:inB 1 6 A.verb=true:=by rw [hv];decide
 have hle:decide (A.verb≤4)=false:=by rw [hv];rfl
 have e1:(A.verb == 1)=false:=by rw [hv];rfl
 have e2:(A.verb == 2)=false:=by rw [hv];rfl
 have e3:(A.verb == 3)=false:=by rw [hv];rfl
 have e4:(A.verb == 4)=false:=by rw [hv];rfl
 have e5:(A.verb == 5)=true:=by rw [hv];rfl
 have HV:=Zab hv;clear hv;have sn1:A.who.size≤maxLen:=HZ.out.who;have sn2:A.nm.size≤maxLen:=HZ.out.nm;have sn3:A.hold.size≤maxLen:=HZ.out.hold;have sn4:A.tw.size≤maxLen:=HZ.out.tw;go_enter func113,ntmps113;go_wp2_with (first|(go_at_call 58;refine (Zad _ _ (by with_reducible assumption)).mono ?_;rintro e w' ⟨rfl,rfl⟩)|(go_at_call 54;refine (Zal _ _ _ _).mono ?_;rintro e w' ⟨rfl,rfl⟩));generalize hWa:World.alloc (w.alloc _) _=Wa;have HB0:Hid (Zw_ w Wa):=by rw [← hWa];exact (Zac w _).alloc (by simp) _
 have FA0:Hid (Box Wa w.heap.size #[.slice a Ss.length cap,.slice a1 Ms.length cap1,.slice a2 Ts.length cap2]):=by rw [← hWa];exact (Box.new _ _ _ _ rfl).on (Zac _ _)
 have FB0:Hid (Box Wa (w.heap.size+1) #[.string A.who,.int .i64 A.verb,.string A.kd,.string A.nm,.string A.tm,.slice b0 A.vs.length k0,.slice b1 A.hs.length k1,.int .i64 A.seen,.string A.hold,.string A.tw,.slice b2 A.vb.length k2,.string A.rk,.string A.rt,.string A.rp,.int .i64 A.num]):=by rw [← hWa];exact Box.new _ _ _ _ (by simp)
 clear hWa;refine (Zn1 _ _ _ _ _ _ A _ HV.out).mono ?_;rintro e w1 ⟨rfl,hb1⟩;have HB1:Hid (Zw_ w w1):=bt HB0.out hb1;have FA1:=Zab (FA0.out.on hb1);have FB1:=Zab (FB0.out.on hb1);clear hb1 FA0 FB0 HB0;go_wp2_with fail;refine (ZbN _ _ _ _ _ _ _ _ _ _ _ _ _ _ _ _ _ _ _ _ _ _).mono ?_;rintro e w2 ⟨rfl,hb2⟩;have HB2:Hid (Zw_ w w2):=bt HB1.out hb2;have FA2:=Zab (FA1.out.on hb2);have FB2:=Zab (FB1.out.on hb2);clear hb2 FA1 FB1 HB1
 cases qn:noB A.kd A.nm A.tm A.vs.length A.hs.length A.seen A.hold ⟨#[]⟩ 0 ⟨#[]⟩ ⟨#[]⟩ ⟨#[]⟩ A.num with
 | false=>
  go_wp2;go_ret;exact⟨Zaa (by rw [show no5 A=false from qn,Bool.and_false]),HB2.out⟩
 | true=>
  have HNO:Hid (no5 A=true):=qn;have g0:=FA2.out.cell;have g1:=FB2.out.cell;go_wp2_with (first|(go_at_call 58;refine (Zad _ _ (by with_reducible assumption)).mono ?_;rintro e w' ⟨rfl,rfl⟩)|(go_at_call 54;refine (Zal _ _ _ _).mono ?_;rintro e w' ⟨rfl,rfl⟩));clear g0 g1;refine (Zbh 0 _ Ss A.kd _ (HL.out.below HB2.out).shs).mono ?_;rintro e w3 ⟨rfl,hsh⟩;have g0:=FA2.out.cell;have g1:=FB2.out.cell;have HRU:Hid (Zap 0 w3 (.slice b2 A.vb.length k2) A.vb):=(HA.out.below HB2.out).vb
  cases qt:Zaj A.tw with
  | false=>
   have HR:Hid ((ZmX A&&no5 A)=false):=by unfold Hid ZmX;rw [qt];rfl
   rcases hsh with ⟨k,hk,rfl,hx⟩ | ⟨rfl,hx⟩
   all_goals
    clear hx;go_wp2_with (first|(go_at_call 58;refine (Zad _ _ (by with_reducible assumption)).mono ?_;rintro e w' ⟨rfl,rfl⟩)|(go_at_call 54;refine (Zal _ _ _ _).mono ?_;rintro e w' ⟨rfl,rfl⟩));go_ret;exact⟨Zaa HR.out.symm,HB2.out⟩
  | true=>
   have HR:Hid ((ZmX A&&no5 A)=ZaS A.ru):=by unfold Hid ZmX;rw [qt,HNO.out];simp
   rcases hsh with ⟨k,hk,rfl,hx⟩ | ⟨rfl,hx⟩
   all_goals
    clear hx;go_wp2_with (first|(go_at_call 58;refine (Zad _ _ (by with_reducible assumption)).mono ?_;rintro e w' ⟨rfl,rfl⟩)|(go_at_call 54;refine (Zal _ _ _ _).mono ?_;rintro e w' ⟨rfl,rfl⟩));refine (Zay 0 A.ru _ _ HRU.out HZ.out.ru).mono ?_;rintro e w4 ⟨rfl,hb4⟩;have HB4:Hid (Zw_ w w4):=bt HB2.out hb4;clear hb4;go_wp2;go_ret;exact⟨Zaa HR.out.symm,HB4.out⟩
end
section
variable (sv mv tv va ha qa:Value) (Ss:List Sh) (Ms:List Md) (Ts:List Tm) (A:Ak) (w:World)
theorem ZsT (hl:ZaO 0 w sv mv tv Ss Ms Ts) (h:Za6 0 w va ha qa A) (hv:A.verb=6) (hn:Zaj A.who=true) :
 Calls prog 113 #[.agg #[sv,mv,tv],.agg #[.string A.who,.int .i64 A.verb,.string A.kd,.string A.nm,.string A.tm,va,ha,.int .i64 A.seen,.string A.hold,.string A.tw,qa,.string A.rk,.string A.rt,.string A.rp,.int .i64 A.num]] w fun e w'=>e=.returned (.bool (ZqW A&&no6 A))∧Zw_ w w':=by
 have HL:=Zab hl;have HA:=Zab h;have HZ:=Zab h.sz;obtain⟨a,cap,rfl⟩:=hl.shs.form;obtain⟨a1,cap1,rfl⟩:=hl.mds.form;obtain⟨a2,cap2,rfl⟩:=hl.tms.form;obtain⟨b0,k0,rfl⟩:=h.vs.at.form';obtain⟨b1,k1,rfl⟩:=h.hs.at.form';obtain⟨b2,k2,rfl⟩:=h.vb.form;clear hl h;have hin:inB 1 6 A.verb=true:=by rw [hv];decide
 have hle:decide (A.verb≤4)=false:=by rw [hv];rfl
 have e1:(A.verb == 1)=false:=by rw [hv];rfl
 have e2:(A.verb == 2)=false:=by rw [hv];rfl
 have e3:(A.verb == 3)=false:=by rw [hv];rfl
 have e4:(A.verb == 4)=false:=by rw [hv];rfl
 have e5:(A.verb == 5)=false:=by rw [hv];rfl
 have HV:=Zab hv;clear hv;have sn1:A.who.size≤maxLen:=HZ.out.who;have sn2:A.nm.size≤maxLen:=HZ.out.nm;have sn3:A.hold.size≤maxLen:=HZ.out.hold;have sn4:A.tw.size≤maxLen:=HZ.out.tw;go_enter func113,ntmps113;go_wp2_with (first|(go_at_call 58;refine (Zad _ _ (by with_reducible assumption)).mono ?_;rintro e w' ⟨rfl,rfl⟩)|(go_at_call 54;refine (Zal _ _ _ _).mono ?_;rintro e w' ⟨rfl,rfl⟩));generalize hWa:World.alloc (w.alloc _) _=Wa;have HB0:Hid (Zw_ w Wa):=by rw [← hWa];exact (Zac w _).alloc (by simp) _
 have FA0:Hid (Box Wa w.heap.size #[.slice a Ss.length cap,.slice a1 Ms.length cap1,.slice a2 Ts.length cap2]):=by rw [← hWa];exact (Box.new _ _ _ _ rfl).on (Zac _ _)
 have FB0:Hid (Box Wa (w.heap.size+1) #[.string A.who,.int .i64 A.verb,.string A.kd,.string A.nm,.string A.tm,.slice b0 A.vs.length k0,.slice b1 A.hs.length k1,.int .i64 A.seen,.string A.hold,.string A.tw,.slice b2 A.vb.length k2,.string A.rk,.string A.rt,.string A.rp,.int .i64 A.num]):=by rw [← hWa];exact Box.new _ _ _ _ (by simp)
 clear hWa;refine (Zn2 _ _ _ _ _ _ A _ HV.out).mono ?_;rintro e w1 ⟨rfl,hb1⟩;have HB1:Hid (Zw_ w w1):=bt HB0.out hb1;have FA1:=Zab (FA0.out.on hb1);have FB1:=Zab (FB0.out.on hb1);clear hb1 FA0 FB0 HB0;go_wp2_with fail;refine (ZbN _ _ _ _ _ _ _ _ _ _ _ _ _ _ _ _ _ _ _ _ _ _).mono ?_;rintro e w2 ⟨rfl,hb2⟩;have HB2:Hid (Zw_ w w2):=bt HB1.out hb2;have FA2:=Zab (FA1.out.on hb2);have FB2:=Zab (FB1.out.on hb2);clear hb2 FA1 FB1 HB1
 cases qn:noB A.kd A.nm A.tm A.vs.length A.hs.length A.seen A.hold A.tw A.vb.length A.rk A.rt A.rp 0 with
 | false=>
  go_wp2;go_ret;exact⟨Zaa (by rw [show no6 A=false from qn,Bool.and_false]),HB2.out⟩
 | true=>
  have HNO:Hid (no6 A=true):=qn;have g0:=FA2.out.cell;have g1:=FB2.out.cell;go_wp2_with (first|(go_at_call 58;refine (Zad _ _ (by with_reducible assumption)).mono ?_;rintro e w' ⟨rfl,rfl⟩)|(go_at_call 54;refine (Zal _ _ _ _).mono ?_;rintro e w' ⟨rfl,rfl⟩));clear g0 g1;refine (Zbh 0 _ Ss A.kd _ (HL.out.below HB2.out).shs).mono ?_;rintro e w3 ⟨rfl,hsh⟩;have g0:=FA2.out.cell;have g1:=FB2.out.cell;have HR:Hid ((ZqW A&&no6 A)=decide (1≤A.num)):=by unfold Hid ZqW;rw [HNO.out,Bool.and_true]
  rcases hsh with ⟨k,hk,rfl,hx⟩ | ⟨rfl,hx⟩
  all_goals
   clear hx;go_wp2_with (first|(go_at_call 58;refine (Zad _ _ (by with_reducible assumption)).mono ?_;rintro e w' ⟨rfl,rfl⟩)|(go_at_call 54;refine (Zal _ _ _ _).mono ?_;rintro e w' ⟨rfl,rfl⟩));go_ret;exact⟨Zaa HR.out.symm,HB2.out⟩
end
section
variable (sv mv tv va ha qa:Value) (Ss:List Sh) (Ms:List Md) (Ts:List Tm) (A:Ak) (w:World)
theorem Zkh (hl:ZaO 0 w sv mv tv Ss Ms Ts) (h:Za6 0 w va ha qa A) :
 Calls prog 113 #[.agg #[sv,mv,tv],.agg #[.string A.who,.int .i64 A.verb,.string A.kd,.string A.nm,.string A.tm,va,ha,.int .i64 A.seen,.string A.hold,.string A.tw,qa,.string A.rk,.string A.rt,.string A.rp,.int .i64 A.num]] w fun e w'=>e=.returned (.bool (Zgl Ss Ts A))∧Zw_ w w':=by
 cases hn:Zaj A.who with
 | false=>
  rw [ZkY hn];have HL:=Zab hl;have HA:=Zab h;have HZ:=Zab h.sz;obtain⟨a,cap,rfl⟩:=hl.shs.form;obtain⟨a1,cap1,rfl⟩:=hl.mds.form;obtain⟨a2,cap2,rfl⟩:=hl.tms.form;obtain⟨b0,k0,rfl⟩:=h.vs.at.form';obtain⟨b1,k1,rfl⟩:=h.hs.at.form';obtain⟨b2,k2,rfl⟩:=h.vb.form;clear hl h;have sn1:A.who.size≤maxLen:=HZ.out.who;go_enter func113,ntmps113;go_wp2_with (first|(go_at_call 58;refine (Zad _ _ (by with_reducible assumption)).mono ?_;rintro e w' ⟨rfl,rfl⟩)|(go_at_call 54;refine (Zal _ _ _ _).mono ?_;rintro e w' ⟨rfl,rfl⟩));go_ret;exact⟨rfl,(Zac w _).alloc (by simp) _⟩
 | true=>
  cases hin:inB 1 6 A.verb with
  | false=>
   rw [Znb hin];have HL:=Zab hl;have HA:=Zab h;have HZ:=Zab h.sz;obtain⟨a,cap,rfl⟩:=hl.shs.form;obtain⟨a1,cap1,rfl⟩:=hl.mds.form;obtain⟨a2,cap2,rfl⟩:=hl.tms.form;obtain⟨b0,k0,rfl⟩:=h.vs.at.form';obtain⟨b1,k1,rfl⟩:=h.hs.at.form';obtain⟨b2,k2,rfl⟩:=h.vb.form;clear hl h;have sn1:A.who.size≤maxLen:=HZ.out.who;go_enter func113,ntmps113;go_wp2_with (first|(go_at_call 58;refine (Zad _ _ (by with_reducible assumption)).mono ?_;rintro e w' ⟨rfl,rfl⟩)|(go_at_call 54;refine (Zal _ _ _ _).mono ?_;rintro e w' ⟨rfl,rfl⟩));go_ret;exact⟨rfl,(Zac w _).alloc (by simp) _⟩
  | true=>
   rcases ZoY hin with hv | hv | hv | hv | hv | hv
   · rw [Zsm hv,hn,Bool.true_and];exact ZsO sv mv tv va ha qa Ss Ms Ts A w hl h hv hn
   · rw [Zsn hv,hn,Bool.true_and];exact ZsP sv mv tv va ha qa Ss Ms Ts A w hl h hv hn
   · rw [Zso hv,hn,Bool.true_and];exact ZsQ sv mv tv va ha qa Ss Ms Ts A w hl h hv hn
   · rw [Zsp hv,hn,Bool.true_and];exact ZsR sv mv tv va ha qa Ss Ms Ts A w hl h hv hn
   · rw [Zsq hv,hn,Bool.true_and];exact ZsS sv mv tv va ha qa Ss Ms Ts A w hl h hv hn
   · rw [Zsr hv,hn,Bool.true_and];exact ZsT sv mv tv va ha qa Ss Ms Ts A w hl h hv hn
end
end Go.Proofs.YtcfjmagkinpaeaaGreat
