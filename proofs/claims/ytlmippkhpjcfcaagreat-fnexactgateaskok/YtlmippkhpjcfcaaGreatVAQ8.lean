import Derived.Test.YtlmippkhpjcfcaaGreatVAQ6
set_option maxHeartbeats 16000000
set_option maxRecDepth 100000
open Go.Proofs.Tryz
namespace Go.Proofs.YtlmippkhpjcfcaaGreat
open Go.RowKit Go.Deep
section
variable (sv mv tv va ha qa:Value) (Ss:List Sh) (Ms:List Md) (Ts:List Tm) (A:Ak) (w:World)
theorem Zs0 (hl:ZaS 0 w sv mv tv Ss Ms Ts) (h:ZbE 0 w va ha qa A) (hv:A.verb=1) (hn:Zao A.who=true) :
 Calls prog 69 #[.agg #[sv,mv,tv],.agg #[.string A.who,.int .i64 A.verb,.string A.kd,.string A.nm,.string A.tm,va,ha,.int .i64 A.seen,.string A.hold,.string A.tw,qa,.string A.rk,.string A.rt,.string A.rp,.int .i64 A.num]] w fun e w'=>e=.returned (.bool (Zjp Ss Ts A&&no1 A))∧Zw_ w w':=by
 have HL:=Zab hl;have HA:=Zab h;have HZ:=Zab h.sz;obtain⟨a,cap,rfl⟩:=hl.shs.form;obtain⟨a1,cap1,rfl⟩:=hl.mds.form;obtain⟨a2,cap2,rfl⟩:=hl.tms.form;obtain⟨b0,k0,rfl⟩:=h.vs.at.form';obtain⟨b1,k1,rfl⟩:=h.hs.at.form';obtain⟨b2,k2,rfl⟩:=h.vb.form;clear hl h;have hin:inB 1 6 A.verb=true:=by rw [hv];decide
 have hle:decide (A.verb≤4)=true:=by rw [hv];rfl
 have e1:(A.verb == 1)=true:=by rw [hv];rfl
 have HV:=Zab hv;clear hv;have sn1:A.who.size≤maxLen:=HZ.out.who;have sn2:A.nm.size≤maxLen:=HZ.out.nm;have sn3:A.hold.size≤maxLen:=HZ.out.hold;have sn4:A.tw.size≤maxLen:=HZ.out.tw;go_enter func69,ntmps69;go_wp2_with (first|(go_at_call 125;refine (Zad _ _ (by with_reducible assumption)).mono ?_;rintro e w' ⟨rfl,rfl⟩)|(go_at_call 88;refine (Zam _ _ _ _).mono ?_;rintro e w' ⟨rfl,rfl⟩));generalize hWa:World.alloc (w.alloc _) _=Wa;have HB0:Hid (Zw_ w Wa):=by rw [← hWa];exact (Zac w _).alloc (by simp) _
 have FA0:Hid (Box Wa w.heap.size #[.slice a Ss.length cap,.slice a1 Ms.length cap1,.slice a2 Ts.length cap2]):=by rw [← hWa];exact (Box.new _ _ _ _ rfl).on (Zac _ _)
 have FB0:Hid (Box Wa (w.heap.size+1) #[.string A.who,.int .i64 A.verb,.string A.kd,.string A.nm,.string A.tm,.slice b0 A.vs.length k0,.slice b1 A.hs.length k1,.int .i64 A.seen,.string A.hold,.string A.tw,.slice b2 A.vb.length k2,.string A.rk,.string A.rt,.string A.rp,.int .i64 A.num]):=by rw [← hWa];exact Box.new _ _ _ _ (by simp)
 clear hWa;refine (Zqs _ _ _ _ _ _ A _ HV.out).mono ?_;rintro e w1 ⟨rfl,hb1⟩;have HB1:Hid (Zw_ w w1):=bt HB0.out hb1;have FA1:=Zab (FA0.out.on hb1);have FB1:=Zab (FB0.out.on hb1);clear hb1 FA0 FB0 HB0;go_wp2_with fail;refine (Zb5 _ _ _ _ _ _ _ _ _ _ _ _ _ _ _ _ _ _ _ _ _ _).mono ?_;rintro e w2 ⟨rfl,hb2⟩;have HB2:Hid (Zw_ w w2):=bt HB1.out hb2;have FA2:=Zab (FA1.out.on hb2);have FB2:=Zab (FB1.out.on hb2);clear hb2 FA1 FB1 HB1
 cases qn:noB ⟨#[]⟩ ⟨#[]⟩ ⟨#[]⟩ 0 0 A.seen A.hold A.tw A.vb.length A.rk A.rt A.rp A.num with
 | false=>
  go_wp2;go_ret;exact⟨Zaa (by rw [show no1 A=false from qn,Bool.and_false]),HB2.out⟩
 | true=>
  have HNO:Hid (no1 A=true):=qn;have g0:=FA2.out.cell;have g1:=FB2.out.cell;go_wp2_with (first|(go_at_call 125;refine (Zad _ _ (by with_reducible assumption)).mono ?_;rintro e w' ⟨rfl,rfl⟩)|(go_at_call 88;refine (Zam _ _ _ _).mono ?_;rintro e w' ⟨rfl,rfl⟩));clear g0 g1;refine (Zbj 0 _ Ss A.kd _ (HL.out.below HB2.out).shs).mono ?_;rintro e w3 ⟨rfl,hsh⟩;have g0:=FA2.out.cell;have g1:=FB2.out.cell
  rcases hsh with ⟨k,hk,rfl,hx⟩ | ⟨rfl,hx⟩
  case inr=>
   have HR:Hid (Zjp Ss Ts A=false):=by unfold Hid Zjp;rw [ZdZ hx];rfl
   go_wp2_with (first|(go_at_call 125;refine (Zad _ _ (by with_reducible assumption)).mono ?_;rintro e w' ⟨rfl,rfl⟩)|(go_at_call 88;refine (Zam _ _ _ _).mono ?_;rintro e w' ⟨rfl,rfl⟩));go_ret;exact⟨Zaa (by rw [HR.out,Bool.false_and]),HB2.out⟩
  have hx':Zcf Ss A.kd=some Ss[k]:=hx.trans (List.getElem?_eq_getElem hk);have hk0:decide ((k:Int) < 0)=false:=by simp
  cases qa:Zao A.nm with
  | false=>
   have HR:Hid (Zjp Ss Ts A=false):=by unfold Hid Zjp;rw [Zb0 hx',qa];rfl
   go_wp2_with (first|(go_at_call 125;refine (Zad _ _ (by with_reducible assumption)).mono ?_;rintro e w' ⟨rfl,rfl⟩)|(go_at_call 88;refine (Zam _ _ _ _).mono ?_;rintro e w' ⟨rfl,rfl⟩));go_ret;exact⟨Zaa (by rw [HR.out,Bool.false_and]),HB2.out⟩
  | true=>
   have HNM:Hid (ZcP Ss A=true):=by unfold Hid;rw [Zb0 hx',qa]
   have HVL:Hid (Zf6 Ss A=decide (A.vs.length=Ss[k].fields.length)):=ZeH hx';clear hx hx';obtain⟨sb,so,rfl,hsb,hsc⟩:=(HL.out.below HB2.out).shs.full' (by omega);obtain⟨_,fv,_,c1,hf⟩:=hsc k hk;obtain⟨fa,fc,rfl⟩:=hf.form;have C1:=Zab c1;clear hf hsc c1;go_wp2_with (first|(go_at_call 125;refine (Zad _ _ (by with_reducible assumption)).mono ?_;rintro e w' ⟨rfl,rfl⟩)|(go_at_call 88;refine (Zam _ _ _ _).mono ?_;rintro e w' ⟨rfl,rfl⟩));clear g0 g1;have HT2:=Zab (HL.out.below HB2.out).tms;have HH2:=Zab (HA.out.below HB2.out).hs;have xn:Nonempty (In (Up w')):=⟨⟨w',Below.refl _ _⟩⟩;have x0:∀ X:In (Up w'),X.w.cell? ⟨w.heap.size,0,none⟩=some (.slice (some ⟨sb,so,none⟩) Ss.length cap):=fun X=>Up.cell X (by rw [FA2.out.cell 0];rfl)
   have x2:∀ X:In (Up w'),X.w.cell? ⟨w.heap.size,2,none⟩=some (.slice a2 Ts.length cap2):=fun X=>Up.cell X (by rw [FA2.out.cell 2];rfl)
   have y4:∀ X:In (Up w'),X.w.cell? ⟨w.heap.size+1,4,none⟩=some (.string A.tm):=fun X=>Up.cell X (by rw [FB2.out.cell 4];rfl)
   have y5:∀ X:In (Up w'),X.w.cell? ⟨w.heap.size+1,5,none⟩=some (.slice b0 A.vs.length k0):=fun X=>Up.cell X (by rw [FB2.out.cell 5];rfl)
   have y6:∀ X:In (Up w'),X.w.cell? ⟨w.heap.size+1,6,none⟩=some (.slice b1 A.hs.length k1):=fun X=>Up.cell X (by rw [FB2.out.cell 6];rfl)
   have y7:∀ X:In (Up w'),X.w.cell? ⟨w.heap.size+1,7,none⟩=some (.int .i64 A.seen):=fun X=>Up.cell X (by rw [FB2.out.cell 7];rfl)
   have z1:∀ X:In (Up w'),X.w.cell? ⟨sb,so+k*2+1,none⟩=some (.slice fa Ss[k].fields.length fc):=fun X=>Up.cell X C1.out
   have xs:=fun (X:In (Up w'))=>ZbA X
   cases qv:decide (A.vs.length=Ss[k].fields.length) with
   | false=>
    have hd:((A.vs.length:Int) == (Ss[k].fields.length:Int))=false:=by rw [Zhs,qv]
    refine Zaj (Up w') (by kernel_rfl) (by kernel_rfl) (Zb_.drew) ?_
    repeat (go_big_quiet_step (
     first
     | (go_at_call 129;rename_i X;exact (ZaK 0 _ Ts A.tm _ (HT2.out.below X.h)).mono fun _ _ h=>⟨h.1,X,h.2⟩)
     | (go_at_call 130;rename_i X;exact (Zbi _ A.hs _ (HH2.out.below X.h).at).mono fun _ _ h=>⟨h.1,Up.next X h.2⟩)))
    refine wpQuiet_nil ?_;intro wn hw;obtain⟨X,hX⟩:=hw;have HWN:Hid (Below w'.heap.size w' wn):=by rw [hX];exact X.h
    clear hX X x0 x2 y4 y5 y6 y7 z1 xs xn;go_wp2;go_ret;exact⟨Zaa (by unfold Zjp;rw [HNM.out,HNO.out,HVL.out];simp [qv]),bt HB2.out HWN.out⟩
   | true=>
    have hd:((A.vs.length:Int) == (Ss[k].fields.length:Int))=true:=by rw [Zhs,qv]
    cases qt:Zfa Ts A.tm with
    | false=>
     refine Zaj (Up w') (by kernel_rfl) (by kernel_rfl) (Zb_.drew) ?_
     repeat (go_big_quiet_step (
      first
      | (go_at_call 129;rename_i X;exact (ZaK 0 _ Ts A.tm _ (HT2.out.below X.h)).mono fun _ _ h=>⟨h.1,X,h.2⟩)
      | (go_at_call 130;rename_i X;exact (Zbi _ A.hs _ (HH2.out.below X.h).at).mono fun _ _ h=>⟨h.1,Up.next X h.2⟩)))
     refine wpQuiet_nil ?_;intro wn hw;obtain⟨X,hX⟩:=hw;have HWN:Hid (Below w'.heap.size w' wn):=by rw [hX];exact X.h
     clear hX X x0 x2 y4 y5 y6 y7 z1 xs xn;go_wp2;go_ret;exact⟨Zaa (by unfold Zjp;rw [HNM.out,HNO.out,HVL.out];simp [qv,qt]),bt HB2.out HWN.out⟩
    | true=>
     cases qh:decide (A.hs.length≤3) with
     | false=>
      have hd3:decide ((A.hs.length:Int)≤3)=false:=by rw [ZjG,qh]
      refine Zaj (Up w') (by kernel_rfl) (by kernel_rfl) (Zb_.drew) ?_
      repeat (go_big_quiet_step (
       first
       | (go_at_call 129;rename_i X;exact (ZaK 0 _ Ts A.tm _ (HT2.out.below X.h)).mono fun _ _ h=>⟨h.1,X,h.2⟩)
       | (go_at_call 130;rename_i X;exact (Zbi _ A.hs _ (HH2.out.below X.h).at).mono fun _ _ h=>⟨h.1,Up.next X h.2⟩)))
      refine wpQuiet_nil ?_;intro wn hw;obtain⟨X,hX⟩:=hw;have HWN:Hid (Below w'.heap.size w' wn):=by rw [hX];exact X.h
      clear hX X x0 x2 y4 y5 y6 y7 z1 xs xn;go_wp2;go_ret;exact⟨Zaa (by unfold Zjp;rw [HNM.out,HNO.out,HVL.out];simp [qv,qt,qh]),bt HB2.out HWN.out⟩
     | true=>
      have hd3:decide ((A.hs.length:Int)≤3)=true:=by rw [ZjG,qh]
      refine Zaj (Up w') (by kernel_rfl) (by kernel_rfl) (Zb_.drew) ?_
      repeat (go_big_quiet_step (
       first
       | (go_at_call 129;rename_i X;exact (ZaK 0 _ Ts A.tm _ (HT2.out.below X.h)).mono fun _ _ h=>⟨h.1,X,h.2⟩)
       | (go_at_call 130;rename_i X;exact (Zbi _ A.hs _ (HH2.out.below X.h).at).mono fun _ _ h=>⟨h.1,Up.next X h.2⟩)))
      refine wpQuiet_nil ?_;intro wn hw;obtain⟨X,hX⟩:=hw;have HWN:Hid (Below w'.heap.size w' wn):=by rw [hX];exact X.h
      clear hX X x0 x2 y4 y5 y6 y7 z1 xs xn;go_wp2;go_ret;exact⟨Zaa (by unfold Zjp;rw [HNM.out,HNO.out,HVL.out];simp [qv,qt,qh]),bt HB2.out HWN.out⟩
end
section
variable (sv mv tv va ha qa:Value) (Ss:List Sh) (Ms:List Md) (Ts:List Tm) (A:Ak) (w:World)
theorem Zs7 (hl:ZaS 0 w sv mv tv Ss Ms Ts) (h:ZbE 0 w va ha qa A) (hv:A.verb=2) (hn:Zao A.who=true) :
 Calls prog 69 #[.agg #[sv,mv,tv],.agg #[.string A.who,.int .i64 A.verb,.string A.kd,.string A.nm,.string A.tm,va,ha,.int .i64 A.seen,.string A.hold,.string A.tw,qa,.string A.rk,.string A.rt,.string A.rp,.int .i64 A.num]] w fun e w'=>e=.returned (.bool (Zk3 Ss A&&no2 A))∧Zw_ w w':=by
 have HL:=Zab hl;have HA:=Zab h;have HZ:=Zab h.sz;obtain⟨a,cap,rfl⟩:=hl.shs.form;obtain⟨a1,cap1,rfl⟩:=hl.mds.form;obtain⟨a2,cap2,rfl⟩:=hl.tms.form;obtain⟨b0,k0,rfl⟩:=h.vs.at.form';obtain⟨b1,k1,rfl⟩:=h.hs.at.form';obtain⟨b2,k2,rfl⟩:=h.vb.form;clear hl h;have hin:inB 1 6 A.verb=true:=by rw [hv];decide
 have hle:decide (A.verb≤4)=true:=by rw [hv];rfl
 have e1:(A.verb == 1)=false:=by rw [hv];rfl
 have e2:(A.verb == 2)=true:=by rw [hv];rfl
 have HV:=Zab hv;clear hv;have sn1:A.who.size≤maxLen:=HZ.out.who;have sn2:A.nm.size≤maxLen:=HZ.out.nm;have sn3:A.hold.size≤maxLen:=HZ.out.hold;have sn4:A.tw.size≤maxLen:=HZ.out.tw;go_enter func69,ntmps69;go_wp2_with (first|(go_at_call 125;refine (Zad _ _ (by with_reducible assumption)).mono ?_;rintro e w' ⟨rfl,rfl⟩)|(go_at_call 88;refine (Zam _ _ _ _).mono ?_;rintro e w' ⟨rfl,rfl⟩));generalize hWa:World.alloc (w.alloc _) _=Wa;have HB0:Hid (Zw_ w Wa):=by rw [← hWa];exact (Zac w _).alloc (by simp) _
 have FA0:Hid (Box Wa w.heap.size #[.slice a Ss.length cap,.slice a1 Ms.length cap1,.slice a2 Ts.length cap2]):=by rw [← hWa];exact (Box.new _ _ _ _ rfl).on (Zac _ _)
 have FB0:Hid (Box Wa (w.heap.size+1) #[.string A.who,.int .i64 A.verb,.string A.kd,.string A.nm,.string A.tm,.slice b0 A.vs.length k0,.slice b1 A.hs.length k1,.int .i64 A.seen,.string A.hold,.string A.tw,.slice b2 A.vb.length k2,.string A.rk,.string A.rt,.string A.rp,.int .i64 A.num]):=by rw [← hWa];exact Box.new _ _ _ _ (by simp)
 clear hWa;refine (Zqr _ _ _ _ _ _ A _ HV.out).mono ?_;rintro e w1 ⟨rfl,hb1⟩;have HB1:Hid (Zw_ w w1):=bt HB0.out hb1;have FA1:=Zab (FA0.out.on hb1);have FB1:=Zab (FB0.out.on hb1);clear hb1 FA0 FB0 HB0;go_wp2_with fail;refine (Zb5 _ _ _ _ _ _ _ _ _ _ _ _ _ _ _ _ _ _ _ _ _ _).mono ?_;rintro e w2 ⟨rfl,hb2⟩;have HB2:Hid (Zw_ w w2):=bt HB1.out hb2;have FA2:=Zab (FA1.out.on hb2);have FB2:=Zab (FB1.out.on hb2);clear hb2 FA1 FB1 HB1
 cases qn:noB ⟨#[]⟩ ⟨#[]⟩ A.tm 0 A.hs.length 0 A.hold A.tw A.vb.length A.rk A.rt A.rp A.num with
 | false=>
  go_wp2;go_ret;exact⟨Zaa (by rw [show no2 A=false from qn,Bool.and_false]),HB2.out⟩
 | true=>
  have HNO:Hid (no2 A=true):=qn;have g0:=FA2.out.cell;have g1:=FB2.out.cell;go_wp2_with (first|(go_at_call 125;refine (Zad _ _ (by with_reducible assumption)).mono ?_;rintro e w' ⟨rfl,rfl⟩)|(go_at_call 88;refine (Zam _ _ _ _).mono ?_;rintro e w' ⟨rfl,rfl⟩));clear g0 g1;refine (Zbj 0 _ Ss A.kd _ (HL.out.below HB2.out).shs).mono ?_;rintro e w3 ⟨rfl,hsh⟩;have g0:=FA2.out.cell;have g1:=FB2.out.cell
  rcases hsh with ⟨k,hk,rfl,hx⟩ | ⟨rfl,hx⟩
  case inr=>
   have HR:Hid (Zk3 Ss A=false):=by unfold Hid Zk3;rw [ZdZ hx];rfl
   go_wp2_with (first|(go_at_call 125;refine (Zad _ _ (by with_reducible assumption)).mono ?_;rintro e w' ⟨rfl,rfl⟩)|(go_at_call 88;refine (Zam _ _ _ _).mono ?_;rintro e w' ⟨rfl,rfl⟩));go_ret;exact⟨Zaa (by rw [HR.out,Bool.false_and]),HB2.out⟩
  have hx':Zcf Ss A.kd=some Ss[k]:=hx.trans (List.getElem?_eq_getElem hk);have hk0:decide ((k:Int) < 0)=false:=by simp
  cases qa:Zao A.nm with
  | false=>
   have HR:Hid (Zk3 Ss A=false):=by unfold Hid Zk3;rw [Zb0 hx',qa];rfl
   go_wp2_with (first|(go_at_call 125;refine (Zad _ _ (by with_reducible assumption)).mono ?_;rintro e w' ⟨rfl,rfl⟩)|(go_at_call 88;refine (Zam _ _ _ _).mono ?_;rintro e w' ⟨rfl,rfl⟩));go_ret;exact⟨Zaa (by rw [HR.out,Bool.false_and]),HB2.out⟩
  | true=>
   have HNM:Hid (ZcP Ss A=true):=by unfold Hid;rw [Zb0 hx',qa]
   have HVL:Hid (Zf6 Ss A=decide (A.vs.length=Ss[k].fields.length)):=ZeH hx';clear hx hx';obtain⟨sb,so,rfl,hsb,hsc⟩:=(HL.out.below HB2.out).shs.full' (by omega);obtain⟨_,fv,_,c1,hf⟩:=hsc k hk;obtain⟨fa,fc,rfl⟩:=hf.form;have C1:=Zab c1;clear hf hsc c1;go_wp2_with (first|(go_at_call 125;refine (Zad _ _ (by with_reducible assumption)).mono ?_;rintro e w' ⟨rfl,rfl⟩)|(go_at_call 88;refine (Zam _ _ _ _).mono ?_;rintro e w' ⟨rfl,rfl⟩));clear g0 g1;have HT2:=Zab (HL.out.below HB2.out).tms;have HH2:=Zab (HA.out.below HB2.out).hs;have xn:Nonempty (In (Up w')):=⟨⟨w',Below.refl _ _⟩⟩;have x0:∀ X:In (Up w'),X.w.cell? ⟨w.heap.size,0,none⟩=some (.slice (some ⟨sb,so,none⟩) Ss.length cap):=fun X=>Up.cell X (by rw [FA2.out.cell 0];rfl)
   have x2:∀ X:In (Up w'),X.w.cell? ⟨w.heap.size,2,none⟩=some (.slice a2 Ts.length cap2):=fun X=>Up.cell X (by rw [FA2.out.cell 2];rfl)
   have y4:∀ X:In (Up w'),X.w.cell? ⟨w.heap.size+1,4,none⟩=some (.string A.tm):=fun X=>Up.cell X (by rw [FB2.out.cell 4];rfl)
   have y5:∀ X:In (Up w'),X.w.cell? ⟨w.heap.size+1,5,none⟩=some (.slice b0 A.vs.length k0):=fun X=>Up.cell X (by rw [FB2.out.cell 5];rfl)
   have y6:∀ X:In (Up w'),X.w.cell? ⟨w.heap.size+1,6,none⟩=some (.slice b1 A.hs.length k1):=fun X=>Up.cell X (by rw [FB2.out.cell 6];rfl)
   have y7:∀ X:In (Up w'),X.w.cell? ⟨w.heap.size+1,7,none⟩=some (.int .i64 A.seen):=fun X=>Up.cell X (by rw [FB2.out.cell 7];rfl)
   have z1:∀ X:In (Up w'),X.w.cell? ⟨sb,so+k*2+1,none⟩=some (.slice fa Ss[k].fields.length fc):=fun X=>Up.cell X C1.out
   have xs:=fun (X:In (Up w'))=>ZbA X
   cases qv:decide (A.vs.length=Ss[k].fields.length) with
   | false=>
    have hd:((A.vs.length:Int) == (Ss[k].fields.length:Int))=false:=by rw [Zhs,qv]
    refine Zaj (Up w') (by kernel_rfl) (by kernel_rfl) (Zb_.drew) ?_
    repeat (go_big_quiet_step (
     first
     | (go_at_call 129;rename_i X;exact (ZaK 0 _ Ts A.tm _ (HT2.out.below X.h)).mono fun _ _ h=>⟨h.1,X,h.2⟩)
     | (go_at_call 130;rename_i X;exact (Zbi _ A.hs _ (HH2.out.below X.h).at).mono fun _ _ h=>⟨h.1,Up.next X h.2⟩)))
    refine wpQuiet_nil ?_;intro wn hw;obtain⟨X,hX⟩:=hw;have HWN:Hid (Below w'.heap.size w' wn):=by rw [hX];exact X.h
    clear hX X x0 x2 y4 y5 y6 y7 z1 xs xn;go_wp2;go_ret;exact⟨Zaa (by unfold Zk3;rw [HNM.out,HNO.out,HVL.out];simp [qv]),bt HB2.out HWN.out⟩
   | true=>
    have hd:((A.vs.length:Int) == (Ss[k].fields.length:Int))=true:=by rw [Zhs,qv]
    refine Zaj (Up w') (by kernel_rfl) (by kernel_rfl) (Zb_.drew) ?_
    repeat (go_big_quiet_step (
     first
     | (go_at_call 129;rename_i X;exact (ZaK 0 _ Ts A.tm _ (HT2.out.below X.h)).mono fun _ _ h=>⟨h.1,X,h.2⟩)
     | (go_at_call 130;rename_i X;exact (Zbi _ A.hs _ (HH2.out.below X.h).at).mono fun _ _ h=>⟨h.1,Up.next X h.2⟩)))
    refine wpQuiet_nil ?_;intro wn hw;obtain⟨X,hX⟩:=hw;have HWN:Hid (Below w'.heap.size w' wn):=by rw [hX];exact X.h
    clear hX X x0 x2 y4 y5 y6 y7 z1 xs xn;go_wp2;go_ret;exact⟨Zaa (by unfold Zk3;rw [HNM.out,HNO.out,HVL.out];simp [qv]),bt HB2.out HWN.out⟩
end
section
variable (sv mv tv va ha qa:Value) (Ss:List Sh) (Ms:List Md) (Ts:List Tm) (A:Ak) (w:World)
theorem Zs5 (hl:ZaS 0 w sv mv tv Ss Ms Ts) (h:ZbE 0 w va ha qa A) (hv:A.verb=3) (hn:Zao A.who=true) :
 Calls prog 69 #[.agg #[sv,mv,tv],.agg #[.string A.who,.int .i64 A.verb,.string A.kd,.string A.nm,.string A.tm,va,ha,.int .i64 A.seen,.string A.hold,.string A.tw,qa,.string A.rk,.string A.rt,.string A.rp,.int .i64 A.num]] w fun e w'=>e=.returned (.bool (Zl4 Ss A&&no3 A))∧Zw_ w w':=by
 have HL:=Zab hl;have HA:=Zab h;have HZ:=Zab h.sz;obtain⟨a,cap,rfl⟩:=hl.shs.form;obtain⟨a1,cap1,rfl⟩:=hl.mds.form;obtain⟨a2,cap2,rfl⟩:=hl.tms.form;obtain⟨b0,k0,rfl⟩:=h.vs.at.form';obtain⟨b1,k1,rfl⟩:=h.hs.at.form';obtain⟨b2,k2,rfl⟩:=h.vb.form;clear hl h;have hin:inB 1 6 A.verb=true:=by rw [hv];decide
 have hle:decide (A.verb≤4)=true:=by rw [hv];rfl
 have e1:(A.verb == 1)=false:=by rw [hv];rfl
 have e2:(A.verb == 2)=false:=by rw [hv];rfl
 have e3:(A.verb == 3)=true:=by rw [hv];rfl
 have HV:=Zab hv;clear hv;have sn1:A.who.size≤maxLen:=HZ.out.who;have sn2:A.nm.size≤maxLen:=HZ.out.nm;have sn3:A.hold.size≤maxLen:=HZ.out.hold;have sn4:A.tw.size≤maxLen:=HZ.out.tw;go_enter func69,ntmps69;go_wp2_with (first|(go_at_call 125;refine (Zad _ _ (by with_reducible assumption)).mono ?_;rintro e w' ⟨rfl,rfl⟩)|(go_at_call 88;refine (Zam _ _ _ _).mono ?_;rintro e w' ⟨rfl,rfl⟩));generalize hWa:World.alloc (w.alloc _) _=Wa;have HB0:Hid (Zw_ w Wa):=by rw [← hWa];exact (Zac w _).alloc (by simp) _
 have FA0:Hid (Box Wa w.heap.size #[.slice a Ss.length cap,.slice a1 Ms.length cap1,.slice a2 Ts.length cap2]):=by rw [← hWa];exact (Box.new _ _ _ _ rfl).on (Zac _ _)
 have FB0:Hid (Box Wa (w.heap.size+1) #[.string A.who,.int .i64 A.verb,.string A.kd,.string A.nm,.string A.tm,.slice b0 A.vs.length k0,.slice b1 A.hs.length k1,.int .i64 A.seen,.string A.hold,.string A.tw,.slice b2 A.vb.length k2,.string A.rk,.string A.rt,.string A.rp,.int .i64 A.num]):=by rw [← hWa];exact Box.new _ _ _ _ (by simp)
 clear hWa;refine (ZpE _ _ _ _ _ _ A _ HV.out).mono ?_;rintro e w1 ⟨rfl,hb1⟩;have HB1:Hid (Zw_ w w1):=bt HB0.out hb1;have FA1:=Zab (FA0.out.on hb1);have FB1:=Zab (FB0.out.on hb1);clear hb1 FA0 FB0 HB0;go_wp2_with fail;refine (Zb5 _ _ _ _ _ _ _ _ _ _ _ _ _ _ _ _ _ _ _ _ _ _).mono ?_;rintro e w2 ⟨rfl,hb2⟩;have HB2:Hid (Zw_ w w2):=bt HB1.out hb2;have FA2:=Zab (FA1.out.on hb2);have FB2:=Zab (FB1.out.on hb2);clear hb2 FA1 FB1 HB1
 cases qn:noB ⟨#[]⟩ ⟨#[]⟩ A.tm A.vs.length A.hs.length 0 A.hold A.tw A.vb.length A.rk A.rt A.rp A.num with
 | false=>
  go_wp2;go_ret;exact⟨Zaa (by rw [show no3 A=false from qn,Bool.and_false]),HB2.out⟩
 | true=>
  have HNO:Hid (no3 A=true):=qn;have g0:=FA2.out.cell;have g1:=FB2.out.cell;go_wp2_with (first|(go_at_call 125;refine (Zad _ _ (by with_reducible assumption)).mono ?_;rintro e w' ⟨rfl,rfl⟩)|(go_at_call 88;refine (Zam _ _ _ _).mono ?_;rintro e w' ⟨rfl,rfl⟩));clear g0 g1;refine (Zbj 0 _ Ss A.kd _ (HL.out.below HB2.out).shs).mono ?_;rintro e w3 ⟨rfl,hsh⟩;have g0:=FA2.out.cell;have g1:=FB2.out.cell
  rcases hsh with ⟨k,hk,rfl,hx⟩ | ⟨rfl,hx⟩
  case inr=>
   have HR:Hid (Zl4 Ss A=false):=by unfold Hid Zl4;rw [ZdZ hx];rfl
   go_wp2_with (first|(go_at_call 125;refine (Zad _ _ (by with_reducible assumption)).mono ?_;rintro e w' ⟨rfl,rfl⟩)|(go_at_call 88;refine (Zam _ _ _ _).mono ?_;rintro e w' ⟨rfl,rfl⟩));go_ret;exact⟨Zaa (by rw [HR.out,Bool.false_and]),HB2.out⟩
  have hx':Zcf Ss A.kd=some Ss[k]:=hx.trans (List.getElem?_eq_getElem hk);have hk0:decide ((k:Int) < 0)=false:=by simp
  cases qa:Zao A.nm with
  | false=>
   have HR:Hid (Zl4 Ss A=false):=by unfold Hid Zl4;rw [Zb0 hx',qa];rfl
   go_wp2_with (first|(go_at_call 125;refine (Zad _ _ (by with_reducible assumption)).mono ?_;rintro e w' ⟨rfl,rfl⟩)|(go_at_call 88;refine (Zam _ _ _ _).mono ?_;rintro e w' ⟨rfl,rfl⟩));go_ret;exact⟨Zaa (by rw [HR.out,Bool.false_and]),HB2.out⟩
  | true=>
   have HNM:Hid (ZcP Ss A=true):=by unfold Hid;rw [Zb0 hx',qa]
   have HVL:Hid (Zf6 Ss A=decide (A.vs.length=Ss[k].fields.length)):=ZeH hx';clear hx hx';have HR:Hid ((Zl4 Ss A&&no3 A)=decide (0≤A.seen)):=by unfold Hid Zl4;rw [HNM.out,HNO.out];simp
   go_wp2_with (first|(go_at_call 125;refine (Zad _ _ (by with_reducible assumption)).mono ?_;rintro e w' ⟨rfl,rfl⟩)|(go_at_call 88;refine (Zam _ _ _ _).mono ?_;rintro e w' ⟨rfl,rfl⟩));go_ret;exact⟨Zaa HR.out.symm,HB2.out⟩
end
section
variable (sv mv tv va ha qa:Value) (Ss:List Sh) (Ms:List Md) (Ts:List Tm) (A:Ak) (w:World)
theorem ZsW (hl:ZaS 0 w sv mv tv Ss Ms Ts) (h:ZbE 0 w va ha qa A) (hv:A.verb=4) (hn:Zao A.who=true) :
 Calls prog 69 #[.agg #[sv,mv,tv],.agg #[.string A.who,.int .i64 A.verb,.string A.kd,.string A.nm,.string A.tm,va,ha,.int .i64 A.seen,.string A.hold,.string A.tw,qa,.string A.rk,.string A.rt,.string A.rp,.int .i64 A.num]] w fun e w'=>e=.returned (.bool (ZmB Ss A&&no4 A))∧Zw_ w w':=by
 have HL:=Zab hl;have HA:=Zab h;have HZ:=Zab h.sz;obtain⟨a,cap,rfl⟩:=hl.shs.form;obtain⟨a1,cap1,rfl⟩:=hl.mds.form;obtain⟨a2,cap2,rfl⟩:=hl.tms.form;obtain⟨b0,k0,rfl⟩:=h.vs.at.form';obtain⟨b1,k1,rfl⟩:=h.hs.at.form';obtain⟨b2,k2,rfl⟩:=h.vb.form;clear hl h;have hin:inB 1 6 A.verb=true:=by rw [hv];decide
 have hle:decide (A.verb≤4)=true:=by rw [hv];rfl
 have e1:(A.verb == 1)=false:=by rw [hv];rfl
 have e2:(A.verb == 2)=false:=by rw [hv];rfl
 have e3:(A.verb == 3)=false:=by rw [hv];rfl
 have e4:(A.verb == 4)=true:=by rw [hv];rfl
 have HV:=Zab hv;clear hv;have sn1:A.who.size≤maxLen:=HZ.out.who;have sn2:A.nm.size≤maxLen:=HZ.out.nm;have sn3:A.hold.size≤maxLen:=HZ.out.hold;have sn4:A.tw.size≤maxLen:=HZ.out.tw;go_enter func69,ntmps69;go_wp2_with (first|(go_at_call 125;refine (Zad _ _ (by with_reducible assumption)).mono ?_;rintro e w' ⟨rfl,rfl⟩)|(go_at_call 88;refine (Zam _ _ _ _).mono ?_;rintro e w' ⟨rfl,rfl⟩));generalize hWa:World.alloc (w.alloc _) _=Wa;have HB0:Hid (Zw_ w Wa):=by rw [← hWa];exact (Zac w _).alloc (by simp) _
 have FA0:Hid (Box Wa w.heap.size #[.slice a Ss.length cap,.slice a1 Ms.length cap1,.slice a2 Ts.length cap2]):=by rw [← hWa];exact (Box.new _ _ _ _ rfl).on (Zac _ _)
 have FB0:Hid (Box Wa (w.heap.size+1) #[.string A.who,.int .i64 A.verb,.string A.kd,.string A.nm,.string A.tm,.slice b0 A.vs.length k0,.slice b1 A.hs.length k1,.int .i64 A.seen,.string A.hold,.string A.tw,.slice b2 A.vb.length k2,.string A.rk,.string A.rt,.string A.rp,.int .i64 A.num]):=by rw [← hWa];exact Box.new _ _ _ _ (by simp)
 clear hWa;refine (ZpG _ _ _ _ _ _ A _ HV.out).mono ?_;rintro e w1 ⟨rfl,hb1⟩;have HB1:Hid (Zw_ w w1):=bt HB0.out hb1;have FA1:=Zab (FA0.out.on hb1);have FB1:=Zab (FB0.out.on hb1);clear hb1 FA0 FB0 HB0;go_wp2_with fail;refine (Zb5 _ _ _ _ _ _ _ _ _ _ _ _ _ _ _ _ _ _ _ _ _ _).mono ?_;rintro e w2 ⟨rfl,hb2⟩;have HB2:Hid (Zw_ w w2):=bt HB1.out hb2;have FA2:=Zab (FA1.out.on hb2);have FB2:=Zab (FB1.out.on hb2);clear hb2 FA1 FB1 HB1
 cases qn:noB ⟨#[]⟩ ⟨#[]⟩ A.tm A.vs.length A.hs.length A.seen ⟨#[]⟩ A.tw A.vb.length A.rk A.rt A.rp A.num with
 | false=>
  go_wp2;go_ret;exact⟨Zaa (by rw [show no4 A=false from qn,Bool.and_false]),HB2.out⟩
 | true=>
  have HNO:Hid (no4 A=true):=qn;have g0:=FA2.out.cell;have g1:=FB2.out.cell;go_wp2_with (first|(go_at_call 125;refine (Zad _ _ (by with_reducible assumption)).mono ?_;rintro e w' ⟨rfl,rfl⟩)|(go_at_call 88;refine (Zam _ _ _ _).mono ?_;rintro e w' ⟨rfl,rfl⟩));clear g0 g1;refine (Zbj 0 _ Ss A.kd _ (HL.out.below HB2.out).shs).mono ?_;rintro e w3 ⟨rfl,hsh⟩;have g0:=FA2.out.cell;have g1:=FB2.out.cell
  rcases hsh with ⟨k,hk,rfl,hx⟩ | ⟨rfl,hx⟩
  case inr=>
   have HR:Hid (ZmB Ss A=false):=by unfold Hid ZmB;rw [ZdZ hx];rfl
   go_wp2_with (first|(go_at_call 125;refine (Zad _ _ (by with_reducible assumption)).mono ?_;rintro e w' ⟨rfl,rfl⟩)|(go_at_call 88;refine (Zam _ _ _ _).mono ?_;rintro e w' ⟨rfl,rfl⟩));go_ret;exact⟨Zaa (by rw [HR.out,Bool.false_and]),HB2.out⟩
  have hx':Zcf Ss A.kd=some Ss[k]:=hx.trans (List.getElem?_eq_getElem hk);have hk0:decide ((k:Int) < 0)=false:=by simp
  cases qa:Zao A.nm with
  | false=>
   have HR:Hid (ZmB Ss A=false):=by unfold Hid ZmB;rw [Zb0 hx',qa];rfl
   go_wp2_with (first|(go_at_call 125;refine (Zad _ _ (by with_reducible assumption)).mono ?_;rintro e w' ⟨rfl,rfl⟩)|(go_at_call 88;refine (Zam _ _ _ _).mono ?_;rintro e w' ⟨rfl,rfl⟩));go_ret;exact⟨Zaa (by rw [HR.out,Bool.false_and]),HB2.out⟩
  | true=>
   have HNM:Hid (ZcP Ss A=true):=by unfold Hid;rw [Zb0 hx',qa]
   have HVL:Hid (Zf6 Ss A=decide (A.vs.length=Ss[k].fields.length)):=ZeH hx';clear hx hx';have HR:Hid ((ZmB Ss A&&no4 A)=Zao A.hold):=by unfold Hid ZmB;rw [HNM.out,HNO.out];simp
   go_wp2_with (first|(go_at_call 125;refine (Zad _ _ (by with_reducible assumption)).mono ?_;rintro e w' ⟨rfl,rfl⟩)|(go_at_call 88;refine (Zam _ _ _ _).mono ?_;rintro e w' ⟨rfl,rfl⟩));go_ret;exact⟨Zaa HR.out.symm,HB2.out⟩
end
section
variable (sv mv tv va ha qa:Value) (Ss:List Sh) (Ms:List Md) (Ts:List Tm) (A:Ak) (w:World)
theorem ZsL (hl:ZaS 0 w sv mv tv Ss Ms Ts) (h:ZbE 0 w va ha qa A) (hv:A.verb=5) (hn:Zao A.who=true) :
 Calls prog 69 #[.agg #[sv,mv,tv],.agg #[.string A.who,.int .i64 A.verb,.string A.kd,.string A.nm,.string A.tm,va,ha,.int .i64 A.seen,.string A.hold,.string A.tw,qa,.string A.rk,.string A.rt,.string A.rp,.int .i64 A.num]] w fun e w'=>e=.returned (.bool (Zom A&&no5 A))∧Zw_ w w':=by
 have HL:=Zab hl;have HA:=Zab h;have HZ:=Zab h.sz;obtain⟨a,cap,rfl⟩:=hl.shs.form;obtain⟨a1,cap1,rfl⟩:=hl.mds.form;obtain⟨a2,cap2,rfl⟩:=hl.tms.form;obtain⟨b0,k0,rfl⟩:=h.vs.at.form';obtain⟨b1,k1,rfl⟩:=h.hs.at.form';obtain⟨b2,k2,rfl⟩:=h.vb.form;clear hl h;have hin:inB 1 6 A.verb=true:=by rw [hv];decide
 have hle:decide (A.verb≤4)=false:=by rw [hv];rfl
 have e1:(A.verb == 1)=false:=by rw [hv];rfl
 have e2:(A.verb == 2)=false:=by rw [hv];rfl
 have e3:(A.verb == 3)=false:=by rw [hv];rfl
 have e4:(A.verb == 4)=false:=by rw [hv];rfl
 have e5:(A.verb == 5)=true:=by rw [hv];rfl
 have HV:=Zab hv;clear hv;have sn1:A.who.size≤maxLen:=HZ.out.who;have sn2:A.nm.size≤maxLen:=HZ.out.nm;have sn3:A.hold.size≤maxLen:=HZ.out.hold;have sn4:A.tw.size≤maxLen:=HZ.out.tw;go_enter func69,ntmps69;go_wp2_with (first|(go_at_call 125;refine (Zad _ _ (by with_reducible assumption)).mono ?_;rintro e w' ⟨rfl,rfl⟩)|(go_at_call 88;refine (Zam _ _ _ _).mono ?_;rintro e w' ⟨rfl,rfl⟩));generalize hWa:World.alloc (w.alloc _) _=Wa;have HB0:Hid (Zw_ w Wa):=by rw [← hWa];exact (Zac w _).alloc (by simp) _
 have FA0:Hid (Box Wa w.heap.size #[.slice a Ss.length cap,.slice a1 Ms.length cap1,.slice a2 Ts.length cap2]):=by rw [← hWa];exact (Box.new _ _ _ _ rfl).on (Zac _ _)
 have FB0:Hid (Box Wa (w.heap.size+1) #[.string A.who,.int .i64 A.verb,.string A.kd,.string A.nm,.string A.tm,.slice b0 A.vs.length k0,.slice b1 A.hs.length k1,.int .i64 A.seen,.string A.hold,.string A.tw,.slice b2 A.vb.length k2,.string A.rk,.string A.rt,.string A.rp,.int .i64 A.num]):=by rw [← hWa];exact Box.new _ _ _ _ (by simp)
 clear hWa;refine (ZpI _ _ _ _ _ _ A _ HV.out).mono ?_;rintro e w1 ⟨rfl,hb1⟩;have HB1:Hid (Zw_ w w1):=bt HB0.out hb1;have FA1:=Zab (FA0.out.on hb1);have FB1:=Zab (FB0.out.on hb1);clear hb1 FA0 FB0 HB0;go_wp2_with fail;refine (Zb5 _ _ _ _ _ _ _ _ _ _ _ _ _ _ _ _ _ _ _ _ _ _).mono ?_;rintro e w2 ⟨rfl,hb2⟩;have HB2:Hid (Zw_ w w2):=bt HB1.out hb2;have FA2:=Zab (FA1.out.on hb2);have FB2:=Zab (FB1.out.on hb2);clear hb2 FA1 FB1 HB1
 cases qn:noB A.kd A.nm A.tm A.vs.length A.hs.length A.seen A.hold ⟨#[]⟩ 0 ⟨#[]⟩ ⟨#[]⟩ ⟨#[]⟩ A.num with
 | false=>
  go_wp2;go_ret;exact⟨Zaa (by rw [show no5 A=false from qn,Bool.and_false]),HB2.out⟩
 | true=>
  have HNO:Hid (no5 A=true):=qn;have g0:=FA2.out.cell;have g1:=FB2.out.cell;go_wp2_with (first|(go_at_call 125;refine (Zad _ _ (by with_reducible assumption)).mono ?_;rintro e w' ⟨rfl,rfl⟩)|(go_at_call 88;refine (Zam _ _ _ _).mono ?_;rintro e w' ⟨rfl,rfl⟩));clear g0 g1;refine (Zbj 0 _ Ss A.kd _ (HL.out.below HB2.out).shs).mono ?_;rintro e w3 ⟨rfl,hsh⟩;have g0:=FA2.out.cell;have g1:=FB2.out.cell;have HRU:Hid (Zav 0 w3 (.slice b2 A.vb.length k2) A.vb):=(HA.out.below HB2.out).vb
  cases qt:Zao A.tw with
  | false=>
   have HR:Hid ((Zom A&&no5 A)=false):=by unfold Hid Zom;rw [qt];rfl
   rcases hsh with ⟨k,hk,rfl,hx⟩ | ⟨rfl,hx⟩
   all_goals
    clear hx;go_wp2_with (first|(go_at_call 125;refine (Zad _ _ (by with_reducible assumption)).mono ?_;rintro e w' ⟨rfl,rfl⟩)|(go_at_call 88;refine (Zam _ _ _ _).mono ?_;rintro e w' ⟨rfl,rfl⟩));go_ret;exact⟨Zaa HR.out.symm,HB2.out⟩
  | true=>
   have HR:Hid ((Zom A&&no5 A)=Za0 A.ru):=by unfold Hid Zom;rw [qt,HNO.out];simp
   rcases hsh with ⟨k,hk,rfl,hx⟩ | ⟨rfl,hx⟩
   all_goals
    clear hx;go_wp2_with (first|(go_at_call 125;refine (Zad _ _ (by with_reducible assumption)).mono ?_;rintro e w' ⟨rfl,rfl⟩)|(go_at_call 88;refine (Zam _ _ _ _).mono ?_;rintro e w' ⟨rfl,rfl⟩));refine (ZaD 0 A.ru _ _ HRU.out HZ.out.ru).mono ?_;rintro e w4 ⟨rfl,hb4⟩;have HB4:Hid (Zw_ w w4):=bt HB2.out hb4;clear hb4;go_wp2;go_ret;exact⟨Zaa HR.out.symm,HB4.out⟩
end
section
variable (sv mv tv va ha qa:Value) (Ss:List Sh) (Ms:List Md) (Ts:List Tm) (A:Ak) (w:World)
theorem Ztb (hl:ZaS 0 w sv mv tv Ss Ms Ts) (h:ZbE 0 w va ha qa A) (hv:A.verb=6) (hn:Zao A.who=true) :
 Calls prog 69 #[.agg #[sv,mv,tv],.agg #[.string A.who,.int .i64 A.verb,.string A.kd,.string A.nm,.string A.tm,va,ha,.int .i64 A.seen,.string A.hold,.string A.tw,qa,.string A.rk,.string A.rt,.string A.rp,.int .i64 A.num]] w fun e w'=>e=.returned (.bool (Zrp A&&no6 A))∧Zw_ w w':=by
 have HL:=Zab hl;have HA:=Zab h;have HZ:=Zab h.sz;obtain⟨a,cap,rfl⟩:=hl.shs.form;obtain⟨a1,cap1,rfl⟩:=hl.mds.form;obtain⟨a2,cap2,rfl⟩:=hl.tms.form;obtain⟨b0,k0,rfl⟩:=h.vs.at.form';obtain⟨b1,k1,rfl⟩:=h.hs.at.form';obtain⟨b2,k2,rfl⟩:=h.vb.form;clear hl h;have hin:inB 1 6 A.verb=true:=by rw [hv];decide
 have hle:decide (A.verb≤4)=false:=by rw [hv];rfl
 have e1:(A.verb == 1)=false:=by rw [hv];rfl
 have e2:(A.verb == 2)=false:=by rw [hv];rfl
 have e3:(A.verb == 3)=false:=by rw [hv];rfl
 have e4:(A.verb == 4)=false:=by rw [hv];rfl
 have e5:(A.verb == 5)=false:=by rw [hv];rfl
 have HV:=Zab hv;clear hv;have sn1:A.who.size≤maxLen:=HZ.out.who;have sn2:A.nm.size≤maxLen:=HZ.out.nm;have sn3:A.hold.size≤maxLen:=HZ.out.hold;have sn4:A.tw.size≤maxLen:=HZ.out.tw;go_enter func69,ntmps69;go_wp2_with (first|(go_at_call 125;refine (Zad _ _ (by with_reducible assumption)).mono ?_;rintro e w' ⟨rfl,rfl⟩)|(go_at_call 88;refine (Zam _ _ _ _).mono ?_;rintro e w' ⟨rfl,rfl⟩));generalize hWa:World.alloc (w.alloc _) _=Wa;have HB0:Hid (Zw_ w Wa):=by rw [← hWa];exact (Zac w _).alloc (by simp) _
 have FA0:Hid (Box Wa w.heap.size #[.slice a Ss.length cap,.slice a1 Ms.length cap1,.slice a2 Ts.length cap2]):=by rw [← hWa];exact (Box.new _ _ _ _ rfl).on (Zac _ _)
 have FB0:Hid (Box Wa (w.heap.size+1) #[.string A.who,.int .i64 A.verb,.string A.kd,.string A.nm,.string A.tm,.slice b0 A.vs.length k0,.slice b1 A.hs.length k1,.int .i64 A.seen,.string A.hold,.string A.tw,.slice b2 A.vb.length k2,.string A.rk,.string A.rt,.string A.rp,.int .i64 A.num]):=by rw [← hWa];exact Box.new _ _ _ _ (by simp)
 clear hWa;refine (Zov _ _ _ _ _ _ A _ HV.out).mono ?_;rintro e w1 ⟨rfl,hb1⟩;have HB1:Hid (Zw_ w w1):=bt HB0.out hb1;have FA1:=Zab (FA0.out.on hb1);have FB1:=Zab (FB0.out.on hb1);clear hb1 FA0 FB0 HB0;go_wp2_with fail;refine (Zb5 _ _ _ _ _ _ _ _ _ _ _ _ _ _ _ _ _ _ _ _ _ _).mono ?_;rintro e w2 ⟨rfl,hb2⟩;have HB2:Hid (Zw_ w w2):=bt HB1.out hb2;have FA2:=Zab (FA1.out.on hb2);have FB2:=Zab (FB1.out.on hb2);clear hb2 FA1 FB1 HB1
 cases qn:noB A.kd A.nm A.tm A.vs.length A.hs.length A.seen A.hold A.tw A.vb.length A.rk A.rt A.rp 0 with
 | false=>
  go_wp2;go_ret;exact⟨Zaa (by rw [show no6 A=false from qn,Bool.and_false]),HB2.out⟩
 | true=>
  have HNO:Hid (no6 A=true):=qn;have g0:=FA2.out.cell;have g1:=FB2.out.cell;go_wp2_with (first|(go_at_call 125;refine (Zad _ _ (by with_reducible assumption)).mono ?_;rintro e w' ⟨rfl,rfl⟩)|(go_at_call 88;refine (Zam _ _ _ _).mono ?_;rintro e w' ⟨rfl,rfl⟩));clear g0 g1;refine (Zbj 0 _ Ss A.kd _ (HL.out.below HB2.out).shs).mono ?_;rintro e w3 ⟨rfl,hsh⟩;have g0:=FA2.out.cell;have g1:=FB2.out.cell;have HR:Hid ((Zrp A&&no6 A)=decide (1≤A.num)):=by unfold Hid Zrp;rw [HNO.out,Bool.and_true]
  rcases hsh with ⟨k,hk,rfl,hx⟩ | ⟨rfl,hx⟩
  all_goals
   clear hx;go_wp2_with (first|(go_at_call 125;refine (Zad _ _ (by with_reducible assumption)).mono ?_;rintro e w' ⟨rfl,rfl⟩)|(go_at_call 88;refine (Zam _ _ _ _).mono ?_;rintro e w' ⟨rfl,rfl⟩));go_ret;exact⟨Zaa HR.out.symm,HB2.out⟩
end
section
variable (sv mv tv va ha qa:Value) (Ss:List Sh) (Ms:List Md) (Ts:List Tm) (A:Ak) (w:World)
theorem Zl7 (hl:ZaS 0 w sv mv tv Ss Ms Ts) (h:ZbE 0 w va ha qa A) :
 Calls prog 69 #[.agg #[sv,mv,tv],.agg #[.string A.who,.int .i64 A.verb,.string A.kd,.string A.nm,.string A.tm,va,ha,.int .i64 A.seen,.string A.hold,.string A.tw,qa,.string A.rk,.string A.rt,.string A.rp,.int .i64 A.num]] w fun e w'=>e=.returned (.bool (ZhS Ss Ts A))∧Zw_ w w':=by
 cases hn:Zao A.who with
 | false=>
  rw [Zml hn];have HL:=Zab hl;have HA:=Zab h;have HZ:=Zab h.sz;obtain⟨a,cap,rfl⟩:=hl.shs.form;obtain⟨a1,cap1,rfl⟩:=hl.mds.form;obtain⟨a2,cap2,rfl⟩:=hl.tms.form;obtain⟨b0,k0,rfl⟩:=h.vs.at.form';obtain⟨b1,k1,rfl⟩:=h.hs.at.form';obtain⟨b2,k2,rfl⟩:=h.vb.form;clear hl h;have sn1:A.who.size≤maxLen:=HZ.out.who;go_enter func69,ntmps69;go_wp2_with (first|(go_at_call 125;refine (Zad _ _ (by with_reducible assumption)).mono ?_;rintro e w' ⟨rfl,rfl⟩)|(go_at_call 88;refine (Zam _ _ _ _).mono ?_;rintro e w' ⟨rfl,rfl⟩));go_ret;exact⟨rfl,(Zac w _).alloc (by simp) _⟩
 | true=>
  cases hin:inB 1 6 A.verb with
  | false=>
   rw [ZpT hin];have HL:=Zab hl;have HA:=Zab h;have HZ:=Zab h.sz;obtain⟨a,cap,rfl⟩:=hl.shs.form;obtain⟨a1,cap1,rfl⟩:=hl.mds.form;obtain⟨a2,cap2,rfl⟩:=hl.tms.form;obtain⟨b0,k0,rfl⟩:=h.vs.at.form';obtain⟨b1,k1,rfl⟩:=h.hs.at.form';obtain⟨b2,k2,rfl⟩:=h.vb.form;clear hl h;have sn1:A.who.size≤maxLen:=HZ.out.who;go_enter func69,ntmps69;go_wp2_with (first|(go_at_call 125;refine (Zad _ _ (by with_reducible assumption)).mono ?_;rintro e w' ⟨rfl,rfl⟩)|(go_at_call 88;refine (Zam _ _ _ _).mono ?_;rintro e w' ⟨rfl,rfl⟩));go_ret;exact⟨rfl,(Zac w _).alloc (by simp) _⟩
  | true=>
   rcases ZoQ hin with hv | hv | hv | hv | hv | hv
   · rw [Zte hv,hn,Bool.true_and];exact Zs0 sv mv tv va ha qa Ss Ms Ts A w hl h hv hn
   · rw [ZsY hv,hn,Bool.true_and];exact Zs7 sv mv tv va ha qa Ss Ms Ts A w hl h hv hn
   · rw [Zta hv,hn,Bool.true_and];exact Zs5 sv mv tv va ha qa Ss Ms Ts A w hl h hv hn
   · rw [ZsS hv,hn,Bool.true_and];exact ZsW sv mv tv va ha qa Ss Ms Ts A w hl h hv hn
   · rw [ZsX hv,hn,Bool.true_and];exact ZsL sv mv tv va ha qa Ss Ms Ts A w hl h hv hn
   · rw [ZsM hv,hn,Bool.true_and];exact Ztb sv mv tv va ha qa Ss Ms Ts A w hl h hv hn
theorem Zli (hl:ZaS 0 w sv mv tv Ss Ms Ts) (h:ZbE 0 w va ha qa A) :
 Calls prog 18 #[.agg #[sv,mv,tv],.agg #[.string A.who,.int .i64 A.verb,.string A.kd,.string A.nm,.string A.tm,va,ha,.int .i64 A.seen,.string A.hold,.string A.tw,qa,.string A.rk,.string A.rt,.string A.rp,.int .i64 A.num]] w fun e w'=>e=.returned (.bool (ZhP Ss Ms Ts&&ZhS Ss Ts A))∧Zw_ w w':=by
 have HL:=Zab hl;have HA:=Zab h;have HZ:=Zab h.sz;obtain⟨a,cap,rfl⟩:=hl.shs.form;obtain⟨a1,cap1,rfl⟩:=hl.mds.form;obtain⟨a2,cap2,rfl⟩:=hl.tms.form;obtain⟨b0,k0,rfl⟩:=h.vs.at.form';obtain⟨b1,k1,rfl⟩:=h.hs.at.form';obtain⟨b2,k2,rfl⟩:=h.vb.form;clear hl h;go_enter func18,ntmps18;go_wp2_with fail;generalize hWa:World.alloc (w.alloc _) _=Wa;have HB0:Hid (Zw_ w Wa):=by rw [← hWa];exact (Zac w _).alloc (by simp) _
 have FA0:Hid (Box Wa w.heap.size #[.slice a Ss.length cap,.slice a1 Ms.length cap1,.slice a2 Ts.length cap2]):=by rw [← hWa];exact (Box.new _ _ _ _ rfl).on (Zac _ _)
 have FB0:Hid (Box Wa (w.heap.size+1) #[.string A.who,.int .i64 A.verb,.string A.kd,.string A.nm,.string A.tm,.slice b0 A.vs.length k0,.slice b1 A.hs.length k1,.int .i64 A.seen,.string A.hold,.string A.tw,.slice b2 A.vb.length k2,.string A.rk,.string A.rt,.string A.rp,.int .i64 A.num]):=by rw [← hWa];exact Box.new _ _ _ _ (by simp)
 clear hWa;refine (ZfJ 0 _ _ _ Ss Ms Ts _ (HL.out.below HB0.out)).mono ?_;rintro e w1 ⟨rfl,hb1⟩;have HB1:Hid (Zw_ w w1):=bt HB0.out hb1;have FA1:=Zab (FA0.out.on hb1);have FB1:=Zab (FB0.out.on hb1);clear hb1 FA0 FB0 HB0
 cases q1:ZhP Ss Ms Ts with
 | false=>
  go_wp2;go_ret;exact⟨Zaa (by rw [q1];rfl),HB1.out⟩
 | true=>
  have g0:=FA1.out.cell;have g1:=FB1.out.cell;go_wp2_with fail;clear g0 g1;refine (Zl7 _ _ _ _ _ _ Ss Ms Ts A _ (HL.out.below HB1.out) (HA.out.below HB1.out)).mono ?_;rintro e w2 ⟨rfl,hb2⟩;have HB2:Hid (Zw_ w w2):=bt HB1.out hb2;go_wp2;go_ret;exact⟨Zaa (by rw [q1];rfl),HB2.out⟩
end
end Go.Proofs.YtlmippkhpjcfcaaGreat
