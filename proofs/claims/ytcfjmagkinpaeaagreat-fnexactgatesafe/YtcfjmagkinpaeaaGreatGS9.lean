import Derived.Test.YtcfjmagkinpaeaaGreatGB2
set_option maxHeartbeats 16000000
set_option maxRecDepth 100000
open Go.Proofs.Tryz
namespace Go.Proofs.YtcfjmagkinpaeaaGreat
open Go.RowKit Go.Deep
section
variable (nm to df we:Zy_) (le mo ro:Int) (mu fx:Bool) (a:Option Addr) (L:List Zy_) (cap:Nat) (w:World)
theorem Zl4 (kd:Int) (lo:Nat) (lv:Value) (Ss:List Sh) (hl:ZaU lo w lv Ss) (hv:Zaf w (.slice a L.length cap) L) (s9:df.size≤maxLen) (s10:we.size≤maxLen) :
 Calls prog 213 #[.iface 325 (.agg #[.int .i64 le,.int .i64 mo,.string we]),lv,.agg #[.string nm,.int .i64 kd,.int .i64 le,.int .i64 mo,.slice a L.length cap,.string to,.int .i64 ro,.bool mu,.bool fx,.string df,.string we]] w fun e w'=>e=.returned (.bool (Ze9 L.length to ro&&Zb5 le mo we&&(df.toList.isEmpty || ZaL 1 le mo L df)))∧Zw_ w w':=by
 have HL:=Zab hl;have HV:=Zab hv;have HW9:=Zab s9;have HW4:=Zab s10;obtain⟨la,lcap,rfl⟩:=hl.form;clear hl hv s9 s10;have HW:∀ o,Hid (Zw_ w (w.alloc o)):=fun o=>Zb_.alloc Zl_ _
 have m1:∀ W:World,(method 480 325 (.agg #[.int .i64 le,.int .i64 mo,.string we]) "loop.example/wharfhall/impl.without").run prog W=.ok (278,.agg #[.int .i64 le,.int .i64 mo,.string we]) W:=fun _=>by kernel_rfl
 have m2:∀ W:World,(method 480 325 (.agg #[.int .i64 le,.int .i64 mo,.string we]) "loop.example/wharfhall/impl.sound").run prog W=.ok (277,.agg #[.int .i64 le,.int .i64 mo,.string we]) W:=fun _=>by kernel_rfl
 have m3:∀ W:World,(method 480 325 (.agg #[.int .i64 le,.int .i64 mo,.string we]) "loop.example/wharfhall/impl.fits").run prog W=.ok (276,.agg #[.int .i64 le,.int .i64 mo,.string we]) W:=fun _=>by kernel_rfl
 rw [Zrc];go_enter func213,ntmps213;go_wp2_with fail;refine (ZoZ nm to df we le mo ro mu fx a L.length cap _ _).mono ?_;rintro e w1 ⟨rfl,hb1⟩;have HC1:Hid (Below (w.heap.size+1) (w.alloc (.cells #[.string nm,.int .i64 kd,.int .i64 le,.int .i64 mo,.slice a L.length cap,.string to,.int .i64 ro,.bool mu,.bool fx,.string df,.string we] 187)) w1):=by have:=hb1;simp at this;exact this
 have HB1:Hid (Zw_ w w1):=(HW _).out.trans (hb1.mono (by simp));clear hb1;go_wp2_with fail;refine (ZeA nm to df ⟨#[]⟩ 0 0 ro mu fx a L.length cap _ _).mono ?_;rintro e w2 ⟨rfl,hb2⟩;have HC2:Hid (Below (w.heap.size+1) (w.alloc (.cells #[.string nm,.int .i64 kd,.int .i64 le,.int .i64 mo,.slice a L.length cap,.string to,.int .i64 ro,.bool mu,.bool fx,.string df,.string we] 187)) w2):=HC1.out.trans (hb2.mono (by have:=HC1.out.size;simp at this;omega));have HB2:Hid (Zw_ w w2):=HB1.out.trans (hb2.mono HB1.out.size);clear hb2 HB1 HC1;rw [un1]
 cases hbr:Ze9 L.length to ro with
 | false=>
  go_wp2;go_ret;exact⟨Zaa (by simp [hbr]),HB2.out⟩
 | true=>
  go_wp2_with fail;refine (Zr5 we le mo _ _ HW4.out).mono ?_;rintro e w3 ⟨rfl,hb3⟩;have HC3:Hid (Below (w.heap.size+1) (w.alloc (.cells #[.string nm,.int .i64 kd,.int .i64 le,.int .i64 mo,.slice a L.length cap,.string to,.int .i64 ro,.bool mu,.bool fx,.string df,.string we] 187)) w3):=HC2.out.trans (hb3.mono (by have:=HC2.out.size;simp at this;omega));have HB3:Hid (Zw_ w w3):=HB2.out.trans (hb3.mono HB2.out.size);clear hb3 HB2 HC2;have hbx:=fun i=>ZaK w w3 #[.string nm,.int .i64 kd,.int .i64 le,.int .i64 mo,.slice a L.length cap,.string to,.int .i64 ro,.bool mu,.bool fx,.string df,.string we] 187 HC3.out i
  cases hso:Zb5 le mo we with
  | false=>
   go_wp2;go_ret;exact⟨Zaa (by simp [hbr,hso]),HB3.out⟩
  | true=>
   cases hd:df.toList.isEmpty with
   | true=>
    go_wp2;go_ret;exact⟨Zaa (by simp [hbr,hso,hd]),HB3.out⟩
   | false=>
    go_wp2_with fail;refine (ZnK _ _ _ _ _ HW9.out).mono ?_;rintro e w4 ⟨rfl,hb4⟩;have HB4:Hid (Zw_ w w4):=HB3.out.trans (hb4.mono HB3.out.size);clear hb4;go_wp2;go_ret;exact⟨Zaa (by simp [hbr,hso,hd]),HB4.out⟩
theorem Zl5 (kd:Int) (lo:Nat) (lv:Value) (Ss:List Sh) (hl:ZaU lo w lv Ss) (hv:Zaf w (.slice a L.length cap) L) (s9:df.size≤maxLen) (s10:we.size≤maxLen) :
 Calls prog 213 #[.iface 327 (.agg #[.slice a L.length cap]),lv,.agg #[.string nm,.int .i64 kd,.int .i64 le,.int .i64 mo,.slice a L.length cap,.string to,.int .i64 ro,.bool mu,.bool fx,.string df,.string we]] w fun e w'=>e=.returned (.bool (ZeC le mo to ro we&&Zd1 L.length L&&(df.toList.isEmpty || ZaL 2 le mo L df)))∧Zw_ w w':=by
 have HL:=Zab hl;have HV:=Zab hv;have HW9:=Zab s9;have HW4:=Zab s10;obtain⟨la,lcap,rfl⟩:=hl.form;clear hl hv s9 s10;have HW:∀ o,Hid (Zw_ w (w.alloc o)):=fun o=>Zb_.alloc Zl_ _
 have m1:∀ W:World,(method 480 327 (.agg #[.slice a L.length cap]) "loop.example/wharfhall/impl.without").run prog W=.ok (281,.agg #[.slice a L.length cap]) W:=fun _=>by kernel_rfl
 have m2:∀ W:World,(method 480 327 (.agg #[.slice a L.length cap]) "loop.example/wharfhall/impl.sound").run prog W=.ok (280,.agg #[.slice a L.length cap]) W:=fun _=>by kernel_rfl
 have m3:∀ W:World,(method 480 327 (.agg #[.slice a L.length cap]) "loop.example/wharfhall/impl.fits").run prog W=.ok (279,.agg #[.slice a L.length cap]) W:=fun _=>by kernel_rfl
 rw [Zrd];go_enter func213,ntmps213;go_wp2_with fail;refine (Zo0 nm to df we le mo ro mu fx a L.length cap _ _).mono ?_;rintro e w1 ⟨rfl,hb1⟩;have HC1:Hid (Below (w.heap.size+1) (w.alloc (.cells #[.string nm,.int .i64 kd,.int .i64 le,.int .i64 mo,.slice a L.length cap,.string to,.int .i64 ro,.bool mu,.bool fx,.string df,.string we] 187)) w1):=by have:=hb1;simp at this;exact this
 have HB1:Hid (Zw_ w w1):=(HW _).out.trans (hb1.mono (by simp));clear hb1;go_wp2_with fail;refine (ZeA nm to df we le mo ro mu fx none 0 0 _ _).mono ?_;rintro e w2 ⟨rfl,hb2⟩;have HC2:Hid (Below (w.heap.size+1) (w.alloc (.cells #[.string nm,.int .i64 kd,.int .i64 le,.int .i64 mo,.slice a L.length cap,.string to,.int .i64 ro,.bool mu,.bool fx,.string df,.string we] 187)) w2):=HC1.out.trans (hb2.mono (by have:=HC1.out.size;simp at this;omega));have HB2:Hid (Zw_ w w2):=HB1.out.trans (hb2.mono HB1.out.size);clear hb2 HB1 HC1;rw [un2]
 cases hbr:ZeC le mo to ro we with
 | false=>
  go_wp2;go_ret;exact⟨Zaa (by simp [hbr]),HB2.out⟩
 | true=>
  go_wp2_with fail;refine (Zr6 a cap _ _ L (HV.out.below HB2.out)).mono ?_;rintro e w3 ⟨rfl,hb3⟩;have HC3:Hid (Below (w.heap.size+1) (w.alloc (.cells #[.string nm,.int .i64 kd,.int .i64 le,.int .i64 mo,.slice a L.length cap,.string to,.int .i64 ro,.bool mu,.bool fx,.string df,.string we] 187)) w3):=HC2.out.trans (hb3.mono (by have:=HC2.out.size;simp at this;omega));have HB3:Hid (Zw_ w w3):=HB2.out.trans (hb3.mono HB2.out.size);clear hb3 HB2 HC2;have hbx:=fun i=>ZaK w w3 #[.string nm,.int .i64 kd,.int .i64 le,.int .i64 mo,.slice a L.length cap,.string to,.int .i64 ro,.bool mu,.bool fx,.string df,.string we] 187 HC3.out i
  cases hso:Zd1 L.length L with
  | false=>
   go_wp2;go_ret;exact⟨Zaa (by simp [hbr,hso]),HB3.out⟩
  | true=>
   cases hd:df.toList.isEmpty with
   | true=>
    go_wp2;go_ret;exact⟨Zaa (by simp [hbr,hso,hd]),HB3.out⟩
   | false=>
    go_wp2_with fail;refine (Zlv _ _ _ _ _ L (HV.out.below HB3.out)).mono ?_;rintro e w4 ⟨rfl,hb4⟩;have HB4:Hid (Zw_ w w4):=HB3.out.trans (hb4.mono HB3.out.size);clear hb4;go_wp2;go_ret;exact⟨Zaa (by simp [hbr,hso,hd]),HB4.out⟩
theorem Zl6 (kd:Int) (lo:Nat) (lv:Value) (Ss:List Sh) (hl:ZaU lo w lv Ss) (hv:Zaf w (.slice a L.length cap) L) (s9:df.size≤maxLen) (s10:we.size≤maxLen) :
 Calls prog 213 #[.iface 329 (.agg #[.int .i64 le,.int .i64 mo]),lv,.agg #[.string nm,.int .i64 kd,.int .i64 le,.int .i64 mo,.slice a L.length cap,.string to,.int .i64 ro,.bool mu,.bool fx,.string df,.string we]] w fun e w'=>e=.returned (.bool (ZeU L.length to ro we&&ZcL le mo&&(df.toList.isEmpty || ZaL 3 le mo L df)))∧Zw_ w w':=by
 have HL:=Zab hl;have HV:=Zab hv;have HW9:=Zab s9;have HW4:=Zab s10;obtain⟨la,lcap,rfl⟩:=hl.form;clear hl hv s9 s10;have HW:∀ o,Hid (Zw_ w (w.alloc o)):=fun o=>Zb_.alloc Zl_ _
 have m1:∀ W:World,(method 480 329 (.agg #[.int .i64 le,.int .i64 mo]) "loop.example/wharfhall/impl.without").run prog W=.ok (284,.agg #[.int .i64 le,.int .i64 mo]) W:=fun _=>by kernel_rfl
 have m2:∀ W:World,(method 480 329 (.agg #[.int .i64 le,.int .i64 mo]) "loop.example/wharfhall/impl.sound").run prog W=.ok (283,.agg #[.int .i64 le,.int .i64 mo]) W:=fun _=>by kernel_rfl
 have m3:∀ W:World,(method 480 329 (.agg #[.int .i64 le,.int .i64 mo]) "loop.example/wharfhall/impl.fits").run prog W=.ok (282,.agg #[.int .i64 le,.int .i64 mo]) W:=fun _=>by kernel_rfl
 rw [Zre];go_enter func213,ntmps213;go_wp2_with fail;refine (Zo1 nm to df we le mo ro mu fx a L.length cap _ _).mono ?_;rintro e w1 ⟨rfl,hb1⟩;have HC1:Hid (Below (w.heap.size+1) (w.alloc (.cells #[.string nm,.int .i64 kd,.int .i64 le,.int .i64 mo,.slice a L.length cap,.string to,.int .i64 ro,.bool mu,.bool fx,.string df,.string we] 187)) w1):=by have:=hb1;simp at this;exact this
 have HB1:Hid (Zw_ w w1):=(HW _).out.trans (hb1.mono (by simp));clear hb1;go_wp2_with fail;refine (ZeA nm to df we 0 0 ro mu fx a L.length cap _ _).mono ?_;rintro e w2 ⟨rfl,hb2⟩;have HC2:Hid (Below (w.heap.size+1) (w.alloc (.cells #[.string nm,.int .i64 kd,.int .i64 le,.int .i64 mo,.slice a L.length cap,.string to,.int .i64 ro,.bool mu,.bool fx,.string df,.string we] 187)) w2):=HC1.out.trans (hb2.mono (by have:=HC1.out.size;simp at this;omega));have HB2:Hid (Zw_ w w2):=HB1.out.trans (hb2.mono HB1.out.size);clear hb2 HB1 HC1;rw [un3]
 cases hbr:ZeU L.length to ro we with
 | false=>
  go_wp2;go_ret;exact⟨Zaa (by simp [hbr]),HB2.out⟩
 | true=>
  go_wp2_with fail;refine (Zr7 le mo _ _).mono ?_;rintro e w3 ⟨rfl,hb3⟩;have HC3:Hid (Below (w.heap.size+1) (w.alloc (.cells #[.string nm,.int .i64 kd,.int .i64 le,.int .i64 mo,.slice a L.length cap,.string to,.int .i64 ro,.bool mu,.bool fx,.string df,.string we] 187)) w3):=HC2.out.trans (hb3.mono (by have:=HC2.out.size;simp at this;omega));have HB3:Hid (Zw_ w w3):=HB2.out.trans (hb3.mono HB2.out.size);clear hb3 HB2 HC2;have hbx:=fun i=>ZaK w w3 #[.string nm,.int .i64 kd,.int .i64 le,.int .i64 mo,.slice a L.length cap,.string to,.int .i64 ro,.bool mu,.bool fx,.string df,.string we] 187 HC3.out i
  cases hso:ZcL le mo with
  | false=>
   go_wp2;go_ret;exact⟨Zaa (by simp [hbr,hso]),HB3.out⟩
  | true=>
   cases hd:df.toList.isEmpty with
   | true=>
    go_wp2;go_ret;exact⟨Zaa (by simp [hbr,hso,hd]),HB3.out⟩
   | false=>
    go_wp2_with fail;refine (ZfU _ _ _ _ HW9.out).mono ?_;rintro e w4 ⟨rfl,hb4⟩;have HB4:Hid (Zw_ w w4):=HB3.out.trans (hb4.mono HB3.out.size);clear hb4;go_wp2;go_ret;exact⟨Zaa (by simp [hbr,hso,hd]),HB4.out⟩
theorem Zl7 (kd:Int) (lo:Nat) (lv:Value) (Ss:List Sh) (hl:ZaU lo w lv Ss) (hv:Zaf w (.slice a L.length cap) L) (s9:df.size≤maxLen) (s10:we.size≤maxLen) :
 Calls prog 213 #[.iface 331 (.agg #[.string to,.int .i64 ro,.bool mu,.string df]),lv,.agg #[.string nm,.int .i64 kd,.int .i64 le,.int .i64 mo,.slice a L.length cap,.string to,.int .i64 ro,.bool mu,.bool fx,.string df,.string we]] w fun e w'=>e=.returned (.bool (ZeV le mo L.length we&&Zdc Ss to ro mu df&&(df.toList.isEmpty || ZaL 4 le mo L df)))∧Zw_ w w':=by
 have HL:=Zab hl;have HV:=Zab hv;have HW9:=Zab s9;have HW4:=Zab s10;obtain⟨la,lcap,rfl⟩:=hl.form;clear hl hv s9 s10;have HW:∀ o,Hid (Zw_ w (w.alloc o)):=fun o=>Zb_.alloc Zl_ _
 have m1:∀ W:World,(method 480 331 (.agg #[.string to,.int .i64 ro,.bool mu,.string df]) "loop.example/wharfhall/impl.without").run prog W=.ok (287,.agg #[.string to,.int .i64 ro,.bool mu,.string df]) W:=fun _=>by kernel_rfl
 have m2:∀ W:World,(method 480 331 (.agg #[.string to,.int .i64 ro,.bool mu,.string df]) "loop.example/wharfhall/impl.sound").run prog W=.ok (286,.agg #[.string to,.int .i64 ro,.bool mu,.string df]) W:=fun _=>by kernel_rfl
 have m3:∀ W:World,(method 480 331 (.agg #[.string to,.int .i64 ro,.bool mu,.string df]) "loop.example/wharfhall/impl.fits").run prog W=.ok (285,.agg #[.string to,.int .i64 ro,.bool mu,.string df]) W:=fun _=>by kernel_rfl
 rw [Zrf];go_enter func213,ntmps213;go_wp2_with fail;refine (ZmR nm to df we le mo ro mu fx a L.length cap _ _).mono ?_;rintro e w1 ⟨rfl,hb1⟩;have HC1:Hid (Below (w.heap.size+1) (w.alloc (.cells #[.string nm,.int .i64 kd,.int .i64 le,.int .i64 mo,.slice a L.length cap,.string to,.int .i64 ro,.bool mu,.bool fx,.string df,.string we] 187)) w1):=by have:=hb1;simp at this;exact this
 have HB1:Hid (Zw_ w w1):=(HW _).out.trans (hb1.mono (by simp));clear hb1;go_wp2_with fail;refine (ZeA nm ⟨#[]⟩ df we le mo 0 mu fx a L.length cap _ _).mono ?_;rintro e w2 ⟨rfl,hb2⟩;have HC2:Hid (Below (w.heap.size+1) (w.alloc (.cells #[.string nm,.int .i64 kd,.int .i64 le,.int .i64 mo,.slice a L.length cap,.string to,.int .i64 ro,.bool mu,.bool fx,.string df,.string we] 187)) w2):=HC1.out.trans (hb2.mono (by have:=HC1.out.size;simp at this;omega));have HB2:Hid (Zw_ w w2):=HB1.out.trans (hb2.mono HB1.out.size);clear hb2 HB1 HC1;rw [un4]
 cases hbr:ZeV le mo L.length we with
 | false=>
  go_wp2;go_ret;exact⟨Zaa (by simp [hbr]),HB2.out⟩
 | true=>
  go_wp2_with fail;refine (Zr8 to df ro mu _ lo _ Ss (HL.out.below HB2.out)).mono ?_;rintro e w3 ⟨rfl,hb3⟩;have HC3:Hid (Below (w.heap.size+1) (w.alloc (.cells #[.string nm,.int .i64 kd,.int .i64 le,.int .i64 mo,.slice a L.length cap,.string to,.int .i64 ro,.bool mu,.bool fx,.string df,.string we] 187)) w3):=HC2.out.trans (hb3.mono (by have:=HC2.out.size;simp at this;omega));have HB3:Hid (Zw_ w w3):=HB2.out.trans (hb3.mono HB2.out.size);clear hb3 HB2 HC2;have hbx:=fun i=>ZaK w w3 #[.string nm,.int .i64 kd,.int .i64 le,.int .i64 mo,.slice a L.length cap,.string to,.int .i64 ro,.bool mu,.bool fx,.string df,.string we] 187 HC3.out i
  cases hso:Zdc Ss to ro mu df with
  | false=>
   go_wp2;go_ret;exact⟨Zaa (by simp [hbr,hso]),HB3.out⟩
  | true=>
   cases hd:df.toList.isEmpty with
   | true=>
    go_wp2;go_ret;exact⟨Zaa (by simp [hbr,hso,hd]),HB3.out⟩
   | false=>
    go_wp2_with fail;refine (Zk6 _ _ _ _ _ _ HW9.out).mono ?_;rintro e w4 ⟨rfl,hb4⟩;have HB4:Hid (Zw_ w w4):=HB3.out.trans (hb4.mono HB3.out.size);clear hb4;go_wp2;go_ret;exact⟨Zaa (by simp [hbr,hso,hd]),HB4.out⟩
end
end Go.Proofs.YtcfjmagkinpaeaaGreat
