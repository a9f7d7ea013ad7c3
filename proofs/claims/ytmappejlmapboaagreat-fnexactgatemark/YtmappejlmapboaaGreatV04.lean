import Derived.Test.YtmappejlmapboaaGreatV03
set_option maxHeartbeats 16000000
set_option maxRecDepth 100000
open Go.Proofs.Tryz
namespace Go.Proofs.YtmappejlmapboaaGreat
open Go.RowKit Go.Deep
section
variable (nm to df we:Zy_) (le mo ro:Int) (mu fx:Bool) (a:Option Addr) (L:List Zy_) (cap:Nat) (w:World)
theorem ZlX (kd:Int) (lo:Nat) (lv:Value) (Ss:List Sh) (hl:ZaH lo w lv Ss) (hv:Zaf w (.slice a L.length cap) L) (s9:df.size<=maxLen) (s10:we.size<=maxLen) :
 Calls prog 263 #[.iface 327 (.agg #[.int .i64 le,.int .i64 mo,.string we]),lv,.agg #[.string nm,.int .i64 kd,.int .i64 le,.int .i64 mo,.slice a L.length cap,.string to,.int .i64 ro,.bool mu,.bool fx,.string df,.string we]] w fun e w'=>e=.returned (.bool (Ze8 L.length to ro&&ZbX le mo we&&(df.toList.isEmpty || ZaL 1 le mo L df)))/\Zw_ w w':=by
 have HL:=Zab hl;have HV:=Zab hv;have HW9:=Zab s9;have HW4:=Zab s10;obtain⟨la,lcap,rfl⟩:=hl.form;clear hl hv s9 s10;have HW:∀ o,Hd (Zw_ w (w.alloc o)):=fun o=>Zb_.alloc Zl_ _
 have m1:∀ W:World,(method 465 327 (.agg #[.int .i64 le,.int .i64 mo,.string we]) "loop.example/wharfhall/impl.without").run prog W=.ok (317,.agg #[.int .i64 le,.int .i64 mo,.string we]) W:=fun _=>by kernel_rfl
 have m2:∀ W:World,(method 465 327 (.agg #[.int .i64 le,.int .i64 mo,.string we]) "loop.example/wharfhall/impl.sound").run prog W=.ok (316,.agg #[.int .i64 le,.int .i64 mo,.string we]) W:=fun _=>by kernel_rfl
 have m3:∀ W:World,(method 465 327 (.agg #[.int .i64 le,.int .i64 mo,.string we]) "loop.example/wharfhall/impl.fits").run prog W=.ok (315,.agg #[.int .i64 le,.int .i64 mo,.string we]) W:=fun _=>by kernel_rfl
 rw [Zqr];go_enter func263,ntmps263;go_wp2_with fail;refine (ZoP nm to df we le mo ro mu fx a L.length cap _ _).mono ?_;rintro e w1 ⟨rfl,hb1⟩;have HC1:Hd (Below (w.heap.size+1) (w.alloc (.cells #[.string nm,.int .i64 kd,.int .i64 le,.int .i64 mo,.slice a L.length cap,.string to,.int .i64 ro,.bool mu,.bool fx,.string df,.string we] 178)) w1):=by have:=hb1;simp at this;exact this
 have HB1:Hd (Zw_ w w1):=(HW _).o.trans (hb1.mono (by simp));clear hb1;go_wp2_with fail;refine (Zeu nm to df ⟨#[]⟩ 0 0 ro mu fx a L.length cap _ _).mono ?_;rintro e w2 ⟨rfl,hb2⟩;have HC2:Hd (Below (w.heap.size+1) (w.alloc (.cells #[.string nm,.int .i64 kd,.int .i64 le,.int .i64 mo,.slice a L.length cap,.string to,.int .i64 ro,.bool mu,.bool fx,.string df,.string we] 178)) w2):=HC1.o.trans (hb2.mono (by have:=HC1.o.size;simp at this;omega));have HB2:Hd (Zw_ w w2):=HB1.o.trans (hb2.mono HB1.o.size);clear hb2 HB1 HC1;rw [un1]
 cases hbr:Ze8 L.length to ro with
 | false=>
  go_wp2;go_ret;exact⟨Zaa (by simp [hbr]),HB2.o⟩
 | true=>
  go_wp2_with fail;refine (Zrh we le mo _ _ HW4.o).mono ?_;rintro e w3 ⟨rfl,hb3⟩;have HC3:Hd (Below (w.heap.size+1) (w.alloc (.cells #[.string nm,.int .i64 kd,.int .i64 le,.int .i64 mo,.slice a L.length cap,.string to,.int .i64 ro,.bool mu,.bool fx,.string df,.string we] 178)) w3):=HC2.o.trans (hb3.mono (by have:=HC2.o.size;simp at this;omega));have HB3:Hd (Zw_ w w3):=HB2.o.trans (hb3.mono HB2.o.size);clear hb3 HB2 HC2;have hbx:=fun i=>ZaK w w3 #[.string nm,.int .i64 kd,.int .i64 le,.int .i64 mo,.slice a L.length cap,.string to,.int .i64 ro,.bool mu,.bool fx,.string df,.string we] 178 HC3.o i
  cases hso:ZbX le mo we with
  | false=>
   go_wp2;go_ret;exact⟨Zaa (by simp [hbr,hso]),HB3.o⟩
  | true=>
   cases hd:df.toList.isEmpty with
   | true=>
    go_wp2;go_ret;exact⟨Zaa (by simp [hbr,hso,hd]),HB3.o⟩
   | false=>
    go_wp2_with fail;refine (Zn1 _ _ _ _ _ HW9.o).mono ?_;rintro e w4 ⟨rfl,hb4⟩;have HB4:Hd (Zw_ w w4):=HB3.o.trans (hb4.mono HB3.o.size);clear hb4;go_wp2;go_ret;exact⟨Zaa (by simp [hbr,hso,hd]),HB4.o⟩
theorem ZlY (kd:Int) (lo:Nat) (lv:Value) (Ss:List Sh) (hl:ZaH lo w lv Ss) (hv:Zaf w (.slice a L.length cap) L) (s9:df.size<=maxLen) (s10:we.size<=maxLen) :
 Calls prog 263 #[.iface 329 (.agg #[.slice a L.length cap]),lv,.agg #[.string nm,.int .i64 kd,.int .i64 le,.int .i64 mo,.slice a L.length cap,.string to,.int .i64 ro,.bool mu,.bool fx,.string df,.string we]] w fun e w'=>e=.returned (.bool (Zez le mo to ro we&&ZdN L.length L&&(df.toList.isEmpty || ZaL 2 le mo L df)))/\Zw_ w w':=by
 have HL:=Zab hl;have HV:=Zab hv;have HW9:=Zab s9;have HW4:=Zab s10;obtain⟨la,lcap,rfl⟩:=hl.form;clear hl hv s9 s10;have HW:∀ o,Hd (Zw_ w (w.alloc o)):=fun o=>Zb_.alloc Zl_ _
 have m1:∀ W:World,(method 465 329 (.agg #[.slice a L.length cap]) "loop.example/wharfhall/impl.without").run prog W=.ok (320,.agg #[.slice a L.length cap]) W:=fun _=>by kernel_rfl
 have m2:∀ W:World,(method 465 329 (.agg #[.slice a L.length cap]) "loop.example/wharfhall/impl.sound").run prog W=.ok (319,.agg #[.slice a L.length cap]) W:=fun _=>by kernel_rfl
 have m3:∀ W:World,(method 465 329 (.agg #[.slice a L.length cap]) "loop.example/wharfhall/impl.fits").run prog W=.ok (318,.agg #[.slice a L.length cap]) W:=fun _=>by kernel_rfl
 rw [Zqs];go_enter func263,ntmps263;go_wp2_with fail;refine (ZoQ nm to df we le mo ro mu fx a L.length cap _ _).mono ?_;rintro e w1 ⟨rfl,hb1⟩;have HC1:Hd (Below (w.heap.size+1) (w.alloc (.cells #[.string nm,.int .i64 kd,.int .i64 le,.int .i64 mo,.slice a L.length cap,.string to,.int .i64 ro,.bool mu,.bool fx,.string df,.string we] 178)) w1):=by have:=hb1;simp at this;exact this
 have HB1:Hd (Zw_ w w1):=(HW _).o.trans (hb1.mono (by simp));clear hb1;go_wp2_with fail;refine (Zeu nm to df we le mo ro mu fx none 0 0 _ _).mono ?_;rintro e w2 ⟨rfl,hb2⟩;have HC2:Hd (Below (w.heap.size+1) (w.alloc (.cells #[.string nm,.int .i64 kd,.int .i64 le,.int .i64 mo,.slice a L.length cap,.string to,.int .i64 ro,.bool mu,.bool fx,.string df,.string we] 178)) w2):=HC1.o.trans (hb2.mono (by have:=HC1.o.size;simp at this;omega));have HB2:Hd (Zw_ w w2):=HB1.o.trans (hb2.mono HB1.o.size);clear hb2 HB1 HC1;rw [un2]
 cases hbr:Zez le mo to ro we with
 | false=>
  go_wp2;go_ret;exact⟨Zaa (by simp [hbr]),HB2.o⟩
 | true=>
  go_wp2_with fail;refine (Zri a cap _ _ L (HV.o.below HB2.o)).mono ?_;rintro e w3 ⟨rfl,hb3⟩;have HC3:Hd (Below (w.heap.size+1) (w.alloc (.cells #[.string nm,.int .i64 kd,.int .i64 le,.int .i64 mo,.slice a L.length cap,.string to,.int .i64 ro,.bool mu,.bool fx,.string df,.string we] 178)) w3):=HC2.o.trans (hb3.mono (by have:=HC2.o.size;simp at this;omega));have HB3:Hd (Zw_ w w3):=HB2.o.trans (hb3.mono HB2.o.size);clear hb3 HB2 HC2;have hbx:=fun i=>ZaK w w3 #[.string nm,.int .i64 kd,.int .i64 le,.int .i64 mo,.slice a L.length cap,.string to,.int .i64 ro,.bool mu,.bool fx,.string df,.string we] 178 HC3.o i
  cases hso:ZdN L.length L with
  | false=>
   go_wp2;go_ret;exact⟨Zaa (by simp [hbr,hso]),HB3.o⟩
  | true=>
   cases hd:df.toList.isEmpty with
   | true=>
    go_wp2;go_ret;exact⟨Zaa (by simp [hbr,hso,hd]),HB3.o⟩
   | false=>
    go_wp2_with fail;refine (Zlt _ _ _ _ _ L (HV.o.below HB3.o)).mono ?_;rintro e w4 ⟨rfl,hb4⟩;have HB4:Hd (Zw_ w w4):=HB3.o.trans (hb4.mono HB3.o.size);clear hb4;go_wp2;go_ret;exact⟨Zaa (by simp [hbr,hso,hd]),HB4.o⟩
theorem ZlZ (kd:Int) (lo:Nat) (lv:Value) (Ss:List Sh) (hl:ZaH lo w lv Ss) (hv:Zaf w (.slice a L.length cap) L) (s9:df.size<=maxLen) (s10:we.size<=maxLen) :
 Calls prog 263 #[.iface 331 (.agg #[.int .i64 le,.int .i64 mo]),lv,.agg #[.string nm,.int .i64 kd,.int .i64 le,.int .i64 mo,.slice a L.length cap,.string to,.int .i64 ro,.bool mu,.bool fx,.string df,.string we]] w fun e w'=>e=.returned (.bool (ZeN L.length to ro we&&ZcE le mo&&(df.toList.isEmpty || ZaL 3 le mo L df)))/\Zw_ w w':=by
 have HL:=Zab hl;have HV:=Zab hv;have HW9:=Zab s9;have HW4:=Zab s10;obtain⟨la,lcap,rfl⟩:=hl.form;clear hl hv s9 s10;have HW:∀ o,Hd (Zw_ w (w.alloc o)):=fun o=>Zb_.alloc Zl_ _
 have m1:∀ W:World,(method 465 331 (.agg #[.int .i64 le,.int .i64 mo]) "loop.example/wharfhall/impl.without").run prog W=.ok (323,.agg #[.int .i64 le,.int .i64 mo]) W:=fun _=>by kernel_rfl
 have m2:∀ W:World,(method 465 331 (.agg #[.int .i64 le,.int .i64 mo]) "loop.example/wharfhall/impl.sound").run prog W=.ok (322,.agg #[.int .i64 le,.int .i64 mo]) W:=fun _=>by kernel_rfl
 have m3:∀ W:World,(method 465 331 (.agg #[.int .i64 le,.int .i64 mo]) "loop.example/wharfhall/impl.fits").run prog W=.ok (321,.agg #[.int .i64 le,.int .i64 mo]) W:=fun _=>by kernel_rfl
 rw [Zqt];go_enter func263,ntmps263;go_wp2_with fail;refine (ZoR nm to df we le mo ro mu fx a L.length cap _ _).mono ?_;rintro e w1 ⟨rfl,hb1⟩;have HC1:Hd (Below (w.heap.size+1) (w.alloc (.cells #[.string nm,.int .i64 kd,.int .i64 le,.int .i64 mo,.slice a L.length cap,.string to,.int .i64 ro,.bool mu,.bool fx,.string df,.string we] 178)) w1):=by have:=hb1;simp at this;exact this
 have HB1:Hd (Zw_ w w1):=(HW _).o.trans (hb1.mono (by simp));clear hb1;go_wp2_with fail;refine (Zeu nm to df we 0 0 ro mu fx a L.length cap _ _).mono ?_;rintro e w2 ⟨rfl,hb2⟩;have HC2:Hd (Below (w.heap.size+1) (w.alloc (.cells #[.string nm,.int .i64 kd,.int .i64 le,.int .i64 mo,.slice a L.length cap,.string to,.int .i64 ro,.bool mu,.bool fx,.string df,.string we] 178)) w2):=HC1.o.trans (hb2.mono (by have:=HC1.o.size;simp at this;omega));have HB2:Hd (Zw_ w w2):=HB1.o.trans (hb2.mono HB1.o.size);clear hb2 HB1 HC1;rw [un3]
 cases hbr:ZeN L.length to ro we with
 | false=>
  go_wp2;go_ret;exact⟨Zaa (by simp [hbr]),HB2.o⟩
 | true=>
  go_wp2_with fail;refine (Zrj le mo _ _).mono ?_;rintro e w3 ⟨rfl,hb3⟩;have HC3:Hd (Below (w.heap.size+1) (w.alloc (.cells #[.string nm,.int .i64 kd,.int .i64 le,.int .i64 mo,.slice a L.length cap,.string to,.int .i64 ro,.bool mu,.bool fx,.string df,.string we] 178)) w3):=HC2.o.trans (hb3.mono (by have:=HC2.o.size;simp at this;omega));have HB3:Hd (Zw_ w w3):=HB2.o.trans (hb3.mono HB2.o.size);clear hb3 HB2 HC2;have hbx:=fun i=>ZaK w w3 #[.string nm,.int .i64 kd,.int .i64 le,.int .i64 mo,.slice a L.length cap,.string to,.int .i64 ro,.bool mu,.bool fx,.string df,.string we] 178 HC3.o i
  cases hso:ZcE le mo with
  | false=>
   go_wp2;go_ret;exact⟨Zaa (by simp [hbr,hso]),HB3.o⟩
  | true=>
   cases hd:df.toList.isEmpty with
   | true=>
    go_wp2;go_ret;exact⟨Zaa (by simp [hbr,hso,hd]),HB3.o⟩
   | false=>
    go_wp2_with fail;refine (Zgb _ _ _ _ HW9.o).mono ?_;rintro e w4 ⟨rfl,hb4⟩;have HB4:Hd (Zw_ w w4):=HB3.o.trans (hb4.mono HB3.o.size);clear hb4;go_wp2;go_ret;exact⟨Zaa (by simp [hbr,hso,hd]),HB4.o⟩
theorem Zl0 (kd:Int) (lo:Nat) (lv:Value) (Ss:List Sh) (hl:ZaH lo w lv Ss) (hv:Zaf w (.slice a L.length cap) L) (s9:df.size<=maxLen) (s10:we.size<=maxLen) :
 Calls prog 263 #[.iface 333 (.agg #[.string to,.int .i64 ro,.bool mu,.string df]),lv,.agg #[.string nm,.int .i64 kd,.int .i64 le,.int .i64 mo,.slice a L.length cap,.string to,.int .i64 ro,.bool mu,.bool fx,.string df,.string we]] w fun e w'=>e=.returned (.bool (ZeO le mo L.length we&&ZcX Ss to ro mu df&&(df.toList.isEmpty || ZaL 4 le mo L df)))/\Zw_ w w':=by
 have HL:=Zab hl;have HV:=Zab hv;have HW9:=Zab s9;have HW4:=Zab s10;obtain⟨la,lcap,rfl⟩:=hl.form;clear hl hv s9 s10;have HW:∀ o,Hd (Zw_ w (w.alloc o)):=fun o=>Zb_.alloc Zl_ _
 have m1:∀ W:World,(method 465 333 (.agg #[.string to,.int .i64 ro,.bool mu,.string df]) "loop.example/wharfhall/impl.without").run prog W=.ok (326,.agg #[.string to,.int .i64 ro,.bool mu,.string df]) W:=fun _=>by kernel_rfl
 have m2:∀ W:World,(method 465 333 (.agg #[.string to,.int .i64 ro,.bool mu,.string df]) "loop.example/wharfhall/impl.sound").run prog W=.ok (325,.agg #[.string to,.int .i64 ro,.bool mu,.string df]) W:=fun _=>by kernel_rfl
 have m3:∀ W:World,(method 465 333 (.agg #[.string to,.int .i64 ro,.bool mu,.string df]) "loop.example/wharfhall/impl.fits").run prog W=.ok (324,.agg #[.string to,.int .i64 ro,.bool mu,.string df]) W:=fun _=>by kernel_rfl
 rw [Zqu];go_enter func263,ntmps263;go_wp2_with fail;refine (Zm4 nm to df we le mo ro mu fx a L.length cap _ _).mono ?_;rintro e w1 ⟨rfl,hb1⟩;have HC1:Hd (Below (w.heap.size+1) (w.alloc (.cells #[.string nm,.int .i64 kd,.int .i64 le,.int .i64 mo,.slice a L.length cap,.string to,.int .i64 ro,.bool mu,.bool fx,.string df,.string we] 178)) w1):=by have:=hb1;simp at this;exact this
 have HB1:Hd (Zw_ w w1):=(HW _).o.trans (hb1.mono (by simp));clear hb1;go_wp2_with fail;refine (Zeu nm ⟨#[]⟩ df we le mo 0 mu fx a L.length cap _ _).mono ?_;rintro e w2 ⟨rfl,hb2⟩;have HC2:Hd (Below (w.heap.size+1) (w.alloc (.cells #[.string nm,.int .i64 kd,.int .i64 le,.int .i64 mo,.slice a L.length cap,.string to,.int .i64 ro,.bool mu,.bool fx,.string df,.string we] 178)) w2):=HC1.o.trans (hb2.mono (by have:=HC1.o.size;simp at this;omega));have HB2:Hd (Zw_ w w2):=HB1.o.trans (hb2.mono HB1.o.size);clear hb2 HB1 HC1;rw [un4]
 cases hbr:ZeO le mo L.length we with
 | false=>
  go_wp2;go_ret;exact⟨Zaa (by simp [hbr]),HB2.o⟩
 | true=>
  go_wp2_with fail;refine (Zrk to df ro mu _ lo _ Ss (HL.o.below HB2.o)).mono ?_;rintro e w3 ⟨rfl,hb3⟩;have HC3:Hd (Below (w.heap.size+1) (w.alloc (.cells #[.string nm,.int .i64 kd,.int .i64 le,.int .i64 mo,.slice a L.length cap,.string to,.int .i64 ro,.bool mu,.bool fx,.string df,.string we] 178)) w3):=HC2.o.trans (hb3.mono (by have:=HC2.o.size;simp at this;omega));have HB3:Hd (Zw_ w w3):=HB2.o.trans (hb3.mono HB2.o.size);clear hb3 HB2 HC2;have hbx:=fun i=>ZaK w w3 #[.string nm,.int .i64 kd,.int .i64 le,.int .i64 mo,.slice a L.length cap,.string to,.int .i64 ro,.bool mu,.bool fx,.string df,.string we] 178 HC3.o i
  cases hso:ZcX Ss to ro mu df with
  | false=>
   go_wp2;go_ret;exact⟨Zaa (by simp [hbr,hso]),HB3.o⟩
  | true=>
   cases hd:df.toList.isEmpty with
   | true=>
    go_wp2;go_ret;exact⟨Zaa (by simp [hbr,hso,hd]),HB3.o⟩
   | false=>
    go_wp2_with fail;refine (Zk4 _ _ _ _ _ _ HW9.o).mono ?_;rintro e w4 ⟨rfl,hb4⟩;have HB4:Hd (Zw_ w w4):=HB3.o.trans (hb4.mono HB3.o.size);clear hb4;go_wp2;go_ret;exact⟨Zaa (by simp [hbr,hso,hd]),HB4.o⟩
end
end Go.Proofs.YtmappejlmapboaaGreat
