import Derived.Test.YtfohnageehneoaaGreatUBA
set_option maxHeartbeats 16000000
set_option maxRecDepth 100000
open Go.Proofs.Tryz
namespace Go.Proofs.YtfohnageehneoaaGreat
open Go.RowKit Go.Deep
variable {Fs:List Fd} {k j:Nat} {Ss:List Sh}
section
variable (nm to df we:Zy_) (le mo ro:Int) (mu fx:Bool) (a:Option Addr) (L:List Zy_) (cap:Nat) (w:World)
theorem ZmJ (kd:Int) (lo:Nat) (lv:Value) (Ss:List Sh) (hl:ZaR lo w lv Ss) (hv:Zag w (.slice a L.length cap) L) (s9:df.size<=maxLen) (s10:we.size<=maxLen) :
 Calls prog 255 #[.iface 332 (.agg #[.int .i64 le,.int .i64 mo,.string we]),lv,.agg #[.string nm,.int .i64 kd,.int .i64 le,.int .i64 mo,.slice a L.length cap,.string to,.int .i64 ro,.bool mu,.bool fx,.string df,.string we]] w fun e w'=>e=.returned (.bool (ZfE L.length to ro&&Zcf le mo we&&(df.toList.isEmpty || ZaP 1 le mo L df)))/\Zw_ w w':=by
 have HL:=Zab hl;have HV:=Zab hv;have HW9:=Zab s9;have HW4:=Zab s10;obtain⟨la,lcap,rfl⟩:=hl.form;clear hl hv s9 s10;have HW:∀ o,Hd (Zw_ w (w.alloc o)):=fun o=>Zb_.alloc Zl_ _
 have m1:∀ W:World,(method 479 332 (.agg #[.int .i64 le,.int .i64 mo,.string we]) "loop.example/wharfhall/impl.without").run prog W=.ok (337,.agg #[.int .i64 le,.int .i64 mo,.string we]) W:=fun _=>by kernel_rfl
 have m2:∀ W:World,(method 479 332 (.agg #[.int .i64 le,.int .i64 mo,.string we]) "loop.example/wharfhall/impl.sound").run prog W=.ok (336,.agg #[.int .i64 le,.int .i64 mo,.string we]) W:=fun _=>by kernel_rfl
 have m3:∀ W:World,(method 479 332 (.agg #[.int .i64 le,.int .i64 mo,.string we]) "loop.example/wharfhall/impl.fits").run prog W=.ok (335,.agg #[.int .i64 le,.int .i64 mo,.string we]) W:=fun _=>by kernel_rfl
 rw [Zrt];go_enter func255,ntmps255;go_wp2_with fail;refine (ZoC nm to df we le mo ro mu fx a L.length cap _ _).mono ?_;rintro e w1 ⟨rfl,hb1⟩;have HC1:Hd (Below (w.heap.size+1) (w.alloc (.cells #[.string nm,.int .i64 kd,.int .i64 le,.int .i64 mo,.slice a L.length cap,.string to,.int .i64 ro,.bool mu,.bool fx,.string df,.string we] 218)) w1):=by have:=hb1;simp at this;exact this
 have HB1:Hd (Zw_ w w1):=(HW _).o.trans (hb1.mono (by simp));clear hb1;go_wp2_with fail;refine (ZeK nm to df ⟨#[]⟩ 0 0 ro mu fx a L.length cap _ _).mono ?_;rintro e w2 ⟨rfl,hb2⟩;have HC2:Hd (Below (w.heap.size+1) (w.alloc (.cells #[.string nm,.int .i64 kd,.int .i64 le,.int .i64 mo,.slice a L.length cap,.string to,.int .i64 ro,.bool mu,.bool fx,.string df,.string we] 218)) w2):=HC1.o.trans (hb2.mono (by have:=HC1.o.size;simp at this;omega));have HB2:Hd (Zw_ w w2):=HB1.o.trans (hb2.mono HB1.o.size);clear hb2 HB1 HC1;rw [un1]
 cases hbr:ZfE L.length to ro with
 | false=>
  go_wp2;go_ret;exact⟨Zaa (by simp [hbr]),HB2.o⟩
 | true=>
  go_wp2_with fail;refine (Zsa we le mo _ _ HW4.o).mono ?_;rintro e w3 ⟨rfl,hb3⟩;have HC3:Hd (Below (w.heap.size+1) (w.alloc (.cells #[.string nm,.int .i64 kd,.int .i64 le,.int .i64 mo,.slice a L.length cap,.string to,.int .i64 ro,.bool mu,.bool fx,.string df,.string we] 218)) w3):=HC2.o.trans (hb3.mono (by have:=HC2.o.size;simp at this;omega));have HB3:Hd (Zw_ w w3):=HB2.o.trans (hb3.mono HB2.o.size);clear hb3 HB2 HC2;have hbx:=fun i=>ZaN w w3 #[.string nm,.int .i64 kd,.int .i64 le,.int .i64 mo,.slice a L.length cap,.string to,.int .i64 ro,.bool mu,.bool fx,.string df,.string we] 218 HC3.o i
  cases hso:Zcf le mo we with
  | false=>
   go_wp2;go_ret;exact⟨Zaa (by simp [hbr,hso]),HB3.o⟩
  | true=>
   cases hd:df.toList.isEmpty with
   | true=>
    go_wp2;go_ret;exact⟨Zaa (by simp [hbr,hso,hd]),HB3.o⟩
   | false=>
    go_wp2_with fail;refine (Zn2 _ _ _ _ _ HW9.o).mono ?_;rintro e w4 ⟨rfl,hb4⟩;have HB4:Hd (Zw_ w w4):=HB3.o.trans (hb4.mono HB3.o.size);clear hb4;go_wp2;go_ret;exact⟨Zaa (by simp [hbr,hso,hd]),HB4.o⟩
theorem ZnL (kd:Int) (lo:Nat) (lv:Value) (Ss:List Sh) (hl:ZaR lo w lv Ss) (hv:Zag w (.slice a L.length cap) L) (s9:df.size<=maxLen) (s10:we.size<=maxLen) :
 Calls prog 255 #[.iface 334 (.agg #[.slice a L.length cap]),lv,.agg #[.string nm,.int .i64 kd,.int .i64 le,.int .i64 mo,.slice a L.length cap,.string to,.int .i64 ro,.bool mu,.bool fx,.string df,.string we]] w fun e w'=>e=.returned (.bool (ZeQ le mo to ro we&&Zeb L.length L&&(df.toList.isEmpty || ZaP 2 le mo L df)))/\Zw_ w w':=by
 have HL:=Zab hl;have HV:=Zab hv;have HW9:=Zab s9;have HW4:=Zab s10;obtain⟨la,lcap,rfl⟩:=hl.form;clear hl hv s9 s10;have HW:∀ o,Hd (Zw_ w (w.alloc o)):=fun o=>Zb_.alloc Zl_ _
 have m1:∀ W:World,(method 479 334 (.agg #[.slice a L.length cap]) "loop.example/wharfhall/impl.without").run prog W=.ok (340,.agg #[.slice a L.length cap]) W:=fun _=>by kernel_rfl
 have m2:∀ W:World,(method 479 334 (.agg #[.slice a L.length cap]) "loop.example/wharfhall/impl.sound").run prog W=.ok (339,.agg #[.slice a L.length cap]) W:=fun _=>by kernel_rfl
 have m3:∀ W:World,(method 479 334 (.agg #[.slice a L.length cap]) "loop.example/wharfhall/impl.fits").run prog W=.ok (338,.agg #[.slice a L.length cap]) W:=fun _=>by kernel_rfl
 rw [ZrP];go_enter func255,ntmps255;go_wp2_with fail;refine (ZoK nm to df we le mo ro mu fx a L.length cap _ _).mono ?_;rintro e w1 ⟨rfl,hb1⟩;have HC1:Hd (Below (w.heap.size+1) (w.alloc (.cells #[.string nm,.int .i64 kd,.int .i64 le,.int .i64 mo,.slice a L.length cap,.string to,.int .i64 ro,.bool mu,.bool fx,.string df,.string we] 218)) w1):=by have:=hb1;simp at this;exact this
 have HB1:Hd (Zw_ w w1):=(HW _).o.trans (hb1.mono (by simp));clear hb1;go_wp2_with fail;refine (ZeK nm to df we le mo ro mu fx none 0 0 _ _).mono ?_;rintro e w2 ⟨rfl,hb2⟩;have HC2:Hd (Below (w.heap.size+1) (w.alloc (.cells #[.string nm,.int .i64 kd,.int .i64 le,.int .i64 mo,.slice a L.length cap,.string to,.int .i64 ro,.bool mu,.bool fx,.string df,.string we] 218)) w2):=HC1.o.trans (hb2.mono (by have:=HC1.o.size;simp at this;omega));have HB2:Hd (Zw_ w w2):=HB1.o.trans (hb2.mono HB1.o.size);clear hb2 HB1 HC1;rw [un2]
 cases hbr:ZeQ le mo to ro we with
 | false=>
  go_wp2;go_ret;exact⟨Zaa (by simp [hbr]),HB2.o⟩
 | true=>
  go_wp2_with fail;refine (ZrK a cap _ _ L (HV.o.below HB2.o)).mono ?_;rintro e w3 ⟨rfl,hb3⟩;have HC3:Hd (Below (w.heap.size+1) (w.alloc (.cells #[.string nm,.int .i64 kd,.int .i64 le,.int .i64 mo,.slice a L.length cap,.string to,.int .i64 ro,.bool mu,.bool fx,.string df,.string we] 218)) w3):=HC2.o.trans (hb3.mono (by have:=HC2.o.size;simp at this;omega));have HB3:Hd (Zw_ w w3):=HB2.o.trans (hb3.mono HB2.o.size);clear hb3 HB2 HC2;have hbx:=fun i=>ZaN w w3 #[.string nm,.int .i64 kd,.int .i64 le,.int .i64 mo,.slice a L.length cap,.string to,.int .i64 ro,.bool mu,.bool fx,.string df,.string we] 218 HC3.o i
  cases hso:Zeb L.length L with
  | false=>
   go_wp2;go_ret;exact⟨Zaa (by simp [hbr,hso]),HB3.o⟩
  | true=>
   cases hd:df.toList.isEmpty with
   | true=>
    go_wp2;go_ret;exact⟨Zaa (by simp [hbr,hso,hd]),HB3.o⟩
   | false=>
    go_wp2_with fail;refine (ZlX _ _ _ _ _ L (HV.o.below HB3.o)).mono ?_;rintro e w4 ⟨rfl,hb4⟩;have HB4:Hd (Zw_ w w4):=HB3.o.trans (hb4.mono HB3.o.size);clear hb4;go_wp2;go_ret;exact⟨Zaa (by simp [hbr,hso,hd]),HB4.o⟩
theorem ZnE (kd:Int) (lo:Nat) (lv:Value) (Ss:List Sh) (hl:ZaR lo w lv Ss) (hv:Zag w (.slice a L.length cap) L) (s9:df.size<=maxLen) (s10:we.size<=maxLen) :
 Calls prog 255 #[.iface 336 (.agg #[.int .i64 le,.int .i64 mo]),lv,.agg #[.string nm,.int .i64 kd,.int .i64 le,.int .i64 mo,.slice a L.length cap,.string to,.int .i64 ro,.bool mu,.bool fx,.string df,.string we]] w fun e w'=>e=.returned (.bool (Ze4 L.length to ro we&&Zc1 le mo&&(df.toList.isEmpty || ZaP 3 le mo L df)))/\Zw_ w w':=by
 have HL:=Zab hl;have HV:=Zab hv;have HW9:=Zab s9;have HW4:=Zab s10;obtain⟨la,lcap,rfl⟩:=hl.form;clear hl hv s9 s10;have HW:∀ o,Hd (Zw_ w (w.alloc o)):=fun o=>Zb_.alloc Zl_ _
 have m1:∀ W:World,(method 479 336 (.agg #[.int .i64 le,.int .i64 mo]) "loop.example/wharfhall/impl.without").run prog W=.ok (343,.agg #[.int .i64 le,.int .i64 mo]) W:=fun _=>by kernel_rfl
 have m2:∀ W:World,(method 479 336 (.agg #[.int .i64 le,.int .i64 mo]) "loop.example/wharfhall/impl.sound").run prog W=.ok (342,.agg #[.int .i64 le,.int .i64 mo]) W:=fun _=>by kernel_rfl
 have m3:∀ W:World,(method 479 336 (.agg #[.int .i64 le,.int .i64 mo]) "loop.example/wharfhall/impl.fits").run prog W=.ok (341,.agg #[.int .i64 le,.int .i64 mo]) W:=fun _=>by kernel_rfl
 rw [ZrY];go_enter func255,ntmps255;go_wp2_with fail;refine (Zpk nm to df we le mo ro mu fx a L.length cap _ _).mono ?_;rintro e w1 ⟨rfl,hb1⟩;have HC1:Hd (Below (w.heap.size+1) (w.alloc (.cells #[.string nm,.int .i64 kd,.int .i64 le,.int .i64 mo,.slice a L.length cap,.string to,.int .i64 ro,.bool mu,.bool fx,.string df,.string we] 218)) w1):=by have:=hb1;simp at this;exact this
 have HB1:Hd (Zw_ w w1):=(HW _).o.trans (hb1.mono (by simp));clear hb1;go_wp2_with fail;refine (ZeK nm to df we 0 0 ro mu fx a L.length cap _ _).mono ?_;rintro e w2 ⟨rfl,hb2⟩;have HC2:Hd (Below (w.heap.size+1) (w.alloc (.cells #[.string nm,.int .i64 kd,.int .i64 le,.int .i64 mo,.slice a L.length cap,.string to,.int .i64 ro,.bool mu,.bool fx,.string df,.string we] 218)) w2):=HC1.o.trans (hb2.mono (by have:=HC1.o.size;simp at this;omega));have HB2:Hd (Zw_ w w2):=HB1.o.trans (hb2.mono HB1.o.size);clear hb2 HB1 HC1;rw [un3]
 cases hbr:Ze4 L.length to ro we with
 | false=>
  go_wp2;go_ret;exact⟨Zaa (by simp [hbr]),HB2.o⟩
 | true=>
  go_wp2_with fail;refine (ZrN le mo _ _).mono ?_;rintro e w3 ⟨rfl,hb3⟩;have HC3:Hd (Below (w.heap.size+1) (w.alloc (.cells #[.string nm,.int .i64 kd,.int .i64 le,.int .i64 mo,.slice a L.length cap,.string to,.int .i64 ro,.bool mu,.bool fx,.string df,.string we] 218)) w3):=HC2.o.trans (hb3.mono (by have:=HC2.o.size;simp at this;omega));have HB3:Hd (Zw_ w w3):=HB2.o.trans (hb3.mono HB2.o.size);clear hb3 HB2 HC2;have hbx:=fun i=>ZaN w w3 #[.string nm,.int .i64 kd,.int .i64 le,.int .i64 mo,.slice a L.length cap,.string to,.int .i64 ro,.bool mu,.bool fx,.string df,.string we] 218 HC3.o i
  cases hso:Zc1 le mo with
  | false=>
   go_wp2;go_ret;exact⟨Zaa (by simp [hbr,hso]),HB3.o⟩
  | true=>
   cases hd:df.toList.isEmpty with
   | true=>
    go_wp2;go_ret;exact⟨Zaa (by simp [hbr,hso,hd]),HB3.o⟩
   | false=>
    go_wp2_with fail;refine (Zgn _ _ _ _ HW9.o).mono ?_;rintro e w4 ⟨rfl,hb4⟩;have HB4:Hd (Zw_ w w4):=HB3.o.trans (hb4.mono HB3.o.size);clear hb4;go_wp2;go_ret;exact⟨Zaa (by simp [hbr,hso,hd]),HB4.o⟩
theorem Zmw (kd:Int) (lo:Nat) (lv:Value) (Ss:List Sh) (hl:ZaR lo w lv Ss) (hv:Zag w (.slice a L.length cap) L) (s9:df.size<=maxLen) (s10:we.size<=maxLen) :
 Calls prog 255 #[.iface 338 (.agg #[.string to,.int .i64 ro,.bool mu,.string df]),lv,.agg #[.string nm,.int .i64 kd,.int .i64 le,.int .i64 mo,.slice a L.length cap,.string to,.int .i64 ro,.bool mu,.bool fx,.string df,.string we]] w fun e w'=>e=.returned (.bool (Ze8 le mo L.length we&&Zdi Ss to ro mu df&&(df.toList.isEmpty || ZaP 4 le mo L df)))/\Zw_ w w':=by
 have HL:=Zab hl;have HV:=Zab hv;have HW9:=Zab s9;have HW4:=Zab s10;obtain⟨la,lcap,rfl⟩:=hl.form;clear hl hv s9 s10;have HW:∀ o,Hd (Zw_ w (w.alloc o)):=fun o=>Zb_.alloc Zl_ _
 have m1:∀ W:World,(method 479 338 (.agg #[.string to,.int .i64 ro,.bool mu,.string df]) "loop.example/wharfhall/impl.without").run prog W=.ok (346,.agg #[.string to,.int .i64 ro,.bool mu,.string df]) W:=fun _=>by kernel_rfl
 have m2:∀ W:World,(method 479 338 (.agg #[.string to,.int .i64 ro,.bool mu,.string df]) "loop.example/wharfhall/impl.sound").run prog W=.ok (345,.agg #[.string to,.int .i64 ro,.bool mu,.string df]) W:=fun _=>by kernel_rfl
 have m3:∀ W:World,(method 479 338 (.agg #[.string to,.int .i64 ro,.bool mu,.string df]) "loop.example/wharfhall/impl.fits").run prog W=.ok (344,.agg #[.string to,.int .i64 ro,.bool mu,.string df]) W:=fun _=>by kernel_rfl
 rw [ZrS];go_enter func255,ntmps255;go_wp2_with fail;refine (ZnB nm to df we le mo ro mu fx a L.length cap _ _).mono ?_;rintro e w1 ⟨rfl,hb1⟩;have HC1:Hd (Below (w.heap.size+1) (w.alloc (.cells #[.string nm,.int .i64 kd,.int .i64 le,.int .i64 mo,.slice a L.length cap,.string to,.int .i64 ro,.bool mu,.bool fx,.string df,.string we] 218)) w1):=by have:=hb1;simp at this;exact this
 have HB1:Hd (Zw_ w w1):=(HW _).o.trans (hb1.mono (by simp));clear hb1;go_wp2_with fail;refine (ZeK nm ⟨#[]⟩ df we le mo 0 mu fx a L.length cap _ _).mono ?_;rintro e w2 ⟨rfl,hb2⟩;have HC2:Hd (Below (w.heap.size+1) (w.alloc (.cells #[.string nm,.int .i64 kd,.int .i64 le,.int .i64 mo,.slice a L.length cap,.string to,.int .i64 ro,.bool mu,.bool fx,.string df,.string we] 218)) w2):=HC1.o.trans (hb2.mono (by have:=HC1.o.size;simp at this;omega));have HB2:Hd (Zw_ w w2):=HB1.o.trans (hb2.mono HB1.o.size);clear hb2 HB1 HC1;rw [un4]
 cases hbr:Ze8 le mo L.length we with
 | false=>
  go_wp2;go_ret;exact⟨Zaa (by simp [hbr]),HB2.o⟩
 | true=>
  go_wp2_with fail;refine (Zrx to df ro mu _ lo _ Ss (HL.o.below HB2.o)).mono ?_;rintro e w3 ⟨rfl,hb3⟩;have HC3:Hd (Below (w.heap.size+1) (w.alloc (.cells #[.string nm,.int .i64 kd,.int .i64 le,.int .i64 mo,.slice a L.length cap,.string to,.int .i64 ro,.bool mu,.bool fx,.string df,.string we] 218)) w3):=HC2.o.trans (hb3.mono (by have:=HC2.o.size;simp at this;omega));have HB3:Hd (Zw_ w w3):=HB2.o.trans (hb3.mono HB2.o.size);clear hb3 HB2 HC2;have hbx:=fun i=>ZaN w w3 #[.string nm,.int .i64 kd,.int .i64 le,.int .i64 mo,.slice a L.length cap,.string to,.int .i64 ro,.bool mu,.bool fx,.string df,.string we] 218 HC3.o i
  cases hso:Zdi Ss to ro mu df with
  | false=>
   go_wp2;go_ret;exact⟨Zaa (by simp [hbr,hso]),HB3.o⟩
  | true=>
   cases hd:df.toList.isEmpty with
   | true=>
    go_wp2;go_ret;exact⟨Zaa (by simp [hbr,hso,hd]),HB3.o⟩
   | false=>
    go_wp2_with fail;refine (ZlN _ _ _ _ _ _ HW9.o).mono ?_;rintro e w4 ⟨rfl,hb4⟩;have HB4:Hd (Zw_ w w4):=HB3.o.trans (hb4.mono HB3.o.size);clear hb4;go_wp2;go_ret;exact⟨Zaa (by simp [hbr,hso,hd]),HB4.o⟩
end
theorem ZsR (n:Nat) (L:List Zy_):Zeb n L=(inB 1 6 (n:Int)&&ZnS L):=by unfold Zeb;rw [ZdF]
theorem ZrR (ro:Int) (mu:Bool):ZlB ro mu=(inB 1 3 ro&&((ro != 2) || !mu)):=by
 unfold ZlB inB
 by_cases h1:ro=1
 . subst h1;simp
 by_cases h2:ro=2
 . subst h2;simp
 by_cases h3:ro=3
 . subst h3;simp
 have hx:¬ (1<=ro/\ro<=3):=by omega
 simp [h1,h2,h3,hx]
theorem Zrg (Ss:List Sh) (to:Zy_) (ro:Int) (mu:Bool) (df:Zy_):Zdi Ss to ro mu df=(ZlM Ss to&&inB 1 3 ro&&df.toList.isEmpty&&((ro != 2) || !mu)):=by
 unfold Zdi;rw [ZrR];cases ZlM Ss to <;> cases df.toList.isEmpty <;> cases inB 1 3 ro <;> simp
section
variable (nm to df we:Zy_) (le mo ro:Int) (mu fx:Bool) (a:Option Addr) (L:List Zy_) (cap:Nat) (w:World)
theorem Znm (lo:Nat) (lv:Value) (Ss:List Sh) (hl:ZaR lo w lv Ss) (hv:Zag w (.slice a L.length cap) L) (s0:nm.size<=maxLen) (s9:df.size<=maxLen) (s10:we.size<=maxLen) :
 Calls prog 219 #[lv,.agg #[.string nm,.int .i64 1,.int .i64 le,.int .i64 mo,.slice a L.length cap,.string to,.int .i64 ro,.bool mu,.bool fx,.string df,.string we]] w fun e w'=>e=.returned (.bool (Zan nm&&(ZfE L.length to ro&&Zcf le mo we&&(df.toList.isEmpty || ZaP 1 le mo L df))))/\Zw_ w w':=by
 have HL:=Zab hl;have HV:=Zab hv;have HW0:=Zab s0;have HW9:=Zab s9;have HW4:=Zab s10;obtain⟨la,lcap,rfl⟩:=hl.form;clear hl hv s0 s9 s10;generalize hQ:(Zan nm&&(ZfE L.length to ro&&Zcf le mo we&&(df.toList.isEmpty || ZaP 1 le mo L df)))=Q;have HQ:=Zab hQ;clear hQ;have HW:∀ o,Hd (Zw_ w (w.alloc o)):=fun o=>Zb_.alloc Zl_ _
 go_enter func219,ntmps219;go_wp2_with fail;refine (Zaf _ _ HW0.o).mono ?_;rintro e wx ⟨rfl,rfl⟩
 cases hnm:Zan nm with
 | false=>
  go_wp2;go_ret;exact⟨Zaa (by rw [<- HQ.o,hnm];rfl),(HW _).o⟩
 | true=>
  go_wp2_with fail;refine (ZrA nm to df we le mo ro mu fx a L.length cap _).mono ?_;rintro e w1 ⟨rfl,hb1⟩;have HC1:Hd (Below (w.heap.size+1) (w.alloc (.cells #[.string nm,.int .i64 1,.int .i64 le,.int .i64 mo,.slice a L.length cap,.string to,.int .i64 ro,.bool mu,.bool fx,.string df,.string we] 218)) w1):=by have:=hb1;simp at this;exact this
  have HB1:Hd (Zw_ w w1):=(HW _).o.trans (hb1.mono (by simp));have hbx:=fun i=>ZaN w w1 #[.string nm,.int .i64 1,.int .i64 le,.int .i64 mo,.slice a L.length cap,.string to,.int .i64 ro,.bool mu,.bool fx,.string df,.string we] 218 HC1.o i
  clear hb1
  cases hbr:ZfE L.length to ro with
  | false=>
   go_wp2;go_ret;exact⟨Zaa (by rw [<- HQ.o,hnm,hbr];rfl),HB1.o⟩
  | true=>
   cases hd:df.toList.isEmpty with
   | true=>
    have hdf:(df.toList.isEmpty || ZaP 1 le mo L df)=true:=by simp [hd]
    have HDF:=Zab hdf;clear hdf
    by_cases h1:0<=le
    . by_cases h2:le<=mo
      . by_cases h3:mo<=1000000
        . cases he:we.toList.isEmpty with
          | true=>
           go_wp2;go_ret;exact⟨Zaa (by rw [<- HQ.o,HDF.o,hnm,hbr];simp [Zcf,Zaj,h1,h2,h3,he]),HB1.o⟩
          | false=>
           go_wp2_with fail;refine (Zaf _ _ HW4.o).mono ?_;rintro e wx ⟨rfl,rfl⟩;go_wp2;go_ret;exact⟨Zaa (by rw [<- HQ.o,HDF.o,hnm,hbr];simp [Zcf,Zaj,h1,h2,h3,he]),HB1.o⟩
        . go_wp2
          go_ret;exact⟨Zaa (by rw [<- HQ.o,HDF.o,hnm,hbr];rw [Bool.eq_iff_iff];simp [Zcf];omega),HB1.o⟩
      . go_wp2
        go_ret;exact⟨Zaa (by rw [<- HQ.o,HDF.o,hnm,hbr];rw [Bool.eq_iff_iff];simp [Zcf];omega),HB1.o⟩
    . go_wp2
      go_ret;exact⟨Zaa (by rw [<- HQ.o,HDF.o,hnm,hbr];rw [Bool.eq_iff_iff];simp [Zcf];omega),HB1.o⟩
   | false=>
    go_wp2_with fail;refine (Zby _ _ _ _ _ _ _ _ _ _ L _ _ _ (HV.o.below HB1.o) HW9.o).mono ?_;rintro e w2 ⟨rfl,hb2⟩;have HC2:Hd (Below (w.heap.size+1) (w.alloc (.cells #[.string nm,.int .i64 1,.int .i64 le,.int .i64 mo,.slice a L.length cap,.string to,.int .i64 ro,.bool mu,.bool fx,.string df,.string we] 218)) w2):=HC1.o.trans (hb2.mono (by have:=HC1.o.size;simp at this;omega));have HB2:Hd (Zw_ w w2):=HB1.o.trans (hb2.mono HB1.o.size);have hbx2:=fun i=>ZaN w w2 #[.string nm,.int .i64 1,.int .i64 le,.int .i64 mo,.slice a L.length cap,.string to,.int .i64 ro,.bool mu,.bool fx,.string df,.string we] 218 HC2.o i
    clear hb2 hbx
    cases hft:ZaP 1 le mo L df with
    | false=>
     go_wp2;go_ret;exact⟨Zaa (by rw [<- HQ.o,hnm,hbr,hd,hft];simp),HB2.o⟩
    | true=>
     have HDF:Hd ((df.toList.isEmpty || ZaP 1 le mo L df)=true):=by unfold Hd;simp [hft]
     by_cases h1:0<=le
     . by_cases h2:le<=mo
       . by_cases h3:mo<=1000000
         . cases he:we.toList.isEmpty with
           | true=>
            go_wp2;go_ret;exact⟨Zaa (by rw [<- HQ.o,HDF.o,hnm,hbr];simp [Zcf,Zaj,h1,h2,h3,he]),HB2.o⟩
           | false=>
            go_wp2_with fail;refine (Zaf _ _ HW4.o).mono ?_;rintro e wx ⟨rfl,rfl⟩;go_wp2;go_ret;exact⟨Zaa (by rw [<- HQ.o,HDF.o,hnm,hbr];simp [Zcf,Zaj,h1,h2,h3,he]),HB2.o⟩
         . go_wp2
           go_ret;exact⟨Zaa (by rw [<- HQ.o,HDF.o,hnm,hbr];rw [Bool.eq_iff_iff];simp [Zcf];omega),HB2.o⟩
       . go_wp2
         go_ret;exact⟨Zaa (by rw [<- HQ.o,HDF.o,hnm,hbr];rw [Bool.eq_iff_iff];simp [Zcf];omega),HB2.o⟩
     . go_wp2
       go_ret;exact⟨Zaa (by rw [<- HQ.o,HDF.o,hnm,hbr];rw [Bool.eq_iff_iff];simp [Zcf];omega),HB2.o⟩
theorem Zmk (lo:Nat) (lv:Value) (Ss:List Sh) (hl:ZaR lo w lv Ss) (hv:Zag w (.slice a L.length cap) L) (s0:nm.size<=maxLen) (s9:df.size<=maxLen) (s10:we.size<=maxLen) :
 Calls prog 219 #[lv,.agg #[.string nm,.int .i64 2,.int .i64 le,.int .i64 mo,.slice a L.length cap,.string to,.int .i64 ro,.bool mu,.bool fx,.string df,.string we]] w fun e w'=>e=.returned (.bool (Zan nm&&(ZeQ le mo to ro we&&Zeb L.length L&&(df.toList.isEmpty || ZaP 2 le mo L df))))/\Zw_ w w':=by
 have HL:=Zab hl;have HV:=Zab hv;have HW0:=Zab s0;have HW9:=Zab s9;have HW4:=Zab s10;obtain⟨la,lcap,rfl⟩:=hl.form;clear hl hv s0 s9 s10;generalize hQ:(Zan nm&&(ZeQ le mo to ro we&&Zeb L.length L&&(df.toList.isEmpty || ZaP 2 le mo L df)))=Q;have HQ:=Zab hQ;clear hQ;have HW:∀ o,Hd (Zw_ w (w.alloc o)):=fun o=>Zb_.alloc Zl_ _
 go_enter func219,ntmps219;go_wp2_with fail;refine (Zaf _ _ HW0.o).mono ?_;rintro e wx ⟨rfl,rfl⟩
 cases hnm:Zan nm with
 | false=>
  go_wp2;go_ret;exact⟨Zaa (by rw [<- HQ.o,hnm];rfl),(HW _).o⟩
 | true=>
  go_wp2_with fail;refine (Zrv nm to df we le mo ro mu fx a L.length cap _).mono ?_;rintro e w1 ⟨rfl,hb1⟩;have HC1:Hd (Below (w.heap.size+1) (w.alloc (.cells #[.string nm,.int .i64 2,.int .i64 le,.int .i64 mo,.slice a L.length cap,.string to,.int .i64 ro,.bool mu,.bool fx,.string df,.string we] 218)) w1):=by have:=hb1;simp at this;exact this
  have HB1:Hd (Zw_ w w1):=(HW _).o.trans (hb1.mono (by simp));have hbx:=fun i=>ZaN w w1 #[.string nm,.int .i64 2,.int .i64 le,.int .i64 mo,.slice a L.length cap,.string to,.int .i64 ro,.bool mu,.bool fx,.string df,.string we] 218 HC1.o i
  clear hb1
  cases hbr:ZeQ le mo to ro we with
  | false=>
   go_wp2;go_ret;exact⟨Zaa (by rw [<- HQ.o,hnm,hbr];rfl),HB1.o⟩
  | true=>
   cases hd:df.toList.isEmpty with
   | true=>
    have hdf:(df.toList.isEmpty || ZaP 2 le mo L df)=true:=by simp [hd]
    have HDF:=Zab hdf;clear hdf;go_wp2_with fail;refine (Zar _ _ _ _).mono ?_;rintro e wx ⟨rfl,rfl⟩
    cases hi:inB 1 6 (L.length:Int) with
    | true=>
     go_wp2_with fail;refine (ZcQ _ L _ (HV.o.below HB1.o)).mono ?_;rintro e wy ⟨rfl,hby⟩;have HBy:Hd (Zw_ w wy):=HB1.o.trans (hby.mono HB1.o.size);clear hby
     go_wp2;go_ret;exact⟨Zaa (by rw [<- HQ.o,HDF.o,hnm,hbr,ZsR,hi];simp),HBy.o⟩
    | false=>
     go_wp2;go_ret;exact⟨Zaa (by rw [<- HQ.o,HDF.o,hnm,hbr,ZsR,hi];simp),HB1.o⟩
   | false=>
    go_wp2_with fail;refine (Zby _ _ _ _ _ _ _ _ _ _ L _ _ _ (HV.o.below HB1.o) HW9.o).mono ?_;rintro e w2 ⟨rfl,hb2⟩;have HC2:Hd (Below (w.heap.size+1) (w.alloc (.cells #[.string nm,.int .i64 2,.int .i64 le,.int .i64 mo,.slice a L.length cap,.string to,.int .i64 ro,.bool mu,.bool fx,.string df,.string we] 218)) w2):=HC1.o.trans (hb2.mono (by have:=HC1.o.size;simp at this;omega));have HB2:Hd (Zw_ w w2):=HB1.o.trans (hb2.mono HB1.o.size);have hbx2:=fun i=>ZaN w w2 #[.string nm,.int .i64 2,.int .i64 le,.int .i64 mo,.slice a L.length cap,.string to,.int .i64 ro,.bool mu,.bool fx,.string df,.string we] 218 HC2.o i
    clear hb2 hbx
    cases hft:ZaP 2 le mo L df with
    | false=>
     go_wp2;go_ret;exact⟨Zaa (by rw [<- HQ.o,hnm,hbr,hd,hft];simp),HB2.o⟩
    | true=>
     have HDF:Hd ((df.toList.isEmpty || ZaP 2 le mo L df)=true):=by unfold Hd;simp [hft]
     go_wp2_with fail;refine (Zar _ _ _ _).mono ?_;rintro e wx ⟨rfl,rfl⟩
     cases hi:inB 1 6 (L.length:Int) with
     | true=>
      go_wp2_with fail;refine (ZcQ _ L _ (HV.o.below HB2.o)).mono ?_;rintro e wy ⟨rfl,hby⟩;have HBy:Hd (Zw_ w wy):=HB2.o.trans (hby.mono HB2.o.size);clear hby
      go_wp2;go_ret;exact⟨Zaa (by rw [<- HQ.o,HDF.o,hnm,hbr,ZsR,hi];simp),HBy.o⟩
     | false=>
      go_wp2;go_ret;exact⟨Zaa (by rw [<- HQ.o,HDF.o,hnm,hbr,ZsR,hi];simp),HB2.o⟩
theorem Zm5 (lo:Nat) (lv:Value) (Ss:List Sh) (hl:ZaR lo w lv Ss) (hv:Zag w (.slice a L.length cap) L) (s0:nm.size<=maxLen) (s9:df.size<=maxLen) (s10:we.size<=maxLen) :
 Calls prog 219 #[lv,.agg #[.string nm,.int .i64 3,.int .i64 le,.int .i64 mo,.slice a L.length cap,.string to,.int .i64 ro,.bool mu,.bool fx,.string df,.string we]] w fun e w'=>e=.returned (.bool (Zan nm&&(Ze4 L.length to ro we&&Zc1 le mo&&(df.toList.isEmpty || ZaP 3 le mo L df))))/\Zw_ w w':=by
 have HL:=Zab hl;have HV:=Zab hv;have HW0:=Zab s0;have HW9:=Zab s9;have HW4:=Zab s10;obtain⟨la,lcap,rfl⟩:=hl.form;clear hl hv s0 s9 s10;generalize hQ:(Zan nm&&(Ze4 L.length to ro we&&Zc1 le mo&&(df.toList.isEmpty || ZaP 3 le mo L df)))=Q;have HQ:=Zab hQ;clear hQ;have HW:∀ o,Hd (Zw_ w (w.alloc o)):=fun o=>Zb_.alloc Zl_ _
 go_enter func219,ntmps219;go_wp2_with fail;refine (Zaf _ _ HW0.o).mono ?_;rintro e wx ⟨rfl,rfl⟩
 cases hnm:Zan nm with
 | false=>
  go_wp2;go_ret;exact⟨Zaa (by rw [<- HQ.o,hnm];rfl),(HW _).o⟩
 | true=>
  go_wp2_with fail;refine (Zrw nm to df we le mo ro mu fx a L.length cap _).mono ?_;rintro e w1 ⟨rfl,hb1⟩;have HC1:Hd (Below (w.heap.size+1) (w.alloc (.cells #[.string nm,.int .i64 3,.int .i64 le,.int .i64 mo,.slice a L.length cap,.string to,.int .i64 ro,.bool mu,.bool fx,.string df,.string we] 218)) w1):=by have:=hb1;simp at this;exact this
  have HB1:Hd (Zw_ w w1):=(HW _).o.trans (hb1.mono (by simp));have hbx:=fun i=>ZaN w w1 #[.string nm,.int .i64 3,.int .i64 le,.int .i64 mo,.slice a L.length cap,.string to,.int .i64 ro,.bool mu,.bool fx,.string df,.string we] 218 HC1.o i
  clear hb1
  cases hbr:Ze4 L.length to ro we with
  | false=>
   go_wp2;go_ret;exact⟨Zaa (by rw [<- HQ.o,hnm,hbr];rfl),HB1.o⟩
  | true=>
   cases hd:df.toList.isEmpty with
   | true=>
    have hdf:(df.toList.isEmpty || ZaP 3 le mo L df)=true:=by simp [hd]
    have HDF:=Zab hdf;clear hdf
    by_cases h1:1<=le
    . by_cases h2:le<=mo
      . go_wp2
        go_ret;exact⟨Zaa (by rw [<- HQ.o,HDF.o,hnm,hbr];simp [Zc1,h1,h2]),HB1.o⟩
      . go_wp2
        go_ret;exact⟨Zaa (by rw [<- HQ.o,HDF.o,hnm,hbr];rw [Bool.eq_iff_iff];simp [Zc1];omega),HB1.o⟩
    . go_wp2
      go_ret;exact⟨Zaa (by rw [<- HQ.o,HDF.o,hnm,hbr];rw [Bool.eq_iff_iff];simp [Zc1];omega),HB1.o⟩
   | false=>
    go_wp2_with fail;refine (Zby _ _ _ _ _ _ _ _ _ _ L _ _ _ (HV.o.below HB1.o) HW9.o).mono ?_;rintro e w2 ⟨rfl,hb2⟩;have HC2:Hd (Below (w.heap.size+1) (w.alloc (.cells #[.string nm,.int .i64 3,.int .i64 le,.int .i64 mo,.slice a L.length cap,.string to,.int .i64 ro,.bool mu,.bool fx,.string df,.string we] 218)) w2):=HC1.o.trans (hb2.mono (by have:=HC1.o.size;simp at this;omega));have HB2:Hd (Zw_ w w2):=HB1.o.trans (hb2.mono HB1.o.size);have hbx2:=fun i=>ZaN w w2 #[.string nm,.int .i64 3,.int .i64 le,.int .i64 mo,.slice a L.length cap,.string to,.int .i64 ro,.bool mu,.bool fx,.string df,.string we] 218 HC2.o i
    clear hb2 hbx
    cases hft:ZaP 3 le mo L df with
    | false=>
     go_wp2;go_ret;exact⟨Zaa (by rw [<- HQ.o,hnm,hbr,hd,hft];simp),HB2.o⟩
    | true=>
     have HDF:Hd ((df.toList.isEmpty || ZaP 3 le mo L df)=true):=by unfold Hd;simp [hft]
     by_cases h1:1<=le
     . by_cases h2:le<=mo
       . go_wp2
         go_ret;exact⟨Zaa (by rw [<- HQ.o,HDF.o,hnm,hbr];simp [Zc1,h1,h2]),HB2.o⟩
       . go_wp2
         go_ret;exact⟨Zaa (by rw [<- HQ.o,HDF.o,hnm,hbr];rw [Bool.eq_iff_iff];simp [Zc1];omega),HB2.o⟩
     . go_wp2
       go_ret;exact⟨Zaa (by rw [<- HQ.o,HDF.o,hnm,hbr];rw [Bool.eq_iff_iff];simp [Zc1];omega),HB2.o⟩
theorem Znd (lo:Nat) (lv:Value) (Ss:List Sh) (hl:ZaR lo w lv Ss) (hv:Zag w (.slice a L.length cap) L) (s0:nm.size<=maxLen) (s9:df.size<=maxLen) (s10:we.size<=maxLen) :
 Calls prog 219 #[lv,.agg #[.string nm,.int .i64 4,.int .i64 le,.int .i64 mo,.slice a L.length cap,.string to,.int .i64 ro,.bool mu,.bool fx,.string df,.string we]] w fun e w'=>e=.returned (.bool (Zan nm&&(Ze8 le mo L.length we&&Zdi Ss to ro mu df&&(df.toList.isEmpty || ZaP 4 le mo L df))))/\Zw_ w w':=by
 have HL:=Zab hl;have HV:=Zab hv;have HW0:=Zab s0;have HW9:=Zab s9;have HW4:=Zab s10;obtain⟨la,lcap,rfl⟩:=hl.form;clear hl hv s0 s9 s10;generalize hQ:(Zan nm&&(Ze8 le mo L.length we&&Zdi Ss to ro mu df&&(df.toList.isEmpty || ZaP 4 le mo L df)))=Q;have HQ:=Zab hQ;clear hQ;have HW:∀ o,Hd (Zw_ w (w.alloc o)):=fun o=>Zb_.alloc Zl_ _
 go_enter func219,ntmps219;go_wp2_with fail;refine (Zaf _ _ HW0.o).mono ?_;rintro e wx ⟨rfl,rfl⟩
 cases hnm:Zan nm with
 | false=>
  go_wp2;go_ret;exact⟨Zaa (by rw [<- HQ.o,hnm];rfl),(HW _).o⟩
 | true=>
  go_wp2_with fail;refine (Zr2 nm to df we le mo ro mu fx a L.length cap _).mono ?_;rintro e w1 ⟨rfl,hb1⟩;have HC1:Hd (Below (w.heap.size+1) (w.alloc (.cells #[.string nm,.int .i64 4,.int .i64 le,.int .i64 mo,.slice a L.length cap,.string to,.int .i64 ro,.bool mu,.bool fx,.string df,.string we] 218)) w1):=by have:=hb1;simp at this;exact this
  have HB1:Hd (Zw_ w w1):=(HW _).o.trans (hb1.mono (by simp));have hbx:=fun i=>ZaN w w1 #[.string nm,.int .i64 4,.int .i64 le,.int .i64 mo,.slice a L.length cap,.string to,.int .i64 ro,.bool mu,.bool fx,.string df,.string we] 218 HC1.o i
  clear hb1
  cases hbr:Ze8 le mo L.length we with
  | false=>
   go_wp2;go_ret;exact⟨Zaa (by rw [<- HQ.o,hnm,hbr];rfl),HB1.o⟩
  | true=>
   cases hd:df.toList.isEmpty with
   | true=>
    have hdf:(df.toList.isEmpty || ZaP 4 le mo L df)=true:=by simp [hd]
    have HDF:=Zab hdf;clear hdf;go_wp2_with fail;refine (ZgX lo _ Ss _ _ (HL.o.below HB1.o)).mono ?_;rintro e wx ⟨rr,rfl,rfl,hrr⟩;have HR:=Zab hrr;clear hrr
    by_cases hr0:0<=rr
    . have HK:Hd (ZlM Ss to=true):=by unfold Hd;rw [<- HR.o];simpa using hr0
      go_wp2_with fail;refine (Zar _ _ _ _).mono ?_;rintro e wx ⟨rfl,rfl⟩
      cases hi:inB 1 3 ro with
      | false=>
       go_wp2;go_ret;exact⟨Zaa (by rw [<- HQ.o,HDF.o,hnm,hbr,Zrg,hi];simp),HB1.o⟩
      | true=>
       cases h2:(ro != 2) with
       | true=>
        go_wp2;go_ret;exact⟨Zaa (by rw [<- HQ.o,HDF.o,hnm,hbr,Zrg,HK.o,hi,hd,h2];simp),HB1.o⟩
       | false=>
        go_wp2;go_ret;exact⟨Zaa (by rw [<- HQ.o,HDF.o,hnm,hbr,Zrg,HK.o,hi,hd,h2];simp),HB1.o⟩
    . have HK:Hd (ZlM Ss to=false):=by unfold Hd;rw [<- HR.o];simpa using hr0
      go_wp2;go_ret;exact⟨Zaa (by rw [<- HQ.o,HDF.o,hnm,hbr,Zrg,HK.o];simp),HB1.o⟩
   | false=>
    go_wp2_with fail;refine (Zby _ _ _ _ _ _ _ _ _ _ L _ _ _ (HV.o.below HB1.o) HW9.o).mono ?_;rintro e w2 ⟨rfl,hb2⟩;have HC2:Hd (Below (w.heap.size+1) (w.alloc (.cells #[.string nm,.int .i64 4,.int .i64 le,.int .i64 mo,.slice a L.length cap,.string to,.int .i64 ro,.bool mu,.bool fx,.string df,.string we] 218)) w2):=HC1.o.trans (hb2.mono (by have:=HC1.o.size;simp at this;omega));have HB2:Hd (Zw_ w w2):=HB1.o.trans (hb2.mono HB1.o.size);have hbx2:=fun i=>ZaN w w2 #[.string nm,.int .i64 4,.int .i64 le,.int .i64 mo,.slice a L.length cap,.string to,.int .i64 ro,.bool mu,.bool fx,.string df,.string we] 218 HC2.o i
    clear hb2 hbx
    cases hft:ZaP 4 le mo L df with
    | false=>
     go_wp2;go_ret;exact⟨Zaa (by rw [<- HQ.o,hnm,hbr,hd,hft];simp),HB2.o⟩
    | true=>
     have HDF:Hd ((df.toList.isEmpty || ZaP 4 le mo L df)=true):=by unfold Hd;simp [hft]
     go_wp2_with fail;refine (ZgX lo _ Ss _ _ (HL.o.below HB2.o)).mono ?_;rintro e wx ⟨rr,rfl,rfl,hrr⟩;have HR:=Zab hrr;clear hrr
     by_cases hr0:0<=rr
     . have HK:Hd (ZlM Ss to=true):=by unfold Hd;rw [<- HR.o];simpa using hr0
       go_wp2_with fail;refine (Zar _ _ _ _).mono ?_;rintro e wx ⟨rfl,rfl⟩
       cases hi:inB 1 3 ro with
       | false=>
        go_wp2;go_ret;exact⟨Zaa (by rw [<- HQ.o,HDF.o,hnm,hbr,Zrg,hi];simp),HB2.o⟩
       | true=>
        go_wp2;go_ret;exact⟨Zaa (by rw [<- HQ.o,HDF.o,hnm,hbr,Zrg,hd];simp),HB2.o⟩
     . have HK:Hd (ZlM Ss to=false):=by unfold Hd;rw [<- HR.o];simpa using hr0
       go_wp2;go_ret;exact⟨Zaa (by rw [<- HQ.o,HDF.o,hnm,hbr,Zrg,HK.o];simp),HB2.o⟩
end
section
variable (nm to df we:Zy_) (le mo ro:Int) (mu fx:Bool) (a:Option Addr) (L:List Zy_) (cap:Nat) (w:World)
theorem ZmE (kd:Int) (lo:Nat) (lv:Value) (Ss:List Sh) (hl:ZaR lo w lv Ss) (hv:Zag w (.slice a L.length cap) L) (s0:nm.size<=maxLen) (s9:df.size<=maxLen) (h1:kd≠1) (h2:kd≠2) (h3:kd≠3) (h4:kd≠4) :
 Calls prog 219 #[lv,.agg #[.string nm,.int .i64 kd,.int .i64 le,.int .i64 mo,.slice a L.length cap,.string to,.int .i64 ro,.bool mu,.bool fx,.string df,.string we]] w fun e w'=>e=.returned (.bool false)/\Zw_ w w':=by
 have HV:=Zab hv;have HW0:=Zab s0;have HW9:=Zab s9;obtain⟨la,lcap,rfl⟩:=hl.form;clear hl hv s0 s9;have HW:∀ o,Hd (Zw_ w (w.alloc o)):=fun o=>Zb_.alloc Zl_ _
 have HF:Hd (ZaP kd le mo L df=false):=ZrX h1 h2 h3 h4;have HBR:=Zab (fun u=>Zrs nm to df we le mo ro mu fx a L.length cap u kd h1 h2 h3 h4);have b1:(kd == 1)=false:=beq_eq_false_iff_ne.2 h1;have b2:(kd == 2)=false:=beq_eq_false_iff_ne.2 h2;have b3:(kd == 3)=false:=beq_eq_false_iff_ne.2 h3;have b4:(kd == 4)=false:=beq_eq_false_iff_ne.2 h4;clear h1 h2 h3 h4;go_enter func219,ntmps219;go_wp2_with fail;refine (Zaf _ _ HW0.o).mono ?_;rintro e wx ⟨rfl,rfl⟩
 cases hnm:Zan nm with
 | false=>
  go_wp2;go_ret;exact⟨rfl,(HW _).o⟩
 | true=>
  go_wp2_with fail;refine (HBR.o _).mono ?_;rintro e w1 ⟨bb,rfl,hb1⟩;have HC1:Hd (Below (w.heap.size+1) (w.alloc (.cells #[.string nm,.int .i64 kd,.int .i64 le,.int .i64 mo,.slice a L.length cap,.string to,.int .i64 ro,.bool mu,.bool fx,.string df,.string we] 218)) w1):=by have:=hb1;simp at this;exact this
  have HB1:Hd (Zw_ w w1):=(HW _).o.trans (hb1.mono (by simp));have hbx:=fun i=>ZaN w w1 #[.string nm,.int .i64 kd,.int .i64 le,.int .i64 mo,.slice a L.length cap,.string to,.int .i64 ro,.bool mu,.bool fx,.string df,.string we] 218 HC1.o i
  clear hb1
  cases bb with
  | false=>
   go_wp2;go_ret;exact⟨rfl,HB1.o⟩
  | true=>
   cases hd:df.toList.isEmpty with
   | true=>
    go_wp2;go_ret;exact⟨rfl,HB1.o⟩
   | false=>
    go_wp2_with fail;refine (Zby _ _ _ _ _ _ _ _ _ _ L _ _ _ (HV.o.below HB1.o) HW9.o).mono ?_;rintro e w2 ⟨rfl,hb2⟩;have HB2:Hd (Zw_ w w2):=HB1.o.trans (hb2.mono HB1.o.size);clear hb2 hbx;rw [HF.o];go_wp2;go_ret;exact⟨rfl,HB2.o⟩
end
def Zd3 (Ss:List Sh) (f:Fd):Bool:=
 if f.kd=1 then ZfE f.words.length f.to f.ro&&Zcf f.le f.mo f.we&&(f.df.toList.isEmpty || ZaP 1 f.le f.mo f.words f.df)
 else if f.kd=2 then ZeQ f.le f.mo f.to f.ro f.we&&Zeb f.words.length f.words&&(f.df.toList.isEmpty || ZaP 2 f.le f.mo f.words f.df)
 else if f.kd=3 then Ze4 f.words.length f.to f.ro f.we&&Zc1 f.le f.mo&&(f.df.toList.isEmpty || ZaP 3 f.le f.mo f.words f.df)
 else if f.kd=4 then Ze8 f.le f.mo f.words.length f.we&&Zdi Ss f.to f.ro f.mu f.df&&(f.df.toList.isEmpty || ZaP 4 f.le f.mo f.words f.df)
 else false
theorem Zag.form_len {w:World}{v:Value}{L:List Zy_} (h:Zag w v L):∃ a cap,v=.slice a L.length cap:=by
 rcases h with ⟨a,cap,h,rfl⟩ | ⟨b,off,cap,h,_⟩
 . exact⟨a,cap,h⟩
 . exact⟨_,cap,h⟩
theorem Zfl (lo:Nat) (lv:Value) (Ss:List Sh) (f:Fd) (wv:Value) (w:World) (hl:ZaR lo w lv Ss) (hv:Zag w wv f.words) (hz:ZeY f) :
 Calls prog 219 #[lv,.agg #[.string f.nm,.int .i64 f.kd,.int .i64 f.le,.int .i64 f.mo,wv,.string f.to,.int .i64 f.ro,.bool f.mu,.bool f.fx,.string f.df,.string f.we]] w
  fun e w'=>e=.returned (.bool (Zan f.nm&&Zd3 Ss f))/\Zw_ w w':=by
 obtain⟨nm,kd,le,mo,words,to,ro,mu,fx,df,we⟩:=f;obtain⟨a,cap,rfl⟩:=hv.form_len;obtain⟨s0,s5,s9,s10⟩:=hz;simp only [Zd3] at*
 by_cases h1:kd=1
 . subst h1;rw [if_pos rfl];exact Znm nm to df we le mo ro mu fx a words cap w lo lv Ss hl hv s0 s9 s10
 rw [if_neg h1]
 by_cases h2:kd=2
 . subst h2;rw [if_pos rfl];exact Zmk nm to df we le mo ro mu fx a words cap w lo lv Ss hl hv s0 s9 s10
 rw [if_neg h2]
 by_cases h3:kd=3
 . subst h3;rw [if_pos rfl];exact Zm5 nm to df we le mo ro mu fx a words cap w lo lv Ss hl hv s0 s9 s10
 rw [if_neg h3]
 by_cases h4:kd=4
 . subst h4;rw [if_pos rfl];exact Znd nm to df we le mo ro mu fx a words cap w lo lv Ss hl hv s0 s9 s10
 rw [if_neg h4,Bool.and_false];exact ZmE nm to df we le mo ro mu fx a words cap w kd lo lv Ss hl hv s0 s9 h1 h2 h3 h4
def ZmF (Fs:List Fd) (s:Zy_):Bool:=Fs.any fun x=>x.nm.toList == s.toList
theorem Zgw {s:Zy_} (hj:j < Fs.length) (hk:j < k) (h:(Fs[j].nm.toList == s.toList)=true):ZmF (Fs.take k) s=true:=by
 unfold ZmF;rw [List.any_eq_true];exact⟨Fs[j],List.mem_take_iff_getElem.2 ⟨j,by omega,rfl⟩,h⟩
theorem ZiV {s:Zy_} (h:∀ j (hj:j < Fs.length),j < k->(Fs[j].nm.toList == s.toList)=false):ZmF (Fs.take k) s=false:=by
 unfold ZmF;rw [List.any_eq_false];intro x hx;obtain⟨j,hj,rfl⟩:=List.mem_take_iff_getElem.1 hx;simp [h j (by omega) (by omega)]
def ZbE (Ss:List Sh) (Fs:List Fd) (k:Nat):Bool:=
 match Fs[k]? with
 | some f=>Zan f.nm&&Zd3 Ss f&&!ZmF (Fs.take k) f.nm
 | none=>true
def ZaG (Ss:List Sh) (Fs:List Fd):Bool:=decide (Fs.length<=6)&&(List.range Fs.length).all (ZbE Ss Fs)
theorem ZaK (h:k < Fs.length):ZbE Ss Fs k=(Zan Fs[k].nm&&Zd3 Ss Fs[k]&&!ZmF (Fs.take k) Fs[k].nm):=by
 unfold ZbE;rw [List.getElem?_eq_getElem h]
def Zba (Ss:List Sh) (i:Nat):Bool:=
 match Ss[i]? with
 | some x=>Zan x.kind&&(match Ss[i - 1]? with | some y=>i == 0 || Op.bytesLess y.kind.toList x.kind.toList | none=>true)&&ZaG Ss x.fields
 | none=>true
def ZaH (Ss:List Sh):Bool:=decide (Ss.length<=6)&&(List.range Ss.length).all (Zba Ss)
theorem ZcM (h:0 < Ss.length):Zba Ss 0=(Zan Ss[0].kind&&ZaG Ss Ss[0].fields):=by
 unfold Zba;rw [List.getElem?_eq_getElem h];simp
theorem ZbQ (h:j+1 < Ss.length):Zba Ss (j+1)=(Zan Ss[j+1].kind&&Op.bytesLess Ss[j].kind.toList Ss[j+1].kind.toList&&ZaG Ss Ss[j+1].fields):=by
 unfold Zba;rw [List.getElem?_eq_getElem h];simp [List.getElem?_eq_getElem (show j < Ss.length by omega)]
theorem ZbA (hk:k < Ss.length) (h:Zba Ss k=false):ZaH Ss=false:=by
 unfold ZaH;rw [Za3 hk h];simp
theorem ZbR (hk:k < Fs.length) (h:ZbE Ss Fs k=false):ZaG Ss Fs=false:=by
 unfold ZaG;rw [Za3 hk h];simp
theorem ZfO (h:¬ Fs.length<=6):ZaG Ss Fs=false:=by
 unfold ZaG;simp [h]
theorem ZdP (h:Fs.length<=6) (hall:∀ i,i < Fs.length->ZbE Ss Fs i=true):ZaG Ss Fs=true:=by
 unfold ZaG;rw [Za7 hall];simp [h]
theorem ZhL (lo:Nat) (v:Value) (Ss:List Sh) (w:World) (hv:ZaR lo w v Ss) :
 Calls prog 184 #[v] w fun e w'=>e=.returned (.bool (ZaH Ss))/\Zw_ w w':=by
 have HL:=Zab hv
 by_cases hL:Ss=[]
 . subst hL
   obtain⟨a,cap,rfl⟩:=hv.form;clear hv;go_enter func184,ntmps184;go_wp2
   go_loop [3] (fun i=>i=.int .i64 0) (fun _=>0)
   case atStart=>rfl
   case round=>
    subst hrel;go_wp2;go_ret;exact⟨rfl,Below.refl _ _⟩
 obtain⟨b,off,cap,rfl,hm,hbw,hc⟩:=hv.full hL;clear hv;unfold maxLen at hm
 by_cases h6:(Ss.length:Int)<=6
 . go_enter func184,ntmps184
   go_wp2
   go_loopw [3] (fun i wr=>∃ k:Nat,i=.int .i64 k/\k<=Ss.length/\Zw_ w wr/\∀ i,i < k->Zba Ss i=true) (fun i _=>Ss.length - (intOf i).toNat)
   case atStart=>exact⟨0,rfl,by omega,Below.refl _ _,fun i h=>by omega⟩
   case round=>
    obtain⟨k,rfl,hk,hb,hall⟩:=hrel;have HA:=Zab hall;have HB:=Zab hb;clear hall hb;obtain⟨wo,rfl⟩:∃ wo:World,wo=wr:=⟨_,rfl⟩
    by_cases hlt:k < Ss.length
    . obtain⟨hsz,fv,d0,d1,hst⟩:=hc k hlt
      have c0:wo.cell? ⟨b,off+k*2,none⟩=some (.string Ss[k].kind):=by rw [HB.o.cell (p:=⟨b,_,none⟩) hbw];exact d0
      have c1:wo.cell? ⟨b,off+k*2+1,none⟩=some fv:=by rw [HB.o.cell (p:=⟨b,_,none⟩) hbw];exact d1
      have HST:=Zab hst;obtain⟨fa,fcap,rfl⟩:=hst.form;clear d0 d1 hst
      cases hnm:Zan Ss[k].kind with
      | false=>
       have HN:Hd (ZaH Ss=false):=by
        unfold Hd;refine ZbA hlt ?_
        cases k with
        | zero=>rw [ZcM hlt,hnm];rfl
        | succ j=>rw [ZbQ hlt,hnm];rfl
       go_wp2
       go_quiet ((go_at_call 37;exact Calls.quiet_of_same (Zaf _ _ hsz)))
       go_wp2;go_ret;exact⟨Zaa HN.o.symm,below_drewN (HB.o.alloc HB.o.size _) _⟩
      | true=>
       cases k with
       | zero=>
        have HEQ:Hd (Zba Ss 0=ZaG Ss Ss[0].fields):=by unfold Hd;rw [ZcM hlt,hnm];rfl
        have c0':wo.cell? ⟨b,off,none⟩=some (.string Ss[0].kind):=by simpa using c0
        have c1':wo.cell? ⟨b,off+1,none⟩=some (.slice fa Ss[0].fields.length fcap):=by simpa using c1
        clear c0 c1
        by_cases h6f:Ss[0].fields.length<=6
        . have h6i:(Ss[0].fields.length:Int)<=6:=by omega
          by_cases hF:Ss[0].fields=[]
          . have hl0:Ss[0].fields.length<=0:=by rw [hF];simp
            clear hF;have hO:Hd (Below (wo.heap.size+1) (wo.alloc (.cells #[.string Ss[0].kind,.slice fa Ss[0].fields.length fcap] 164)) (wo.alloc (.cells #[.string Ss[0].kind,.slice fa Ss[0].fields.length fcap] 164))):=Below.refl _ _;go_wp2
            go_quiet ((go_at_call 37;exact Calls.quiet_of_same (Zaf _ _ hsz)))
            try simp only [hnm]
            go_wp2
            go_loopw [5] (fun i u=>∃ q:Nat,i=.int .i64 q/\q<=Ss[0].fields.length/\Below (wo.heap.size+1) (wo.alloc (.cells #[.string Ss[0].kind,.slice fa Ss[0].fields.length fcap] 164)) u/\∀ i,i < q->ZbE Ss Ss[0].fields i=true) (fun i _=>Ss[0].fields.length - (intOf i).toNat)
            case atStart=>exact⟨0,rfl,by omega,below_drewN hO.o _,fun i h=>by omega⟩
            case round=>
             obtain⟨q,rfl,hq,hbu,hallq⟩:=hrel;have HAQ:=Zab hallq;have HBX:=Zab hbu;have hbx:=fun i=>ZaN wo wr _ 164 hbu i
             have HBU:Hd (Zw_ w wr):=HB.o.trans (((Zb_.alloc Zl_ _).mono HB.o.size).trans (hbu.mono (by have:=HB.o.size;omega)));clear hallq hbu;obtain⟨wi,rfl⟩:∃ wi:World,wi=wr:=⟨_,rfl⟩
             by_cases hql:q < Ss[0].fields.length
             . omega
             . go_wp2
               have HSH:Zba Ss (0)=true:=by rw [HEQ.o];exact ZdP h6f (fun i hi=>HAQ.o i (by omega))
               go_roundw
               . 
                have hnx:∀ i,i < 0+1->Zba Ss i=true:=fun i hi=>by
                 by_cases e:i=0
                 . rw [e];exact HSH
                 . exact HA.o i (by omega)
                first
                 | exact⟨0+1,by go_num,by omega,HBU.o,hnx⟩
                 | ((repeat apply Exists.intro);exact⟨⟨0+1,by go_num,by omega,HBU.o,hnx⟩,rfl⟩)
               . simp [intOf];omega
          . obtain⟨fb,fo,fcap',hfe,_,hfb,_,hfc⟩:=(HST.o.below HB.o).full hF
            simp only [Value.slice.injEq,true_and] at hfe;obtain⟨rfl,rfl⟩:=hfe;have hO:Hd (Below (wo.heap.size+1) (wo.alloc (.cells #[.string Ss[0].kind,.slice (some ⟨fb,fo,none⟩) Ss[0].fields.length fcap] 164)) (wo.alloc (.cells #[.string Ss[0].kind,.slice (some ⟨fb,fo,none⟩) Ss[0].fields.length fcap] 164))):=Below.refl _ _;go_wp2
            go_quiet ((go_at_call 37;exact Calls.quiet_of_same (Zaf _ _ hsz)))
            try simp only [hnm]
            go_wp2
            go_loopw [5] (fun i u=>∃ q:Nat,i=.int .i64 q/\q<=Ss[0].fields.length/\Below (wo.heap.size+1) (wo.alloc (.cells #[.string Ss[0].kind,.slice (some ⟨fb,fo,none⟩) Ss[0].fields.length fcap] 164)) u/\∀ i,i < q->ZbE Ss Ss[0].fields i=true) (fun i _=>Ss[0].fields.length - (intOf i).toNat)
            case atStart=>exact⟨0,rfl,by omega,below_drewN hO.o _,fun i h=>by omega⟩
            case round=>
             obtain⟨q,rfl,hq,hbu,hallq⟩:=hrel;have HAQ:=Zab hallq;have HBX:=Zab hbu;have hbx:=fun i=>ZaN wo wr _ 164 hbu i
             have HBU:Hd (Zw_ w wr):=HB.o.trans (((Zb_.alloc Zl_ _).mono HB.o.size).trans (hbu.mono (by have:=HB.o.size;omega)));clear hallq hbu;obtain⟨wi,rfl⟩:∃ wi:World,wi=wr:=⟨_,rfl⟩
             by_cases hql:q < Ss[0].fields.length
             . obtain⟨hzz,wv,hcell,hws⟩:=hfc q hql
               have HBW:Hd (Below wo.heap.size wo wi):=(Zb_.alloc Zl_ _).trans (HBX.o.mono (by omega));obtain⟨x0,x1,x2,x3,x4,x5,x6,x7,x8,x9,x10⟩:=hcell.below HBW.o hfb;clear hcell;go_wp2_with fail;refine (Zfl lo _ Ss Ss[0].fields[q] _ _ (HL.o.below HBU.o) (hws.at.below HBW.o) hzz).mono ?_;rintro e w1 ⟨rfl,hb1⟩;have HB1:Hd (Zw_ w w1):=HBU.o.trans (hb1.mono HBU.o.size);have HBX1:Hd (Below (wo.heap.size+1) (wo.alloc (.cells #[.string Ss[0].kind,.slice (some ⟨fb,fo,none⟩) Ss[0].fields.length fcap] 164)) w1):=HBX.o.trans (hb1.mono (by have:=HBX.o.size;simp at this;omega));clear hb1 hbx x0 x1 x2 x3 x4 x5 x6 x7 x8 x9 x10
               cases hfl:(Zan Ss[0].fields[q].nm&&Zd3 Ss Ss[0].fields[q]) with
               | false=>
                have HN:Hd (ZaH Ss=false):=ZbA hlt (by rw [HEQ.o];exact ZbR hql (by rw [ZaK hql,hfl];rfl));go_wp2;go_ret;exact⟨Zaa HN.o.symm,HB1.o⟩
               | true=>
                go_wp2
                go_loopw [6] (fun i u=>∃ p:Nat,i=.int .i64 p/\p<=q/\Below (wo.heap.size+1) (wo.alloc (.cells #[.string Ss[0].kind,.slice (some ⟨fb,fo,none⟩) Ss[0].fields.length fcap] 164)) u/\∀ j (hj:j < Ss[0].fields.length),j < p->(Ss[0].fields[j].nm.toList == Ss[0].fields[q].nm.toList)=false) (fun i _=>q - (intOf i).toNat)
                case atStart=>exact⟨0,rfl,by omega,HBX1.o,fun j _ h=>by omega⟩
                case round=>
                 obtain⟨p,rfl,hp,hbu,hallp⟩:=hrel;have HAP:=Zab hallp;have HBX2:=Zab hbu;have hbx:=fun i=>ZaN wo wr _ 164 hbu i
                 have HBU2:Hd (Zw_ w wr):=HB.o.trans (((Zb_.alloc Zl_ _).mono HB.o.size).trans (hbu.mono (by have:=HB.o.size;omega)));have HBW2:Hd (Below wo.heap.size wo wr):=(Zb_.alloc Zl_ _).trans (hbu.mono (by omega));clear hallp hbu
                 by_cases hpq:p < q
                 . obtain⟨_,wvp,hcp,_⟩:=hfc p (by omega)
                   obtain⟨_,wvq,hcq,_⟩:=hfc q hql;have y0:=(hcp.below HBW2.o hfb).c0;have z0:=(hcq.below HBW2.o hfb).c0;clear hcp hcq;have hpl:p < Ss[0].fields.length:=by omega
                   cases heq:(Ss[0].fields[p].nm.toList == Ss[0].fields[q].nm.toList) with
                   | true=>
                    have HN:Hd (ZaH Ss=false):=ZbA hlt (by rw [HEQ.o];exact ZbR hql (by rw [ZaK hql,Zgw hpl hpq heq];simp));go_wp2
                    go_quiet (fail)
                    go_wp2;go_ret;exact⟨Zaa HN.o.symm,below_drewN HBU2.o _⟩
                   | false=>
                    go_wp2
                    go_quiet (fail)
                    go_wp2;go_roundw
                    case rel=>exact⟨p+1,by go_num,by omega,below_drewN HBX2.o _,fun j hj h=>by
                               by_cases e:j=p
                               . subst e;exact heq
                               . exact HAP.o j hj (by omega)⟩
                    . simp [intOf];omega
                 . have HFA:Hd (ZbE Ss Ss[0].fields q=true):=by
                    unfold Hd;rw [ZaK hql,hfl,ZiV (fun j hj h=>HAP.o j hj (by omega))];rfl
                   go_wp2;go_roundw
                   . 
                    have hnx:∀ i,i < q+1->ZbE Ss Ss[0].fields i=true:=fun i hi=>by
                     by_cases e:i=q
                     . rw [e];exact HFA.o
                     . exact HAQ.o i (by omega)
                    first
                     | exact⟨q+1,by go_num,by omega,HBX2.o,hnx⟩
                     | ((repeat apply Exists.intro);exact⟨⟨q+1,by go_num,by omega,HBX2.o,hnx⟩,rfl⟩)
                   . simp [intOf];omega
             . go_wp2
               have HSH:Zba Ss (0)=true:=by rw [HEQ.o];exact ZdP h6f (fun i hi=>HAQ.o i (by omega))
               go_roundw
               . 
                have hnx:∀ i,i < 0+1->Zba Ss i=true:=fun i hi=>by
                 by_cases e:i=0
                 . rw [e];exact HSH
                 . exact HA.o i (by omega)
                first
                 | exact⟨0+1,by go_num,by omega,HBU.o,hnx⟩
                 | ((repeat apply Exists.intro);exact⟨⟨0+1,by go_num,by omega,HBU.o,hnx⟩,rfl⟩)
               . simp [intOf];omega
        . have HN:Hd (ZaH Ss=false):=ZbA hlt (by rw [HEQ.o];exact ZfO h6f)
          have h6i:¬ (Ss[0].fields.length:Int)<=6:=by omega
          go_wp2
          go_quiet ((go_at_call 37;exact Calls.quiet_of_same (Zaf _ _ hsz)))
          go_wp2;go_ret;exact⟨Zaa HN.o.symm,below_drewN (HB.o.alloc HB.o.size _) _⟩
       | succ jj=>
        obtain⟨_,fvj,dj,_,_⟩:=hc jj (by omega);have cj:wo.cell? ⟨b,off+jj*2,none⟩=some (.string Ss[jj].kind):=by rw [HB.o.cell (p:=⟨b,_,none⟩) hbw];exact dj
        clear dj;have hjw:IntKind.i64.wrap (jj:Int)=jj:=by rw [IntKind.wrap_i64];omega
        have hjl:jj < Ss.length:=by omega
        have hdl:decide ((jj:Int)+1 < (Ss.length:Int))=true:=by simp;omega
        have hbo:b < wo.heap.size:=Zk_ hbw HB.o.size
        have cj2:∀ o,(wo.alloc o).cell? ⟨b,off+jj*2,none⟩=some (.string Ss[jj].kind):=fun o=>by rw [((Below.refl wo.heap.size wo).alloc Zl_ o).cell (p:=⟨b,_,none⟩) hbo];exact cj
        have cj3:∀ o n,((wo.alloc o).drewN n).cell? ⟨b,off+jj*2,none⟩=some (.string Ss[jj].kind):=fun o n=>cj2 o
        cases hls:Op.bytesLess Ss[jj].kind.toList Ss[jj+1].kind.toList with
        | false=>
         have HN:Hd (ZaH Ss=false):=ZbA hlt (by rw [ZbQ hlt,hls];simp);go_wp2
         go_quiet ((go_at_call 37;exact Calls.quiet_of_same (Zaf _ _ hsz)))
         go_wp2;go_ret;exact⟨Zaa HN.o.symm,below_drewN (HB.o.alloc HB.o.size _) _⟩
        | true=>
         have HEQ:Hd (Zba Ss (jj+1)=ZaG Ss Ss[jj+1].fields):=by unfold Hd;rw [ZbQ hlt,hnm,hls];rfl
         by_cases h6f:Ss[jj+1].fields.length<=6
         . have h6i:(Ss[jj+1].fields.length:Int)<=6:=by omega
           by_cases hF:Ss[jj+1].fields=[]
           . have hl0:Ss[jj+1].fields.length<=0:=by rw [hF];simp
             clear hF;have hO:Hd (Below (wo.heap.size+1) (wo.alloc (.cells #[.string Ss[jj+1].kind,.slice fa Ss[jj+1].fields.length fcap] 164)) (wo.alloc (.cells #[.string Ss[jj+1].kind,.slice fa Ss[jj+1].fields.length fcap] 164))):=Below.refl _ _;go_wp2
             go_quiet ((go_at_call 37;exact Calls.quiet_of_same (Zaf _ _ hsz)))
             try simp only [hnm]
             go_wp2
             go_loopw [5] (fun i u=>∃ q:Nat,i=.int .i64 q/\q<=Ss[jj+1].fields.length/\Below (wo.heap.size+1) (wo.alloc (.cells #[.string Ss[jj+1].kind,.slice fa Ss[jj+1].fields.length fcap] 164)) u/\∀ i,i < q->ZbE Ss Ss[jj+1].fields i=true) (fun i _=>Ss[jj+1].fields.length - (intOf i).toNat)
             case atStart=>exact⟨0,rfl,by omega,below_drewN hO.o _,fun i h=>by omega⟩
             case round=>
              obtain⟨q,rfl,hq,hbu,hallq⟩:=hrel;have HAQ:=Zab hallq;have HBX:=Zab hbu;have hbx:=fun i=>ZaN wo wr _ 164 hbu i
              have HBU:Hd (Zw_ w wr):=HB.o.trans (((Zb_.alloc Zl_ _).mono HB.o.size).trans (hbu.mono (by have:=HB.o.size;omega)));clear hallq hbu;obtain⟨wi,rfl⟩:∃ wi:World,wi=wr:=⟨_,rfl⟩
              by_cases hql:q < Ss[jj+1].fields.length
              . omega
              . go_wp2
                have HSH:Zba Ss (jj+1)=true:=by rw [HEQ.o];exact ZdP h6f (fun i hi=>HAQ.o i (by omega))
                go_roundw
                . 
                 have hnx:∀ i,i < jj+1+1->Zba Ss i=true:=fun i hi=>by
                  by_cases e:i=jj+1
                  . rw [e];exact HSH
                  . exact HA.o i (by omega)
                 first
                  | exact⟨jj+1+1,by go_num,by omega,HBU.o,hnx⟩
                  | ((repeat apply Exists.intro);exact⟨⟨jj+1+1,by go_num,by omega,HBU.o,hnx⟩,rfl⟩)
                . simp [intOf];omega
           . obtain⟨fb,fo,fcap',hfe,_,hfb,_,hfc⟩:=(HST.o.below HB.o).full hF
             simp only [Value.slice.injEq,true_and] at hfe;obtain⟨rfl,rfl⟩:=hfe;have hO:Hd (Below (wo.heap.size+1) (wo.alloc (.cells #[.string Ss[jj+1].kind,.slice (some ⟨fb,fo,none⟩) Ss[jj+1].fields.length fcap] 164)) (wo.alloc (.cells #[.string Ss[jj+1].kind,.slice (some ⟨fb,fo,none⟩) Ss[jj+1].fields.length fcap] 164))):=Below.refl _ _;go_wp2
             go_quiet ((go_at_call 37;exact Calls.quiet_of_same (Zaf _ _ hsz)))
             try simp only [hnm]
             go_wp2
             go_loopw [5] (fun i u=>∃ q:Nat,i=.int .i64 q/\q<=Ss[jj+1].fields.length/\Below (wo.heap.size+1) (wo.alloc (.cells #[.string Ss[jj+1].kind,.slice (some ⟨fb,fo,none⟩) Ss[jj+1].fields.length fcap] 164)) u/\∀ i,i < q->ZbE Ss Ss[jj+1].fields i=true) (fun i _=>Ss[jj+1].fields.length - (intOf i).toNat)
             case atStart=>exact⟨0,rfl,by omega,below_drewN hO.o _,fun i h=>by omega⟩
             case round=>
              obtain⟨q,rfl,hq,hbu,hallq⟩:=hrel;have HAQ:=Zab hallq;have HBX:=Zab hbu;have hbx:=fun i=>ZaN wo wr _ 164 hbu i
              have HBU:Hd (Zw_ w wr):=HB.o.trans (((Zb_.alloc Zl_ _).mono HB.o.size).trans (hbu.mono (by have:=HB.o.size;omega)));clear hallq hbu;obtain⟨wi,rfl⟩:∃ wi:World,wi=wr:=⟨_,rfl⟩
              by_cases hql:q < Ss[jj+1].fields.length
              . obtain⟨hzz,wv,hcell,hws⟩:=hfc q hql
                have HBW:Hd (Below wo.heap.size wo wi):=(Zb_.alloc Zl_ _).trans (HBX.o.mono (by omega));obtain⟨x0,x1,x2,x3,x4,x5,x6,x7,x8,x9,x10⟩:=hcell.below HBW.o hfb;clear hcell;go_wp2_with fail;refine (Zfl lo _ Ss Ss[jj+1].fields[q] _ _ (HL.o.below HBU.o) (hws.at.below HBW.o) hzz).mono ?_;rintro e w1 ⟨rfl,hb1⟩;have HB1:Hd (Zw_ w w1):=HBU.o.trans (hb1.mono HBU.o.size);have HBX1:Hd (Below (wo.heap.size+1) (wo.alloc (.cells #[.string Ss[jj+1].kind,.slice (some ⟨fb,fo,none⟩) Ss[jj+1].fields.length fcap] 164)) w1):=HBX.o.trans (hb1.mono (by have:=HBX.o.size;simp at this;omega));clear hb1 hbx x0 x1 x2 x3 x4 x5 x6 x7 x8 x9 x10
                cases hfl:(Zan Ss[jj+1].fields[q].nm&&Zd3 Ss Ss[jj+1].fields[q]) with
                | false=>
                 have HN:Hd (ZaH Ss=false):=ZbA hlt (by rw [HEQ.o];exact ZbR hql (by rw [ZaK hql,hfl];rfl));go_wp2;go_ret;exact⟨Zaa HN.o.symm,HB1.o⟩
                | true=>
                 go_wp2
                 go_loopw [6] (fun i u=>∃ p:Nat,i=.int .i64 p/\p<=q/\Below (wo.heap.size+1) (wo.alloc (.cells #[.string Ss[jj+1].kind,.slice (some ⟨fb,fo,none⟩) Ss[jj+1].fields.length fcap] 164)) u/\∀ j (hj:j < Ss[jj+1].fields.length),j < p->(Ss[jj+1].fields[j].nm.toList == Ss[jj+1].fields[q].nm.toList)=false) (fun i _=>q - (intOf i).toNat)
                 case atStart=>exact⟨0,rfl,by omega,HBX1.o,fun j _ h=>by omega⟩
                 case round=>
                  obtain⟨p,rfl,hp,hbu,hallp⟩:=hrel;have HAP:=Zab hallp;have HBX2:=Zab hbu;have hbx:=fun i=>ZaN wo wr _ 164 hbu i
                  have HBU2:Hd (Zw_ w wr):=HB.o.trans (((Zb_.alloc Zl_ _).mono HB.o.size).trans (hbu.mono (by have:=HB.o.size;omega)));have HBW2:Hd (Below wo.heap.size wo wr):=(Zb_.alloc Zl_ _).trans (hbu.mono (by omega));clear hallp hbu
                  by_cases hpq:p < q
                  . obtain⟨_,wvp,hcp,_⟩:=hfc p (by omega)
                    obtain⟨_,wvq,hcq,_⟩:=hfc q hql;have y0:=(hcp.below HBW2.o hfb).c0;have z0:=(hcq.below HBW2.o hfb).c0;clear hcp hcq;have hpl:p < Ss[jj+1].fields.length:=by omega
                    cases heq:(Ss[jj+1].fields[p].nm.toList == Ss[jj+1].fields[q].nm.toList) with
                    | true=>
                     have HN:Hd (ZaH Ss=false):=ZbA hlt (by rw [HEQ.o];exact ZbR hql (by rw [ZaK hql,Zgw hpl hpq heq];simp));go_wp2
                     go_quiet (fail)
                     go_wp2;go_ret;exact⟨Zaa HN.o.symm,below_drewN HBU2.o _⟩
                    | false=>
                     go_wp2
                     go_quiet (fail)
                     go_wp2;go_roundw
                     case rel=>exact⟨p+1,by go_num,by omega,below_drewN HBX2.o _,fun j hj h=>by
                                by_cases e:j=p
                                . subst e;exact heq
                                . exact HAP.o j hj (by omega)⟩
                     . simp [intOf];omega
                  . have HFA:Hd (ZbE Ss Ss[jj+1].fields q=true):=by
                     unfold Hd;rw [ZaK hql,hfl,ZiV (fun j hj h=>HAP.o j hj (by omega))];rfl
                    go_wp2;go_roundw
                    . 
                     have hnx:∀ i,i < q+1->ZbE Ss Ss[jj+1].fields i=true:=fun i hi=>by
                      by_cases e:i=q
                      . rw [e];exact HFA.o
                      . exact HAQ.o i (by omega)
                     first
                      | exact⟨q+1,by go_num,by omega,HBX2.o,hnx⟩
                      | ((repeat apply Exists.intro);exact⟨⟨q+1,by go_num,by omega,HBX2.o,hnx⟩,rfl⟩)
                    . simp [intOf];omega
              . go_wp2
                have HSH:Zba Ss (jj+1)=true:=by rw [HEQ.o];exact ZdP h6f (fun i hi=>HAQ.o i (by omega))
                go_roundw
                . 
                 have hnx:∀ i,i < jj+1+1->Zba Ss i=true:=fun i hi=>by
                  by_cases e:i=jj+1
                  . rw [e];exact HSH
                  . exact HA.o i (by omega)
                 first
                  | exact⟨jj+1+1,by go_num,by omega,HBU.o,hnx⟩
                  | ((repeat apply Exists.intro);exact⟨⟨jj+1+1,by go_num,by omega,HBU.o,hnx⟩,rfl⟩)
                . simp [intOf];omega
         . have HN:Hd (ZaH Ss=false):=ZbA hlt (by rw [HEQ.o];exact ZfO h6f)
           have h6i:¬ (Ss[jj+1].fields.length:Int)<=6:=by omega
           go_wp2
           go_quiet ((go_at_call 37;exact Calls.quiet_of_same (Zaf _ _ hsz)))
           go_wp2;go_ret;exact⟨Zaa HN.o.symm,below_drewN (HB.o.alloc HB.o.size _) _⟩
    . go_wp2
      go_ret;refine⟨Zaa ?_,HB.o⟩;unfold ZaH;rw [Za7 (fun i hi=>HA.o i (by omega))];simp;omega
 . go_enter func184,ntmps184
   go_wp2;go_ret;exact⟨Zaa (by unfold ZaH;simp;intro h;omega),Below.refl _ _⟩
theorem Zav.take {lo:Nat}{w:World}{b off cap:Nat} (hk:k<=Fs.length) (hm:Fs.length<=maxLen) (hb:b < w.heap.size) (hlo:lo<=b) (hcap:Fs.length<=cap)
 (hc:∀ i (h:i < Fs.length),ZeY Fs[i]/\∃ wv,ZcZ w b (off+i*11) Fs[i] wv/\Zaq lo w wv Fs[i].words):Zav lo w (.slice (some ⟨b,off,none⟩) k cap) (Fs.take k):=by
 have hl:(Fs.take k).length=k:=by rw [List.length_take];omega
 by_cases h0:k=0
 . subst h0;exact Or.inl ⟨_,_,rfl,by simp⟩
 . refine Or.inr ⟨b,off,cap,by rw [hl],?_,by omega,hb,hlo,by omega,fun i hi=>?_⟩
   . intro e;rw [e] at hl;simp at hl;omega
   . rw [List.getElem_take]
     exact hc i (by omega)
section
variable (nm to df we:Zy_) (kd le mo ro:Int) (mu fx:Bool) (wv:Value) (w:World)
theorem ZqQ (s:Zy_) (B:Nat) (hB:B < w.heap.size) (hs:w.cell? ⟨B,0,none⟩=some (.string s)) :
 Calls prog 271 #[.agg #[.string nm,.int .i64 kd,.int .i64 le,.int .i64 mo,wv,.string to,.int .i64 ro,.bool mu,.bool fx,.string df,.string we],.pointer (some ⟨B,0,none⟩)] w
  fun e w'=>e=.returned (.bool (nm.toList == s.toList))/\Zw_ w w':=by
 go_enter func271,ntmps271;go_wp2;go_ret;exact⟨rfl,Zb_.alloc Zl_ _⟩
end
theorem Zrp {s:Zy_} (h:∀ j (hj:j < Fs.length),(Fs[j].nm.toList == s.toList)=false):ZmF Fs s=false:=by
 have:=ZiV (Fs:=Fs) (s:=s) (k:=Fs.length) (fun j hj _=>h j hj)
 rwa [List.take_of_length_le Zl_] at this
theorem ZrU {s:Zy_} (hj:j < Fs.length) (h:(Fs[j].nm.toList == s.toList)=true):ZmF Fs s=true:=by
 have:=Zgw (Fs:=Fs) (s:=s) (k:=Fs.length) hj hj h
 rwa [List.take_of_length_le Zl_] at this
theorem ZiO (lo:Nat) (v:Value) (Fs:List Fd) (s:Zy_) (B:Nat) (w:World) (hv:Zav lo w v Fs) (hB:B < w.heap.size) (hs:w.cell? ⟨B,0,none⟩=some (.string s)) :
 Calls prog 282 #[v,.func (.func 271) #[] #[.pointer (some ⟨B,0,none⟩)]] w fun e w'=>∃ r:Int,e=.returned (.int .i64 r)/\Zw_ w w'/\decide (0<=r)=ZmF Fs s:=by
 by_cases hL:Fs=[]
 . subst hL
   obtain⟨a,cap,rfl⟩:=Zdt hv;clear hv;go_enter func282,ntmps282;go_wp2
   go_loop [8] (fun i=>i=.int .i64 0) (fun _=>0)
   case atStart=>rfl
   case round=>
    subst hrel;go_wp2;go_ret;exact⟨-1,rfl,Below.refl _ _,rfl⟩
 . obtain⟨b,off,cap,rfl,hm,hbw,_,hc⟩:=hv.full hL
   clear hv;unfold maxLen at hm;go_enter func282,ntmps282;go_wp2
   go_loopw [8] (fun i wr=>∃ k:Nat,i=.int .i64 k/\k<=Fs.length/\Zw_ w wr/\∀ j (hj:j < Fs.length),j < k->(Fs[j].nm.toList == s.toList)=false) (fun i _=>Fs.length - (intOf i).toNat)
   case atStart=>exact⟨0,rfl,by omega,Below.refl _ _,fun j _ h=>by omega⟩
   case round=>
    obtain⟨k,rfl,hk,hb,hall⟩:=hrel;have HA:=Zab hall;have HB:=Zab hb;clear hall hb
    by_cases hlt:k < Fs.length
    . obtain⟨_,wv,hcell,_⟩:=hc k hlt
      obtain⟨c0,c1,c2,c3,c4,c5,c6,c7,c8,c9,c10⟩:=hcell.below HB.o hbw;clear hcell;go_wp2_with fail;refine (ZqQ _ _ _ _ _ _ _ _ _ _ _ _ s B (Zk_ hB HB.o.size) (by rw [HB.o.cell (p:=⟨B,0,none⟩) hB];exact hs)).mono ?_;rintro e w1 ⟨rfl,hb1⟩;have HB1:Hd (Zw_ w w1):=HB.o.trans (hb1.mono HB.o.size);clear hb1 c0 c1 c2 c3 c4 c5 c6 c7 c8 c9 c10
      cases he:(Fs[k].nm.toList == s.toList) with
      | true=>
       go_wp2;go_ret;exact⟨k,rfl,HB1.o,by rw [ZrU hlt he];simp⟩
      | false=>
       go_wp2;go_roundw
       case rel=>exact⟨k+1,by go_num,by omega,HB1.o,fun j hj h=>by
                  by_cases e:j=k
                  . subst e;exact he
                  . exact HA.o j hj (by omega)⟩
       . simp [intOf];omega
    . go_wp2
      go_ret;exact⟨-1,rfl,HB.o,by rw [Zrp fun j hj=>HA.o j hj (by omega)];rfl⟩
theorem Zgr (lo:Nat) (v:Value) (Fs:List Fd) (s:Zy_) (B:Nat) (w:World) (hv:Zav lo w v Fs) (hB:B < w.heap.size) (hs:w.cell? ⟨B,0,none⟩=some (.string s)) :
 Calls prog 270 #[v,.func (.func 271) #[] #[.pointer (some ⟨B,0,none⟩)]] w fun e w'=>e=.returned (.bool (ZmF Fs s))/\Zw_ w w':=by
 go_enter func270,ntmps270;go_wp2_with fail;refine (ZiO lo v Fs s B _ hv hB hs).mono ?_;rintro e w1 ⟨r,rfl,hb,hr⟩;have HR:=Zab hr;have HB:=Zab hb;clear hr hb;go_wp2;go_ret;exact⟨Zaa HR.o,HB.o⟩
theorem Zki (lo:Nat) (v:Value) (Fs:List Fd) (s:Zy_) (w:World) (hv:Zav lo w v Fs) :
 Calls prog 254 #[v,.string s] w fun e w'=>e=.returned (.bool (ZmF Fs s))/\Zw_ w w':=by
 have HV:=Zab hv;obtain⟨a,cap,rfl⟩:=hv.form;clear hv;have HW:∀ o,Hd (Zw_ w (w.alloc o)):=fun o=>Zb_.alloc Zl_ _
 go_enter func254,ntmps254;go_wp2_with fail;refine (Zgr lo _ Fs s _ _ (HV.o.below (HW _).o) (by simp) (by simp)).mono ?_;rintro e w1 ⟨rfl,hb⟩;have HB:Hd (Zw_ w w1):=(HW _).o.trans (hb.mono (by simp));clear hb;go_wp2;go_ret;exact⟨rfl,HB.o⟩
end Go.Proofs.YtfohnageehneoaaGreat
