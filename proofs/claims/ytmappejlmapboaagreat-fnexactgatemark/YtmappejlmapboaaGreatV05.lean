import Derived.Test.YtmappejlmapboaaGreatV04
set_option maxHeartbeats 16000000
set_option maxRecDepth 100000
open Go.Proofs.Tryz
namespace Go.Proofs.YtmappejlmapboaaGreat
open Go.RowKit Go.Deep
section
theorem Zr2 (n:Nat) (L:List Zy_):ZdN n L=(inB 1 6 (n:Int)&&Zm8 L):=by unfold ZdN;rw [Zf2]
theorem Zre (ro:Int) (mu:Bool):ZkF ro mu=(inB 1 3 ro&&((ro != 2) || !mu)):=by
 unfold ZkF inB
 by_cases h1:ro=1
 . subst h1;simp
 by_cases h2:ro=2
 . subst h2;simp
 by_cases h3:ro=3
 . subst h3;simp
 have hx:¬ (1<=ro/\ro<=3):=by omega
 simp [h1,h2,h3,hx]
theorem Zrg (Ss:List Sh) (to:Zy_) (ro:Int) (mu:Bool) (df:Zy_):ZcX Ss to ro mu df=(Zk0 Ss to&&inB 1 3 ro&&df.toList.isEmpty&&((ro != 2) || !mu)):=by
 unfold ZcX;rw [Zre];cases Zk0 Ss to <;> cases df.toList.isEmpty <;> cases inB 1 3 ro <;> simp
section
variable (nm to df we:Zy_) (le mo ro:Int) (mu fx:Bool) (a:Option Addr) (L:List Zy_) (cap:Nat) (w:World)
theorem ZmA (lo:Nat) (lv:Value) (Ss:List Sh) (hl:ZaH lo w lv Ss) (hv:Zaf w (.slice a L.length cap) L) (s0:nm.size<=maxLen) (s9:df.size<=maxLen) (s10:we.size<=maxLen) :
 Calls prog 198 #[lv,.agg #[.string nm,.int .i64 1,.int .i64 le,.int .i64 mo,.slice a L.length cap,.string to,.int .i64 ro,.bool mu,.bool fx,.string df,.string we]] w fun e w'=>e=.returned (.bool (Zap nm&&(Ze8 L.length to ro&&ZbX le mo we&&(df.toList.isEmpty || ZaL 1 le mo L df))))/\Zw_ w w':=by
 have HL:=Zab hl;have HV:=Zab hv;have HW0:=Zab s0;have HW9:=Zab s9;have HW4:=Zab s10;obtain⟨la,lcap,rfl⟩:=hl.form;clear hl hv s0 s9 s10;generalize hQ:(Zap nm&&(Ze8 L.length to ro&&ZbX le mo we&&(df.toList.isEmpty || ZaL 1 le mo L df)))=Q;have HQ:=Zab hQ;clear hQ;have HW:∀ o,Hd (Zw_ w (w.alloc o)):=fun o=>Zb_.alloc Zl_ _
 go_enter func198,ntmps198;go_wp2_with fail;refine (Zae _ _ HW0.o).mono ?_;rintro e wx ⟨rfl,rfl⟩
 cases hnm:Zap nm with
 | false=>
  go_wp2;go_ret;exact⟨Zaa (by rw [<- HQ.o,hnm];rfl),(HW _).o⟩
 | true=>
  go_wp2_with fail;refine (ZqE nm to df we le mo ro mu fx a L.length cap _).mono ?_;rintro e w1 ⟨rfl,hb1⟩;have HC1:Hd (Below (w.heap.size+1) (w.alloc (.cells #[.string nm,.int .i64 1,.int .i64 le,.int .i64 mo,.slice a L.length cap,.string to,.int .i64 ro,.bool mu,.bool fx,.string df,.string we] 178)) w1):=by have:=hb1;simp at this;exact this
  have HB1:Hd (Zw_ w w1):=(HW _).o.trans (hb1.mono (by simp));have hbx:=fun i=>ZaK w w1 #[.string nm,.int .i64 1,.int .i64 le,.int .i64 mo,.slice a L.length cap,.string to,.int .i64 ro,.bool mu,.bool fx,.string df,.string we] 178 HC1.o i
  clear hb1
  cases hbr:Ze8 L.length to ro with
  | false=>
   go_wp2;go_ret;exact⟨Zaa (by rw [<- HQ.o,hnm,hbr];rfl),HB1.o⟩
  | true=>
   cases hd:df.toList.isEmpty with
   | true=>
    have hdf:(df.toList.isEmpty || ZaL 1 le mo L df)=true:=by simp [hd]
    have HDF:=Zab hdf;clear hdf
    by_cases h1:0<=le
    . by_cases h2:le<=mo
      . by_cases h3:mo<=1000000
        . cases he:we.toList.isEmpty with
          | true=>
           go_wp2;go_ret;exact⟨Zaa (by rw [<- HQ.o,HDF.o,hnm,hbr];simp [ZbX,Zai,h1,h2,h3,he]),HB1.o⟩
          | false=>
           go_wp2_with fail;refine (Zae _ _ HW4.o).mono ?_;rintro e wx ⟨rfl,rfl⟩;go_wp2;go_ret;exact⟨Zaa (by rw [<- HQ.o,HDF.o,hnm,hbr];simp [ZbX,Zai,h1,h2,h3,he]),HB1.o⟩
        . go_wp2
          go_ret;exact⟨Zaa (by rw [<- HQ.o,HDF.o,hnm,hbr];rw [Bool.eq_iff_iff];simp [ZbX];omega),HB1.o⟩
      . go_wp2
        go_ret;exact⟨Zaa (by rw [<- HQ.o,HDF.o,hnm,hbr];rw [Bool.eq_iff_iff];simp [ZbX];omega),HB1.o⟩
    . go_wp2
      go_ret;exact⟨Zaa (by rw [<- HQ.o,HDF.o,hnm,hbr];rw [Bool.eq_iff_iff];simp [ZbX];omega),HB1.o⟩
   | false=>
    go_wp2_with fail;refine (Zbn _ _ _ _ _ _ _ _ _ _ L _ _ _ (HV.o.below HB1.o) HW9.o).mono ?_;rintro e w2 ⟨rfl,hb2⟩;have HC2:Hd (Below (w.heap.size+1) (w.alloc (.cells #[.string nm,.int .i64 1,.int .i64 le,.int .i64 mo,.slice a L.length cap,.string to,.int .i64 ro,.bool mu,.bool fx,.string df,.string we] 178)) w2):=HC1.o.trans (hb2.mono (by have:=HC1.o.size;simp at this;omega));have HB2:Hd (Zw_ w w2):=HB1.o.trans (hb2.mono HB1.o.size);have hbx2:=fun i=>ZaK w w2 #[.string nm,.int .i64 1,.int .i64 le,.int .i64 mo,.slice a L.length cap,.string to,.int .i64 ro,.bool mu,.bool fx,.string df,.string we] 178 HC2.o i
    clear hb2 hbx
    cases hft:ZaL 1 le mo L df with
    | false=>
     go_wp2;go_ret;exact⟨Zaa (by rw [<- HQ.o,hnm,hbr,hd,hft];simp),HB2.o⟩
    | true=>
     have HDF:Hd ((df.toList.isEmpty || ZaL 1 le mo L df)=true):=by unfold Hd;simp [hft]
     by_cases h1:0<=le
     . by_cases h2:le<=mo
       . by_cases h3:mo<=1000000
         . cases he:we.toList.isEmpty with
           | true=>
            go_wp2;go_ret;exact⟨Zaa (by rw [<- HQ.o,HDF.o,hnm,hbr];simp [ZbX,Zai,h1,h2,h3,he]),HB2.o⟩
           | false=>
            go_wp2_with fail;refine (Zae _ _ HW4.o).mono ?_;rintro e wx ⟨rfl,rfl⟩;go_wp2;go_ret;exact⟨Zaa (by rw [<- HQ.o,HDF.o,hnm,hbr];simp [ZbX,Zai,h1,h2,h3,he]),HB2.o⟩
         . go_wp2
           go_ret;exact⟨Zaa (by rw [<- HQ.o,HDF.o,hnm,hbr];rw [Bool.eq_iff_iff];simp [ZbX];omega),HB2.o⟩
       . go_wp2
         go_ret;exact⟨Zaa (by rw [<- HQ.o,HDF.o,hnm,hbr];rw [Bool.eq_iff_iff];simp [ZbX];omega),HB2.o⟩
     . go_wp2
       go_ret;exact⟨Zaa (by rw [<- HQ.o,HDF.o,hnm,hbr];rw [Bool.eq_iff_iff];simp [ZbX];omega),HB2.o⟩
theorem ZmB (lo:Nat) (lv:Value) (Ss:List Sh) (hl:ZaH lo w lv Ss) (hv:Zaf w (.slice a L.length cap) L) (s0:nm.size<=maxLen) (s9:df.size<=maxLen) (s10:we.size<=maxLen) :
 Calls prog 198 #[lv,.agg #[.string nm,.int .i64 2,.int .i64 le,.int .i64 mo,.slice a L.length cap,.string to,.int .i64 ro,.bool mu,.bool fx,.string df,.string we]] w fun e w'=>e=.returned (.bool (Zap nm&&(Zez le mo to ro we&&ZdN L.length L&&(df.toList.isEmpty || ZaL 2 le mo L df))))/\Zw_ w w':=by
 have HL:=Zab hl;have HV:=Zab hv;have HW0:=Zab s0;have HW9:=Zab s9;have HW4:=Zab s10;obtain⟨la,lcap,rfl⟩:=hl.form;clear hl hv s0 s9 s10;generalize hQ:(Zap nm&&(Zez le mo to ro we&&ZdN L.length L&&(df.toList.isEmpty || ZaL 2 le mo L df)))=Q;have HQ:=Zab hQ;clear hQ;have HW:∀ o,Hd (Zw_ w (w.alloc o)):=fun o=>Zb_.alloc Zl_ _
 go_enter func198,ntmps198;go_wp2_with fail;refine (Zae _ _ HW0.o).mono ?_;rintro e wx ⟨rfl,rfl⟩
 cases hnm:Zap nm with
 | false=>
  go_wp2;go_ret;exact⟨Zaa (by rw [<- HQ.o,hnm];rfl),(HW _).o⟩
 | true=>
  go_wp2_with fail;refine (ZqF nm to df we le mo ro mu fx a L.length cap _).mono ?_;rintro e w1 ⟨rfl,hb1⟩;have HC1:Hd (Below (w.heap.size+1) (w.alloc (.cells #[.string nm,.int .i64 2,.int .i64 le,.int .i64 mo,.slice a L.length cap,.string to,.int .i64 ro,.bool mu,.bool fx,.string df,.string we] 178)) w1):=by have:=hb1;simp at this;exact this
  have HB1:Hd (Zw_ w w1):=(HW _).o.trans (hb1.mono (by simp));have hbx:=fun i=>ZaK w w1 #[.string nm,.int .i64 2,.int .i64 le,.int .i64 mo,.slice a L.length cap,.string to,.int .i64 ro,.bool mu,.bool fx,.string df,.string we] 178 HC1.o i
  clear hb1
  cases hbr:Zez le mo to ro we with
  | false=>
   go_wp2;go_ret;exact⟨Zaa (by rw [<- HQ.o,hnm,hbr];rfl),HB1.o⟩
  | true=>
   cases hd:df.toList.isEmpty with
   | true=>
    have hdf:(df.toList.isEmpty || ZaL 2 le mo L df)=true:=by simp [hd]
    have HDF:=Zab hdf;clear hdf;go_wp2_with fail;refine (Zao _ _ _ _).mono ?_;rintro e wx ⟨rfl,rfl⟩
    cases hi:inB 1 6 (L.length:Int) with
    | true=>
     go_wp2_with fail;refine (Zct _ L _ (HV.o.below HB1.o)).mono ?_;rintro e wy ⟨rfl,hby⟩;have HBy:Hd (Zw_ w wy):=HB1.o.trans (hby.mono HB1.o.size);clear hby
     go_wp2;go_ret;exact⟨Zaa (by rw [<- HQ.o,HDF.o,hnm,hbr,Zr2,hi];simp),HBy.o⟩
    | false=>
     go_wp2;go_ret;exact⟨Zaa (by rw [<- HQ.o,HDF.o,hnm,hbr,Zr2,hi];simp),HB1.o⟩
   | false=>
    go_wp2_with fail;refine (Zbn _ _ _ _ _ _ _ _ _ _ L _ _ _ (HV.o.below HB1.o) HW9.o).mono ?_;rintro e w2 ⟨rfl,hb2⟩;have HC2:Hd (Below (w.heap.size+1) (w.alloc (.cells #[.string nm,.int .i64 2,.int .i64 le,.int .i64 mo,.slice a L.length cap,.string to,.int .i64 ro,.bool mu,.bool fx,.string df,.string we] 178)) w2):=HC1.o.trans (hb2.mono (by have:=HC1.o.size;simp at this;omega));have HB2:Hd (Zw_ w w2):=HB1.o.trans (hb2.mono HB1.o.size);have hbx2:=fun i=>ZaK w w2 #[.string nm,.int .i64 2,.int .i64 le,.int .i64 mo,.slice a L.length cap,.string to,.int .i64 ro,.bool mu,.bool fx,.string df,.string we] 178 HC2.o i
    clear hb2 hbx
    cases hft:ZaL 2 le mo L df with
    | false=>
     go_wp2;go_ret;exact⟨Zaa (by rw [<- HQ.o,hnm,hbr,hd,hft];simp),HB2.o⟩
    | true=>
     have HDF:Hd ((df.toList.isEmpty || ZaL 2 le mo L df)=true):=by unfold Hd;simp [hft]
     go_wp2_with fail;refine (Zao _ _ _ _).mono ?_;rintro e wx ⟨rfl,rfl⟩
     cases hi:inB 1 6 (L.length:Int) with
     | true=>
      go_wp2_with fail;refine (Zct _ L _ (HV.o.below HB2.o)).mono ?_;rintro e wy ⟨rfl,hby⟩;have HBy:Hd (Zw_ w wy):=HB2.o.trans (hby.mono HB2.o.size);clear hby
      go_wp2;go_ret;exact⟨Zaa (by rw [<- HQ.o,HDF.o,hnm,hbr,Zr2,hi];simp),HBy.o⟩
     | false=>
      go_wp2;go_ret;exact⟨Zaa (by rw [<- HQ.o,HDF.o,hnm,hbr,Zr2,hi];simp),HB2.o⟩
theorem ZmC (lo:Nat) (lv:Value) (Ss:List Sh) (hl:ZaH lo w lv Ss) (hv:Zaf w (.slice a L.length cap) L) (s0:nm.size<=maxLen) (s9:df.size<=maxLen) (s10:we.size<=maxLen) :
 Calls prog 198 #[lv,.agg #[.string nm,.int .i64 3,.int .i64 le,.int .i64 mo,.slice a L.length cap,.string to,.int .i64 ro,.bool mu,.bool fx,.string df,.string we]] w fun e w'=>e=.returned (.bool (Zap nm&&(ZeN L.length to ro we&&ZcE le mo&&(df.toList.isEmpty || ZaL 3 le mo L df))))/\Zw_ w w':=by
 have HL:=Zab hl;have HV:=Zab hv;have HW0:=Zab s0;have HW9:=Zab s9;have HW4:=Zab s10;obtain⟨la,lcap,rfl⟩:=hl.form;clear hl hv s0 s9 s10;generalize hQ:(Zap nm&&(ZeN L.length to ro we&&ZcE le mo&&(df.toList.isEmpty || ZaL 3 le mo L df)))=Q;have HQ:=Zab hQ;clear hQ;have HW:∀ o,Hd (Zw_ w (w.alloc o)):=fun o=>Zb_.alloc Zl_ _
 go_enter func198,ntmps198;go_wp2_with fail;refine (Zae _ _ HW0.o).mono ?_;rintro e wx ⟨rfl,rfl⟩
 cases hnm:Zap nm with
 | false=>
  go_wp2;go_ret;exact⟨Zaa (by rw [<- HQ.o,hnm];rfl),(HW _).o⟩
 | true=>
  go_wp2_with fail;refine (ZqG nm to df we le mo ro mu fx a L.length cap _).mono ?_;rintro e w1 ⟨rfl,hb1⟩;have HC1:Hd (Below (w.heap.size+1) (w.alloc (.cells #[.string nm,.int .i64 3,.int .i64 le,.int .i64 mo,.slice a L.length cap,.string to,.int .i64 ro,.bool mu,.bool fx,.string df,.string we] 178)) w1):=by have:=hb1;simp at this;exact this
  have HB1:Hd (Zw_ w w1):=(HW _).o.trans (hb1.mono (by simp));have hbx:=fun i=>ZaK w w1 #[.string nm,.int .i64 3,.int .i64 le,.int .i64 mo,.slice a L.length cap,.string to,.int .i64 ro,.bool mu,.bool fx,.string df,.string we] 178 HC1.o i
  clear hb1
  cases hbr:ZeN L.length to ro we with
  | false=>
   go_wp2;go_ret;exact⟨Zaa (by rw [<- HQ.o,hnm,hbr];rfl),HB1.o⟩
  | true=>
   cases hd:df.toList.isEmpty with
   | true=>
    have hdf:(df.toList.isEmpty || ZaL 3 le mo L df)=true:=by simp [hd]
    have HDF:=Zab hdf;clear hdf
    by_cases h1:1<=le
    . by_cases h2:le<=mo
      . go_wp2
        go_ret;exact⟨Zaa (by rw [<- HQ.o,HDF.o,hnm,hbr];simp [ZcE,h1,h2]),HB1.o⟩
      . go_wp2
        go_ret;exact⟨Zaa (by rw [<- HQ.o,HDF.o,hnm,hbr];rw [Bool.eq_iff_iff];simp [ZcE];omega),HB1.o⟩
    . go_wp2
      go_ret;exact⟨Zaa (by rw [<- HQ.o,HDF.o,hnm,hbr];rw [Bool.eq_iff_iff];simp [ZcE];omega),HB1.o⟩
   | false=>
    go_wp2_with fail;refine (Zbn _ _ _ _ _ _ _ _ _ _ L _ _ _ (HV.o.below HB1.o) HW9.o).mono ?_;rintro e w2 ⟨rfl,hb2⟩;have HC2:Hd (Below (w.heap.size+1) (w.alloc (.cells #[.string nm,.int .i64 3,.int .i64 le,.int .i64 mo,.slice a L.length cap,.string to,.int .i64 ro,.bool mu,.bool fx,.string df,.string we] 178)) w2):=HC1.o.trans (hb2.mono (by have:=HC1.o.size;simp at this;omega));have HB2:Hd (Zw_ w w2):=HB1.o.trans (hb2.mono HB1.o.size);have hbx2:=fun i=>ZaK w w2 #[.string nm,.int .i64 3,.int .i64 le,.int .i64 mo,.slice a L.length cap,.string to,.int .i64 ro,.bool mu,.bool fx,.string df,.string we] 178 HC2.o i
    clear hb2 hbx
    cases hft:ZaL 3 le mo L df with
    | false=>
     go_wp2;go_ret;exact⟨Zaa (by rw [<- HQ.o,hnm,hbr,hd,hft];simp),HB2.o⟩
    | true=>
     have HDF:Hd ((df.toList.isEmpty || ZaL 3 le mo L df)=true):=by unfold Hd;simp [hft]
     by_cases h1:1<=le
     . by_cases h2:le<=mo
       . go_wp2
         go_ret;exact⟨Zaa (by rw [<- HQ.o,HDF.o,hnm,hbr];simp [ZcE,h1,h2]),HB2.o⟩
       . go_wp2
         go_ret;exact⟨Zaa (by rw [<- HQ.o,HDF.o,hnm,hbr];rw [Bool.eq_iff_iff];simp [ZcE];omega),HB2.o⟩
     . go_wp2
       go_ret;exact⟨Zaa (by rw [<- HQ.o,HDF.o,hnm,hbr];rw [Bool.eq_iff_iff];simp [ZcE];omega),HB2.o⟩
theorem ZmD (lo:Nat) (lv:Value) (Ss:List Sh) (hl:ZaH lo w lv Ss) (hv:Zaf w (.slice a L.length cap) L) (s0:nm.size<=maxLen) (s9:df.size<=maxLen) (s10:we.size<=maxLen) :
 Calls prog 198 #[lv,.agg #[.string nm,.int .i64 4,.int .i64 le,.int .i64 mo,.slice a L.length cap,.string to,.int .i64 ro,.bool mu,.bool fx,.string df,.string we]] w fun e w'=>e=.returned (.bool (Zap nm&&(ZeO le mo L.length we&&ZcX Ss to ro mu df&&(df.toList.isEmpty || ZaL 4 le mo L df))))/\Zw_ w w':=by
 have HL:=Zab hl;have HV:=Zab hv;have HW0:=Zab s0;have HW9:=Zab s9;have HW4:=Zab s10;obtain⟨la,lcap,rfl⟩:=hl.form;clear hl hv s0 s9 s10;generalize hQ:(Zap nm&&(ZeO le mo L.length we&&ZcX Ss to ro mu df&&(df.toList.isEmpty || ZaL 4 le mo L df)))=Q;have HQ:=Zab hQ;clear hQ;have HW:∀ o,Hd (Zw_ w (w.alloc o)):=fun o=>Zb_.alloc Zl_ _
 go_enter func198,ntmps198;go_wp2_with fail;refine (Zae _ _ HW0.o).mono ?_;rintro e wx ⟨rfl,rfl⟩
 cases hnm:Zap nm with
 | false=>
  go_wp2;go_ret;exact⟨Zaa (by rw [<- HQ.o,hnm];rfl),(HW _).o⟩
 | true=>
  go_wp2_with fail;refine (ZqH nm to df we le mo ro mu fx a L.length cap _).mono ?_;rintro e w1 ⟨rfl,hb1⟩;have HC1:Hd (Below (w.heap.size+1) (w.alloc (.cells #[.string nm,.int .i64 4,.int .i64 le,.int .i64 mo,.slice a L.length cap,.string to,.int .i64 ro,.bool mu,.bool fx,.string df,.string we] 178)) w1):=by have:=hb1;simp at this;exact this
  have HB1:Hd (Zw_ w w1):=(HW _).o.trans (hb1.mono (by simp));have hbx:=fun i=>ZaK w w1 #[.string nm,.int .i64 4,.int .i64 le,.int .i64 mo,.slice a L.length cap,.string to,.int .i64 ro,.bool mu,.bool fx,.string df,.string we] 178 HC1.o i
  clear hb1
  cases hbr:ZeO le mo L.length we with
  | false=>
   go_wp2;go_ret;exact⟨Zaa (by rw [<- HQ.o,hnm,hbr];rfl),HB1.o⟩
  | true=>
   cases hd:df.toList.isEmpty with
   | true=>
    have hdf:(df.toList.isEmpty || ZaL 4 le mo L df)=true:=by simp [hd]
    have HDF:=Zab hdf;clear hdf;go_wp2_with fail;refine (ZgS lo _ Ss _ _ (HL.o.below HB1.o)).mono ?_;rintro e wx ⟨rr,rfl,rfl,hrr⟩;have HR:=Zab hrr;clear hrr
    by_cases hr0:0<=rr
    . have HK:Hd (Zk0 Ss to=true):=by unfold Hd;rw [<- HR.o];simpa using hr0
      go_wp2_with fail;refine (Zao _ _ _ _).mono ?_;rintro e wx ⟨rfl,rfl⟩
      cases hi:inB 1 3 ro with
      | false=>
       go_wp2;go_ret;exact⟨Zaa (by rw [<- HQ.o,HDF.o,hnm,hbr,Zrg,hi];simp),HB1.o⟩
      | true=>
       cases h2:(ro != 2) with
       | true=>
        go_wp2;go_ret;exact⟨Zaa (by rw [<- HQ.o,HDF.o,hnm,hbr,Zrg,HK.o,hi,hd,h2];simp),HB1.o⟩
       | false=>
        go_wp2;go_ret;exact⟨Zaa (by rw [<- HQ.o,HDF.o,hnm,hbr,Zrg,HK.o,hi,hd,h2];simp),HB1.o⟩
    . have HK:Hd (Zk0 Ss to=false):=by unfold Hd;rw [<- HR.o];simpa using hr0
      go_wp2;go_ret;exact⟨Zaa (by rw [<- HQ.o,HDF.o,hnm,hbr,Zrg,HK.o];simp),HB1.o⟩
   | false=>
    go_wp2_with fail;refine (Zbn _ _ _ _ _ _ _ _ _ _ L _ _ _ (HV.o.below HB1.o) HW9.o).mono ?_;rintro e w2 ⟨rfl,hb2⟩;have HC2:Hd (Below (w.heap.size+1) (w.alloc (.cells #[.string nm,.int .i64 4,.int .i64 le,.int .i64 mo,.slice a L.length cap,.string to,.int .i64 ro,.bool mu,.bool fx,.string df,.string we] 178)) w2):=HC1.o.trans (hb2.mono (by have:=HC1.o.size;simp at this;omega));have HB2:Hd (Zw_ w w2):=HB1.o.trans (hb2.mono HB1.o.size);have hbx2:=fun i=>ZaK w w2 #[.string nm,.int .i64 4,.int .i64 le,.int .i64 mo,.slice a L.length cap,.string to,.int .i64 ro,.bool mu,.bool fx,.string df,.string we] 178 HC2.o i
    clear hb2 hbx
    cases hft:ZaL 4 le mo L df with
    | false=>
     go_wp2;go_ret;exact⟨Zaa (by rw [<- HQ.o,hnm,hbr,hd,hft];simp),HB2.o⟩
    | true=>
     have HDF:Hd ((df.toList.isEmpty || ZaL 4 le mo L df)=true):=by unfold Hd;simp [hft]
     go_wp2_with fail;refine (ZgS lo _ Ss _ _ (HL.o.below HB2.o)).mono ?_;rintro e wx ⟨rr,rfl,rfl,hrr⟩;have HR:=Zab hrr;clear hrr
     by_cases hr0:0<=rr
     . have HK:Hd (Zk0 Ss to=true):=by unfold Hd;rw [<- HR.o];simpa using hr0
       go_wp2_with fail;refine (Zao _ _ _ _).mono ?_;rintro e wx ⟨rfl,rfl⟩
       cases hi:inB 1 3 ro with
       | false=>
        go_wp2;go_ret;exact⟨Zaa (by rw [<- HQ.o,HDF.o,hnm,hbr,Zrg,hi];simp),HB2.o⟩
       | true=>
        go_wp2;go_ret;exact⟨Zaa (by rw [<- HQ.o,HDF.o,hnm,hbr,Zrg,hd];simp),HB2.o⟩
     . have HK:Hd (Zk0 Ss to=false):=by unfold Hd;rw [<- HR.o];simpa using hr0
       go_wp2;go_ret;exact⟨Zaa (by rw [<- HQ.o,HDF.o,hnm,hbr,Zrg,HK.o];simp),HB2.o⟩
end
end
variable {Fs:List Fd} {k j:Nat} {Ss:List Sh}
section
variable (nm to df we:Zy_) (le mo ro:Int) (mu fx:Bool) (a:Option Addr) (L:List Zy_) (cap:Nat) (w:World)
theorem Zmz (kd:Int) (lo:Nat) (lv:Value) (Ss:List Sh) (hl:ZaH lo w lv Ss) (hv:Zaf w (.slice a L.length cap) L) (s0:nm.size<=maxLen) (s9:df.size<=maxLen) (h1:kd≠1) (h2:kd≠2) (h3:kd≠3) (h4:kd≠4) :
 Calls prog 198 #[lv,.agg #[.string nm,.int .i64 kd,.int .i64 le,.int .i64 mo,.slice a L.length cap,.string to,.int .i64 ro,.bool mu,.bool fx,.string df,.string we]] w fun e w'=>e=.returned (.bool false)/\Zw_ w w':=by
 have HV:=Zab hv;have HW0:=Zab s0;have HW9:=Zab s9;obtain⟨la,lcap,rfl⟩:=hl.form;clear hl hv s0 s9;have HW:∀ o,Hd (Zw_ w (w.alloc o)):=fun o=>Zb_.alloc Zl_ _
 have HF:Hd (ZaL kd le mo L df=false):=Zqq h1 h2 h3 h4;have HBR:=Zab (fun u=>ZqD nm to df we le mo ro mu fx a L.length cap u kd h1 h2 h3 h4);have b1:(kd == 1)=false:=beq_eq_false_iff_ne.2 h1;have b2:(kd == 2)=false:=beq_eq_false_iff_ne.2 h2;have b3:(kd == 3)=false:=beq_eq_false_iff_ne.2 h3;have b4:(kd == 4)=false:=beq_eq_false_iff_ne.2 h4;clear h1 h2 h3 h4;go_enter func198,ntmps198;go_wp2_with fail;refine (Zae _ _ HW0.o).mono ?_;rintro e wx ⟨rfl,rfl⟩
 cases hnm:Zap nm with
 | false=>
  go_wp2;go_ret;exact⟨rfl,(HW _).o⟩
 | true=>
  go_wp2_with fail;refine (HBR.o _).mono ?_;rintro e w1 ⟨bb,rfl,hb1⟩;have HC1:Hd (Below (w.heap.size+1) (w.alloc (.cells #[.string nm,.int .i64 kd,.int .i64 le,.int .i64 mo,.slice a L.length cap,.string to,.int .i64 ro,.bool mu,.bool fx,.string df,.string we] 178)) w1):=by have:=hb1;simp at this;exact this
  have HB1:Hd (Zw_ w w1):=(HW _).o.trans (hb1.mono (by simp));have hbx:=fun i=>ZaK w w1 #[.string nm,.int .i64 kd,.int .i64 le,.int .i64 mo,.slice a L.length cap,.string to,.int .i64 ro,.bool mu,.bool fx,.string df,.string we] 178 HC1.o i
  clear hb1
  cases bb with
  | false=>
   go_wp2;go_ret;exact⟨rfl,HB1.o⟩
  | true=>
   cases hd:df.toList.isEmpty with
   | true=>
    go_wp2;go_ret;exact⟨rfl,HB1.o⟩
   | false=>
    go_wp2_with fail;refine (Zbn _ _ _ _ _ _ _ _ _ _ L _ _ _ (HV.o.below HB1.o) HW9.o).mono ?_;rintro e w2 ⟨rfl,hb2⟩;have HB2:Hd (Zw_ w w2):=HB1.o.trans (hb2.mono HB1.o.size);clear hb2 hbx;rw [HF.o];go_wp2;go_ret;exact⟨rfl,HB2.o⟩
end
def ZdG (Ss:List Sh) (f:Fd):Bool:=
 if f.kd=1 then Ze8 f.words.length f.to f.ro&&ZbX f.le f.mo f.we&&(f.df.toList.isEmpty || ZaL 1 f.le f.mo f.words f.df)
 else if f.kd=2 then Zez f.le f.mo f.to f.ro f.we&&ZdN f.words.length f.words&&(f.df.toList.isEmpty || ZaL 2 f.le f.mo f.words f.df)
 else if f.kd=3 then ZeN f.words.length f.to f.ro f.we&&ZcE f.le f.mo&&(f.df.toList.isEmpty || ZaL 3 f.le f.mo f.words f.df)
 else if f.kd=4 then ZeO f.le f.mo f.words.length f.we&&ZcX Ss f.to f.ro f.mu f.df&&(f.df.toList.isEmpty || ZaL 4 f.le f.mo f.words f.df)
 else false
theorem Zaf.form_len {w:World}{v:Value}{L:List Zy_} (h:Zaf w v L):∃ a cap,v=.slice a L.length cap:=by
 rcases h with ⟨a,cap,h,rfl⟩ | ⟨b,off,cap,h,_⟩
 . exact⟨a,cap,h⟩
 . exact⟨_,cap,h⟩
theorem Zfq (lo:Nat) (lv:Value) (Ss:List Sh) (f:Fd) (wv:Value) (w:World) (hl:ZaH lo w lv Ss) (hv:Zaf w wv f.words) (hz:ZeD f) :
 Calls prog 198 #[lv,.agg #[.string f.nm,.int .i64 f.kd,.int .i64 f.le,.int .i64 f.mo,wv,.string f.to,.int .i64 f.ro,.bool f.mu,.bool f.fx,.string f.df,.string f.we]] w
  fun e w'=>e=.returned (.bool (Zap f.nm&&ZdG Ss f))/\Zw_ w w':=by
 obtain⟨nm,kd,le,mo,words,to,ro,mu,fx,df,we⟩:=f;obtain⟨a,cap,rfl⟩:=hv.form_len;obtain⟨s0,s5,s9,s10⟩:=hz;simp only [ZdG] at*
 by_cases h1:kd=1
 . subst h1;rw [if_pos rfl];exact ZmA nm to df we le mo ro mu fx a words cap w lo lv Ss hl hv s0 s9 s10
 rw [if_neg h1]
 by_cases h2:kd=2
 . subst h2;rw [if_pos rfl];exact ZmB nm to df we le mo ro mu fx a words cap w lo lv Ss hl hv s0 s9 s10
 rw [if_neg h2]
 by_cases h3:kd=3
 . subst h3;rw [if_pos rfl];exact ZmC nm to df we le mo ro mu fx a words cap w lo lv Ss hl hv s0 s9 s10
 rw [if_neg h3]
 by_cases h4:kd=4
 . subst h4;rw [if_pos rfl];exact ZmD nm to df we le mo ro mu fx a words cap w lo lv Ss hl hv s0 s9 s10
 rw [if_neg h4,Bool.and_false];exact Zmz nm to df we le mo ro mu fx a words cap w kd lo lv Ss hl hv s0 s9 h1 h2 h3 h4
def ZlE (Fs:List Fd) (s:Zy_):Bool:=Fs.any fun x=>x.nm.toList == s.toList
theorem Zgl {s:Zy_} (hj:j < Fs.length) (hk:j < k) (h:(Fs[j].nm.toList == s.toList)=true):ZlE (Fs.take k) s=true:=by
 unfold ZlE;rw [List.any_eq_true];exact⟨Fs[j],List.mem_take_iff_getElem.2 ⟨j,by omega,rfl⟩,h⟩
theorem Zig {s:Zy_} (h:∀ j (hj:j < Fs.length),j < k->(Fs[j].nm.toList == s.toList)=false):ZlE (Fs.take k) s=false:=by
 unfold ZlE;rw [List.any_eq_false];intro x hx;obtain⟨j,hj,rfl⟩:=List.mem_take_iff_getElem.1 hx;simp [h j (by omega) (by omega)]
def Zbu (Ss:List Sh) (Fs:List Fd) (k:Nat):Bool:=
 match Fs[k]? with
 | some f=>Zap f.nm&&ZdG Ss f&&!ZlE (Fs.take k) f.nm
 | none=>true
def Zaz (Ss:List Sh) (Fs:List Fd):Bool:=decide (Fs.length<=6)&&(List.range Fs.length).all (Zbu Ss Fs)
theorem ZaG (h:k < Fs.length):Zbu Ss Fs k=(Zap Fs[k].nm&&ZdG Ss Fs[k]&&!ZlE (Fs.take k) Fs[k].nm):=by
 unfold Zbu;rw [List.getElem?_eq_getElem h]
def Za0 (Ss:List Sh) (i:Nat):Bool:=
 match Ss[i]? with
 | some x=>Zap x.kind&&(match Ss[i - 1]? with | some y=>i == 0 || Op.bytesLess y.kind.toList x.kind.toList | none=>true)&&Zaz Ss x.fields
 | none=>true
def ZaE (Ss:List Sh):Bool:=decide (Ss.length<=6)&&(List.range Ss.length).all (Za0 Ss)
theorem Zcv (h:0 < Ss.length):Za0 Ss 0=(Zap Ss[0].kind&&Zaz Ss Ss[0].fields):=by
 unfold Za0;rw [List.getElem?_eq_getElem h];simp
theorem ZbC (h:j+1 < Ss.length):Za0 Ss (j+1)=(Zap Ss[j+1].kind&&Op.bytesLess Ss[j].kind.toList Ss[j+1].kind.toList&&Zaz Ss Ss[j+1].fields):=by
 unfold Za0;rw [List.getElem?_eq_getElem h];simp [List.getElem?_eq_getElem (show j < Ss.length by omega)]
end Go.Proofs.YtmappejlmapboaaGreat
