import Derived.Test.YtcfjmagkinpaeaaGreatGS9
set_option maxHeartbeats 16000000
set_option maxRecDepth 100000
open Go.Proofs.Tryz
namespace Go.Proofs.YtcfjmagkinpaeaaGreat
open Go.RowKit Go.Deep
theorem Zs4 (n:Nat) (L:List Zy_):Zd1 n L=(inB 1 6 (n:Int)&&Zlx L):=by unfold Zd1;rw [ZeN]
theorem ZrS (ro:Int) (mu:Bool):ZkA ro mu=(inB 1 3 ro&&((ro != 2) || !mu)):=by
 unfold ZkA inB
 by_cases h1:ro=1
 · subst h1;simp
 by_cases h2:ro=2
 · subst h2;simp
 by_cases h3:ro=3
 · subst h3;simp
 have hx:¬ (1≤ro∧ro≤3):=by omega
 simp [h1,h2,h3,hx]
theorem Zr4 (Ss:List Sh) (to:Zy_) (ro:Int) (mu:Bool) (df:Zy_):Zdc Ss to ro mu df=(Zk0 Ss to&&inB 1 3 ro&&df.toList.isEmpty&&((ro != 2) || !mu)):=by
 unfold Zdc;rw [ZrS];cases Zk0 Ss to <;> cases df.toList.isEmpty <;> cases inB 1 3 ro <;> simp
section
variable (nm to df we:Zy_) (le mo ro:Int) (mu fx:Bool) (a:Option Addr) (L:List Zy_) (cap:Nat) (w:World)
theorem Zmx (lo:Nat) (lv:Value) (Ss:List Sh) (hl:ZaU lo w lv Ss) (hv:Zaf w (.slice a L.length cap) L) (s0:nm.size≤maxLen) (s9:df.size≤maxLen) (s10:we.size≤maxLen) :
 Calls prog 198 #[lv,.agg #[.string nm,.int .i64 1,.int .i64 le,.int .i64 mo,.slice a L.length cap,.string to,.int .i64 ro,.bool mu,.bool fx,.string df,.string we]] w fun e w'=>e=.returned (.bool (Zaj nm&&(Ze9 L.length to ro&&Zb5 le mo we&&(df.toList.isEmpty || ZaL 1 le mo L df))))∧Zw_ w w':=by
 have HL:=Zab hl;have HV:=Zab hv;have HW0:=Zab s0;have HW9:=Zab s9;have HW4:=Zab s10;obtain⟨la,lcap,rfl⟩:=hl.form;clear hl hv s0 s9 s10;generalize hQ:(Zaj nm&&(Ze9 L.length to ro&&Zb5 le mo we&&(df.toList.isEmpty || ZaL 1 le mo L df)))=Q;have HQ:=Zab hQ;clear hQ;have HW:∀ o,Hid (Zw_ w (w.alloc o)):=fun o=>Zb_.alloc Zl_ _
 go_enter func198,ntmps198;go_wp2_with fail;refine (Zad _ _ HW0.out).mono ?_;rintro e wx ⟨rfl,rfl⟩
 cases hnm:Zaj nm with
 | false=>
  go_wp2;go_ret;exact⟨Zaa (by rw [← HQ.out,hnm];rfl),(HW _).out⟩
 | true=>
  go_wp2_with fail;refine (Zrp nm to df we le mo ro mu fx a L.length cap _).mono ?_;rintro e w1 ⟨rfl,hb1⟩;have HC1:Hid (Below (w.heap.size+1) (w.alloc (.cells #[.string nm,.int .i64 1,.int .i64 le,.int .i64 mo,.slice a L.length cap,.string to,.int .i64 ro,.bool mu,.bool fx,.string df,.string we] 187)) w1):=by have:=hb1;simp at this;exact this
  have HB1:Hid (Zw_ w w1):=(HW _).out.trans (hb1.mono (by simp));have hbx:=fun i=>ZaK w w1 #[.string nm,.int .i64 1,.int .i64 le,.int .i64 mo,.slice a L.length cap,.string to,.int .i64 ro,.bool mu,.bool fx,.string df,.string we] 187 HC1.out i
  clear hb1
  cases hbr:Ze9 L.length to ro with
  | false=>
   go_wp2;go_ret;exact⟨Zaa (by rw [← HQ.out,hnm,hbr];rfl),HB1.out⟩
  | true=>
   cases hd:df.toList.isEmpty with
   | true=>
    have hdf:(df.toList.isEmpty || ZaL 1 le mo L df)=true:=by simp [hd]
    have HDF:=Zab hdf;clear hdf
    by_cases h1:0≤le
    · by_cases h2:le≤mo
      · by_cases h3:mo≤1000000
        · cases he:we.toList.isEmpty with
          | true=>
           go_wp2;go_ret;exact⟨Zaa (by rw [← HQ.out,HDF.out,hnm,hbr];simp [Zb5,Zak,h1,h2,h3,he]),HB1.out⟩
          | false=>
           go_wp2_with fail;refine (Zad _ _ HW4.out).mono ?_;rintro e wx ⟨rfl,rfl⟩;go_wp2;go_ret;exact⟨Zaa (by rw [← HQ.out,HDF.out,hnm,hbr];simp [Zb5,Zak,h1,h2,h3,he]),HB1.out⟩
        · go_wp2
          go_ret;exact⟨Zaa (by rw [← HQ.out,HDF.out,hnm,hbr];rw [Bool.eq_iff_iff];simp [Zb5];omega),HB1.out⟩
      · go_wp2
        go_ret;exact⟨Zaa (by rw [← HQ.out,HDF.out,hnm,hbr];rw [Bool.eq_iff_iff];simp [Zb5];omega),HB1.out⟩
    · go_wp2
      go_ret;exact⟨Zaa (by rw [← HQ.out,HDF.out,hnm,hbr];rw [Bool.eq_iff_iff];simp [Zb5];omega),HB1.out⟩
   | false=>
    go_wp2_with fail;refine (Zbu _ _ _ _ _ _ _ _ _ _ L _ _ _ (HV.out.below HB1.out) HW9.out).mono ?_;rintro e w2 ⟨rfl,hb2⟩;have HC2:Hid (Below (w.heap.size+1) (w.alloc (.cells #[.string nm,.int .i64 1,.int .i64 le,.int .i64 mo,.slice a L.length cap,.string to,.int .i64 ro,.bool mu,.bool fx,.string df,.string we] 187)) w2):=HC1.out.trans (hb2.mono (by have:=HC1.out.size;simp at this;omega));have HB2:Hid (Zw_ w w2):=HB1.out.trans (hb2.mono HB1.out.size);have hbx2:=fun i=>ZaK w w2 #[.string nm,.int .i64 1,.int .i64 le,.int .i64 mo,.slice a L.length cap,.string to,.int .i64 ro,.bool mu,.bool fx,.string df,.string we] 187 HC2.out i
    clear hb2 hbx
    cases hft:ZaL 1 le mo L df with
    | false=>
     go_wp2;go_ret;exact⟨Zaa (by rw [← HQ.out,hnm,hbr,hd,hft];simp),HB2.out⟩
    | true=>
     have HDF:Hid ((df.toList.isEmpty || ZaL 1 le mo L df)=true):=by unfold Hid;simp [hft]
     by_cases h1:0≤le
     · by_cases h2:le≤mo
       · by_cases h3:mo≤1000000
         · cases he:we.toList.isEmpty with
           | true=>
            go_wp2;go_ret;exact⟨Zaa (by rw [← HQ.out,HDF.out,hnm,hbr];simp [Zb5,Zak,h1,h2,h3,he]),HB2.out⟩
           | false=>
            go_wp2_with fail;refine (Zad _ _ HW4.out).mono ?_;rintro e wx ⟨rfl,rfl⟩;go_wp2;go_ret;exact⟨Zaa (by rw [← HQ.out,HDF.out,hnm,hbr];simp [Zb5,Zak,h1,h2,h3,he]),HB2.out⟩
         · go_wp2
           go_ret;exact⟨Zaa (by rw [← HQ.out,HDF.out,hnm,hbr];rw [Bool.eq_iff_iff];simp [Zb5];omega),HB2.out⟩
       · go_wp2
         go_ret;exact⟨Zaa (by rw [← HQ.out,HDF.out,hnm,hbr];rw [Bool.eq_iff_iff];simp [Zb5];omega),HB2.out⟩
     · go_wp2
       go_ret;exact⟨Zaa (by rw [← HQ.out,HDF.out,hnm,hbr];rw [Bool.eq_iff_iff];simp [Zb5];omega),HB2.out⟩
theorem Zmy (lo:Nat) (lv:Value) (Ss:List Sh) (hl:ZaU lo w lv Ss) (hv:Zaf w (.slice a L.length cap) L) (s0:nm.size≤maxLen) (s9:df.size≤maxLen) (s10:we.size≤maxLen) :
 Calls prog 198 #[lv,.agg #[.string nm,.int .i64 2,.int .i64 le,.int .i64 mo,.slice a L.length cap,.string to,.int .i64 ro,.bool mu,.bool fx,.string df,.string we]] w fun e w'=>e=.returned (.bool (Zaj nm&&(ZeC le mo to ro we&&Zd1 L.length L&&(df.toList.isEmpty || ZaL 2 le mo L df))))∧Zw_ w w':=by
 have HL:=Zab hl;have HV:=Zab hv;have HW0:=Zab s0;have HW9:=Zab s9;have HW4:=Zab s10;obtain⟨la,lcap,rfl⟩:=hl.form;clear hl hv s0 s9 s10;generalize hQ:(Zaj nm&&(ZeC le mo to ro we&&Zd1 L.length L&&(df.toList.isEmpty || ZaL 2 le mo L df)))=Q;have HQ:=Zab hQ;clear hQ;have HW:∀ o,Hid (Zw_ w (w.alloc o)):=fun o=>Zb_.alloc Zl_ _
 go_enter func198,ntmps198;go_wp2_with fail;refine (Zad _ _ HW0.out).mono ?_;rintro e wx ⟨rfl,rfl⟩
 cases hnm:Zaj nm with
 | false=>
  go_wp2;go_ret;exact⟨Zaa (by rw [← HQ.out,hnm];rfl),(HW _).out⟩
 | true=>
  go_wp2_with fail;refine (Zrq nm to df we le mo ro mu fx a L.length cap _).mono ?_;rintro e w1 ⟨rfl,hb1⟩;have HC1:Hid (Below (w.heap.size+1) (w.alloc (.cells #[.string nm,.int .i64 2,.int .i64 le,.int .i64 mo,.slice a L.length cap,.string to,.int .i64 ro,.bool mu,.bool fx,.string df,.string we] 187)) w1):=by have:=hb1;simp at this;exact this
  have HB1:Hid (Zw_ w w1):=(HW _).out.trans (hb1.mono (by simp));have hbx:=fun i=>ZaK w w1 #[.string nm,.int .i64 2,.int .i64 le,.int .i64 mo,.slice a L.length cap,.string to,.int .i64 ro,.bool mu,.bool fx,.string df,.string we] 187 HC1.out i
  clear hb1
  cases hbr:ZeC le mo to ro we with
  | false=>
   go_wp2;go_ret;exact⟨Zaa (by rw [← HQ.out,hnm,hbr];rfl),HB1.out⟩
  | true=>
   cases hd:df.toList.isEmpty with
   | true=>
    have hdf:(df.toList.isEmpty || ZaL 2 le mo L df)=true:=by simp [hd]
    have HDF:=Zab hdf;clear hdf;go_wp2_with fail;refine (Zal _ _ _ _).mono ?_;rintro e wx ⟨rfl,rfl⟩
    cases hi:inB 1 6 (L.length:Int) with
    | true=>
     go_wp2_with fail;refine (Zbf _ L _ (HV.out.below HB1.out)).mono ?_;rintro e wy ⟨rfl,hby⟩;have HBy:Hid (Zw_ w wy):=HB1.out.trans (hby.mono HB1.out.size);clear hby
     go_wp2;go_ret;exact⟨Zaa (by rw [← HQ.out,HDF.out,hnm,hbr,Zs4,hi];simp),HBy.out⟩
    | false=>
     go_wp2;go_ret;exact⟨Zaa (by rw [← HQ.out,HDF.out,hnm,hbr,Zs4,hi];simp),HB1.out⟩
   | false=>
    go_wp2_with fail;refine (Zbu _ _ _ _ _ _ _ _ _ _ L _ _ _ (HV.out.below HB1.out) HW9.out).mono ?_;rintro e w2 ⟨rfl,hb2⟩;have HC2:Hid (Below (w.heap.size+1) (w.alloc (.cells #[.string nm,.int .i64 2,.int .i64 le,.int .i64 mo,.slice a L.length cap,.string to,.int .i64 ro,.bool mu,.bool fx,.string df,.string we] 187)) w2):=HC1.out.trans (hb2.mono (by have:=HC1.out.size;simp at this;omega));have HB2:Hid (Zw_ w w2):=HB1.out.trans (hb2.mono HB1.out.size);have hbx2:=fun i=>ZaK w w2 #[.string nm,.int .i64 2,.int .i64 le,.int .i64 mo,.slice a L.length cap,.string to,.int .i64 ro,.bool mu,.bool fx,.string df,.string we] 187 HC2.out i
    clear hb2 hbx
    cases hft:ZaL 2 le mo L df with
    | false=>
     go_wp2;go_ret;exact⟨Zaa (by rw [← HQ.out,hnm,hbr,hd,hft];simp),HB2.out⟩
    | true=>
     have HDF:Hid ((df.toList.isEmpty || ZaL 2 le mo L df)=true):=by unfold Hid;simp [hft]
     go_wp2_with fail;refine (Zal _ _ _ _).mono ?_;rintro e wx ⟨rfl,rfl⟩
     cases hi:inB 1 6 (L.length:Int) with
     | true=>
      go_wp2_with fail;refine (Zbf _ L _ (HV.out.below HB2.out)).mono ?_;rintro e wy ⟨rfl,hby⟩;have HBy:Hid (Zw_ w wy):=HB2.out.trans (hby.mono HB2.out.size);clear hby
      go_wp2;go_ret;exact⟨Zaa (by rw [← HQ.out,HDF.out,hnm,hbr,Zs4,hi];simp),HBy.out⟩
     | false=>
      go_wp2;go_ret;exact⟨Zaa (by rw [← HQ.out,HDF.out,hnm,hbr,Zs4,hi];simp),HB2.out⟩
theorem Zmz (lo:Nat) (lv:Value) (Ss:List Sh) (hl:ZaU lo w lv Ss) (hv:Zaf w (.slice a L.length cap) L) (s0:nm.size≤maxLen) (s9:df.size≤maxLen) (s10:we.size≤maxLen) :
 Calls prog 198 #[lv,.agg #[.string nm,.int .i64 3,.int .i64 le,.int .i64 mo,.slice a L.length cap,.string to,.int .i64 ro,.bool mu,.bool fx,.string df,.string we]] w fun e w'=>e=.returned (.bool (Zaj nm&&(ZeU L.length to ro we&&ZcL le mo&&(df.toList.isEmpty || ZaL 3 le mo L df))))∧Zw_ w w':=by
 have HL:=Zab hl;have HV:=Zab hv;have HW0:=Zab s0;have HW9:=Zab s9;have HW4:=Zab s10;obtain⟨la,lcap,rfl⟩:=hl.form;clear hl hv s0 s9 s10;generalize hQ:(Zaj nm&&(ZeU L.length to ro we&&ZcL le mo&&(df.toList.isEmpty || ZaL 3 le mo L df)))=Q;have HQ:=Zab hQ;clear hQ;have HW:∀ o,Hid (Zw_ w (w.alloc o)):=fun o=>Zb_.alloc Zl_ _
 go_enter func198,ntmps198;go_wp2_with fail;refine (Zad _ _ HW0.out).mono ?_;rintro e wx ⟨rfl,rfl⟩
 cases hnm:Zaj nm with
 | false=>
  go_wp2;go_ret;exact⟨Zaa (by rw [← HQ.out,hnm];rfl),(HW _).out⟩
 | true=>
  go_wp2_with fail;refine (Zrr nm to df we le mo ro mu fx a L.length cap _).mono ?_;rintro e w1 ⟨rfl,hb1⟩;have HC1:Hid (Below (w.heap.size+1) (w.alloc (.cells #[.string nm,.int .i64 3,.int .i64 le,.int .i64 mo,.slice a L.length cap,.string to,.int .i64 ro,.bool mu,.bool fx,.string df,.string we] 187)) w1):=by have:=hb1;simp at this;exact this
  have HB1:Hid (Zw_ w w1):=(HW _).out.trans (hb1.mono (by simp));have hbx:=fun i=>ZaK w w1 #[.string nm,.int .i64 3,.int .i64 le,.int .i64 mo,.slice a L.length cap,.string to,.int .i64 ro,.bool mu,.bool fx,.string df,.string we] 187 HC1.out i
  clear hb1
  cases hbr:ZeU L.length to ro we with
  | false=>
   go_wp2;go_ret;exact⟨Zaa (by rw [← HQ.out,hnm,hbr];rfl),HB1.out⟩
  | true=>
   cases hd:df.toList.isEmpty with
   | true=>
    have hdf:(df.toList.isEmpty || ZaL 3 le mo L df)=true:=by simp [hd]
    have HDF:=Zab hdf;clear hdf
    by_cases h1:1≤le
    · by_cases h2:le≤mo
      · go_wp2
        go_ret;exact⟨Zaa (by rw [← HQ.out,HDF.out,hnm,hbr];simp [ZcL,h1,h2]),HB1.out⟩
      · go_wp2
        go_ret;exact⟨Zaa (by rw [← HQ.out,HDF.out,hnm,hbr];rw [Bool.eq_iff_iff];simp [ZcL];omega),HB1.out⟩
    · go_wp2
      go_ret;exact⟨Zaa (by rw [← HQ.out,HDF.out,hnm,hbr];rw [Bool.eq_iff_iff];simp [ZcL];omega),HB1.out⟩
   | false=>
    go_wp2_with fail;refine (Zbu _ _ _ _ _ _ _ _ _ _ L _ _ _ (HV.out.below HB1.out) HW9.out).mono ?_;rintro e w2 ⟨rfl,hb2⟩;have HC2:Hid (Below (w.heap.size+1) (w.alloc (.cells #[.string nm,.int .i64 3,.int .i64 le,.int .i64 mo,.slice a L.length cap,.string to,.int .i64 ro,.bool mu,.bool fx,.string df,.string we] 187)) w2):=HC1.out.trans (hb2.mono (by have:=HC1.out.size;simp at this;omega));have HB2:Hid (Zw_ w w2):=HB1.out.trans (hb2.mono HB1.out.size);have hbx2:=fun i=>ZaK w w2 #[.string nm,.int .i64 3,.int .i64 le,.int .i64 mo,.slice a L.length cap,.string to,.int .i64 ro,.bool mu,.bool fx,.string df,.string we] 187 HC2.out i
    clear hb2 hbx
    cases hft:ZaL 3 le mo L df with
    | false=>
     go_wp2;go_ret;exact⟨Zaa (by rw [← HQ.out,hnm,hbr,hd,hft];simp),HB2.out⟩
    | true=>
     have HDF:Hid ((df.toList.isEmpty || ZaL 3 le mo L df)=true):=by unfold Hid;simp [hft]
     by_cases h1:1≤le
     · by_cases h2:le≤mo
       · go_wp2
         go_ret;exact⟨Zaa (by rw [← HQ.out,HDF.out,hnm,hbr];simp [ZcL,h1,h2]),HB2.out⟩
       · go_wp2
         go_ret;exact⟨Zaa (by rw [← HQ.out,HDF.out,hnm,hbr];rw [Bool.eq_iff_iff];simp [ZcL];omega),HB2.out⟩
     · go_wp2
       go_ret;exact⟨Zaa (by rw [← HQ.out,HDF.out,hnm,hbr];rw [Bool.eq_iff_iff];simp [ZcL];omega),HB2.out⟩
theorem ZmA (lo:Nat) (lv:Value) (Ss:List Sh) (hl:ZaU lo w lv Ss) (hv:Zaf w (.slice a L.length cap) L) (s0:nm.size≤maxLen) (s9:df.size≤maxLen) (s10:we.size≤maxLen) :
 Calls prog 198 #[lv,.agg #[.string nm,.int .i64 4,.int .i64 le,.int .i64 mo,.slice a L.length cap,.string to,.int .i64 ro,.bool mu,.bool fx,.string df,.string we]] w fun e w'=>e=.returned (.bool (Zaj nm&&(ZeV le mo L.length we&&Zdc Ss to ro mu df&&(df.toList.isEmpty || ZaL 4 le mo L df))))∧Zw_ w w':=by
 have HL:=Zab hl;have HV:=Zab hv;have HW0:=Zab s0;have HW9:=Zab s9;have HW4:=Zab s10;obtain⟨la,lcap,rfl⟩:=hl.form;clear hl hv s0 s9 s10;generalize hQ:(Zaj nm&&(ZeV le mo L.length we&&Zdc Ss to ro mu df&&(df.toList.isEmpty || ZaL 4 le mo L df)))=Q;have HQ:=Zab hQ;clear hQ;have HW:∀ o,Hid (Zw_ w (w.alloc o)):=fun o=>Zb_.alloc Zl_ _
 go_enter func198,ntmps198;go_wp2_with fail;refine (Zad _ _ HW0.out).mono ?_;rintro e wx ⟨rfl,rfl⟩
 cases hnm:Zaj nm with
 | false=>
  go_wp2;go_ret;exact⟨Zaa (by rw [← HQ.out,hnm];rfl),(HW _).out⟩
 | true=>
  go_wp2_with fail;refine (Zrs nm to df we le mo ro mu fx a L.length cap _).mono ?_;rintro e w1 ⟨rfl,hb1⟩;have HC1:Hid (Below (w.heap.size+1) (w.alloc (.cells #[.string nm,.int .i64 4,.int .i64 le,.int .i64 mo,.slice a L.length cap,.string to,.int .i64 ro,.bool mu,.bool fx,.string df,.string we] 187)) w1):=by have:=hb1;simp at this;exact this
  have HB1:Hid (Zw_ w w1):=(HW _).out.trans (hb1.mono (by simp));have hbx:=fun i=>ZaK w w1 #[.string nm,.int .i64 4,.int .i64 le,.int .i64 mo,.slice a L.length cap,.string to,.int .i64 ro,.bool mu,.bool fx,.string df,.string we] 187 HC1.out i
  clear hb1
  cases hbr:ZeV le mo L.length we with
  | false=>
   go_wp2;go_ret;exact⟨Zaa (by rw [← HQ.out,hnm,hbr];rfl),HB1.out⟩
  | true=>
   cases hd:df.toList.isEmpty with
   | true=>
    have hdf:(df.toList.isEmpty || ZaL 4 le mo L df)=true:=by simp [hd]
    have HDF:=Zab hdf;clear hdf;go_wp2_with fail;refine (ZgE lo _ Ss _ _ (HL.out.below HB1.out)).mono ?_;rintro e wx ⟨rr,rfl,rfl,hrr⟩;have HR:=Zab hrr;clear hrr
    by_cases hr0:0≤rr
    · have HK:Hid (Zk0 Ss to=true):=by unfold Hid;rw [← HR.out];simpa using hr0
      go_wp2_with fail;refine (Zal _ _ _ _).mono ?_;rintro e wx ⟨rfl,rfl⟩
      cases hi:inB 1 3 ro with
      | false=>
       go_wp2;go_ret;exact⟨Zaa (by rw [← HQ.out,HDF.out,hnm,hbr,Zr4,hi];simp),HB1.out⟩
      | true=>
       cases h2:(ro != 2) with
       | true=>
        go_wp2;go_ret;exact⟨Zaa (by rw [← HQ.out,HDF.out,hnm,hbr,Zr4,HK.out,hi,hd,h2];simp),HB1.out⟩
       | false=>
        go_wp2;go_ret;exact⟨Zaa (by rw [← HQ.out,HDF.out,hnm,hbr,Zr4,HK.out,hi,hd,h2];simp),HB1.out⟩
    · have HK:Hid (Zk0 Ss to=false):=by unfold Hid;rw [← HR.out];simpa using hr0
      go_wp2;go_ret;exact⟨Zaa (by rw [← HQ.out,HDF.out,hnm,hbr,Zr4,HK.out];simp),HB1.out⟩
   | false=>
    go_wp2_with fail;refine (Zbu _ _ _ _ _ _ _ _ _ _ L _ _ _ (HV.out.below HB1.out) HW9.out).mono ?_;rintro e w2 ⟨rfl,hb2⟩;have HC2:Hid (Below (w.heap.size+1) (w.alloc (.cells #[.string nm,.int .i64 4,.int .i64 le,.int .i64 mo,.slice a L.length cap,.string to,.int .i64 ro,.bool mu,.bool fx,.string df,.string we] 187)) w2):=HC1.out.trans (hb2.mono (by have:=HC1.out.size;simp at this;omega));have HB2:Hid (Zw_ w w2):=HB1.out.trans (hb2.mono HB1.out.size);have hbx2:=fun i=>ZaK w w2 #[.string nm,.int .i64 4,.int .i64 le,.int .i64 mo,.slice a L.length cap,.string to,.int .i64 ro,.bool mu,.bool fx,.string df,.string we] 187 HC2.out i
    clear hb2 hbx
    cases hft:ZaL 4 le mo L df with
    | false=>
     go_wp2;go_ret;exact⟨Zaa (by rw [← HQ.out,hnm,hbr,hd,hft];simp),HB2.out⟩
    | true=>
     have HDF:Hid ((df.toList.isEmpty || ZaL 4 le mo L df)=true):=by unfold Hid;simp [hft]
     go_wp2_with fail;refine (ZgE lo _ Ss _ _ (HL.out.below HB2.out)).mono ?_;rintro e wx ⟨rr,rfl,rfl,hrr⟩;have HR:=Zab hrr;clear hrr
     by_cases hr0:0≤rr
     · have HK:Hid (Zk0 Ss to=true):=by unfold Hid;rw [← HR.out];simpa using hr0
       go_wp2_with fail;refine (Zal _ _ _ _).mono ?_;rintro e wx ⟨rfl,rfl⟩
       cases hi:inB 1 3 ro with
       | false=>
        go_wp2;go_ret;exact⟨Zaa (by rw [← HQ.out,HDF.out,hnm,hbr,Zr4,hi];simp),HB2.out⟩
       | true=>
        go_wp2;go_ret;exact⟨Zaa (by rw [← HQ.out,HDF.out,hnm,hbr,Zr4,hd];simp),HB2.out⟩
     · have HK:Hid (Zk0 Ss to=false):=by unfold Hid;rw [← HR.out];simpa using hr0
       go_wp2;go_ret;exact⟨Zaa (by rw [← HQ.out,HDF.out,hnm,hbr,Zr4,HK.out];simp),HB2.out⟩
end
section
variable (nm to df we:Zy_) (le mo ro:Int) (mu fx:Bool) (a:Option Addr) (L:List Zy_) (cap:Nat) (w:World)
theorem Zmw (kd:Int) (lo:Nat) (lv:Value) (Ss:List Sh) (hl:ZaU lo w lv Ss) (hv:Zaf w (.slice a L.length cap) L) (s0:nm.size≤maxLen) (s9:df.size≤maxLen) (h1:kd≠1) (h2:kd≠2) (h3:kd≠3) (h4:kd≠4) :
 Calls prog 198 #[lv,.agg #[.string nm,.int .i64 kd,.int .i64 le,.int .i64 mo,.slice a L.length cap,.string to,.int .i64 ro,.bool mu,.bool fx,.string df,.string we]] w fun e w'=>e=.returned (.bool false)∧Zw_ w w':=by
 have HV:=Zab hv;have HW0:=Zab s0;have HW9:=Zab s9;obtain⟨la,lcap,rfl⟩:=hl.form;clear hl hv s0 s9;have HW:∀ o,Hid (Zw_ w (w.alloc o)):=fun o=>Zb_.alloc Zl_ _
 have HF:Hid (ZaL kd le mo L df=false):=Zrb h1 h2 h3 h4;have HBR:=Zab (fun u=>Zro nm to df we le mo ro mu fx a L.length cap u kd h1 h2 h3 h4);have b1:(kd == 1)=false:=beq_eq_false_iff_ne.2 h1;have b2:(kd == 2)=false:=beq_eq_false_iff_ne.2 h2;have b3:(kd == 3)=false:=beq_eq_false_iff_ne.2 h3;have b4:(kd == 4)=false:=beq_eq_false_iff_ne.2 h4;clear h1 h2 h3 h4;go_enter func198,ntmps198;go_wp2_with fail;refine (Zad _ _ HW0.out).mono ?_;rintro e wx ⟨rfl,rfl⟩
 cases hnm:Zaj nm with
 | false=>
  go_wp2;go_ret;exact⟨rfl,(HW _).out⟩
 | true=>
  go_wp2_with fail;refine (HBR.out _).mono ?_;rintro e w1 ⟨bb,rfl,hb1⟩;have HC1:Hid (Below (w.heap.size+1) (w.alloc (.cells #[.string nm,.int .i64 kd,.int .i64 le,.int .i64 mo,.slice a L.length cap,.string to,.int .i64 ro,.bool mu,.bool fx,.string df,.string we] 187)) w1):=by have:=hb1;simp at this;exact this
  have HB1:Hid (Zw_ w w1):=(HW _).out.trans (hb1.mono (by simp));have hbx:=fun i=>ZaK w w1 #[.string nm,.int .i64 kd,.int .i64 le,.int .i64 mo,.slice a L.length cap,.string to,.int .i64 ro,.bool mu,.bool fx,.string df,.string we] 187 HC1.out i
  clear hb1
  cases bb with
  | false=>
   go_wp2;go_ret;exact⟨rfl,HB1.out⟩
  | true=>
   cases hd:df.toList.isEmpty with
   | true=>
    go_wp2;go_ret;exact⟨rfl,HB1.out⟩
   | false=>
    go_wp2_with fail;refine (Zbu _ _ _ _ _ _ _ _ _ _ L _ _ _ (HV.out.below HB1.out) HW9.out).mono ?_;rintro e w2 ⟨rfl,hb2⟩;have HB2:Hid (Zw_ w w2):=HB1.out.trans (hb2.mono HB1.out.size);clear hb2 hbx;rw [HF.out];go_wp2;go_ret;exact⟨rfl,HB2.out⟩
end
def ZdU (Ss:List Sh) (f:Fd):Bool:=
 if f.kd=1 then Ze9 f.words.length f.to f.ro&&Zb5 f.le f.mo f.we&&(f.df.toList.isEmpty || ZaL 1 f.le f.mo f.words f.df)
 else if f.kd=2 then ZeC f.le f.mo f.to f.ro f.we&&Zd1 f.words.length f.words&&(f.df.toList.isEmpty || ZaL 2 f.le f.mo f.words f.df)
 else if f.kd=3 then ZeU f.words.length f.to f.ro f.we&&ZcL f.le f.mo&&(f.df.toList.isEmpty || ZaL 3 f.le f.mo f.words f.df)
 else if f.kd=4 then ZeV f.le f.mo f.words.length f.we&&Zdc Ss f.to f.ro f.mu f.df&&(f.df.toList.isEmpty || ZaL 4 f.le f.mo f.words f.df)
 else false
theorem Zaf.form_len {w:World} {v:Value} {L:List Zy_} (h:Zaf w v L):∃ a cap,v=.slice a L.length cap:=by
 rcases h with ⟨a,cap,h,rfl⟩ | ⟨b,off,cap,h,_⟩
 · exact⟨a,cap,h⟩
 · exact⟨_,cap,h⟩
theorem Zfo (lo:Nat) (lv:Value) (Ss:List Sh) (f:Fd) (wv:Value) (w:World) (hl:ZaU lo w lv Ss) (hv:Zaf w wv f.words) (hz:ZeG f) :
 Calls prog 198 #[lv,.agg #[.string f.nm,.int .i64 f.kd,.int .i64 f.le,.int .i64 f.mo,wv,.string f.to,.int .i64 f.ro,.bool f.mu,.bool f.fx,.string f.df,.string f.we]] w
  fun e w'=>e=.returned (.bool (Zaj f.nm&&ZdU Ss f))∧Zw_ w w':=by
 obtain⟨nm,kd,le,mo,words,to,ro,mu,fx,df,we⟩:=f;obtain⟨a,cap,rfl⟩:=hv.form_len;obtain⟨s0,s5,s9,s10⟩:=hz;simp only [ZdU] at*
 by_cases h1:kd=1
 · subst h1;rw [if_pos rfl];exact Zmx nm to df we le mo ro mu fx a words cap w lo lv Ss hl hv s0 s9 s10
 rw [if_neg h1]
 by_cases h2:kd=2
 · subst h2;rw [if_pos rfl];exact Zmy nm to df we le mo ro mu fx a words cap w lo lv Ss hl hv s0 s9 s10
 rw [if_neg h2]
 by_cases h3:kd=3
 · subst h3;rw [if_pos rfl];exact Zmz nm to df we le mo ro mu fx a words cap w lo lv Ss hl hv s0 s9 s10
 rw [if_neg h3]
 by_cases h4:kd=4
 · subst h4;rw [if_pos rfl];exact ZmA nm to df we le mo ro mu fx a words cap w lo lv Ss hl hv s0 s9 s10
 rw [if_neg h4,Bool.and_false];exact Zmw nm to df we le mo ro mu fx a words cap w kd lo lv Ss hl hv s0 s9 h1 h2 h3 h4
def ZlJ (Fs:List Fd) (s:Zy_):Bool:=Fs.any fun x=>x.nm.toList == s.toList
theorem Zf6 {Fs:List Fd} {s:Zy_} {k j:Nat} (hj:j < Fs.length) (hk:j < k) (h:(Fs[j].nm.toList == s.toList)=true):ZlJ (Fs.take k) s=true:=by
 unfold ZlJ;rw [List.any_eq_true];exact⟨Fs[j],List.mem_take_iff_getElem.2 ⟨j,by omega,rfl⟩,h⟩
theorem Zih {Fs:List Fd} {s:Zy_} {k:Nat} (h:∀ j (hj:j < Fs.length),j < k→(Fs[j].nm.toList == s.toList)=false):ZlJ (Fs.take k) s=false:=by
 unfold ZlJ;rw [List.any_eq_false];intro x hx;obtain⟨j,hj,rfl⟩:=List.mem_take_iff_getElem.1 hx;simp [h j (by omega) (by omega)]
def ZbE (Ss:List Sh) (Fs:List Fd) (k:Nat):Bool:=
 match Fs[k]? with
 | some f=>Zaj f.nm&&ZdU Ss f&&!ZlJ (Fs.take k) f.nm
 | none=>true
def ZaC (Ss:List Sh) (Fs:List Fd):Bool:=decide (Fs.length≤6)&&(List.range Fs.length).all (ZbE Ss Fs)
theorem ZaF {Ss:List Sh} {Fs:List Fd} {k:Nat} (h:k < Fs.length):ZbE Ss Fs k=(Zaj Fs[k].nm&&ZdU Ss Fs[k]&&!ZlJ (Fs.take k) Fs[k].nm):=by
 unfold ZbE;rw [List.getElem?_eq_getElem h]
def Za9 (Ss:List Sh) (i:Nat):Bool:=
 match Ss[i]? with
 | some x=>Zaj x.kind&&(match Ss[i - 1]? with | some y=>i == 0 || Op.bytesLess y.kind.toList x.kind.toList | none=>true)&&ZaC Ss x.fields
 | none=>true
def ZaE (Ss:List Sh):Bool:=decide (Ss.length≤6)&&(List.range Ss.length).all (Za9 Ss)
theorem ZcA {Ss:List Sh} (h:0 < Ss.length):Za9 Ss 0=(Zaj Ss[0].kind&&ZaC Ss Ss[0].fields):=by
 unfold Za9;rw [List.getElem?_eq_getElem h];simp
theorem ZbK {Ss:List Sh} {j:Nat} (h:j+1 < Ss.length):Za9 Ss (j+1)=(Zaj Ss[j+1].kind&&Op.bytesLess Ss[j].kind.toList Ss[j+1].kind.toList&&ZaC Ss Ss[j+1].fields):=by
 unfold Za9;rw [List.getElem?_eq_getElem h];simp [List.getElem?_eq_getElem (show j < Ss.length by omega)]
end Go.Proofs.YtcfjmagkinpaeaaGreat
