import Derived.Test.YtfohnageehneoaaGreatVS9
set_option maxHeartbeats 16000000
set_option maxRecDepth 100000
open Go.Proofs.Tryz
namespace Go.Proofs.YtfohnageehneoaaGreat
open Go.RowKit Go.Deep
theorem ZsX (n:Nat) (L:List Zy_):Zd8 n L=(inB 1 6 (n:Int)&&ZnT L):=by unfold Zd8;rw [Zej]
theorem Zrt (ro:Int) (mu:Bool):ZkM ro mu=(inB 1 3 ro&&((ro != 2) || !mu)):=by
 unfold ZkM inB
 by_cases h1:ro=1
 · subst h1;simp
 by_cases h2:ro=2
 · subst h2;simp
 by_cases h3:ro=3
 · subst h3;simp
 have hx:¬ (1≤ro∧ro≤3):=by omega
 simp [h1,h2,h3,hx]
theorem Zrp (Ss:List Sh) (to:Zy_) (ro:Int) (mu:Bool) (df:Zy_):Zdj Ss to ro mu df=(Zl9 Ss to&&inB 1 3 ro&&df.toList.isEmpty&&((ro != 2) || !mu)):=by
 unfold Zdj;rw [Zrt];cases Zl9 Ss to <;> cases df.toList.isEmpty <;> cases inB 1 3 ro <;> simp
section
variable (nm to df we:Zy_) (le mo ro:Int) (mu fx:Bool) (a:Option Addr) (L:List Zy_) (cap:Nat) (w:World)
theorem Znh (lo:Nat) (lv:Value) (Ss:List Sh) (hl:ZaP lo w lv Ss) (hv:Zag w (.slice a L.length cap) L) (s0:nm.size≤maxLen) (s9:df.size≤maxLen) (s10:we.size≤maxLen) :
 Calls prog 219 #[lv,.agg #[.string nm,.int .i64 1,.int .i64 le,.int .i64 mo,.slice a L.length cap,.string to,.int .i64 ro,.bool mu,.bool fx,.string df,.string we]] w fun e w'=>e=.returned (.bool (Zas nm&&(Zfk L.length to ro&&Zcc le mo we&&(df.toList.isEmpty || ZaM 1 le mo L df))))∧Zw_ w w':=by
 have HL:=Zab hl;have HV:=Zab hv;have HW0:=Zab s0;have HW9:=Zab s9;have HW4:=Zab s10;obtain⟨la,lcap,rfl⟩:=hl.form;clear hl hv s0 s9 s10;generalize hQ:(Zas nm&&(Zfk L.length to ro&&Zcc le mo we&&(df.toList.isEmpty || ZaM 1 le mo L df)))=Q;have HQ:=Zab hQ;clear hQ;have HW:∀ o,Hid (Zw_ w (w.alloc o)):=fun o=>Zb_.alloc Zl_ _
 go_enter func219,ntmps219;go_wp2_with fail;refine (Zaf _ _ HW0.out).mono ?_;rintro e wx ⟨rfl,rfl⟩
 cases hnm:Zas nm with
 | false=>
  go_wp2;go_ret;exact⟨Zaa (by rw [← HQ.out,hnm];rfl),(HW _).out⟩
 | true=>
  go_wp2_with fail;refine (Zrn nm to df we le mo ro mu fx a L.length cap _).mono ?_;rintro e w1 ⟨rfl,hb1⟩;have HC1:Hid (Below (w.heap.size+1) (w.alloc (.cells #[.string nm,.int .i64 1,.int .i64 le,.int .i64 mo,.slice a L.length cap,.string to,.int .i64 ro,.bool mu,.bool fx,.string df,.string we] 218)) w1):=by have:=hb1;simp at this;exact this
  have HB1:Hid (Zw_ w w1):=(HW _).out.trans (hb1.mono (by simp));have hbx:=fun i=>ZaN w w1 #[.string nm,.int .i64 1,.int .i64 le,.int .i64 mo,.slice a L.length cap,.string to,.int .i64 ro,.bool mu,.bool fx,.string df,.string we] 218 HC1.out i
  clear hb1
  cases hbr:Zfk L.length to ro with
  | false=>
   go_wp2;go_ret;exact⟨Zaa (by rw [← HQ.out,hnm,hbr];rfl),HB1.out⟩
  | true=>
   cases hd:df.toList.isEmpty with
   | true=>
    have hdf:(df.toList.isEmpty || ZaM 1 le mo L df)=true:=by simp [hd]
    have HDF:=Zab hdf;clear hdf
    by_cases h1:0≤le
    · by_cases h2:le≤mo
      · by_cases h3:mo≤1000000
        · cases he:we.toList.isEmpty with
          | true=>
           go_wp2;go_ret;exact⟨Zaa (by rw [← HQ.out,HDF.out,hnm,hbr];simp [Zcc,Zaj,h1,h2,h3,he]),HB1.out⟩
          | false=>
           go_wp2_with fail;refine (Zaf _ _ HW4.out).mono ?_;rintro e wx ⟨rfl,rfl⟩;go_wp2;go_ret;exact⟨Zaa (by rw [← HQ.out,HDF.out,hnm,hbr];simp [Zcc,Zaj,h1,h2,h3,he]),HB1.out⟩
        · go_wp2
          go_ret;exact⟨Zaa (by rw [← HQ.out,HDF.out,hnm,hbr];rw [Bool.eq_iff_iff];simp [Zcc];omega),HB1.out⟩
      · go_wp2
        go_ret;exact⟨Zaa (by rw [← HQ.out,HDF.out,hnm,hbr];rw [Bool.eq_iff_iff];simp [Zcc];omega),HB1.out⟩
    · go_wp2
      go_ret;exact⟨Zaa (by rw [← HQ.out,HDF.out,hnm,hbr];rw [Bool.eq_iff_iff];simp [Zcc];omega),HB1.out⟩
   | false=>
    go_wp2_with fail;refine (Zbt _ _ _ _ _ _ _ _ _ _ L _ _ _ (HV.out.below HB1.out) HW9.out).mono ?_;rintro e w2 ⟨rfl,hb2⟩;have HC2:Hid (Below (w.heap.size+1) (w.alloc (.cells #[.string nm,.int .i64 1,.int .i64 le,.int .i64 mo,.slice a L.length cap,.string to,.int .i64 ro,.bool mu,.bool fx,.string df,.string we] 218)) w2):=HC1.out.trans (hb2.mono (by have:=HC1.out.size;simp at this;omega));have HB2:Hid (Zw_ w w2):=HB1.out.trans (hb2.mono HB1.out.size);have hbx2:=fun i=>ZaN w w2 #[.string nm,.int .i64 1,.int .i64 le,.int .i64 mo,.slice a L.length cap,.string to,.int .i64 ro,.bool mu,.bool fx,.string df,.string we] 218 HC2.out i
    clear hb2 hbx
    cases hft:ZaM 1 le mo L df with
    | false=>
     go_wp2;go_ret;exact⟨Zaa (by rw [← HQ.out,hnm,hbr,hd,hft];simp),HB2.out⟩
    | true=>
     have HDF:Hid ((df.toList.isEmpty || ZaM 1 le mo L df)=true):=by unfold Hid;simp [hft]
     by_cases h1:0≤le
     · by_cases h2:le≤mo
       · by_cases h3:mo≤1000000
         · cases he:we.toList.isEmpty with
           | true=>
            go_wp2;go_ret;exact⟨Zaa (by rw [← HQ.out,HDF.out,hnm,hbr];simp [Zcc,Zaj,h1,h2,h3,he]),HB2.out⟩
           | false=>
            go_wp2_with fail;refine (Zaf _ _ HW4.out).mono ?_;rintro e wx ⟨rfl,rfl⟩;go_wp2;go_ret;exact⟨Zaa (by rw [← HQ.out,HDF.out,hnm,hbr];simp [Zcc,Zaj,h1,h2,h3,he]),HB2.out⟩
         · go_wp2
           go_ret;exact⟨Zaa (by rw [← HQ.out,HDF.out,hnm,hbr];rw [Bool.eq_iff_iff];simp [Zcc];omega),HB2.out⟩
       · go_wp2
         go_ret;exact⟨Zaa (by rw [← HQ.out,HDF.out,hnm,hbr];rw [Bool.eq_iff_iff];simp [Zcc];omega),HB2.out⟩
     · go_wp2
       go_ret;exact⟨Zaa (by rw [← HQ.out,HDF.out,hnm,hbr];rw [Bool.eq_iff_iff];simp [Zcc];omega),HB2.out⟩
theorem ZnL (lo:Nat) (lv:Value) (Ss:List Sh) (hl:ZaP lo w lv Ss) (hv:Zag w (.slice a L.length cap) L) (s0:nm.size≤maxLen) (s9:df.size≤maxLen) (s10:we.size≤maxLen) :
 Calls prog 219 #[lv,.agg #[.string nm,.int .i64 2,.int .i64 le,.int .i64 mo,.slice a L.length cap,.string to,.int .i64 ro,.bool mu,.bool fx,.string df,.string we]] w fun e w'=>e=.returned (.bool (Zas nm&&(ZeP le mo to ro we&&Zd8 L.length L&&(df.toList.isEmpty || ZaM 2 le mo L df))))∧Zw_ w w':=by
 have HL:=Zab hl;have HV:=Zab hv;have HW0:=Zab s0;have HW9:=Zab s9;have HW4:=Zab s10;obtain⟨la,lcap,rfl⟩:=hl.form;clear hl hv s0 s9 s10;generalize hQ:(Zas nm&&(ZeP le mo to ro we&&Zd8 L.length L&&(df.toList.isEmpty || ZaM 2 le mo L df)))=Q;have HQ:=Zab hQ;clear hQ;have HW:∀ o,Hid (Zw_ w (w.alloc o)):=fun o=>Zb_.alloc Zl_ _
 go_enter func219,ntmps219;go_wp2_with fail;refine (Zaf _ _ HW0.out).mono ?_;rintro e wx ⟨rfl,rfl⟩
 cases hnm:Zas nm with
 | false=>
  go_wp2;go_ret;exact⟨Zaa (by rw [← HQ.out,hnm];rfl),(HW _).out⟩
 | true=>
  go_wp2_with fail;refine (ZrZ nm to df we le mo ro mu fx a L.length cap _).mono ?_;rintro e w1 ⟨rfl,hb1⟩;have HC1:Hid (Below (w.heap.size+1) (w.alloc (.cells #[.string nm,.int .i64 2,.int .i64 le,.int .i64 mo,.slice a L.length cap,.string to,.int .i64 ro,.bool mu,.bool fx,.string df,.string we] 218)) w1):=by have:=hb1;simp at this;exact this
  have HB1:Hid (Zw_ w w1):=(HW _).out.trans (hb1.mono (by simp));have hbx:=fun i=>ZaN w w1 #[.string nm,.int .i64 2,.int .i64 le,.int .i64 mo,.slice a L.length cap,.string to,.int .i64 ro,.bool mu,.bool fx,.string df,.string we] 218 HC1.out i
  clear hb1
  cases hbr:ZeP le mo to ro we with
  | false=>
   go_wp2;go_ret;exact⟨Zaa (by rw [← HQ.out,hnm,hbr];rfl),HB1.out⟩
  | true=>
   cases hd:df.toList.isEmpty with
   | true=>
    have hdf:(df.toList.isEmpty || ZaM 2 le mo L df)=true:=by simp [hd]
    have HDF:=Zab hdf;clear hdf;go_wp2_with fail;refine (Zar _ _ _ _).mono ?_;rintro e wx ⟨rfl,rfl⟩
    cases hi:inB 1 6 (L.length:Int) with
    | true=>
     go_wp2_with fail;refine (ZcN _ L _ (HV.out.below HB1.out)).mono ?_;rintro e wy ⟨rfl,hby⟩;have HBy:Hid (Zw_ w wy):=HB1.out.trans (hby.mono HB1.out.size);clear hby
     go_wp2;go_ret;exact⟨Zaa (by rw [← HQ.out,HDF.out,hnm,hbr,ZsX,hi];simp),HBy.out⟩
    | false=>
     go_wp2;go_ret;exact⟨Zaa (by rw [← HQ.out,HDF.out,hnm,hbr,ZsX,hi];simp),HB1.out⟩
   | false=>
    go_wp2_with fail;refine (Zbt _ _ _ _ _ _ _ _ _ _ L _ _ _ (HV.out.below HB1.out) HW9.out).mono ?_;rintro e w2 ⟨rfl,hb2⟩;have HC2:Hid (Below (w.heap.size+1) (w.alloc (.cells #[.string nm,.int .i64 2,.int .i64 le,.int .i64 mo,.slice a L.length cap,.string to,.int .i64 ro,.bool mu,.bool fx,.string df,.string we] 218)) w2):=HC1.out.trans (hb2.mono (by have:=HC1.out.size;simp at this;omega));have HB2:Hid (Zw_ w w2):=HB1.out.trans (hb2.mono HB1.out.size);have hbx2:=fun i=>ZaN w w2 #[.string nm,.int .i64 2,.int .i64 le,.int .i64 mo,.slice a L.length cap,.string to,.int .i64 ro,.bool mu,.bool fx,.string df,.string we] 218 HC2.out i
    clear hb2 hbx
    cases hft:ZaM 2 le mo L df with
    | false=>
     go_wp2;go_ret;exact⟨Zaa (by rw [← HQ.out,hnm,hbr,hd,hft];simp),HB2.out⟩
    | true=>
     have HDF:Hid ((df.toList.isEmpty || ZaM 2 le mo L df)=true):=by unfold Hid;simp [hft]
     go_wp2_with fail;refine (Zar _ _ _ _).mono ?_;rintro e wx ⟨rfl,rfl⟩
     cases hi:inB 1 6 (L.length:Int) with
     | true=>
      go_wp2_with fail;refine (ZcN _ L _ (HV.out.below HB2.out)).mono ?_;rintro e wy ⟨rfl,hby⟩;have HBy:Hid (Zw_ w wy):=HB2.out.trans (hby.mono HB2.out.size);clear hby
      go_wp2;go_ret;exact⟨Zaa (by rw [← HQ.out,HDF.out,hnm,hbr,ZsX,hi];simp),HBy.out⟩
     | false=>
      go_wp2;go_ret;exact⟨Zaa (by rw [← HQ.out,HDF.out,hnm,hbr,ZsX,hi];simp),HB2.out⟩
theorem ZmT (lo:Nat) (lv:Value) (Ss:List Sh) (hl:ZaP lo w lv Ss) (hv:Zag w (.slice a L.length cap) L) (s0:nm.size≤maxLen) (s9:df.size≤maxLen) (s10:we.size≤maxLen) :
 Calls prog 219 #[lv,.agg #[.string nm,.int .i64 3,.int .i64 le,.int .i64 mo,.slice a L.length cap,.string to,.int .i64 ro,.bool mu,.bool fx,.string df,.string we]] w fun e w'=>e=.returned (.bool (Zas nm&&(Zfa L.length to ro we&&ZcY le mo&&(df.toList.isEmpty || ZaM 3 le mo L df))))∧Zw_ w w':=by
 have HL:=Zab hl;have HV:=Zab hv;have HW0:=Zab s0;have HW9:=Zab s9;have HW4:=Zab s10;obtain⟨la,lcap,rfl⟩:=hl.form;clear hl hv s0 s9 s10;generalize hQ:(Zas nm&&(Zfa L.length to ro we&&ZcY le mo&&(df.toList.isEmpty || ZaM 3 le mo L df)))=Q;have HQ:=Zab hQ;clear hQ;have HW:∀ o,Hid (Zw_ w (w.alloc o)):=fun o=>Zb_.alloc Zl_ _
 go_enter func219,ntmps219;go_wp2_with fail;refine (Zaf _ _ HW0.out).mono ?_;rintro e wx ⟨rfl,rfl⟩
 cases hnm:Zas nm with
 | false=>
  go_wp2;go_ret;exact⟨Zaa (by rw [← HQ.out,hnm];rfl),(HW _).out⟩
 | true=>
  go_wp2_with fail;refine (Zrz nm to df we le mo ro mu fx a L.length cap _).mono ?_;rintro e w1 ⟨rfl,hb1⟩;have HC1:Hid (Below (w.heap.size+1) (w.alloc (.cells #[.string nm,.int .i64 3,.int .i64 le,.int .i64 mo,.slice a L.length cap,.string to,.int .i64 ro,.bool mu,.bool fx,.string df,.string we] 218)) w1):=by have:=hb1;simp at this;exact this
  have HB1:Hid (Zw_ w w1):=(HW _).out.trans (hb1.mono (by simp));have hbx:=fun i=>ZaN w w1 #[.string nm,.int .i64 3,.int .i64 le,.int .i64 mo,.slice a L.length cap,.string to,.int .i64 ro,.bool mu,.bool fx,.string df,.string we] 218 HC1.out i
  clear hb1
  cases hbr:Zfa L.length to ro we with
  | false=>
   go_wp2;go_ret;exact⟨Zaa (by rw [← HQ.out,hnm,hbr];rfl),HB1.out⟩
  | true=>
   cases hd:df.toList.isEmpty with
   | true=>
    have hdf:(df.toList.isEmpty || ZaM 3 le mo L df)=true:=by simp [hd]
    have HDF:=Zab hdf;clear hdf
    by_cases h1:1≤le
    · by_cases h2:le≤mo
      · go_wp2
        go_ret;exact⟨Zaa (by rw [← HQ.out,HDF.out,hnm,hbr];simp [ZcY,h1,h2]),HB1.out⟩
      · go_wp2
        go_ret;exact⟨Zaa (by rw [← HQ.out,HDF.out,hnm,hbr];rw [Bool.eq_iff_iff];simp [ZcY];omega),HB1.out⟩
    · go_wp2
      go_ret;exact⟨Zaa (by rw [← HQ.out,HDF.out,hnm,hbr];rw [Bool.eq_iff_iff];simp [ZcY];omega),HB1.out⟩
   | false=>
    go_wp2_with fail;refine (Zbt _ _ _ _ _ _ _ _ _ _ L _ _ _ (HV.out.below HB1.out) HW9.out).mono ?_;rintro e w2 ⟨rfl,hb2⟩;have HC2:Hid (Below (w.heap.size+1) (w.alloc (.cells #[.string nm,.int .i64 3,.int .i64 le,.int .i64 mo,.slice a L.length cap,.string to,.int .i64 ro,.bool mu,.bool fx,.string df,.string we] 218)) w2):=HC1.out.trans (hb2.mono (by have:=HC1.out.size;simp at this;omega));have HB2:Hid (Zw_ w w2):=HB1.out.trans (hb2.mono HB1.out.size);have hbx2:=fun i=>ZaN w w2 #[.string nm,.int .i64 3,.int .i64 le,.int .i64 mo,.slice a L.length cap,.string to,.int .i64 ro,.bool mu,.bool fx,.string df,.string we] 218 HC2.out i
    clear hb2 hbx
    cases hft:ZaM 3 le mo L df with
    | false=>
     go_wp2;go_ret;exact⟨Zaa (by rw [← HQ.out,hnm,hbr,hd,hft];simp),HB2.out⟩
    | true=>
     have HDF:Hid ((df.toList.isEmpty || ZaM 3 le mo L df)=true):=by unfold Hid;simp [hft]
     by_cases h1:1≤le
     · by_cases h2:le≤mo
       · go_wp2
         go_ret;exact⟨Zaa (by rw [← HQ.out,HDF.out,hnm,hbr];simp [ZcY,h1,h2]),HB2.out⟩
       · go_wp2
         go_ret;exact⟨Zaa (by rw [← HQ.out,HDF.out,hnm,hbr];rw [Bool.eq_iff_iff];simp [ZcY];omega),HB2.out⟩
     · go_wp2
       go_ret;exact⟨Zaa (by rw [← HQ.out,HDF.out,hnm,hbr];rw [Bool.eq_iff_iff];simp [ZcY];omega),HB2.out⟩
theorem ZmZ (lo:Nat) (lv:Value) (Ss:List Sh) (hl:ZaP lo w lv Ss) (hv:Zag w (.slice a L.length cap) L) (s0:nm.size≤maxLen) (s9:df.size≤maxLen) (s10:we.size≤maxLen) :
 Calls prog 219 #[lv,.agg #[.string nm,.int .i64 4,.int .i64 le,.int .i64 mo,.slice a L.length cap,.string to,.int .i64 ro,.bool mu,.bool fx,.string df,.string we]] w fun e w'=>e=.returned (.bool (Zas nm&&(Ze1 le mo L.length we&&Zdj Ss to ro mu df&&(df.toList.isEmpty || ZaM 4 le mo L df))))∧Zw_ w w':=by
 have HL:=Zab hl;have HV:=Zab hv;have HW0:=Zab s0;have HW9:=Zab s9;have HW4:=Zab s10;obtain⟨la,lcap,rfl⟩:=hl.form;clear hl hv s0 s9 s10;generalize hQ:(Zas nm&&(Ze1 le mo L.length we&&Zdj Ss to ro mu df&&(df.toList.isEmpty || ZaM 4 le mo L df)))=Q;have HQ:=Zab hQ;clear hQ;have HW:∀ o,Hid (Zw_ w (w.alloc o)):=fun o=>Zb_.alloc Zl_ _
 go_enter func219,ntmps219;go_wp2_with fail;refine (Zaf _ _ HW0.out).mono ?_;rintro e wx ⟨rfl,rfl⟩
 cases hnm:Zas nm with
 | false=>
  go_wp2;go_ret;exact⟨Zaa (by rw [← HQ.out,hnm];rfl),(HW _).out⟩
 | true=>
  go_wp2_with fail;refine (ZrD nm to df we le mo ro mu fx a L.length cap _).mono ?_;rintro e w1 ⟨rfl,hb1⟩;have HC1:Hid (Below (w.heap.size+1) (w.alloc (.cells #[.string nm,.int .i64 4,.int .i64 le,.int .i64 mo,.slice a L.length cap,.string to,.int .i64 ro,.bool mu,.bool fx,.string df,.string we] 218)) w1):=by have:=hb1;simp at this;exact this
  have HB1:Hid (Zw_ w w1):=(HW _).out.trans (hb1.mono (by simp));have hbx:=fun i=>ZaN w w1 #[.string nm,.int .i64 4,.int .i64 le,.int .i64 mo,.slice a L.length cap,.string to,.int .i64 ro,.bool mu,.bool fx,.string df,.string we] 218 HC1.out i
  clear hb1
  cases hbr:Ze1 le mo L.length we with
  | false=>
   go_wp2;go_ret;exact⟨Zaa (by rw [← HQ.out,hnm,hbr];rfl),HB1.out⟩
  | true=>
   cases hd:df.toList.isEmpty with
   | true=>
    have hdf:(df.toList.isEmpty || ZaM 4 le mo L df)=true:=by simp [hd]
    have HDF:=Zab hdf;clear hdf;go_wp2_with fail;refine (Zhx lo _ Ss _ _ (HL.out.below HB1.out)).mono ?_;rintro e wx ⟨rr,rfl,rfl,hrr⟩;have HR:=Zab hrr;clear hrr
    by_cases hr0:0≤rr
    · have HK:Hid (Zl9 Ss to=true):=by unfold Hid;rw [← HR.out];simpa using hr0
      go_wp2_with fail;refine (Zar _ _ _ _).mono ?_;rintro e wx ⟨rfl,rfl⟩
      cases hi:inB 1 3 ro with
      | false=>
       go_wp2;go_ret;exact⟨Zaa (by rw [← HQ.out,HDF.out,hnm,hbr,Zrp,hi];simp),HB1.out⟩
      | true=>
       cases h2:(ro != 2) with
       | true=>
        go_wp2;go_ret;exact⟨Zaa (by rw [← HQ.out,HDF.out,hnm,hbr,Zrp,HK.out,hi,hd,h2];simp),HB1.out⟩
       | false=>
        go_wp2;go_ret;exact⟨Zaa (by rw [← HQ.out,HDF.out,hnm,hbr,Zrp,HK.out,hi,hd,h2];simp),HB1.out⟩
    · have HK:Hid (Zl9 Ss to=false):=by unfold Hid;rw [← HR.out];simpa using hr0
      go_wp2;go_ret;exact⟨Zaa (by rw [← HQ.out,HDF.out,hnm,hbr,Zrp,HK.out];simp),HB1.out⟩
   | false=>
    go_wp2_with fail;refine (Zbt _ _ _ _ _ _ _ _ _ _ L _ _ _ (HV.out.below HB1.out) HW9.out).mono ?_;rintro e w2 ⟨rfl,hb2⟩;have HC2:Hid (Below (w.heap.size+1) (w.alloc (.cells #[.string nm,.int .i64 4,.int .i64 le,.int .i64 mo,.slice a L.length cap,.string to,.int .i64 ro,.bool mu,.bool fx,.string df,.string we] 218)) w2):=HC1.out.trans (hb2.mono (by have:=HC1.out.size;simp at this;omega));have HB2:Hid (Zw_ w w2):=HB1.out.trans (hb2.mono HB1.out.size);have hbx2:=fun i=>ZaN w w2 #[.string nm,.int .i64 4,.int .i64 le,.int .i64 mo,.slice a L.length cap,.string to,.int .i64 ro,.bool mu,.bool fx,.string df,.string we] 218 HC2.out i
    clear hb2 hbx
    cases hft:ZaM 4 le mo L df with
    | false=>
     go_wp2;go_ret;exact⟨Zaa (by rw [← HQ.out,hnm,hbr,hd,hft];simp),HB2.out⟩
    | true=>
     have HDF:Hid ((df.toList.isEmpty || ZaM 4 le mo L df)=true):=by unfold Hid;simp [hft]
     go_wp2_with fail;refine (Zhx lo _ Ss _ _ (HL.out.below HB2.out)).mono ?_;rintro e wx ⟨rr,rfl,rfl,hrr⟩;have HR:=Zab hrr;clear hrr
     by_cases hr0:0≤rr
     · have HK:Hid (Zl9 Ss to=true):=by unfold Hid;rw [← HR.out];simpa using hr0
       go_wp2_with fail;refine (Zar _ _ _ _).mono ?_;rintro e wx ⟨rfl,rfl⟩
       cases hi:inB 1 3 ro with
       | false=>
        go_wp2;go_ret;exact⟨Zaa (by rw [← HQ.out,HDF.out,hnm,hbr,Zrp,hi];simp),HB2.out⟩
       | true=>
        go_wp2;go_ret;exact⟨Zaa (by rw [← HQ.out,HDF.out,hnm,hbr,Zrp,hd];simp),HB2.out⟩
     · have HK:Hid (Zl9 Ss to=false):=by unfold Hid;rw [← HR.out];simpa using hr0
       go_wp2;go_ret;exact⟨Zaa (by rw [← HQ.out,HDF.out,hnm,hbr,Zrp,HK.out];simp),HB2.out⟩
end
section
variable (nm to df we:Zy_) (le mo ro:Int) (mu fx:Bool) (a:Option Addr) (L:List Zy_) (cap:Nat) (w:World)
theorem ZnR (kd:Int) (lo:Nat) (lv:Value) (Ss:List Sh) (hl:ZaP lo w lv Ss) (hv:Zag w (.slice a L.length cap) L) (s0:nm.size≤maxLen) (s9:df.size≤maxLen) (h1:kd≠1) (h2:kd≠2) (h3:kd≠3) (h4:kd≠4) :
 Calls prog 219 #[lv,.agg #[.string nm,.int .i64 kd,.int .i64 le,.int .i64 mo,.slice a L.length cap,.string to,.int .i64 ro,.bool mu,.bool fx,.string df,.string we]] w fun e w'=>e=.returned (.bool false)∧Zw_ w w':=by
 have HV:=Zab hv;have HW0:=Zab s0;have HW9:=Zab s9;obtain⟨la,lcap,rfl⟩:=hl.form;clear hl hv s0 s9;have HW:∀ o,Hid (Zw_ w (w.alloc o)):=fun o=>Zb_.alloc Zl_ _
 have HF:Hid (ZaM kd le mo L df=false):=Zrr h1 h2 h3 h4;have HBR:=Zab (fun u=>Zrg nm to df we le mo ro mu fx a L.length cap u kd h1 h2 h3 h4);have b1:(kd == 1)=false:=beq_eq_false_iff_ne.2 h1;have b2:(kd == 2)=false:=beq_eq_false_iff_ne.2 h2;have b3:(kd == 3)=false:=beq_eq_false_iff_ne.2 h3;have b4:(kd == 4)=false:=beq_eq_false_iff_ne.2 h4;clear h1 h2 h3 h4;go_enter func219,ntmps219;go_wp2_with fail;refine (Zaf _ _ HW0.out).mono ?_;rintro e wx ⟨rfl,rfl⟩
 cases hnm:Zas nm with
 | false=>
  go_wp2;go_ret;exact⟨rfl,(HW _).out⟩
 | true=>
  go_wp2_with fail;refine (HBR.out _).mono ?_;rintro e w1 ⟨bb,rfl,hb1⟩;have HC1:Hid (Below (w.heap.size+1) (w.alloc (.cells #[.string nm,.int .i64 kd,.int .i64 le,.int .i64 mo,.slice a L.length cap,.string to,.int .i64 ro,.bool mu,.bool fx,.string df,.string we] 218)) w1):=by have:=hb1;simp at this;exact this
  have HB1:Hid (Zw_ w w1):=(HW _).out.trans (hb1.mono (by simp));have hbx:=fun i=>ZaN w w1 #[.string nm,.int .i64 kd,.int .i64 le,.int .i64 mo,.slice a L.length cap,.string to,.int .i64 ro,.bool mu,.bool fx,.string df,.string we] 218 HC1.out i
  clear hb1
  cases bb with
  | false=>
   go_wp2;go_ret;exact⟨rfl,HB1.out⟩
  | true=>
   cases hd:df.toList.isEmpty with
   | true=>
    go_wp2;go_ret;exact⟨rfl,HB1.out⟩
   | false=>
    go_wp2_with fail;refine (Zbt _ _ _ _ _ _ _ _ _ _ L _ _ _ (HV.out.below HB1.out) HW9.out).mono ?_;rintro e w2 ⟨rfl,hb2⟩;have HB2:Hid (Zw_ w w2):=HB1.out.trans (hb2.mono HB1.out.size);clear hb2 hbx;rw [HF.out];go_wp2;go_ret;exact⟨rfl,HB2.out⟩
end
def ZdY (Ss:List Sh) (f:Fd):Bool:=
 if f.kd=1 then Zfk f.words.length f.to f.ro&&Zcc f.le f.mo f.we&&(f.df.toList.isEmpty || ZaM 1 f.le f.mo f.words f.df)
 else if f.kd=2 then ZeP f.le f.mo f.to f.ro f.we&&Zd8 f.words.length f.words&&(f.df.toList.isEmpty || ZaM 2 f.le f.mo f.words f.df)
 else if f.kd=3 then Zfa f.words.length f.to f.ro f.we&&ZcY f.le f.mo&&(f.df.toList.isEmpty || ZaM 3 f.le f.mo f.words f.df)
 else if f.kd=4 then Ze1 f.le f.mo f.words.length f.we&&Zdj Ss f.to f.ro f.mu f.df&&(f.df.toList.isEmpty || ZaM 4 f.le f.mo f.words f.df)
 else false
theorem Zag.form_len {w:World} {v:Value} {L:List Zy_} (h:Zag w v L):∃ a cap,v=.slice a L.length cap:=by
 rcases h with ⟨a,cap,h,rfl⟩ | ⟨b,off,cap,h,_⟩
 · exact⟨a,cap,h⟩
 · exact⟨_,cap,h⟩
theorem Zfv (lo:Nat) (lv:Value) (Ss:List Sh) (f:Fd) (wv:Value) (w:World) (hl:ZaP lo w lv Ss) (hv:Zag w wv f.words) (hz:Ze0 f) :
 Calls prog 219 #[lv,.agg #[.string f.nm,.int .i64 f.kd,.int .i64 f.le,.int .i64 f.mo,wv,.string f.to,.int .i64 f.ro,.bool f.mu,.bool f.fx,.string f.df,.string f.we]] w
  fun e w'=>e=.returned (.bool (Zas f.nm&&ZdY Ss f))∧Zw_ w w':=by
 obtain⟨nm,kd,le,mo,words,to,ro,mu,fx,df,we⟩:=f;obtain⟨a,cap,rfl⟩:=hv.form_len;obtain⟨s0,s5,s9,s10⟩:=hz;simp only [ZdY] at*
 by_cases h1:kd=1
 · subst h1;rw [if_pos rfl];exact Znh nm to df we le mo ro mu fx a words cap w lo lv Ss hl hv s0 s9 s10
 rw [if_neg h1]
 by_cases h2:kd=2
 · subst h2;rw [if_pos rfl];exact ZnL nm to df we le mo ro mu fx a words cap w lo lv Ss hl hv s0 s9 s10
 rw [if_neg h2]
 by_cases h3:kd=3
 · subst h3;rw [if_pos rfl];exact ZmT nm to df we le mo ro mu fx a words cap w lo lv Ss hl hv s0 s9 s10
 rw [if_neg h3]
 by_cases h4:kd=4
 · subst h4;rw [if_pos rfl];exact ZmZ nm to df we le mo ro mu fx a words cap w lo lv Ss hl hv s0 s9 s10
 rw [if_neg h4,Bool.and_false];exact ZnR nm to df we le mo ro mu fx a words cap w kd lo lv Ss hl hv s0 s9 h1 h2 h3 h4
def Zno (Fs:List Fd) (s:Zy_):Bool:=Fs.any fun x=>x.nm.toList == s.toList
theorem ZgC {Fs:List Fd} {s:Zy_} {k j:Nat} (hj:j < Fs.length) (hk:j < k) (h:(Fs[j].nm.toList == s.toList)=true):Zno (Fs.take k) s=true:=by
 unfold Zno;rw [List.any_eq_true];exact⟨Fs[j],List.mem_take_iff_getElem.2 ⟨j,by omega,rfl⟩,h⟩
theorem ZiB {Fs:List Fd} {s:Zy_} {k:Nat} (h:∀ j (hj:j < Fs.length),j < k→(Fs[j].nm.toList == s.toList)=false):Zno (Fs.take k) s=false:=by
 unfold Zno;rw [List.any_eq_false];intro x hx;obtain⟨j,hj,rfl⟩:=List.mem_take_iff_getElem.1 hx;simp [h j (by omega) (by omega)]
def Zbz (Ss:List Sh) (Fs:List Fd) (k:Nat):Bool:=
 match Fs[k]? with
 | some f=>Zas f.nm&&ZdY Ss f&&!Zno (Fs.take k) f.nm
 | none=>true
def ZaD (Ss:List Sh) (Fs:List Fd):Bool:=decide (Fs.length≤6)&&(List.range Fs.length).all (Zbz Ss Fs)
theorem ZaI {Ss:List Sh} {Fs:List Fd} {k:Nat} (h:k < Fs.length):Zbz Ss Fs k=(Zas Fs[k].nm&&ZdY Ss Fs[k]&&!Zno (Fs.take k) Fs[k].nm):=by
 unfold Zbz;rw [List.getElem?_eq_getElem h]
def Za9 (Ss:List Sh) (i:Nat):Bool:=
 match Ss[i]? with
 | some x=>Zas x.kind&&(match Ss[i - 1]? with | some y=>i == 0 || Op.bytesLess y.kind.toList x.kind.toList | none=>true)&&ZaD Ss x.fields
 | none=>true
def ZaH (Ss:List Sh):Bool:=decide (Ss.length≤6)&&(List.range Ss.length).all (Za9 Ss)
theorem ZcL {Ss:List Sh} (h:0 < Ss.length):Za9 Ss 0=(Zas Ss[0].kind&&ZaD Ss Ss[0].fields):=by
 unfold Za9;rw [List.getElem?_eq_getElem h];simp
theorem ZbF {Ss:List Sh} {j:Nat} (h:j+1 < Ss.length):Za9 Ss (j+1)=(Zas Ss[j+1].kind&&Op.bytesLess Ss[j].kind.toList Ss[j+1].kind.toList&&ZaD Ss Ss[j+1].fields):=by
 unfold Za9;rw [List.getElem?_eq_getElem h];simp [List.getElem?_eq_getElem (show j < Ss.length by omega)]
end Go.Proofs.YtfohnageehneoaaGreat
