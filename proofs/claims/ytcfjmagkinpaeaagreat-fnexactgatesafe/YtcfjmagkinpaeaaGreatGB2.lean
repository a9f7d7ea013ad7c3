import Derived.Test.YtcfjmagkinpaeaaGreatGB1
set_option maxHeartbeats 16000000
set_option maxRecDepth 100000
open Go.Proofs.Tryz
namespace Go.Proofs.YtcfjmagkinpaeaaGreat
open Go.RowKit Go.Deep
def Zb2 (le mo:Int) (n:Nat) (to:Zy_) (ro:Int) (we:Zy_):Bool:=(le == 0)&&(mo == 0)&&((n:Int) == 0)&&to.toList.isEmpty&&(ro == 0)&&we.toList.isEmpty
def Zak (s:Zy_):Bool:=s.toList.isEmpty || Zaj s
theorem ZbF (s:Zy_) (w:World) (hs:s.size≤maxLen) :
 Calls prog 139 #[.string s] w fun e w'=>e=.returned (.bool (Zak s))∧w'=w:=by
 have hk:=Zag s w hs
 cases he:s.toList.isEmpty with
 | true=>
  go_enter func139,ntmps139;go_wp2;go_ret;exact⟨Zaa (by simp [Zak,he]),rfl⟩
 | false=>
  go_enter func139,ntmps139;go_wp2_with fail;refine hk.mono ?_;rintro e w1 ⟨rfl,rfl⟩;go_wp2;go_ret;exact⟨Zaa (by simp [Zak,he]),rfl⟩
section
variable (nm to df we:Zy_) (le mo ro:Int) (mu fx:Bool) (a:Option Addr) (n cap:Nat) (w:World)
theorem ZeA (kd:Int) :
 Calls prog 237 #[.agg #[.string nm,.int .i64 kd,.int .i64 le,.int .i64 mo,.slice a n cap,.string to,.int .i64 ro,.bool mu,.bool fx,.string df,.string we]] w fun e w'=>e=.returned (.bool (Zb2 le mo n to ro we))∧Zw_ w w':=by
 cases hle:(le == 0) with
 | false=>
  have gle:(le != 0)=true:=by simp [bne,hle]
  go_enter func237,ntmps237;go_wp2;go_ret;exact⟨Zaa (by simp [Zb2,hle]),Zb_.alloc Zl_ _⟩
 | true=>
  have gle:(le != 0)=false:=by simp [bne,hle]
  cases hmo:(mo == 0) with
  | false=>
   have gmo:(mo != 0)=true:=by simp [bne,hmo]
   go_enter func237,ntmps237;go_wp2;go_ret;exact⟨Zaa (by simp [Zb2,hle,hmo]),Zb_.alloc Zl_ _⟩
  | true=>
   have gmo:(mo != 0)=false:=by simp [bne,hmo]
   cases hn:((n:Int) == 0) with
   | false=>
    have gn:(0:Int) < n:=by simp at hn;omega
    go_enter func237,ntmps237;go_wp2;go_ret;exact⟨Zaa (by simp [Zb2,hle,hmo,hn]),Zb_.alloc Zl_ _⟩
   | true=>
    have gn:¬ (0:Int) < n:=by simp at hn;omega
    cases hto:to.toList.isEmpty with
    | false=>
     go_enter func237,ntmps237;go_wp2;go_ret;exact⟨Zaa (by simp [Zb2,hle,hmo,hn,hto]),Zb_.alloc Zl_ _⟩
    | true=>
     cases hro:(ro == 0) with
     | false=>
      have gro:(ro != 0)=true:=by simp [bne,hro]
      go_enter func237,ntmps237;go_wp2;go_ret;exact⟨Zaa (by simp [Zb2,hle,hmo,hn,hto,hro]),Zb_.alloc Zl_ _⟩
     | true=>
      have gro:(ro != 0)=false:=by simp [bne,hro]
      cases hwe:we.toList.isEmpty with
      | false=>
       go_enter func237,ntmps237;go_wp2;go_ret;exact⟨Zaa (by simp [Zb2,hle,hmo,hn,hto,hro,hwe]),Zb_.alloc Zl_ _⟩
      | true=>
       go_enter func237,ntmps237;go_wp2;go_ret;exact⟨Zaa (by simp [Zb2,hle,hmo,hn,hto,hro,hwe]),Zb_.alloc Zl_ _⟩
theorem ZoZ (kd:Int) :
 Calls prog 278 #[.agg #[.int .i64 le,.int .i64 mo,.string we],.agg #[.string nm,.int .i64 kd,.int .i64 le,.int .i64 mo,.slice a n cap,.string to,.int .i64 ro,.bool mu,.bool fx,.string df,.string we]] w fun e w'=>e=.returned (.agg #[.string nm,.int .i64 kd,.int .i64 0,.int .i64 0,.slice a n cap,.string to,.int .i64 ro,.bool mu,.bool fx,.string df,.string ⟨#[]⟩])∧Zw_ w w':=by
 go_enter func278,ntmps278;go_wp2;refine bodyPost_ret (v:=.agg #[.string nm,.int .i64 kd,.int .i64 0,.int .i64 0,.slice a n cap,.string to,.int .i64 ro,.bool mu,.bool fx,.string df,.string ⟨#[]⟩]) (by simp [results,results278,go_sem]) rfl ⟨rfl,?_⟩
 repeat (first | exact Below.refl _ _ | refine Below.alloc ?_ (by simp;try omega) _ | refine Below.setCell ?_ (by simp only [];omega) _)
theorem Zo0 (kd:Int) :
 Calls prog 281 #[.agg #[.slice a n cap],.agg #[.string nm,.int .i64 kd,.int .i64 le,.int .i64 mo,.slice a n cap,.string to,.int .i64 ro,.bool mu,.bool fx,.string df,.string we]] w fun e w'=>e=.returned (.agg #[.string nm,.int .i64 kd,.int .i64 le,.int .i64 mo,.slice none 0 0,.string to,.int .i64 ro,.bool mu,.bool fx,.string df,.string we])∧Zw_ w w':=by
 go_enter func281,ntmps281;go_wp2;refine bodyPost_ret (v:=.agg #[.string nm,.int .i64 kd,.int .i64 le,.int .i64 mo,.slice none 0 0,.string to,.int .i64 ro,.bool mu,.bool fx,.string df,.string we]) (by simp [results,results281,go_sem]) rfl ⟨rfl,?_⟩
 repeat (first | exact Below.refl _ _ | refine Below.alloc ?_ (by simp;try omega) _ | refine Below.setCell ?_ (by simp only [];omega) _)
theorem Zo1 (kd:Int) :
 Calls prog 284 #[.agg #[.int .i64 le,.int .i64 mo],.agg #[.string nm,.int .i64 kd,.int .i64 le,.int .i64 mo,.slice a n cap,.string to,.int .i64 ro,.bool mu,.bool fx,.string df,.string we]] w fun e w'=>e=.returned (.agg #[.string nm,.int .i64 kd,.int .i64 0,.int .i64 0,.slice a n cap,.string to,.int .i64 ro,.bool mu,.bool fx,.string df,.string we])∧Zw_ w w':=by
 go_enter func284,ntmps284;go_wp2;refine bodyPost_ret (v:=.agg #[.string nm,.int .i64 kd,.int .i64 0,.int .i64 0,.slice a n cap,.string to,.int .i64 ro,.bool mu,.bool fx,.string df,.string we]) (by simp [results,results284,go_sem]) rfl ⟨rfl,?_⟩
 repeat (first | exact Below.refl _ _ | refine Below.alloc ?_ (by simp;try omega) _ | refine Below.setCell ?_ (by simp only [];omega) _)
theorem ZmR (kd:Int) :
 Calls prog 287 #[.agg #[.string to,.int .i64 ro,.bool mu,.string df],.agg #[.string nm,.int .i64 kd,.int .i64 le,.int .i64 mo,.slice a n cap,.string to,.int .i64 ro,.bool mu,.bool fx,.string df,.string we]] w fun e w'=>e=.returned (.agg #[.string nm,.int .i64 kd,.int .i64 le,.int .i64 mo,.slice a n cap,.string ⟨#[]⟩,.int .i64 0,.bool mu,.bool fx,.string df,.string we])∧Zw_ w w':=by
 go_enter func287,ntmps287;go_wp2;refine bodyPost_ret (v:=.agg #[.string nm,.int .i64 kd,.int .i64 le,.int .i64 mo,.slice a n cap,.string ⟨#[]⟩,.int .i64 0,.bool mu,.bool fx,.string df,.string we]) (by simp [results,results287,go_sem]) rfl ⟨rfl,?_⟩
 repeat (first | exact Below.refl _ _ | refine Below.alloc ?_ (by simp;try omega) _ | refine Below.setCell ?_ (by simp only [];omega) _)
def Ze9 (n:Nat) (to:Zy_) (ro:Int):Bool:=((n:Int) == 0)&&to.toList.isEmpty&&(ro == 0)
def ZeC (le mo:Int) (to:Zy_) (ro:Int) (we:Zy_):Bool:=(le == 0)&&(mo == 0)&&we.toList.isEmpty&&to.toList.isEmpty&&(ro == 0)
def ZeU (n:Nat) (to:Zy_) (ro:Int) (we:Zy_):Bool:=we.toList.isEmpty&&((n:Int) == 0)&&to.toList.isEmpty&&(ro == 0)
def ZeV (le mo:Int) (n:Nat) (we:Zy_):Bool:=(le == 0)&&(mo == 0)&&we.toList.isEmpty&&((n:Int) == 0)
theorem Zrp :
 Calls prog 233 #[.agg #[.string nm,.int .i64 1,.int .i64 le,.int .i64 mo,.slice a n cap,.string to,.int .i64 ro,.bool mu,.bool fx,.string df,.string we]] w fun e w'=>e=.returned (.bool (Ze9 n to ro))∧Zw_ w w':=by
 cases hn:((n:Int) == 0) with
 | false=>
  have gn:(0:Int) < n:=by simp at hn;omega
  go_enter func233,ntmps233;go_wp2;go_ret;exact⟨Zaa (by simp [Ze9,hn]),Zb_.alloc Zl_ _⟩
 | true=>
  have gn:¬ (0:Int) < n:=by simp at hn;omega
  cases hto:to.toList.isEmpty with
  | false=>
   go_enter func233,ntmps233;go_wp2;go_ret;exact⟨Zaa (by simp [Ze9,hn,hto]),Zb_.alloc Zl_ _⟩
  | true=>
   cases hro:(ro == 0) with
   | false=>
    have gro:(ro != 0)=true:=by simp [bne,hro]
    go_enter func233,ntmps233;go_wp2;go_ret;exact⟨Zaa (by simp [Ze9,hn,hto,hro]),Zb_.alloc Zl_ _⟩
   | true=>
    have gro:(ro != 0)=false:=by simp [bne,hro]
    go_enter func233,ntmps233;go_wp2;go_ret;exact⟨Zaa (by simp [Ze9,hn,hto,hro]),Zb_.alloc Zl_ _⟩
theorem Zrq :
 Calls prog 233 #[.agg #[.string nm,.int .i64 2,.int .i64 le,.int .i64 mo,.slice a n cap,.string to,.int .i64 ro,.bool mu,.bool fx,.string df,.string we]] w fun e w'=>e=.returned (.bool (ZeC le mo to ro we))∧Zw_ w w':=by
 cases hle:(le == 0) with
 | false=>
  have gle:(le != 0)=true:=by simp [bne,hle]
  go_enter func233,ntmps233;go_wp2;go_ret;exact⟨Zaa (by simp [ZeC,hle]),Zb_.alloc Zl_ _⟩
 | true=>
  have gle:(le != 0)=false:=by simp [bne,hle]
  cases hmo:(mo == 0) with
  | false=>
   have gmo:(mo != 0)=true:=by simp [bne,hmo]
   go_enter func233,ntmps233;go_wp2;go_ret;exact⟨Zaa (by simp [ZeC,hle,hmo]),Zb_.alloc Zl_ _⟩
  | true=>
   have gmo:(mo != 0)=false:=by simp [bne,hmo]
   cases hwe:we.toList.isEmpty with
   | false=>
    go_enter func233,ntmps233;go_wp2;go_ret;exact⟨Zaa (by simp [ZeC,hle,hmo,hwe]),Zb_.alloc Zl_ _⟩
   | true=>
    cases hto:to.toList.isEmpty with
    | false=>
     go_enter func233,ntmps233;go_wp2;go_ret;exact⟨Zaa (by simp [ZeC,hle,hmo,hwe,hto]),Zb_.alloc Zl_ _⟩
    | true=>
     cases hro:(ro == 0) with
     | false=>
      have gro:(ro != 0)=true:=by simp [bne,hro]
      go_enter func233,ntmps233;go_wp2;go_ret;exact⟨Zaa (by simp [ZeC,hle,hmo,hwe,hto,hro]),Zb_.alloc Zl_ _⟩
     | true=>
      have gro:(ro != 0)=false:=by simp [bne,hro]
      go_enter func233,ntmps233;go_wp2;go_ret;exact⟨Zaa (by simp [ZeC,hle,hmo,hwe,hto,hro]),Zb_.alloc Zl_ _⟩
theorem Zrr :
 Calls prog 233 #[.agg #[.string nm,.int .i64 3,.int .i64 le,.int .i64 mo,.slice a n cap,.string to,.int .i64 ro,.bool mu,.bool fx,.string df,.string we]] w fun e w'=>e=.returned (.bool (ZeU n to ro we))∧Zw_ w w':=by
 cases hwe:we.toList.isEmpty with
 | false=>
  go_enter func233,ntmps233;go_wp2;go_ret;exact⟨Zaa (by simp [ZeU,hwe]),Zb_.alloc Zl_ _⟩
 | true=>
  cases hn:((n:Int) == 0) with
  | false=>
   have gn:(0:Int) < n:=by simp at hn;omega
   go_enter func233,ntmps233;go_wp2;go_ret;exact⟨Zaa (by simp [ZeU,hwe,hn]),Zb_.alloc Zl_ _⟩
  | true=>
   have gn:¬ (0:Int) < n:=by simp at hn;omega
   cases hto:to.toList.isEmpty with
   | false=>
    go_enter func233,ntmps233;go_wp2;go_ret;exact⟨Zaa (by simp [ZeU,hwe,hn,hto]),Zb_.alloc Zl_ _⟩
   | true=>
    cases hro:(ro == 0) with
    | false=>
     have gro:(ro != 0)=true:=by simp [bne,hro]
     go_enter func233,ntmps233;go_wp2;go_ret;exact⟨Zaa (by simp [ZeU,hwe,hn,hto,hro]),Zb_.alloc Zl_ _⟩
    | true=>
     have gro:(ro != 0)=false:=by simp [bne,hro]
     go_enter func233,ntmps233;go_wp2;go_ret;exact⟨Zaa (by simp [ZeU,hwe,hn,hto,hro]),Zb_.alloc Zl_ _⟩
theorem Zrs :
 Calls prog 233 #[.agg #[.string nm,.int .i64 4,.int .i64 le,.int .i64 mo,.slice a n cap,.string to,.int .i64 ro,.bool mu,.bool fx,.string df,.string we]] w fun e w'=>e=.returned (.bool (ZeV le mo n we))∧Zw_ w w':=by
 cases hle:(le == 0) with
 | false=>
  have gle:(le != 0)=true:=by simp [bne,hle]
  go_enter func233,ntmps233;go_wp2;go_ret;exact⟨Zaa (by simp [ZeV,hle]),Zb_.alloc Zl_ _⟩
 | true=>
  have gle:(le != 0)=false:=by simp [bne,hle]
  cases hmo:(mo == 0) with
  | false=>
   have gmo:(mo != 0)=true:=by simp [bne,hmo]
   go_enter func233,ntmps233;go_wp2;go_ret;exact⟨Zaa (by simp [ZeV,hle,hmo]),Zb_.alloc Zl_ _⟩
  | true=>
   have gmo:(mo != 0)=false:=by simp [bne,hmo]
   cases hwe:we.toList.isEmpty with
   | false=>
    go_enter func233,ntmps233;go_wp2;go_ret;exact⟨Zaa (by simp [ZeV,hle,hmo,hwe]),Zb_.alloc Zl_ _⟩
   | true=>
    cases hn:((n:Int) == 0) with
    | false=>
     have gn:(0:Int) < n:=by simp at hn;omega
     go_enter func233,ntmps233;go_wp2;go_ret;exact⟨Zaa (by simp [ZeV,hle,hmo,hwe,hn]),Zb_.alloc Zl_ _⟩
    | true=>
     have gn:¬ (0:Int) < n:=by simp at hn;omega
     go_enter func233,ntmps233;go_wp2;go_ret;exact⟨Zaa (by simp [ZeV,hle,hmo,hwe,hn]),Zb_.alloc Zl_ _⟩
end
theorem ZaK (w u:World) (O:Array Value) (T:TypeId) (h:Below (w.heap.size+1) (w.alloc (.cells O T)) u) (i:Nat):u.cell? ⟨w.heap.size,i,none⟩=O[i]?:=by
 rw [h.cell (p:=⟨w.heap.size,i,none⟩) (by simp)];simp
def Zb5 (le mo:Int) (we:Zy_):Bool:=decide (0≤le)&&decide (le≤mo)&&decide (mo≤1000000)&&Zak we
def Zd1 (n:Nat) (L:List Zy_):Bool:=decide (1≤(n:Int))&&decide ((n:Int)≤6)&&Zlx L
def ZcL (le mo:Int):Bool:=decide (1≤le)&&decide (le≤mo)&&decide (mo≤40)
def ZkA (ro:Int) (mu:Bool):Bool:=ro == 1 || ro == 3 || ro == 2&&!mu
def Zdc (Ss:List Sh) (to:Zy_) (ro:Int) (mu:Bool) (df:Zy_):Bool:=Zk0 Ss to&&df.toList.isEmpty&&ZkA ro mu
theorem un1 (n:Nat) (to:Zy_) (ro:Int):Zb2 0 0 n to ro ⟨#[]⟩=Ze9 n to ro:=by simp [Zb2,Ze9,ByteArray.toList_eq]
theorem un2 (le mo:Int) (to:Zy_) (ro:Int) (we:Zy_):Zb2 le mo 0 to ro we=ZeC le mo to ro we:=by
 simp only [Zb2,ZeC];cases (le == 0) <;> cases (mo == 0) <;> cases to.toList.isEmpty <;> cases (ro == 0) <;> cases we.toList.isEmpty <;> rfl
theorem un3 (n:Nat) (to:Zy_) (ro:Int) (we:Zy_):Zb2 0 0 n to ro we=ZeU n to ro we:=by
 simp only [Zb2,ZeU];cases ((n:Int) == 0) <;> cases to.toList.isEmpty <;> cases (ro == 0) <;> cases we.toList.isEmpty <;> rfl
theorem un4 (le mo:Int) (n:Nat) (we:Zy_):Zb2 le mo n ⟨#[]⟩ 0 we=ZeV le mo n we:=by
 simp only [Zb2,ZeV,ByteArray.toList_eq];cases (le == 0) <;> cases (mo == 0) <;> cases ((n:Int) == 0) <;> cases we.data.toList.isEmpty <;> rfl
section
variable (nm to df we:Zy_) (le mo ro:Int) (mu fx:Bool) (a:Option Addr) (n cap:Nat) (w:World)
theorem Zro (kd:Int) (h1:kd≠1) (h2:kd≠2) (h3:kd≠3) (h4:kd≠4) :
 Calls prog 233 #[.agg #[.string nm,.int .i64 kd,.int .i64 le,.int .i64 mo,.slice a n cap,.string to,.int .i64 ro,.bool mu,.bool fx,.string df,.string we]] w fun e w'=>∃ b,e=.returned (.bool b)∧Zw_ w w':=by
 have b1:(kd == 1)=false:=beq_eq_false_iff_ne.2 h1;have b2:(kd == 2)=false:=beq_eq_false_iff_ne.2 h2;have b3:(kd == 3)=false:=beq_eq_false_iff_ne.2 h3;have b4:(kd == 4)=false:=beq_eq_false_iff_ne.2 h4;have c1:(kd != 1)=true:=by simp [bne,b1]
 have c2:(kd != 2)=true:=by simp [bne,b2]
 clear h1 h2 h3 h4;go_enter func233,ntmps233;go_wp2
 all_goals go_ret
 all_goals exact⟨_,rfl,Zb_.alloc Zl_ _⟩
theorem Zr5 (lv:Value) (hs:we.size≤maxLen) :
 Calls prog 277 #[.agg #[.int .i64 le,.int .i64 mo,.string we],lv] w fun e w'=>e=.returned (.bool (Zb5 le mo we))∧Zw_ w w':=by
 have HW:∀ o,Hid (Zw_ w (w.alloc o)):=fun o=>Zb_.alloc Zl_ _
 have hk:=fun u=>ZbF we u hs
 by_cases h1:0≤le
 · by_cases h2:le≤mo
   · by_cases h3:mo≤1000000
     · go_enter func277,ntmps277
       go_wp2_with fail;refine (hk _).mono ?_;rintro e w1 ⟨rfl,rfl⟩;go_wp2;go_ret;exact⟨Zaa (by simp [Zb5,h1,h2,h3]),(HW _).out⟩
     · go_enter func277,ntmps277
       go_wp2;go_ret;exact⟨Zaa (by rw [Bool.eq_iff_iff];simp [Zb5];omega),(HW _).out⟩
   · go_enter func277,ntmps277
     go_wp2;go_ret;exact⟨Zaa (by rw [Bool.eq_iff_iff];simp [Zb5];omega),(HW _).out⟩
 · go_enter func277,ntmps277
   go_wp2;go_ret;exact⟨Zaa (by rw [Bool.eq_iff_iff];simp [Zb5];omega),(HW _).out⟩
theorem Zr6 (lv:Value) (L:List Zy_) (hv:Zaf w (.slice a L.length cap) L) :
 Calls prog 280 #[.agg #[.slice a L.length cap],lv] w fun e w'=>e=.returned (.bool (Zd1 L.length L))∧Zw_ w w':=by
 have HV:=Zab hv;clear hv;have HW:∀ o,Hid (Zw_ w (w.alloc o)):=fun o=>Zb_.alloc Zl_ _
 by_cases h1:(1:Int)≤L.length
 · by_cases h2:(L.length:Int)≤6
   · go_enter func280,ntmps280
     go_wp2_with fail;refine (Zd5 _ L _ (HV.out.below (HW _).out)).mono ?_;rintro e w1 ⟨rfl,rfl⟩;go_wp2;go_ret;exact⟨Zaa (by simp [Zd1,h1,h2]),(HW _).out⟩
   · go_enter func280,ntmps280
     go_wp2;go_ret;exact⟨Zaa (by rw [Bool.eq_iff_iff];simp [Zd1];omega),(HW _).out⟩
 · go_enter func280,ntmps280
   go_wp2;go_ret;exact⟨Zaa (by rw [Bool.eq_iff_iff];simp [Zd1];omega),(HW _).out⟩
theorem Zr7 (lv:Value) :
 Calls prog 283 #[.agg #[.int .i64 le,.int .i64 mo],lv] w fun e w'=>e=.returned (.bool (ZcL le mo))∧Zw_ w w':=by
 have HW:∀ o,Hid (Zw_ w (w.alloc o)):=fun o=>Zb_.alloc Zl_ _
 by_cases h1:1≤le
 · by_cases h2:le≤mo
   · go_enter func283,ntmps283
     go_wp2;go_ret;exact⟨Zaa (by simp [ZcL,h1,h2]),(HW _).out⟩
   · go_enter func283,ntmps283
     go_wp2;go_ret;exact⟨Zaa (by rw [Bool.eq_iff_iff];simp [ZcL];omega),(HW _).out⟩
 · go_enter func283,ntmps283
   go_wp2;go_ret;exact⟨Zaa (by rw [Bool.eq_iff_iff];simp [ZcL];omega),(HW _).out⟩
theorem Zr8 (lo:Nat) (lv:Value) (Ss:List Sh) (hv:ZaU lo w lv Ss) :
 Calls prog 286 #[.agg #[.string to,.int .i64 ro,.bool mu,.string df],lv] w fun e w'=>e=.returned (.bool (Zdc Ss to ro mu df))∧Zw_ w w':=by
 have HV:=Zab hv;obtain⟨la,lcap,rfl⟩:=hv.form;clear hv;have HW:∀ o,Hid (Zw_ w (w.alloc o)):=fun o=>Zb_.alloc Zl_ _
 go_enter func286,ntmps286;go_wp2_with fail;refine (Ze2 lo _ Ss _ _ (HV.out.below (HW _).out)).mono ?_;rintro e w1 ⟨hb1,hsh⟩;have hz:w.heap.size < w1.heap.size:=by have:=hb1.size;simp at this;omega
 have hbx:=fun i=>ZaK w w1 #[.string to,.int .i64 ro,.bool mu,.string df] 331 (by have:=hb1;simp at this;exact this) i
 have HB:Hid (Zw_ w w1):=(HW _).out.trans (hb1.mono (by simp));clear hb1
 rcases hsh with ⟨x,fv,hx,rfl,hfd⟩ | ⟨hx,rfl⟩
 · have HK:Hid (Zk0 Ss to=true):=Zjc hx
   obtain⟨fa,fcap,rfl⟩:=hfd.form;clear hfd hx
   cases hd:df.toList.isEmpty with
   | false=>
    go_wp2;go_ret;exact⟨Zaa (by simp [Zdc,hd]),HB.out.alloc (by omega) _⟩
   | true=>
    cases a1:(ro == 1) with
    | true=>
     go_wp2;go_ret;exact⟨Zaa (by simp [Zdc,ZkA,hd,HK.out,a1]),HB.out.alloc (by omega) _⟩
    | false=>
     cases a3:(ro == 3) with
     | true=>
      go_wp2;go_ret;exact⟨Zaa (by simp [Zdc,ZkA,hd,HK.out,a1,a3]),HB.out.alloc (by omega) _⟩
     | false=>
      cases a2:(ro == 2) with
      | true=>
       go_wp2;go_ret;exact⟨Zaa (by simp [Zdc,ZkA,hd,HK.out,a1,a3,a2]),HB.out.alloc (by omega) _⟩
      | false=>
       go_wp2;go_ret;exact⟨Zaa (by simp [Zdc,ZkA,hd,HK.out,a1,a3,a2]),HB.out.alloc (by omega) _⟩
 · have HK:Hid (Zk0 Ss to=false):=Zjb hx
   clear hx;go_wp2;go_ret;exact⟨Zaa (by simp [Zdc,HK.out]),HB.out.alloc (by omega) _⟩
end
end Go.Proofs.YtcfjmagkinpaeaaGreat
