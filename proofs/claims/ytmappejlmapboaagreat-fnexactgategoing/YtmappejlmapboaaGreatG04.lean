import Derived.Test.YtmappejlmapboaaGreatG03
set_option maxHeartbeats 16000000
set_option maxRecDepth 100000
open Go.Proofs.Tryz
namespace Go.Proofs.YtmappejlmapboaaGreat
open Go.RowKit Go.Deep
section
def Zb4 (le mo:Int) (n:Nat) (to:Zy_) (ro:Int) (we:Zy_):Bool:=(le == 0)&&(mo == 0)&&((n:Int) == 0)&&to.toList.isEmpty&&(ro == 0)&&we.toList.isEmpty
def Zai (s:Zy_):Bool:=s.toList.isEmpty || Zap s
theorem ZbJ (s:Zy_) (w:World) (hs:s.size<=maxLen) :
 Calls prog 216 #[.string s] w fun e w'=>e=.returned (.bool (Zai s))/\w'=w:=by
 have hk:=Zan s w hs
 cases he:s.toList.isEmpty with
 | true=>
  go_enter func216,ntmps216;go_wp2;go_ret;exact⟨Zaa (by simp [Zai,he]),rfl⟩
 | false=>
  go_enter func216,ntmps216;go_wp2_with fail;refine hk.mono ?_;rintro e w1 ⟨rfl,rfl⟩;go_wp2;go_ret;exact⟨Zaa (by simp [Zai,he]),rfl⟩
section
variable (nm to df we:Zy_) (le mo ro:Int) (mu fx:Bool) (a:Option Addr) (n cap:Nat) (w:World)
theorem Ze0 (kd:Int) :
 Calls prog 282 #[.agg #[.string nm,.int .i64 kd,.int .i64 le,.int .i64 mo,.slice a n cap,.string to,.int .i64 ro,.bool mu,.bool fx,.string df,.string we]] w fun e w'=>e=.returned (.bool (Zb4 le mo n to ro we))/\Zw_ w w':=by
 cases hle:(le == 0) with
 | false=>
  have gle:(le != 0)=true:=by simp [bne,hle]
  go_enter func282,ntmps282;go_wp2;go_ret;exact⟨Zaa (by simp [Zb4,hle]),Zb_.alloc Zl_ _⟩
 | true=>
  have gle:(le != 0)=false:=by simp [bne,hle]
  cases hmo:(mo == 0) with
  | false=>
   have gmo:(mo != 0)=true:=by simp [bne,hmo]
   go_enter func282,ntmps282;go_wp2;go_ret;exact⟨Zaa (by simp [Zb4,hle,hmo]),Zb_.alloc Zl_ _⟩
  | true=>
   have gmo:(mo != 0)=false:=by simp [bne,hmo]
   cases hn:((n:Int) == 0) with
   | false=>
    have gn:(0:Int) < n:=by simp at hn;omega
    go_enter func282,ntmps282;go_wp2;go_ret;exact⟨Zaa (by simp [Zb4,hle,hmo,hn]),Zb_.alloc Zl_ _⟩
   | true=>
    have gn:¬ (0:Int) < n:=by simp at hn;omega
    cases hto:to.toList.isEmpty with
    | false=>
     go_enter func282,ntmps282;go_wp2;go_ret;exact⟨Zaa (by simp [Zb4,hle,hmo,hn,hto]),Zb_.alloc Zl_ _⟩
    | true=>
     cases hro:(ro == 0) with
     | false=>
      have gro:(ro != 0)=true:=by simp [bne,hro]
      go_enter func282,ntmps282;go_wp2;go_ret;exact⟨Zaa (by simp [Zb4,hle,hmo,hn,hto,hro]),Zb_.alloc Zl_ _⟩
     | true=>
      have gro:(ro != 0)=false:=by simp [bne,hro]
      cases hwe:we.toList.isEmpty with
      | false=>
       go_enter func282,ntmps282;go_wp2;go_ret;exact⟨Zaa (by simp [Zb4,hle,hmo,hn,hto,hro,hwe]),Zb_.alloc Zl_ _⟩
      | true=>
       go_enter func282,ntmps282;go_wp2;go_ret;exact⟨Zaa (by simp [Zb4,hle,hmo,hn,hto,hro,hwe]),Zb_.alloc Zl_ _⟩
theorem Zqy (kd:Int) :
 Calls prog 317 #[.agg #[.int .i64 le,.int .i64 mo,.string we],.agg #[.string nm,.int .i64 kd,.int .i64 le,.int .i64 mo,.slice a n cap,.string to,.int .i64 ro,.bool mu,.bool fx,.string df,.string we]] w fun e w'=>e=.returned (.agg #[.string nm,.int .i64 kd,.int .i64 0,.int .i64 0,.slice a n cap,.string to,.int .i64 ro,.bool mu,.bool fx,.string df,.string ⟨#[]⟩])/\Zw_ w w':=by
 go_enter func317,ntmps317;go_wp2;refine bodyPost_ret (v:=.agg #[.string nm,.int .i64 kd,.int .i64 0,.int .i64 0,.slice a n cap,.string to,.int .i64 ro,.bool mu,.bool fx,.string df,.string ⟨#[]⟩]) (by simp [results,results317,go_sem]) rfl ⟨rfl,?_⟩
 repeat (first | exact Below.refl _ _ | refine Below.alloc ?_ (by simp;try omega) _ | refine Below.setCell ?_ (by simp only [];omega) _)
theorem Zqz (kd:Int) :
 Calls prog 320 #[.agg #[.slice a n cap],.agg #[.string nm,.int .i64 kd,.int .i64 le,.int .i64 mo,.slice a n cap,.string to,.int .i64 ro,.bool mu,.bool fx,.string df,.string we]] w fun e w'=>e=.returned (.agg #[.string nm,.int .i64 kd,.int .i64 le,.int .i64 mo,.slice none 0 0,.string to,.int .i64 ro,.bool mu,.bool fx,.string df,.string we])/\Zw_ w w':=by
 go_enter func320,ntmps320;go_wp2;refine bodyPost_ret (v:=.agg #[.string nm,.int .i64 kd,.int .i64 le,.int .i64 mo,.slice none 0 0,.string to,.int .i64 ro,.bool mu,.bool fx,.string df,.string we]) (by simp [results,results320,go_sem]) rfl ⟨rfl,?_⟩
 repeat (first | exact Below.refl _ _ | refine Below.alloc ?_ (by simp;try omega) _ | refine Below.setCell ?_ (by simp only [];omega) _)
theorem ZqA (kd:Int) :
 Calls prog 323 #[.agg #[.int .i64 le,.int .i64 mo],.agg #[.string nm,.int .i64 kd,.int .i64 le,.int .i64 mo,.slice a n cap,.string to,.int .i64 ro,.bool mu,.bool fx,.string df,.string we]] w fun e w'=>e=.returned (.agg #[.string nm,.int .i64 kd,.int .i64 0,.int .i64 0,.slice a n cap,.string to,.int .i64 ro,.bool mu,.bool fx,.string df,.string we])/\Zw_ w w':=by
 go_enter func323,ntmps323;go_wp2;refine bodyPost_ret (v:=.agg #[.string nm,.int .i64 kd,.int .i64 0,.int .i64 0,.slice a n cap,.string to,.int .i64 ro,.bool mu,.bool fx,.string df,.string we]) (by simp [results,results323,go_sem]) rfl ⟨rfl,?_⟩
 repeat (first | exact Below.refl _ _ | refine Below.alloc ?_ (by simp;try omega) _ | refine Below.setCell ?_ (by simp only [];omega) _)
theorem Zon (kd:Int) :
 Calls prog 326 #[.agg #[.string to,.int .i64 ro,.bool mu,.string df],.agg #[.string nm,.int .i64 kd,.int .i64 le,.int .i64 mo,.slice a n cap,.string to,.int .i64 ro,.bool mu,.bool fx,.string df,.string we]] w fun e w'=>e=.returned (.agg #[.string nm,.int .i64 kd,.int .i64 le,.int .i64 mo,.slice a n cap,.string ⟨#[]⟩,.int .i64 0,.bool mu,.bool fx,.string df,.string we])/\Zw_ w w':=by
 go_enter func326,ntmps326;go_wp2;refine bodyPost_ret (v:=.agg #[.string nm,.int .i64 kd,.int .i64 le,.int .i64 mo,.slice a n cap,.string ⟨#[]⟩,.int .i64 0,.bool mu,.bool fx,.string df,.string we]) (by simp [results,results326,go_sem]) rfl ⟨rfl,?_⟩
 repeat (first | exact Below.refl _ _ | refine Below.alloc ?_ (by simp;try omega) _ | refine Below.setCell ?_ (by simp only [];omega) _)
def ZfG (n:Nat) (to:Zy_) (ro:Int):Bool:=((n:Int) == 0)&&to.toList.isEmpty&&(ro == 0)
def Ze5 (le mo:Int) (to:Zy_) (ro:Int) (we:Zy_):Bool:=(le == 0)&&(mo == 0)&&we.toList.isEmpty&&to.toList.isEmpty&&(ro == 0)
def Zfk (n:Nat) (to:Zy_) (ro:Int) (we:Zy_):Bool:=we.toList.isEmpty&&((n:Int) == 0)&&to.toList.isEmpty&&(ro == 0)
def Zfl (le mo:Int) (n:Nat) (we:Zy_):Bool:=(le == 0)&&(mo == 0)&&we.toList.isEmpty&&((n:Int) == 0)
theorem Zsd :
 Calls prog 231 #[.agg #[.string nm,.int .i64 1,.int .i64 le,.int .i64 mo,.slice a n cap,.string to,.int .i64 ro,.bool mu,.bool fx,.string df,.string we]] w fun e w'=>e=.returned (.bool (ZfG n to ro))/\Zw_ w w':=by
 cases hn:((n:Int) == 0) with
 | false=>
  have gn:(0:Int) < n:=by simp at hn;omega
  go_enter func231,ntmps231;go_wp2;go_ret;exact⟨Zaa (by simp [ZfG,hn]),Zb_.alloc Zl_ _⟩
 | true=>
  have gn:¬ (0:Int) < n:=by simp at hn;omega
  cases hto:to.toList.isEmpty with
  | false=>
   go_enter func231,ntmps231;go_wp2;go_ret;exact⟨Zaa (by simp [ZfG,hn,hto]),Zb_.alloc Zl_ _⟩
  | true=>
   cases hro:(ro == 0) with
   | false=>
    have gro:(ro != 0)=true:=by simp [bne,hro]
    go_enter func231,ntmps231;go_wp2;go_ret;exact⟨Zaa (by simp [ZfG,hn,hto,hro]),Zb_.alloc Zl_ _⟩
   | true=>
    have gro:(ro != 0)=false:=by simp [bne,hro]
    go_enter func231,ntmps231;go_wp2;go_ret;exact⟨Zaa (by simp [ZfG,hn,hto,hro]),Zb_.alloc Zl_ _⟩
theorem Zse :
 Calls prog 231 #[.agg #[.string nm,.int .i64 2,.int .i64 le,.int .i64 mo,.slice a n cap,.string to,.int .i64 ro,.bool mu,.bool fx,.string df,.string we]] w fun e w'=>e=.returned (.bool (Ze5 le mo to ro we))/\Zw_ w w':=by
 cases hle:(le == 0) with
 | false=>
  have gle:(le != 0)=true:=by simp [bne,hle]
  go_enter func231,ntmps231;go_wp2;go_ret;exact⟨Zaa (by simp [Ze5,hle]),Zb_.alloc Zl_ _⟩
 | true=>
  have gle:(le != 0)=false:=by simp [bne,hle]
  cases hmo:(mo == 0) with
  | false=>
   have gmo:(mo != 0)=true:=by simp [bne,hmo]
   go_enter func231,ntmps231;go_wp2;go_ret;exact⟨Zaa (by simp [Ze5,hle,hmo]),Zb_.alloc Zl_ _⟩
  | true=>
   have gmo:(mo != 0)=false:=by simp [bne,hmo]
   cases hwe:we.toList.isEmpty with
   | false=>
    go_enter func231,ntmps231;go_wp2;go_ret;exact⟨Zaa (by simp [Ze5,hle,hmo,hwe]),Zb_.alloc Zl_ _⟩
   | true=>
    cases hto:to.toList.isEmpty with
    | false=>
     go_enter func231,ntmps231;go_wp2;go_ret;exact⟨Zaa (by simp [Ze5,hle,hmo,hwe,hto]),Zb_.alloc Zl_ _⟩
    | true=>
     cases hro:(ro == 0) with
     | false=>
      have gro:(ro != 0)=true:=by simp [bne,hro]
      go_enter func231,ntmps231;go_wp2;go_ret;exact⟨Zaa (by simp [Ze5,hle,hmo,hwe,hto,hro]),Zb_.alloc Zl_ _⟩
     | true=>
      have gro:(ro != 0)=false:=by simp [bne,hro]
      go_enter func231,ntmps231;go_wp2;go_ret;exact⟨Zaa (by simp [Ze5,hle,hmo,hwe,hto,hro]),Zb_.alloc Zl_ _⟩
theorem Zsf :
 Calls prog 231 #[.agg #[.string nm,.int .i64 3,.int .i64 le,.int .i64 mo,.slice a n cap,.string to,.int .i64 ro,.bool mu,.bool fx,.string df,.string we]] w fun e w'=>e=.returned (.bool (Zfk n to ro we))/\Zw_ w w':=by
 cases hwe:we.toList.isEmpty with
 | false=>
  go_enter func231,ntmps231;go_wp2;go_ret;exact⟨Zaa (by simp [Zfk,hwe]),Zb_.alloc Zl_ _⟩
 | true=>
  cases hn:((n:Int) == 0) with
  | false=>
   have gn:(0:Int) < n:=by simp at hn;omega
   go_enter func231,ntmps231;go_wp2;go_ret;exact⟨Zaa (by simp [Zfk,hwe,hn]),Zb_.alloc Zl_ _⟩
  | true=>
   have gn:¬ (0:Int) < n:=by simp at hn;omega
   cases hto:to.toList.isEmpty with
   | false=>
    go_enter func231,ntmps231;go_wp2;go_ret;exact⟨Zaa (by simp [Zfk,hwe,hn,hto]),Zb_.alloc Zl_ _⟩
   | true=>
    cases hro:(ro == 0) with
    | false=>
     have gro:(ro != 0)=true:=by simp [bne,hro]
     go_enter func231,ntmps231;go_wp2;go_ret;exact⟨Zaa (by simp [Zfk,hwe,hn,hto,hro]),Zb_.alloc Zl_ _⟩
    | true=>
     have gro:(ro != 0)=false:=by simp [bne,hro]
     go_enter func231,ntmps231;go_wp2;go_ret;exact⟨Zaa (by simp [Zfk,hwe,hn,hto,hro]),Zb_.alloc Zl_ _⟩
theorem Zsg :
 Calls prog 231 #[.agg #[.string nm,.int .i64 4,.int .i64 le,.int .i64 mo,.slice a n cap,.string to,.int .i64 ro,.bool mu,.bool fx,.string df,.string we]] w fun e w'=>e=.returned (.bool (Zfl le mo n we))/\Zw_ w w':=by
 cases hle:(le == 0) with
 | false=>
  have gle:(le != 0)=true:=by simp [bne,hle]
  go_enter func231,ntmps231;go_wp2;go_ret;exact⟨Zaa (by simp [Zfl,hle]),Zb_.alloc Zl_ _⟩
 | true=>
  have gle:(le != 0)=false:=by simp [bne,hle]
  cases hmo:(mo == 0) with
  | false=>
   have gmo:(mo != 0)=true:=by simp [bne,hmo]
   go_enter func231,ntmps231;go_wp2;go_ret;exact⟨Zaa (by simp [Zfl,hle,hmo]),Zb_.alloc Zl_ _⟩
  | true=>
   have gmo:(mo != 0)=false:=by simp [bne,hmo]
   cases hwe:we.toList.isEmpty with
   | false=>
    go_enter func231,ntmps231;go_wp2;go_ret;exact⟨Zaa (by simp [Zfl,hle,hmo,hwe]),Zb_.alloc Zl_ _⟩
   | true=>
    cases hn:((n:Int) == 0) with
    | false=>
     have gn:(0:Int) < n:=by simp at hn;omega
     go_enter func231,ntmps231;go_wp2;go_ret;exact⟨Zaa (by simp [Zfl,hle,hmo,hwe,hn]),Zb_.alloc Zl_ _⟩
    | true=>
     have gn:¬ (0:Int) < n:=by simp at hn;omega
     go_enter func231,ntmps231;go_wp2;go_ret;exact⟨Zaa (by simp [Zfl,hle,hmo,hwe,hn]),Zb_.alloc Zl_ _⟩
end
end
section
theorem ZaK (w u:World) (O:Array Value) (T:TypeId) (h:Below (w.heap.size+1) (w.alloc (.cells O T)) u) (i:Nat):u.cell? ⟨w.heap.size,i,none⟩=O[i]?:=by
 rw [h.cell (p:=⟨w.heap.size,i,none⟩) (by simp)];simp
def Zca (le mo:Int) (we:Zy_):Bool:=decide (0<=le)&&decide (le<=mo)&&decide (mo<=1000000)&&Zai we
def Zef (n:Nat) (L:List Zy_):Bool:=decide (1<=(n:Int))&&decide ((n:Int)<=6)&&Zor L
def ZcU (le mo:Int):Bool:=decide (1<=le)&&decide (le<=mo)&&decide (mo<=40)
def ZkK (ro:Int) (mu:Bool):Bool:=ro == 1 || ro == 3 || ro == 2&&!mu
def ZcV (Ss:List Sh) (to:Zy_) (ro:Int) (mu:Bool) (df:Zy_):Bool:=Zme Ss to&&df.toList.isEmpty&&ZkK ro mu
theorem un1 (n:Nat) (to:Zy_) (ro:Int):Zb4 0 0 n to ro ⟨#[]⟩=ZfG n to ro:=by simp [Zb4,ZfG,ByteArray.toList_eq]
theorem un2 (le mo:Int) (to:Zy_) (ro:Int) (we:Zy_):Zb4 le mo 0 to ro we=Ze5 le mo to ro we:=by
 simp only [Zb4,Ze5];cases (le == 0) <;> cases (mo == 0) <;> cases to.toList.isEmpty <;> cases (ro == 0) <;> cases we.toList.isEmpty <;> rfl
theorem un3 (n:Nat) (to:Zy_) (ro:Int) (we:Zy_):Zb4 0 0 n to ro we=Zfk n to ro we:=by
 simp only [Zb4,Zfk];cases ((n:Int) == 0) <;> cases to.toList.isEmpty <;> cases (ro == 0) <;> cases we.toList.isEmpty <;> rfl
theorem un4 (le mo:Int) (n:Nat) (we:Zy_):Zb4 le mo n ⟨#[]⟩ 0 we=Zfl le mo n we:=by
 simp only [Zb4,Zfl,ByteArray.toList_eq];cases (le == 0) <;> cases (mo == 0) <;> cases ((n:Int) == 0) <;> cases we.data.toList.isEmpty <;> rfl
section
variable (nm to df we:Zy_) (le mo ro:Int) (mu fx:Bool) (a:Option Addr) (n cap:Nat) (w:World)
theorem Zsc (kd:Int) (h1:kd≠1) (h2:kd≠2) (h3:kd≠3) (h4:kd≠4) :
 Calls prog 231 #[.agg #[.string nm,.int .i64 kd,.int .i64 le,.int .i64 mo,.slice a n cap,.string to,.int .i64 ro,.bool mu,.bool fx,.string df,.string we]] w fun e w'=>∃ b,e=.returned (.bool b)/\Zw_ w w':=by
 have b1:(kd == 1)=false:=beq_eq_false_iff_ne.2 h1;have b2:(kd == 2)=false:=beq_eq_false_iff_ne.2 h2;have b3:(kd == 3)=false:=beq_eq_false_iff_ne.2 h3;have b4:(kd == 4)=false:=beq_eq_false_iff_ne.2 h4;have c1:(kd != 1)=true:=by simp [bne,b1]
 have c2:(kd != 2)=true:=by simp [bne,b2]
 clear h1 h2 h3 h4;go_enter func231,ntmps231;go_wp2
 all_goals go_ret
 all_goals exact⟨_,rfl,Zb_.alloc Zl_ _⟩
theorem ZsG (lv:Value) (hs:we.size<=maxLen) :
 Calls prog 316 #[.agg #[.int .i64 le,.int .i64 mo,.string we],lv] w fun e w'=>e=.returned (.bool (Zca le mo we))/\Zw_ w w':=by
 have HW:∀ o,Hd (Zw_ w (w.alloc o)):=fun o=>Zb_.alloc Zl_ _
 have hk:=fun u=>ZbJ we u hs
 by_cases h1:0<=le
 . by_cases h2:le<=mo
   . by_cases h3:mo<=1000000
     . go_enter func316,ntmps316
       go_wp2_with fail;refine (hk _).mono ?_;rintro e w1 ⟨rfl,rfl⟩;go_wp2;go_ret;exact⟨Zaa (by simp [Zca,h1,h2,h3]),(HW _).o⟩
     . go_enter func316,ntmps316
       go_wp2;go_ret;exact⟨Zaa (by rw [Bool.eq_iff_iff];simp [Zca];omega),(HW _).o⟩
   . go_enter func316,ntmps316
     go_wp2;go_ret;exact⟨Zaa (by rw [Bool.eq_iff_iff];simp [Zca];omega),(HW _).o⟩
 . go_enter func316,ntmps316
   go_wp2;go_ret;exact⟨Zaa (by rw [Bool.eq_iff_iff];simp [Zca];omega),(HW _).o⟩
theorem ZsH (lv:Value) (L:List Zy_) (hv:Zaf w (.slice a L.length cap) L) :
 Calls prog 319 #[.agg #[.slice a L.length cap],lv] w fun e w'=>e=.returned (.bool (Zef L.length L))/\Zw_ w w':=by
 have HV:=Zab hv;clear hv;have HW:∀ o,Hd (Zw_ w (w.alloc o)):=fun o=>Zb_.alloc Zl_ _
 by_cases h1:(1:Int)<=L.length
 . by_cases h2:(L.length:Int)<=6
   . go_enter func319,ntmps319
     go_wp2_with fail;refine (Zgu _ L _ (HV.o.below (HW _).o)).mono ?_;rintro e w1 ⟨rfl,rfl⟩;go_wp2;go_ret;exact⟨Zaa (by simp [Zef,h1,h2]),(HW _).o⟩
   . go_enter func319,ntmps319
     go_wp2;go_ret;exact⟨Zaa (by rw [Bool.eq_iff_iff];simp [Zef];omega),(HW _).o⟩
 . go_enter func319,ntmps319
   go_wp2;go_ret;exact⟨Zaa (by rw [Bool.eq_iff_iff];simp [Zef];omega),(HW _).o⟩
theorem ZsI (lv:Value) :
 Calls prog 322 #[.agg #[.int .i64 le,.int .i64 mo],lv] w fun e w'=>e=.returned (.bool (ZcU le mo))/\Zw_ w w':=by
 have HW:∀ o,Hd (Zw_ w (w.alloc o)):=fun o=>Zb_.alloc Zl_ _
 by_cases h1:1<=le
 . by_cases h2:le<=mo
   . go_enter func322,ntmps322
     go_wp2;go_ret;exact⟨Zaa (by simp [ZcU,h1,h2]),(HW _).o⟩
   . go_enter func322,ntmps322
     go_wp2;go_ret;exact⟨Zaa (by rw [Bool.eq_iff_iff];simp [ZcU];omega),(HW _).o⟩
 . go_enter func322,ntmps322
   go_wp2;go_ret;exact⟨Zaa (by rw [Bool.eq_iff_iff];simp [ZcU];omega),(HW _).o⟩
theorem ZsJ (lo:Nat) (lv:Value) (Ss:List Sh) (hv:ZaI lo w lv Ss) :
 Calls prog 325 #[.agg #[.string to,.int .i64 ro,.bool mu,.string df],lv] w fun e w'=>e=.returned (.bool (ZcV Ss to ro mu df))/\Zw_ w w':=by
 have HV:=Zab hv;obtain⟨la,lcap,rfl⟩:=hv.form;clear hv;have HW:∀ o,Hd (Zw_ w (w.alloc o)):=fun o=>Zb_.alloc Zl_ _
 go_enter func325,ntmps325;go_wp2_with fail;refine (ZlV lo _ Ss _ _ (HV.o.below (HW _).o)).mono ?_;rintro e w1 ⟨hb1,hsh⟩;have hz:w.heap.size < w1.heap.size:=by have:=hb1.size;simp at this;omega
 have hbx:=fun i=>ZaK w w1 #[.string to,.int .i64 ro,.bool mu,.string df] 333 (by have:=hb1;simp at this;exact this) i
 have HB:Hd (Zw_ w w1):=(HW _).o.trans (hb1.mono (by simp));clear hb1
 rcases hsh with ⟨x,fv,hx,rfl,hfd⟩ | ⟨hx,rfl⟩
 . have HK:Hd (Zme Ss to=true):=Zke hx
   obtain⟨fa,fcap,rfl⟩:=hfd.form;clear hfd hx
   cases hd:df.toList.isEmpty with
   | false=>
    go_wp2;go_ret;exact⟨Zaa (by simp [ZcV,hd]),HB.o.alloc (by omega) _⟩
   | true=>
    cases a1:(ro == 1) with
    | true=>
     go_wp2;go_ret;exact⟨Zaa (by simp [ZcV,ZkK,hd,HK.o,a1]),HB.o.alloc (by omega) _⟩
    | false=>
     cases a3:(ro == 3) with
     | true=>
      go_wp2;go_ret;exact⟨Zaa (by simp [ZcV,ZkK,hd,HK.o,a1,a3]),HB.o.alloc (by omega) _⟩
     | false=>
      cases a2:(ro == 2) with
      | true=>
       go_wp2;go_ret;exact⟨Zaa (by simp [ZcV,ZkK,hd,HK.o,a1,a3,a2]),HB.o.alloc (by omega) _⟩
      | false=>
       go_wp2;go_ret;exact⟨Zaa (by simp [ZcV,ZkK,hd,HK.o,a1,a3,a2]),HB.o.alloc (by omega) _⟩
 . have HK:Hd (Zme Ss to=false):=Zkd hx
   clear hx;go_wp2;go_ret;exact⟨Zaa (by simp [ZcV,HK.o]),HB.o.alloc (by omega) _⟩
end
end
section
section
variable (nm to df we:Zy_) (le mo ro:Int) (mu fx:Bool) (a:Option Addr) (L:List Zy_) (cap:Nat) (w:World)
theorem Znh (kd:Int) (lo:Nat) (lv:Value) (Ss:List Sh) (hl:ZaI lo w lv Ss) (hv:Zaf w (.slice a L.length cap) L) (s9:df.size<=maxLen) (s10:we.size<=maxLen) :
 Calls prog 263 #[.iface 327 (.agg #[.int .i64 le,.int .i64 mo,.string we]),lv,.agg #[.string nm,.int .i64 kd,.int .i64 le,.int .i64 mo,.slice a L.length cap,.string to,.int .i64 ro,.bool mu,.bool fx,.string df,.string we]] w fun e w'=>e=.returned (.bool (ZfG L.length to ro&&Zca le mo we&&(df.toList.isEmpty || ZaL 1 le mo L df)))/\Zw_ w w':=by
 have HL:=Zab hl;have HV:=Zab hv;have HW9:=Zab s9;have HW4:=Zab s10;obtain⟨la,lcap,rfl⟩:=hl.form;clear hl hv s9 s10;have HW:∀ o,Hd (Zw_ w (w.alloc o)):=fun o=>Zb_.alloc Zl_ _
 have m1:∀ W:World,(method 465 327 (.agg #[.int .i64 le,.int .i64 mo,.string we]) "loop.example/wharfhall/impl.without").run prog W=.ok (317,.agg #[.int .i64 le,.int .i64 mo,.string we]) W:=fun _=>by kernel_rfl
 have m2:∀ W:World,(method 465 327 (.agg #[.int .i64 le,.int .i64 mo,.string we]) "loop.example/wharfhall/impl.sound").run prog W=.ok (316,.agg #[.int .i64 le,.int .i64 mo,.string we]) W:=fun _=>by kernel_rfl
 have m3:∀ W:World,(method 465 327 (.agg #[.int .i64 le,.int .i64 mo,.string we]) "loop.example/wharfhall/impl.fits").run prog W=.ok (315,.agg #[.int .i64 le,.int .i64 mo,.string we]) W:=fun _=>by kernel_rfl
 rw [Zr0];go_enter func263,ntmps263;go_wp2_with fail;refine (Zqy nm to df we le mo ro mu fx a L.length cap _ _).mono ?_;rintro e w1 ⟨rfl,hb1⟩;have HC1:Hd (Below (w.heap.size+1) (w.alloc (.cells #[.string nm,.int .i64 kd,.int .i64 le,.int .i64 mo,.slice a L.length cap,.string to,.int .i64 ro,.bool mu,.bool fx,.string df,.string we] 178)) w1):=by have:=hb1;simp at this;exact this
 have HB1:Hd (Zw_ w w1):=(HW _).o.trans (hb1.mono (by simp));clear hb1;go_wp2_with fail;refine (Ze0 nm to df ⟨#[]⟩ 0 0 ro mu fx a L.length cap _ _).mono ?_;rintro e w2 ⟨rfl,hb2⟩;have HC2:Hd (Below (w.heap.size+1) (w.alloc (.cells #[.string nm,.int .i64 kd,.int .i64 le,.int .i64 mo,.slice a L.length cap,.string to,.int .i64 ro,.bool mu,.bool fx,.string df,.string we] 178)) w2):=HC1.o.trans (hb2.mono (by have:=HC1.o.size;simp at this;omega));have HB2:Hd (Zw_ w w2):=HB1.o.trans (hb2.mono HB1.o.size);clear hb2 HB1 HC1;rw [un1]
 cases hbr:ZfG L.length to ro with
 | false=>
  go_wp2;go_ret;exact⟨Zaa (by simp [hbr]),HB2.o⟩
 | true=>
  go_wp2_with fail;refine (ZsG we le mo _ _ HW4.o).mono ?_;rintro e w3 ⟨rfl,hb3⟩;have HC3:Hd (Below (w.heap.size+1) (w.alloc (.cells #[.string nm,.int .i64 kd,.int .i64 le,.int .i64 mo,.slice a L.length cap,.string to,.int .i64 ro,.bool mu,.bool fx,.string df,.string we] 178)) w3):=HC2.o.trans (hb3.mono (by have:=HC2.o.size;simp at this;omega));have HB3:Hd (Zw_ w w3):=HB2.o.trans (hb3.mono HB2.o.size);clear hb3 HB2 HC2;have hbx:=fun i=>ZaK w w3 #[.string nm,.int .i64 kd,.int .i64 le,.int .i64 mo,.slice a L.length cap,.string to,.int .i64 ro,.bool mu,.bool fx,.string df,.string we] 178 HC3.o i
  cases hso:Zca le mo we with
  | false=>
   go_wp2;go_ret;exact⟨Zaa (by simp [hbr,hso]),HB3.o⟩
  | true=>
   cases hd:df.toList.isEmpty with
   | true=>
    go_wp2;go_ret;exact⟨Zaa (by simp [hbr,hso,hd]),HB3.o⟩
   | false=>
    go_wp2_with fail;refine (ZpI _ _ _ _ _ HW9.o).mono ?_;rintro e w4 ⟨rfl,hb4⟩;have HB4:Hd (Zw_ w w4):=HB3.o.trans (hb4.mono HB3.o.size);clear hb4;go_wp2;go_ret;exact⟨Zaa (by simp [hbr,hso,hd]),HB4.o⟩
theorem Zni (kd:Int) (lo:Nat) (lv:Value) (Ss:List Sh) (hl:ZaI lo w lv Ss) (hv:Zaf w (.slice a L.length cap) L) (s9:df.size<=maxLen) (s10:we.size<=maxLen) :
 Calls prog 263 #[.iface 329 (.agg #[.slice a L.length cap]),lv,.agg #[.string nm,.int .i64 kd,.int .i64 le,.int .i64 mo,.slice a L.length cap,.string to,.int .i64 ro,.bool mu,.bool fx,.string df,.string we]] w fun e w'=>e=.returned (.bool (Ze5 le mo to ro we&&Zef L.length L&&(df.toList.isEmpty || ZaL 2 le mo L df)))/\Zw_ w w':=by
 have HL:=Zab hl;have HV:=Zab hv;have HW9:=Zab s9;have HW4:=Zab s10;obtain⟨la,lcap,rfl⟩:=hl.form;clear hl hv s9 s10;have HW:∀ o,Hd (Zw_ w (w.alloc o)):=fun o=>Zb_.alloc Zl_ _
 have m1:∀ W:World,(method 465 329 (.agg #[.slice a L.length cap]) "loop.example/wharfhall/impl.without").run prog W=.ok (320,.agg #[.slice a L.length cap]) W:=fun _=>by kernel_rfl
 have m2:∀ W:World,(method 465 329 (.agg #[.slice a L.length cap]) "loop.example/wharfhall/impl.sound").run prog W=.ok (319,.agg #[.slice a L.length cap]) W:=fun _=>by kernel_rfl
 have m3:∀ W:World,(method 465 329 (.agg #[.slice a L.length cap]) "loop.example/wharfhall/impl.fits").run prog W=.ok (318,.agg #[.slice a L.length cap]) W:=fun _=>by kernel_rfl
 rw [Zr1];go_enter func263,ntmps263;go_wp2_with fail;refine (Zqz nm to df we le mo ro mu fx a L.length cap _ _).mono ?_;rintro e w1 ⟨rfl,hb1⟩;have HC1:Hd (Below (w.heap.size+1) (w.alloc (.cells #[.string nm,.int .i64 kd,.int .i64 le,.int .i64 mo,.slice a L.length cap,.string to,.int .i64 ro,.bool mu,.bool fx,.string df,.string we] 178)) w1):=by have:=hb1;simp at this;exact this
 have HB1:Hd (Zw_ w w1):=(HW _).o.trans (hb1.mono (by simp));clear hb1;go_wp2_with fail;refine (Ze0 nm to df we le mo ro mu fx none 0 0 _ _).mono ?_;rintro e w2 ⟨rfl,hb2⟩;have HC2:Hd (Below (w.heap.size+1) (w.alloc (.cells #[.string nm,.int .i64 kd,.int .i64 le,.int .i64 mo,.slice a L.length cap,.string to,.int .i64 ro,.bool mu,.bool fx,.string df,.string we] 178)) w2):=HC1.o.trans (hb2.mono (by have:=HC1.o.size;simp at this;omega));have HB2:Hd (Zw_ w w2):=HB1.o.trans (hb2.mono HB1.o.size);clear hb2 HB1 HC1;rw [un2]
 cases hbr:Ze5 le mo to ro we with
 | false=>
  go_wp2;go_ret;exact⟨Zaa (by simp [hbr]),HB2.o⟩
 | true=>
  go_wp2_with fail;refine (ZsH a cap _ _ L (HV.o.below HB2.o)).mono ?_;rintro e w3 ⟨rfl,hb3⟩;have HC3:Hd (Below (w.heap.size+1) (w.alloc (.cells #[.string nm,.int .i64 kd,.int .i64 le,.int .i64 mo,.slice a L.length cap,.string to,.int .i64 ro,.bool mu,.bool fx,.string df,.string we] 178)) w3):=HC2.o.trans (hb3.mono (by have:=HC2.o.size;simp at this;omega));have HB3:Hd (Zw_ w w3):=HB2.o.trans (hb3.mono HB2.o.size);clear hb3 HB2 HC2;have hbx:=fun i=>ZaK w w3 #[.string nm,.int .i64 kd,.int .i64 le,.int .i64 mo,.slice a L.length cap,.string to,.int .i64 ro,.bool mu,.bool fx,.string df,.string we] 178 HC3.o i
  cases hso:Zef L.length L with
  | false=>
   go_wp2;go_ret;exact⟨Zaa (by simp [hbr,hso]),HB3.o⟩
  | true=>
   cases hd:df.toList.isEmpty with
   | true=>
    go_wp2;go_ret;exact⟨Zaa (by simp [hbr,hso,hd]),HB3.o⟩
   | false=>
    go_wp2_with fail;refine (ZmI _ _ _ _ _ L (HV.o.below HB3.o)).mono ?_;rintro e w4 ⟨rfl,hb4⟩;have HB4:Hd (Zw_ w w4):=HB3.o.trans (hb4.mono HB3.o.size);clear hb4;go_wp2;go_ret;exact⟨Zaa (by simp [hbr,hso,hd]),HB4.o⟩
theorem Znj (kd:Int) (lo:Nat) (lv:Value) (Ss:List Sh) (hl:ZaI lo w lv Ss) (hv:Zaf w (.slice a L.length cap) L) (s9:df.size<=maxLen) (s10:we.size<=maxLen) :
 Calls prog 263 #[.iface 331 (.agg #[.int .i64 le,.int .i64 mo]),lv,.agg #[.string nm,.int .i64 kd,.int .i64 le,.int .i64 mo,.slice a L.length cap,.string to,.int .i64 ro,.bool mu,.bool fx,.string df,.string we]] w fun e w'=>e=.returned (.bool (Zfk L.length to ro we&&ZcU le mo&&(df.toList.isEmpty || ZaL 3 le mo L df)))/\Zw_ w w':=by
 have HL:=Zab hl;have HV:=Zab hv;have HW9:=Zab s9;have HW4:=Zab s10;obtain⟨la,lcap,rfl⟩:=hl.form;clear hl hv s9 s10;have HW:∀ o,Hd (Zw_ w (w.alloc o)):=fun o=>Zb_.alloc Zl_ _
 have m1:∀ W:World,(method 465 331 (.agg #[.int .i64 le,.int .i64 mo]) "loop.example/wharfhall/impl.without").run prog W=.ok (323,.agg #[.int .i64 le,.int .i64 mo]) W:=fun _=>by kernel_rfl
 have m2:∀ W:World,(method 465 331 (.agg #[.int .i64 le,.int .i64 mo]) "loop.example/wharfhall/impl.sound").run prog W=.ok (322,.agg #[.int .i64 le,.int .i64 mo]) W:=fun _=>by kernel_rfl
 have m3:∀ W:World,(method 465 331 (.agg #[.int .i64 le,.int .i64 mo]) "loop.example/wharfhall/impl.fits").run prog W=.ok (321,.agg #[.int .i64 le,.int .i64 mo]) W:=fun _=>by kernel_rfl
 rw [Zr2];go_enter func263,ntmps263;go_wp2_with fail;refine (ZqA nm to df we le mo ro mu fx a L.length cap _ _).mono ?_;rintro e w1 ⟨rfl,hb1⟩;have HC1:Hd (Below (w.heap.size+1) (w.alloc (.cells #[.string nm,.int .i64 kd,.int .i64 le,.int .i64 mo,.slice a L.length cap,.string to,.int .i64 ro,.bool mu,.bool fx,.string df,.string we] 178)) w1):=by have:=hb1;simp at this;exact this
 have HB1:Hd (Zw_ w w1):=(HW _).o.trans (hb1.mono (by simp));clear hb1;go_wp2_with fail;refine (Ze0 nm to df we 0 0 ro mu fx a L.length cap _ _).mono ?_;rintro e w2 ⟨rfl,hb2⟩;have HC2:Hd (Below (w.heap.size+1) (w.alloc (.cells #[.string nm,.int .i64 kd,.int .i64 le,.int .i64 mo,.slice a L.length cap,.string to,.int .i64 ro,.bool mu,.bool fx,.string df,.string we] 178)) w2):=HC1.o.trans (hb2.mono (by have:=HC1.o.size;simp at this;omega));have HB2:Hd (Zw_ w w2):=HB1.o.trans (hb2.mono HB1.o.size);clear hb2 HB1 HC1;rw [un3]
 cases hbr:Zfk L.length to ro we with
 | false=>
  go_wp2;go_ret;exact⟨Zaa (by simp [hbr]),HB2.o⟩
 | true=>
  go_wp2_with fail;refine (ZsI le mo _ _).mono ?_;rintro e w3 ⟨rfl,hb3⟩;have HC3:Hd (Below (w.heap.size+1) (w.alloc (.cells #[.string nm,.int .i64 kd,.int .i64 le,.int .i64 mo,.slice a L.length cap,.string to,.int .i64 ro,.bool mu,.bool fx,.string df,.string we] 178)) w3):=HC2.o.trans (hb3.mono (by have:=HC2.o.size;simp at this;omega));have HB3:Hd (Zw_ w w3):=HB2.o.trans (hb3.mono HB2.o.size);clear hb3 HB2 HC2;have hbx:=fun i=>ZaK w w3 #[.string nm,.int .i64 kd,.int .i64 le,.int .i64 mo,.slice a L.length cap,.string to,.int .i64 ro,.bool mu,.bool fx,.string df,.string we] 178 HC3.o i
  cases hso:ZcU le mo with
  | false=>
   go_wp2;go_ret;exact⟨Zaa (by simp [hbr,hso]),HB3.o⟩
  | true=>
   cases hd:df.toList.isEmpty with
   | true=>
    go_wp2;go_ret;exact⟨Zaa (by simp [hbr,hso,hd]),HB3.o⟩
   | false=>
    go_wp2_with fail;refine (ZgM _ _ _ _ HW9.o).mono ?_;rintro e w4 ⟨rfl,hb4⟩;have HB4:Hd (Zw_ w w4):=HB3.o.trans (hb4.mono HB3.o.size);clear hb4;go_wp2;go_ret;exact⟨Zaa (by simp [hbr,hso,hd]),HB4.o⟩
theorem Znk (kd:Int) (lo:Nat) (lv:Value) (Ss:List Sh) (hl:ZaI lo w lv Ss) (hv:Zaf w (.slice a L.length cap) L) (s9:df.size<=maxLen) (s10:we.size<=maxLen) :
 Calls prog 263 #[.iface 333 (.agg #[.string to,.int .i64 ro,.bool mu,.string df]),lv,.agg #[.string nm,.int .i64 kd,.int .i64 le,.int .i64 mo,.slice a L.length cap,.string to,.int .i64 ro,.bool mu,.bool fx,.string df,.string we]] w fun e w'=>e=.returned (.bool (Zfl le mo L.length we&&ZcV Ss to ro mu df&&(df.toList.isEmpty || ZaL 4 le mo L df)))/\Zw_ w w':=by
 have HL:=Zab hl;have HV:=Zab hv;have HW9:=Zab s9;have HW4:=Zab s10;obtain⟨la,lcap,rfl⟩:=hl.form;clear hl hv s9 s10;have HW:∀ o,Hd (Zw_ w (w.alloc o)):=fun o=>Zb_.alloc Zl_ _
 have m1:∀ W:World,(method 465 333 (.agg #[.string to,.int .i64 ro,.bool mu,.string df]) "loop.example/wharfhall/impl.without").run prog W=.ok (326,.agg #[.string to,.int .i64 ro,.bool mu,.string df]) W:=fun _=>by kernel_rfl
 have m2:∀ W:World,(method 465 333 (.agg #[.string to,.int .i64 ro,.bool mu,.string df]) "loop.example/wharfhall/impl.sound").run prog W=.ok (325,.agg #[.string to,.int .i64 ro,.bool mu,.string df]) W:=fun _=>by kernel_rfl
 have m3:∀ W:World,(method 465 333 (.agg #[.string to,.int .i64 ro,.bool mu,.string df]) "loop.example/wharfhall/impl.fits").run prog W=.ok (324,.agg #[.string to,.int .i64 ro,.bool mu,.string df]) W:=fun _=>by kernel_rfl
 rw [Zr3];go_enter func263,ntmps263;go_wp2_with fail;refine (Zon nm to df we le mo ro mu fx a L.length cap _ _).mono ?_;rintro e w1 ⟨rfl,hb1⟩;have HC1:Hd (Below (w.heap.size+1) (w.alloc (.cells #[.string nm,.int .i64 kd,.int .i64 le,.int .i64 mo,.slice a L.length cap,.string to,.int .i64 ro,.bool mu,.bool fx,.string df,.string we] 178)) w1):=by have:=hb1;simp at this;exact this
 have HB1:Hd (Zw_ w w1):=(HW _).o.trans (hb1.mono (by simp));clear hb1;go_wp2_with fail;refine (Ze0 nm ⟨#[]⟩ df we le mo 0 mu fx a L.length cap _ _).mono ?_;rintro e w2 ⟨rfl,hb2⟩;have HC2:Hd (Below (w.heap.size+1) (w.alloc (.cells #[.string nm,.int .i64 kd,.int .i64 le,.int .i64 mo,.slice a L.length cap,.string to,.int .i64 ro,.bool mu,.bool fx,.string df,.string we] 178)) w2):=HC1.o.trans (hb2.mono (by have:=HC1.o.size;simp at this;omega));have HB2:Hd (Zw_ w w2):=HB1.o.trans (hb2.mono HB1.o.size);clear hb2 HB1 HC1;rw [un4]
 cases hbr:Zfl le mo L.length we with
 | false=>
  go_wp2;go_ret;exact⟨Zaa (by simp [hbr]),HB2.o⟩
 | true=>
  go_wp2_with fail;refine (ZsJ to df ro mu _ lo _ Ss (HL.o.below HB2.o)).mono ?_;rintro e w3 ⟨rfl,hb3⟩;have HC3:Hd (Below (w.heap.size+1) (w.alloc (.cells #[.string nm,.int .i64 kd,.int .i64 le,.int .i64 mo,.slice a L.length cap,.string to,.int .i64 ro,.bool mu,.bool fx,.string df,.string we] 178)) w3):=HC2.o.trans (hb3.mono (by have:=HC2.o.size;simp at this;omega));have HB3:Hd (Zw_ w w3):=HB2.o.trans (hb3.mono HB2.o.size);clear hb3 HB2 HC2;have hbx:=fun i=>ZaK w w3 #[.string nm,.int .i64 kd,.int .i64 le,.int .i64 mo,.slice a L.length cap,.string to,.int .i64 ro,.bool mu,.bool fx,.string df,.string we] 178 HC3.o i
  cases hso:ZcV Ss to ro mu df with
  | false=>
   go_wp2;go_ret;exact⟨Zaa (by simp [hbr,hso]),HB3.o⟩
  | true=>
   cases hd:df.toList.isEmpty with
   | true=>
    go_wp2;go_ret;exact⟨Zaa (by simp [hbr,hso,hd]),HB3.o⟩
   | false=>
    go_wp2_with fail;refine (Zmi _ _ _ _ _ _ HW9.o).mono ?_;rintro e w4 ⟨rfl,hb4⟩;have HB4:Hd (Zw_ w w4):=HB3.o.trans (hb4.mono HB3.o.size);clear hb4;go_wp2;go_ret;exact⟨Zaa (by simp [hbr,hso,hd]),HB4.o⟩
end
end
section
theorem Ztq (n:Nat) (L:List Zy_):Zef n L=(inB 1 6 (n:Int)&&Zor L):=by unfold Zef;rw [ZgC]
theorem ZsD (ro:Int) (mu:Bool):ZkK ro mu=(inB 1 3 ro&&((ro != 2) || !mu)):=by
 unfold ZkK inB
 by_cases h1:ro=1
 . subst h1;simp
 by_cases h2:ro=2
 . subst h2;simp
 by_cases h3:ro=3
 . subst h3;simp
 have hx:¬ (1<=ro/\ro<=3):=by omega
 simp [h1,h2,h3,hx]
theorem ZsF (Ss:List Sh) (to:Zy_) (ro:Int) (mu:Bool) (df:Zy_):ZcV Ss to ro mu df=(Zme Ss to&&inB 1 3 ro&&df.toList.isEmpty&&((ro != 2) || !mu)):=by
 unfold ZcV;rw [ZsD];cases Zme Ss to <;> cases df.toList.isEmpty <;> cases inB 1 3 ro <;> simp
section
variable (nm to df we:Zy_) (le mo ro:Int) (mu fx:Bool) (a:Option Addr) (L:List Zy_) (cap:Nat) (w:World)
theorem ZnO (lo:Nat) (lv:Value) (Ss:List Sh) (hl:ZaI lo w lv Ss) (hv:Zaf w (.slice a L.length cap) L) (s0:nm.size<=maxLen) (s9:df.size<=maxLen) (s10:we.size<=maxLen) :
 Calls prog 198 #[lv,.agg #[.string nm,.int .i64 1,.int .i64 le,.int .i64 mo,.slice a L.length cap,.string to,.int .i64 ro,.bool mu,.bool fx,.string df,.string we]] w fun e w'=>e=.returned (.bool (Zap nm&&(ZfG L.length to ro&&Zca le mo we&&(df.toList.isEmpty || ZaL 1 le mo L df))))/\Zw_ w w':=by
 have HL:=Zab hl;have HV:=Zab hv;have HW0:=Zab s0;have HW9:=Zab s9;have HW4:=Zab s10;obtain⟨la,lcap,rfl⟩:=hl.form;clear hl hv s0 s9 s10;generalize hQ:(Zap nm&&(ZfG L.length to ro&&Zca le mo we&&(df.toList.isEmpty || ZaL 1 le mo L df)))=Q;have HQ:=Zab hQ;clear hQ;have HW:∀ o,Hd (Zw_ w (w.alloc o)):=fun o=>Zb_.alloc Zl_ _
 go_enter func198,ntmps198;go_wp2_with fail;refine (Zae _ _ HW0.o).mono ?_;rintro e wx ⟨rfl,rfl⟩
 cases hnm:Zap nm with
 | false=>
  go_wp2;go_ret;exact⟨Zaa (by rw [<- HQ.o,hnm];rfl),(HW _).o⟩
 | true=>
  go_wp2_with fail;refine (Zsd nm to df we le mo ro mu fx a L.length cap _).mono ?_;rintro e w1 ⟨rfl,hb1⟩;have HC1:Hd (Below (w.heap.size+1) (w.alloc (.cells #[.string nm,.int .i64 1,.int .i64 le,.int .i64 mo,.slice a L.length cap,.string to,.int .i64 ro,.bool mu,.bool fx,.string df,.string we] 178)) w1):=by have:=hb1;simp at this;exact this
  have HB1:Hd (Zw_ w w1):=(HW _).o.trans (hb1.mono (by simp));have hbx:=fun i=>ZaK w w1 #[.string nm,.int .i64 1,.int .i64 le,.int .i64 mo,.slice a L.length cap,.string to,.int .i64 ro,.bool mu,.bool fx,.string df,.string we] 178 HC1.o i
  clear hb1
  cases hbr:ZfG L.length to ro with
  | false=>
   go_wp2;go_ret;exact⟨Zaa (by rw [<- HQ.o,hnm,hbr];rfl),HB1.o⟩
  | true=>
   cases hd:df.toList.isEmpty with
   | true=>
    have hdf:(df.toList.isEmpty || ZaL 1 le mo L df)=true:=by simp [hd]
    have HDF:=Zab hdf;clear hdf
    by_cases h1:0<=le
    . by_cases h2:le<=mo
      . by_cases h3:mo<=1000000
        . cases he:we.toList.isEmpty with
          | true=>
           go_wp2;go_ret;exact⟨Zaa (by rw [<- HQ.o,HDF.o,hnm,hbr];simp [Zca,Zai,h1,h2,h3,he]),HB1.o⟩
          | false=>
           go_wp2_with fail;refine (Zae _ _ HW4.o).mono ?_;rintro e wx ⟨rfl,rfl⟩;go_wp2;go_ret;exact⟨Zaa (by rw [<- HQ.o,HDF.o,hnm,hbr];simp [Zca,Zai,h1,h2,h3,he]),HB1.o⟩
        . go_wp2
          go_ret;exact⟨Zaa (by rw [<- HQ.o,HDF.o,hnm,hbr];rw [Bool.eq_iff_iff];simp [Zca];omega),HB1.o⟩
      . go_wp2
        go_ret;exact⟨Zaa (by rw [<- HQ.o,HDF.o,hnm,hbr];rw [Bool.eq_iff_iff];simp [Zca];omega),HB1.o⟩
    . go_wp2
      go_ret;exact⟨Zaa (by rw [<- HQ.o,HDF.o,hnm,hbr];rw [Bool.eq_iff_iff];simp [Zca];omega),HB1.o⟩
   | false=>
    go_wp2_with fail;refine (Zbv _ _ _ _ _ _ _ _ _ _ L _ _ _ (HV.o.below HB1.o) HW9.o).mono ?_;rintro e w2 ⟨rfl,hb2⟩;have HC2:Hd (Below (w.heap.size+1) (w.alloc (.cells #[.string nm,.int .i64 1,.int .i64 le,.int .i64 mo,.slice a L.length cap,.string to,.int .i64 ro,.bool mu,.bool fx,.string df,.string we] 178)) w2):=HC1.o.trans (hb2.mono (by have:=HC1.o.size;simp at this;omega));have HB2:Hd (Zw_ w w2):=HB1.o.trans (hb2.mono HB1.o.size);have hbx2:=fun i=>ZaK w w2 #[.string nm,.int .i64 1,.int .i64 le,.int .i64 mo,.slice a L.length cap,.string to,.int .i64 ro,.bool mu,.bool fx,.string df,.string we] 178 HC2.o i
    clear hb2 hbx
    cases hft:ZaL 1 le mo L df with
    | false=>
     go_wp2;go_ret;exact⟨Zaa (by rw [<- HQ.o,hnm,hbr,hd,hft];simp),HB2.o⟩
    | true=>
     have HDF:Hd ((df.toList.isEmpty || ZaL 1 le mo L df)=true):=by unfold Hd;simp [hft]
     by_cases h1:0<=le
     . by_cases h2:le<=mo
       . by_cases h3:mo<=1000000
         . cases he:we.toList.isEmpty with
           | true=>
            go_wp2;go_ret;exact⟨Zaa (by rw [<- HQ.o,HDF.o,hnm,hbr];simp [Zca,Zai,h1,h2,h3,he]),HB2.o⟩
           | false=>
            go_wp2_with fail;refine (Zae _ _ HW4.o).mono ?_;rintro e wx ⟨rfl,rfl⟩;go_wp2;go_ret;exact⟨Zaa (by rw [<- HQ.o,HDF.o,hnm,hbr];simp [Zca,Zai,h1,h2,h3,he]),HB2.o⟩
         . go_wp2
           go_ret;exact⟨Zaa (by rw [<- HQ.o,HDF.o,hnm,hbr];rw [Bool.eq_iff_iff];simp [Zca];omega),HB2.o⟩
       . go_wp2
         go_ret;exact⟨Zaa (by rw [<- HQ.o,HDF.o,hnm,hbr];rw [Bool.eq_iff_iff];simp [Zca];omega),HB2.o⟩
     . go_wp2
       go_ret;exact⟨Zaa (by rw [<- HQ.o,HDF.o,hnm,hbr];rw [Bool.eq_iff_iff];simp [Zca];omega),HB2.o⟩
theorem ZnP (lo:Nat) (lv:Value) (Ss:List Sh) (hl:ZaI lo w lv Ss) (hv:Zaf w (.slice a L.length cap) L) (s0:nm.size<=maxLen) (s9:df.size<=maxLen) (s10:we.size<=maxLen) :
 Calls prog 198 #[lv,.agg #[.string nm,.int .i64 2,.int .i64 le,.int .i64 mo,.slice a L.length cap,.string to,.int .i64 ro,.bool mu,.bool fx,.string df,.string we]] w fun e w'=>e=.returned (.bool (Zap nm&&(Ze5 le mo to ro we&&Zef L.length L&&(df.toList.isEmpty || ZaL 2 le mo L df))))/\Zw_ w w':=by
 have HL:=Zab hl;have HV:=Zab hv;have HW0:=Zab s0;have HW9:=Zab s9;have HW4:=Zab s10;obtain⟨la,lcap,rfl⟩:=hl.form;clear hl hv s0 s9 s10;generalize hQ:(Zap nm&&(Ze5 le mo to ro we&&Zef L.length L&&(df.toList.isEmpty || ZaL 2 le mo L df)))=Q;have HQ:=Zab hQ;clear hQ;have HW:∀ o,Hd (Zw_ w (w.alloc o)):=fun o=>Zb_.alloc Zl_ _
 go_enter func198,ntmps198;go_wp2_with fail;refine (Zae _ _ HW0.o).mono ?_;rintro e wx ⟨rfl,rfl⟩
 cases hnm:Zap nm with
 | false=>
  go_wp2;go_ret;exact⟨Zaa (by rw [<- HQ.o,hnm];rfl),(HW _).o⟩
 | true=>
  go_wp2_with fail;refine (Zse nm to df we le mo ro mu fx a L.length cap _).mono ?_;rintro e w1 ⟨rfl,hb1⟩;have HC1:Hd (Below (w.heap.size+1) (w.alloc (.cells #[.string nm,.int .i64 2,.int .i64 le,.int .i64 mo,.slice a L.length cap,.string to,.int .i64 ro,.bool mu,.bool fx,.string df,.string we] 178)) w1):=by have:=hb1;simp at this;exact this
  have HB1:Hd (Zw_ w w1):=(HW _).o.trans (hb1.mono (by simp));have hbx:=fun i=>ZaK w w1 #[.string nm,.int .i64 2,.int .i64 le,.int .i64 mo,.slice a L.length cap,.string to,.int .i64 ro,.bool mu,.bool fx,.string df,.string we] 178 HC1.o i
  clear hb1
  cases hbr:Ze5 le mo to ro we with
  | false=>
   go_wp2;go_ret;exact⟨Zaa (by rw [<- HQ.o,hnm,hbr];rfl),HB1.o⟩
  | true=>
   cases hd:df.toList.isEmpty with
   | true=>
    have hdf:(df.toList.isEmpty || ZaL 2 le mo L df)=true:=by simp [hd]
    have HDF:=Zab hdf;clear hdf;go_wp2_with fail;refine (Zao _ _ _ _).mono ?_;rintro e wx ⟨rfl,rfl⟩
    cases hi:inB 1 6 (L.length:Int) with
    | true=>
     go_wp2_with fail;refine (ZcG _ L _ (HV.o.below HB1.o)).mono ?_;rintro e wy ⟨rfl,hby⟩;have HBy:Hd (Zw_ w wy):=HB1.o.trans (hby.mono HB1.o.size);clear hby
     go_wp2;go_ret;exact⟨Zaa (by rw [<- HQ.o,HDF.o,hnm,hbr,Ztq,hi];simp),HBy.o⟩
    | false=>
     go_wp2;go_ret;exact⟨Zaa (by rw [<- HQ.o,HDF.o,hnm,hbr,Ztq,hi];simp),HB1.o⟩
   | false=>
    go_wp2_with fail;refine (Zbv _ _ _ _ _ _ _ _ _ _ L _ _ _ (HV.o.below HB1.o) HW9.o).mono ?_;rintro e w2 ⟨rfl,hb2⟩;have HC2:Hd (Below (w.heap.size+1) (w.alloc (.cells #[.string nm,.int .i64 2,.int .i64 le,.int .i64 mo,.slice a L.length cap,.string to,.int .i64 ro,.bool mu,.bool fx,.string df,.string we] 178)) w2):=HC1.o.trans (hb2.mono (by have:=HC1.o.size;simp at this;omega));have HB2:Hd (Zw_ w w2):=HB1.o.trans (hb2.mono HB1.o.size);have hbx2:=fun i=>ZaK w w2 #[.string nm,.int .i64 2,.int .i64 le,.int .i64 mo,.slice a L.length cap,.string to,.int .i64 ro,.bool mu,.bool fx,.string df,.string we] 178 HC2.o i
    clear hb2 hbx
    cases hft:ZaL 2 le mo L df with
    | false=>
     go_wp2;go_ret;exact⟨Zaa (by rw [<- HQ.o,hnm,hbr,hd,hft];simp),HB2.o⟩
    | true=>
     have HDF:Hd ((df.toList.isEmpty || ZaL 2 le mo L df)=true):=by unfold Hd;simp [hft]
     go_wp2_with fail;refine (Zao _ _ _ _).mono ?_;rintro e wx ⟨rfl,rfl⟩
     cases hi:inB 1 6 (L.length:Int) with
     | true=>
      go_wp2_with fail;refine (ZcG _ L _ (HV.o.below HB2.o)).mono ?_;rintro e wy ⟨rfl,hby⟩;have HBy:Hd (Zw_ w wy):=HB2.o.trans (hby.mono HB2.o.size);clear hby
      go_wp2;go_ret;exact⟨Zaa (by rw [<- HQ.o,HDF.o,hnm,hbr,Ztq,hi];simp),HBy.o⟩
     | false=>
      go_wp2;go_ret;exact⟨Zaa (by rw [<- HQ.o,HDF.o,hnm,hbr,Ztq,hi];simp),HB2.o⟩
theorem ZnQ (lo:Nat) (lv:Value) (Ss:List Sh) (hl:ZaI lo w lv Ss) (hv:Zaf w (.slice a L.length cap) L) (s0:nm.size<=maxLen) (s9:df.size<=maxLen) (s10:we.size<=maxLen) :
 Calls prog 198 #[lv,.agg #[.string nm,.int .i64 3,.int .i64 le,.int .i64 mo,.slice a L.length cap,.string to,.int .i64 ro,.bool mu,.bool fx,.string df,.string we]] w fun e w'=>e=.returned (.bool (Zap nm&&(Zfk L.length to ro we&&ZcU le mo&&(df.toList.isEmpty || ZaL 3 le mo L df))))/\Zw_ w w':=by
 have HL:=Zab hl;have HV:=Zab hv;have HW0:=Zab s0;have HW9:=Zab s9;have HW4:=Zab s10;obtain⟨la,lcap,rfl⟩:=hl.form;clear hl hv s0 s9 s10;generalize hQ:(Zap nm&&(Zfk L.length to ro we&&ZcU le mo&&(df.toList.isEmpty || ZaL 3 le mo L df)))=Q;have HQ:=Zab hQ;clear hQ;have HW:∀ o,Hd (Zw_ w (w.alloc o)):=fun o=>Zb_.alloc Zl_ _
 go_enter func198,ntmps198;go_wp2_with fail;refine (Zae _ _ HW0.o).mono ?_;rintro e wx ⟨rfl,rfl⟩
 cases hnm:Zap nm with
 | false=>
  go_wp2;go_ret;exact⟨Zaa (by rw [<- HQ.o,hnm];rfl),(HW _).o⟩
 | true=>
  go_wp2_with fail;refine (Zsf nm to df we le mo ro mu fx a L.length cap _).mono ?_;rintro e w1 ⟨rfl,hb1⟩;have HC1:Hd (Below (w.heap.size+1) (w.alloc (.cells #[.string nm,.int .i64 3,.int .i64 le,.int .i64 mo,.slice a L.length cap,.string to,.int .i64 ro,.bool mu,.bool fx,.string df,.string we] 178)) w1):=by have:=hb1;simp at this;exact this
  have HB1:Hd (Zw_ w w1):=(HW _).o.trans (hb1.mono (by simp));have hbx:=fun i=>ZaK w w1 #[.string nm,.int .i64 3,.int .i64 le,.int .i64 mo,.slice a L.length cap,.string to,.int .i64 ro,.bool mu,.bool fx,.string df,.string we] 178 HC1.o i
  clear hb1
  cases hbr:Zfk L.length to ro we with
  | false=>
   go_wp2;go_ret;exact⟨Zaa (by rw [<- HQ.o,hnm,hbr];rfl),HB1.o⟩
  | true=>
   cases hd:df.toList.isEmpty with
   | true=>
    have hdf:(df.toList.isEmpty || ZaL 3 le mo L df)=true:=by simp [hd]
    have HDF:=Zab hdf;clear hdf
    by_cases h1:1<=le
    . by_cases h2:le<=mo
      . go_wp2
        go_ret;exact⟨Zaa (by rw [<- HQ.o,HDF.o,hnm,hbr];simp [ZcU,h1,h2]),HB1.o⟩
      . go_wp2
        go_ret;exact⟨Zaa (by rw [<- HQ.o,HDF.o,hnm,hbr];rw [Bool.eq_iff_iff];simp [ZcU];omega),HB1.o⟩
    . go_wp2
      go_ret;exact⟨Zaa (by rw [<- HQ.o,HDF.o,hnm,hbr];rw [Bool.eq_iff_iff];simp [ZcU];omega),HB1.o⟩
   | false=>
    go_wp2_with fail;refine (Zbv _ _ _ _ _ _ _ _ _ _ L _ _ _ (HV.o.below HB1.o) HW9.o).mono ?_;rintro e w2 ⟨rfl,hb2⟩;have HC2:Hd (Below (w.heap.size+1) (w.alloc (.cells #[.string nm,.int .i64 3,.int .i64 le,.int .i64 mo,.slice a L.length cap,.string to,.int .i64 ro,.bool mu,.bool fx,.string df,.string we] 178)) w2):=HC1.o.trans (hb2.mono (by have:=HC1.o.size;simp at this;omega));have HB2:Hd (Zw_ w w2):=HB1.o.trans (hb2.mono HB1.o.size);have hbx2:=fun i=>ZaK w w2 #[.string nm,.int .i64 3,.int .i64 le,.int .i64 mo,.slice a L.length cap,.string to,.int .i64 ro,.bool mu,.bool fx,.string df,.string we] 178 HC2.o i
    clear hb2 hbx
    cases hft:ZaL 3 le mo L df with
    | false=>
     go_wp2;go_ret;exact⟨Zaa (by rw [<- HQ.o,hnm,hbr,hd,hft];simp),HB2.o⟩
    | true=>
     have HDF:Hd ((df.toList.isEmpty || ZaL 3 le mo L df)=true):=by unfold Hd;simp [hft]
     by_cases h1:1<=le
     . by_cases h2:le<=mo
       . go_wp2
         go_ret;exact⟨Zaa (by rw [<- HQ.o,HDF.o,hnm,hbr];simp [ZcU,h1,h2]),HB2.o⟩
       . go_wp2
         go_ret;exact⟨Zaa (by rw [<- HQ.o,HDF.o,hnm,hbr];rw [Bool.eq_iff_iff];simp [ZcU];omega),HB2.o⟩
     . go_wp2
       go_ret;exact⟨Zaa (by rw [<- HQ.o,HDF.o,hnm,hbr];rw [Bool.eq_iff_iff];simp [ZcU];omega),HB2.o⟩
theorem ZnR (lo:Nat) (lv:Value) (Ss:List Sh) (hl:ZaI lo w lv Ss) (hv:Zaf w (.slice a L.length cap) L) (s0:nm.size<=maxLen) (s9:df.size<=maxLen) (s10:we.size<=maxLen) :
 Calls prog 198 #[lv,.agg #[.string nm,.int .i64 4,.int .i64 le,.int .i64 mo,.slice a L.length cap,.string to,.int .i64 ro,.bool mu,.bool fx,.string df,.string we]] w fun e w'=>e=.returned (.bool (Zap nm&&(Zfl le mo L.length we&&ZcV Ss to ro mu df&&(df.toList.isEmpty || ZaL 4 le mo L df))))/\Zw_ w w':=by
 have HL:=Zab hl;have HV:=Zab hv;have HW0:=Zab s0;have HW9:=Zab s9;have HW4:=Zab s10;obtain⟨la,lcap,rfl⟩:=hl.form;clear hl hv s0 s9 s10;generalize hQ:(Zap nm&&(Zfl le mo L.length we&&ZcV Ss to ro mu df&&(df.toList.isEmpty || ZaL 4 le mo L df)))=Q;have HQ:=Zab hQ;clear hQ;have HW:∀ o,Hd (Zw_ w (w.alloc o)):=fun o=>Zb_.alloc Zl_ _
 go_enter func198,ntmps198;go_wp2_with fail;refine (Zae _ _ HW0.o).mono ?_;rintro e wx ⟨rfl,rfl⟩
 cases hnm:Zap nm with
 | false=>
  go_wp2;go_ret;exact⟨Zaa (by rw [<- HQ.o,hnm];rfl),(HW _).o⟩
 | true=>
  go_wp2_with fail;refine (Zsg nm to df we le mo ro mu fx a L.length cap _).mono ?_;rintro e w1 ⟨rfl,hb1⟩;have HC1:Hd (Below (w.heap.size+1) (w.alloc (.cells #[.string nm,.int .i64 4,.int .i64 le,.int .i64 mo,.slice a L.length cap,.string to,.int .i64 ro,.bool mu,.bool fx,.string df,.string we] 178)) w1):=by have:=hb1;simp at this;exact this
  have HB1:Hd (Zw_ w w1):=(HW _).o.trans (hb1.mono (by simp));have hbx:=fun i=>ZaK w w1 #[.string nm,.int .i64 4,.int .i64 le,.int .i64 mo,.slice a L.length cap,.string to,.int .i64 ro,.bool mu,.bool fx,.string df,.string we] 178 HC1.o i
  clear hb1
  cases hbr:Zfl le mo L.length we with
  | false=>
   go_wp2;go_ret;exact⟨Zaa (by rw [<- HQ.o,hnm,hbr];rfl),HB1.o⟩
  | true=>
   cases hd:df.toList.isEmpty with
   | true=>
    have hdf:(df.toList.isEmpty || ZaL 4 le mo L df)=true:=by simp [hd]
    have HDF:=Zab hdf;clear hdf;go_wp2_with fail;refine (Zhu lo _ Ss _ _ (HL.o.below HB1.o)).mono ?_;rintro e wx ⟨rr,rfl,rfl,hrr⟩;have HR:=Zab hrr;clear hrr
    by_cases hr0:0<=rr
    . have HK:Hd (Zme Ss to=true):=by unfold Hd;rw [<- HR.o];simpa using hr0
      go_wp2_with fail;refine (Zao _ _ _ _).mono ?_;rintro e wx ⟨rfl,rfl⟩
      cases hi:inB 1 3 ro with
      | false=>
       go_wp2;go_ret;exact⟨Zaa (by rw [<- HQ.o,HDF.o,hnm,hbr,ZsF,hi];simp),HB1.o⟩
      | true=>
       cases h2:(ro != 2) with
       | true=>
        go_wp2;go_ret;exact⟨Zaa (by rw [<- HQ.o,HDF.o,hnm,hbr,ZsF,HK.o,hi,hd,h2];simp),HB1.o⟩
       | false=>
        go_wp2;go_ret;exact⟨Zaa (by rw [<- HQ.o,HDF.o,hnm,hbr,ZsF,HK.o,hi,hd,h2];simp),HB1.o⟩
    . have HK:Hd (Zme Ss to=false):=by unfold Hd;rw [<- HR.o];simpa using hr0
      go_wp2;go_ret;exact⟨Zaa (by rw [<- HQ.o,HDF.o,hnm,hbr,ZsF,HK.o];simp),HB1.o⟩
   | false=>
    go_wp2_with fail;refine (Zbv _ _ _ _ _ _ _ _ _ _ L _ _ _ (HV.o.below HB1.o) HW9.o).mono ?_;rintro e w2 ⟨rfl,hb2⟩;have HC2:Hd (Below (w.heap.size+1) (w.alloc (.cells #[.string nm,.int .i64 4,.int .i64 le,.int .i64 mo,.slice a L.length cap,.string to,.int .i64 ro,.bool mu,.bool fx,.string df,.string we] 178)) w2):=HC1.o.trans (hb2.mono (by have:=HC1.o.size;simp at this;omega));have HB2:Hd (Zw_ w w2):=HB1.o.trans (hb2.mono HB1.o.size);have hbx2:=fun i=>ZaK w w2 #[.string nm,.int .i64 4,.int .i64 le,.int .i64 mo,.slice a L.length cap,.string to,.int .i64 ro,.bool mu,.bool fx,.string df,.string we] 178 HC2.o i
    clear hb2 hbx
    cases hft:ZaL 4 le mo L df with
    | false=>
     go_wp2;go_ret;exact⟨Zaa (by rw [<- HQ.o,hnm,hbr,hd,hft];simp),HB2.o⟩
    | true=>
     have HDF:Hd ((df.toList.isEmpty || ZaL 4 le mo L df)=true):=by unfold Hd;simp [hft]
     go_wp2_with fail;refine (Zhu lo _ Ss _ _ (HL.o.below HB2.o)).mono ?_;rintro e wx ⟨rr,rfl,rfl,hrr⟩;have HR:=Zab hrr;clear hrr
     by_cases hr0:0<=rr
     . have HK:Hd (Zme Ss to=true):=by unfold Hd;rw [<- HR.o];simpa using hr0
       go_wp2_with fail;refine (Zao _ _ _ _).mono ?_;rintro e wx ⟨rfl,rfl⟩
       cases hi:inB 1 3 ro with
       | false=>
        go_wp2;go_ret;exact⟨Zaa (by rw [<- HQ.o,HDF.o,hnm,hbr,ZsF,hi];simp),HB2.o⟩
       | true=>
        go_wp2;go_ret;exact⟨Zaa (by rw [<- HQ.o,HDF.o,hnm,hbr,ZsF,hd];simp),HB2.o⟩
     . have HK:Hd (Zme Ss to=false):=by unfold Hd;rw [<- HR.o];simpa using hr0
       go_wp2;go_ret;exact⟨Zaa (by rw [<- HQ.o,HDF.o,hnm,hbr,ZsF,HK.o];simp),HB2.o⟩
end
end
variable {Fs:List Fd} {k j:Nat} {Ss:List Sh}
section
variable (nm to df we:Zy_) (le mo ro:Int) (mu fx:Bool) (a:Option Addr) (L:List Zy_) (cap:Nat) (w:World)
theorem ZnN (kd:Int) (lo:Nat) (lv:Value) (Ss:List Sh) (hl:ZaI lo w lv Ss) (hv:Zaf w (.slice a L.length cap) L) (s0:nm.size<=maxLen) (s9:df.size<=maxLen) (h1:kd≠1) (h2:kd≠2) (h3:kd≠3) (h4:kd≠4) :
 Calls prog 198 #[lv,.agg #[.string nm,.int .i64 kd,.int .i64 le,.int .i64 mo,.slice a L.length cap,.string to,.int .i64 ro,.bool mu,.bool fx,.string df,.string we]] w fun e w'=>e=.returned (.bool false)/\Zw_ w w':=by
 have HV:=Zab hv;have HW0:=Zab s0;have HW9:=Zab s9;obtain⟨la,lcap,rfl⟩:=hl.form;clear hl hv s0 s9;have HW:∀ o,Hd (Zw_ w (w.alloc o)):=fun o=>Zb_.alloc Zl_ _
 have HF:Hd (ZaL kd le mo L df=false):=ZrZ h1 h2 h3 h4;have HBR:=Zab (fun u=>Zsc nm to df we le mo ro mu fx a L.length cap u kd h1 h2 h3 h4);have b1:(kd == 1)=false:=beq_eq_false_iff_ne.2 h1;have b2:(kd == 2)=false:=beq_eq_false_iff_ne.2 h2;have b3:(kd == 3)=false:=beq_eq_false_iff_ne.2 h3;have b4:(kd == 4)=false:=beq_eq_false_iff_ne.2 h4;clear h1 h2 h3 h4;go_enter func198,ntmps198;go_wp2_with fail;refine (Zae _ _ HW0.o).mono ?_;rintro e wx ⟨rfl,rfl⟩
 cases hnm:Zap nm with
 | false=>
  go_wp2;go_ret;exact⟨rfl,(HW _).o⟩
 | true=>
  go_wp2_with fail;refine (HBR.o _).mono ?_;rintro e w1 ⟨bb,rfl,hb1⟩;have HC1:Hd (Below (w.heap.size+1) (w.alloc (.cells #[.string nm,.int .i64 kd,.int .i64 le,.int .i64 mo,.slice a L.length cap,.string to,.int .i64 ro,.bool mu,.bool fx,.string df,.string we] 178)) w1):=by have:=hb1;simp at this;exact this
  have HB1:Hd (Zw_ w w1):=(HW _).o.trans (hb1.mono (by simp));have hbx:=fun i=>ZaK w w1 #[.string nm,.int .i64 kd,.int .i64 le,.int .i64 mo,.slice a L.length cap,.string to,.int .i64 ro,.bool mu,.bool fx,.string df,.string we] 178 HC1.o i
  clear hb1
  cases bb with
  | false=>
   go_wp2;go_ret;exact⟨rfl,HB1.o⟩
  | true=>
   cases hd:df.toList.isEmpty with
   | true=>
    go_wp2;go_ret;exact⟨rfl,HB1.o⟩
   | false=>
    go_wp2_with fail;refine (Zbv _ _ _ _ _ _ _ _ _ _ L _ _ _ (HV.o.below HB1.o) HW9.o).mono ?_;rintro e w2 ⟨rfl,hb2⟩;have HB2:Hd (Zw_ w w2):=HB1.o.trans (hb2.mono HB1.o.size);clear hb2 hbx;rw [HF.o];go_wp2;go_ret;exact⟨rfl,HB2.o⟩
end
def ZdR (Ss:List Sh) (f:Fd):Bool:=
 if f.kd=1 then ZfG f.words.length f.to f.ro&&Zca f.le f.mo f.we&&(f.df.toList.isEmpty || ZaL 1 f.le f.mo f.words f.df)
 else if f.kd=2 then Ze5 f.le f.mo f.to f.ro f.we&&Zef f.words.length f.words&&(f.df.toList.isEmpty || ZaL 2 f.le f.mo f.words f.df)
 else if f.kd=3 then Zfk f.words.length f.to f.ro f.we&&ZcU f.le f.mo&&(f.df.toList.isEmpty || ZaL 3 f.le f.mo f.words f.df)
 else if f.kd=4 then Zfl f.le f.mo f.words.length f.we&&ZcV Ss f.to f.ro f.mu f.df&&(f.df.toList.isEmpty || ZaL 4 f.le f.mo f.words f.df)
 else false
theorem Zaf.form_len {w:World}{v:Value}{L:List Zy_} (h:Zaf w v L):∃ a cap,v=.slice a L.length cap:=by
 rcases h with ⟨a,cap,h,rfl⟩ | ⟨b,off,cap,h,_⟩
 . exact⟨a,cap,h⟩
 . exact⟨_,cap,h⟩
theorem ZfW (lo:Nat) (lv:Value) (Ss:List Sh) (f:Fd) (wv:Value) (w:World) (hl:ZaI lo w lv Ss) (hv:Zaf w wv f.words) (hz:Ze8 f) :
 Calls prog 198 #[lv,.agg #[.string f.nm,.int .i64 f.kd,.int .i64 f.le,.int .i64 f.mo,wv,.string f.to,.int .i64 f.ro,.bool f.mu,.bool f.fx,.string f.df,.string f.we]] w
  fun e w'=>e=.returned (.bool (Zap f.nm&&ZdR Ss f))/\Zw_ w w':=by
 obtain⟨nm,kd,le,mo,words,to,ro,mu,fx,df,we⟩:=f;obtain⟨a,cap,rfl⟩:=hv.form_len;obtain⟨s0,s5,s9,s10⟩:=hz;simp only [ZdR] at*
 by_cases h1:kd=1
 . subst h1;rw [if_pos rfl];exact ZnO nm to df we le mo ro mu fx a words cap w lo lv Ss hl hv s0 s9 s10
 rw [if_neg h1]
 by_cases h2:kd=2
 . subst h2;rw [if_pos rfl];exact ZnP nm to df we le mo ro mu fx a words cap w lo lv Ss hl hv s0 s9 s10
 rw [if_neg h2]
 by_cases h3:kd=3
 . subst h3;rw [if_pos rfl];exact ZnQ nm to df we le mo ro mu fx a words cap w lo lv Ss hl hv s0 s9 s10
 rw [if_neg h3]
 by_cases h4:kd=4
 . subst h4;rw [if_pos rfl];exact ZnR nm to df we le mo ro mu fx a words cap w lo lv Ss hl hv s0 s9 s10
 rw [if_neg h4,Bool.and_false];exact ZnN nm to df we le mo ro mu fx a words cap w kd lo lv Ss hl hv s0 s9 h1 h2 h3 h4
def ZmT (Fs:List Fd) (s:Zy_):Bool:=Fs.any fun x=>x.nm.toList == s.toList
theorem ZgW {s:Zy_} (hj:j < Fs.length) (hk:j < k) (h:(Fs[j].nm.toList == s.toList)=true):ZmT (Fs.take k) s=true:=by
 unfold ZmT;rw [List.any_eq_true];exact⟨Fs[j],List.mem_take_iff_getElem.2 ⟨j,by omega,rfl⟩,h⟩
theorem Zi8 {s:Zy_} (h:∀ j (hj:j < Fs.length),j < k->(Fs[j].nm.toList == s.toList)=false):ZmT (Fs.take k) s=false:=by
 unfold ZmT;rw [List.any_eq_false];intro x hx;obtain⟨j,hj,rfl⟩:=List.mem_take_iff_getElem.1 hx;simp [h j (by omega) (by omega)]
def ZbE (Ss:List Sh) (Fs:List Fd) (k:Nat):Bool:=
 match Fs[k]? with
 | some f=>Zap f.nm&&ZdR Ss f&&!ZmT (Fs.take k) f.nm
 | none=>true
def Zay (Ss:List Sh) (Fs:List Fd):Bool:=decide (Fs.length<=6)&&(List.range Fs.length).all (ZbE Ss Fs)
theorem ZaG (h:k < Fs.length):ZbE Ss Fs k=(Zap Fs[k].nm&&ZdR Ss Fs[k]&&!ZmT (Fs.take k) Fs[k].nm):=by
 unfold ZbE;rw [List.getElem?_eq_getElem h]
def Za4 (Ss:List Sh) (i:Nat):Bool:=
 match Ss[i]? with
 | some x=>Zap x.kind&&(match Ss[i - 1]? with | some y=>i == 0 || Op.bytesLess y.kind.toList x.kind.toList | none=>true)&&Zay Ss x.fields
 | none=>true
def ZaH (Ss:List Sh):Bool:=decide (Ss.length<=6)&&(List.range Ss.length).all (Za4 Ss)
theorem ZcJ (h:0 < Ss.length):Za4 Ss 0=(Zap Ss[0].kind&&Zay Ss Ss[0].fields):=by
 unfold Za4;rw [List.getElem?_eq_getElem h];simp
theorem ZbN (h:j+1 < Ss.length):Za4 Ss (j+1)=(Zap Ss[j+1].kind&&Op.bytesLess Ss[j].kind.toList Ss[j+1].kind.toList&&Zay Ss Ss[j+1].fields):=by
 unfold Za4;rw [List.getElem?_eq_getElem h];simp [List.getElem?_eq_getElem (show j < Ss.length by omega)]
end Go.Proofs.YtmappejlmapboaaGreat
