import Derived.Test.YtmappejlmapboaaGreatD02
set_option maxHeartbeats 16000000
set_option maxRecDepth 100000
open Go.Proofs.Tryz
namespace Go.Proofs.YtmappejlmapboaaGreat
open Go.RowKit Go.Deep
section
def Zb6 (le mo:Int) (n:Nat) (to:Zy_) (ro:Int) (we:Zy_):Bool:=(le == 0)&&(mo == 0)&&((n:Int) == 0)&&to.toList.isEmpty&&(ro == 0)&&we.toList.isEmpty
def Zai (s:Zy_):Bool:=s.toList.isEmpty || Zap s
theorem ZbL (s:Zy_) (w:World) (hs:s.size<=maxLen) :
 Calls prog 216 #[.string s] w fun e w'=>e=.returned (.bool (Zai s))/\w'=w:=by
 have hk:=Zan s w hs
 cases he:s.toList.isEmpty with
 | true=>
  go_enter func216,ntmps216;go_wp2;go_ret;exact⟨Zaa (by simp [Zai,he]),rfl⟩
 | false=>
  go_enter func216,ntmps216;go_wp2_with fail;refine hk.mono ?_;rintro e w1 ⟨rfl,rfl⟩;go_wp2;go_ret;exact⟨Zaa (by simp [Zai,he]),rfl⟩
section
variable (nm to df we:Zy_) (le mo ro:Int) (mu fx:Bool) (a:Option Addr) (n cap:Nat) (w:World)
theorem Zff (kd:Int) :
 Calls prog 282 #[.agg #[.string nm,.int .i64 kd,.int .i64 le,.int .i64 mo,.slice a n cap,.string to,.int .i64 ro,.bool mu,.bool fx,.string df,.string we]] w fun e w'=>e=.returned (.bool (Zb6 le mo n to ro we))/\Zw_ w w':=by
 cases hle:(le == 0) with
 | false=>
  have gle:(le != 0)=true:=by simp [bne,hle]
  go_enter func282,ntmps282;go_wp2;go_ret;exact⟨Zaa (by simp [Zb6,hle]),Zb_.alloc Zl_ _⟩
 | true=>
  have gle:(le != 0)=false:=by simp [bne,hle]
  cases hmo:(mo == 0) with
  | false=>
   have gmo:(mo != 0)=true:=by simp [bne,hmo]
   go_enter func282,ntmps282;go_wp2;go_ret;exact⟨Zaa (by simp [Zb6,hle,hmo]),Zb_.alloc Zl_ _⟩
  | true=>
   have gmo:(mo != 0)=false:=by simp [bne,hmo]
   cases hn:((n:Int) == 0) with
   | false=>
    have gn:(0:Int) < n:=by simp at hn;omega
    go_enter func282,ntmps282;go_wp2;go_ret;exact⟨Zaa (by simp [Zb6,hle,hmo,hn]),Zb_.alloc Zl_ _⟩
   | true=>
    have gn:¬ (0:Int) < n:=by simp at hn;omega
    cases hto:to.toList.isEmpty with
    | false=>
     go_enter func282,ntmps282;go_wp2;go_ret;exact⟨Zaa (by simp [Zb6,hle,hmo,hn,hto]),Zb_.alloc Zl_ _⟩
    | true=>
     cases hro:(ro == 0) with
     | false=>
      have gro:(ro != 0)=true:=by simp [bne,hro]
      go_enter func282,ntmps282;go_wp2;go_ret;exact⟨Zaa (by simp [Zb6,hle,hmo,hn,hto,hro]),Zb_.alloc Zl_ _⟩
     | true=>
      have gro:(ro != 0)=false:=by simp [bne,hro]
      cases hwe:we.toList.isEmpty with
      | false=>
       go_enter func282,ntmps282;go_wp2;go_ret;exact⟨Zaa (by simp [Zb6,hle,hmo,hn,hto,hro,hwe]),Zb_.alloc Zl_ _⟩
      | true=>
       go_enter func282,ntmps282;go_wp2;go_ret;exact⟨Zaa (by simp [Zb6,hle,hmo,hn,hto,hro,hwe]),Zb_.alloc Zl_ _⟩
theorem Zrv (kd:Int) :
 Calls prog 317 #[.agg #[.int .i64 le,.int .i64 mo,.string we],.agg #[.string nm,.int .i64 kd,.int .i64 le,.int .i64 mo,.slice a n cap,.string to,.int .i64 ro,.bool mu,.bool fx,.string df,.string we]] w fun e w'=>e=.returned (.agg #[.string nm,.int .i64 kd,.int .i64 0,.int .i64 0,.slice a n cap,.string to,.int .i64 ro,.bool mu,.bool fx,.string df,.string ⟨#[]⟩])/\Zw_ w w':=by
 go_enter func317,ntmps317;go_wp2;refine bodyPost_ret (v:=.agg #[.string nm,.int .i64 kd,.int .i64 0,.int .i64 0,.slice a n cap,.string to,.int .i64 ro,.bool mu,.bool fx,.string df,.string ⟨#[]⟩]) (by simp [results,results317,go_sem]) rfl ⟨rfl,?_⟩
 repeat (first | exact Below.refl _ _ | refine Below.alloc ?_ (by simp;try omega) _ | refine Below.setCell ?_ (by simp only [];omega) _)
theorem Zrw (kd:Int) :
 Calls prog 320 #[.agg #[.slice a n cap],.agg #[.string nm,.int .i64 kd,.int .i64 le,.int .i64 mo,.slice a n cap,.string to,.int .i64 ro,.bool mu,.bool fx,.string df,.string we]] w fun e w'=>e=.returned (.agg #[.string nm,.int .i64 kd,.int .i64 le,.int .i64 mo,.slice none 0 0,.string to,.int .i64 ro,.bool mu,.bool fx,.string df,.string we])/\Zw_ w w':=by
 go_enter func320,ntmps320;go_wp2;refine bodyPost_ret (v:=.agg #[.string nm,.int .i64 kd,.int .i64 le,.int .i64 mo,.slice none 0 0,.string to,.int .i64 ro,.bool mu,.bool fx,.string df,.string we]) (by simp [results,results320,go_sem]) rfl ⟨rfl,?_⟩
 repeat (first | exact Below.refl _ _ | refine Below.alloc ?_ (by simp;try omega) _ | refine Below.setCell ?_ (by simp only [];omega) _)
theorem Zrx (kd:Int) :
 Calls prog 323 #[.agg #[.int .i64 le,.int .i64 mo],.agg #[.string nm,.int .i64 kd,.int .i64 le,.int .i64 mo,.slice a n cap,.string to,.int .i64 ro,.bool mu,.bool fx,.string df,.string we]] w fun e w'=>e=.returned (.agg #[.string nm,.int .i64 kd,.int .i64 0,.int .i64 0,.slice a n cap,.string to,.int .i64 ro,.bool mu,.bool fx,.string df,.string we])/\Zw_ w w':=by
 go_enter func323,ntmps323;go_wp2;refine bodyPost_ret (v:=.agg #[.string nm,.int .i64 kd,.int .i64 0,.int .i64 0,.slice a n cap,.string to,.int .i64 ro,.bool mu,.bool fx,.string df,.string we]) (by simp [results,results323,go_sem]) rfl ⟨rfl,?_⟩
 repeat (first | exact Below.refl _ _ | refine Below.alloc ?_ (by simp;try omega) _ | refine Below.setCell ?_ (by simp only [];omega) _)
theorem Zpr (kd:Int) :
 Calls prog 326 #[.agg #[.string to,.int .i64 ro,.bool mu,.string df],.agg #[.string nm,.int .i64 kd,.int .i64 le,.int .i64 mo,.slice a n cap,.string to,.int .i64 ro,.bool mu,.bool fx,.string df,.string we]] w fun e w'=>e=.returned (.agg #[.string nm,.int .i64 kd,.int .i64 le,.int .i64 mo,.slice a n cap,.string ⟨#[]⟩,.int .i64 0,.bool mu,.bool fx,.string df,.string we])/\Zw_ w w':=by
 go_enter func326,ntmps326;go_wp2;refine bodyPost_ret (v:=.agg #[.string nm,.int .i64 kd,.int .i64 le,.int .i64 mo,.slice a n cap,.string ⟨#[]⟩,.int .i64 0,.bool mu,.bool fx,.string df,.string we]) (by simp [results,results326,go_sem]) rfl ⟨rfl,?_⟩
 repeat (first | exact Below.refl _ _ | refine Below.alloc ?_ (by simp;try omega) _ | refine Below.setCell ?_ (by simp only [];omega) _)
def Zf1 (n:Nat) (to:Zy_) (ro:Int):Bool:=((n:Int) == 0)&&to.toList.isEmpty&&(ro == 0)
def Zfk (le mo:Int) (to:Zy_) (ro:Int) (we:Zy_):Bool:=(le == 0)&&(mo == 0)&&we.toList.isEmpty&&to.toList.isEmpty&&(ro == 0)
def ZfC (n:Nat) (to:Zy_) (ro:Int) (we:Zy_):Bool:=we.toList.isEmpty&&((n:Int) == 0)&&to.toList.isEmpty&&(ro == 0)
def ZfD (le mo:Int) (n:Nat) (we:Zy_):Bool:=(le == 0)&&(mo == 0)&&we.toList.isEmpty&&((n:Int) == 0)
theorem ZsZ :
 Calls prog 231 #[.agg #[.string nm,.int .i64 1,.int .i64 le,.int .i64 mo,.slice a n cap,.string to,.int .i64 ro,.bool mu,.bool fx,.string df,.string we]] w fun e w'=>e=.returned (.bool (Zf1 n to ro))/\Zw_ w w':=by
 cases hn:((n:Int) == 0) with
 | false=>
  have gn:(0:Int) < n:=by simp at hn;omega
  go_enter func231,ntmps231;go_wp2;go_ret;exact⟨Zaa (by simp [Zf1,hn]),Zb_.alloc Zl_ _⟩
 | true=>
  have gn:¬ (0:Int) < n:=by simp at hn;omega
  cases hto:to.toList.isEmpty with
  | false=>
   go_enter func231,ntmps231;go_wp2;go_ret;exact⟨Zaa (by simp [Zf1,hn,hto]),Zb_.alloc Zl_ _⟩
  | true=>
   cases hro:(ro == 0) with
   | false=>
    have gro:(ro != 0)=true:=by simp [bne,hro]
    go_enter func231,ntmps231;go_wp2;go_ret;exact⟨Zaa (by simp [Zf1,hn,hto,hro]),Zb_.alloc Zl_ _⟩
   | true=>
    have gro:(ro != 0)=false:=by simp [bne,hro]
    go_enter func231,ntmps231;go_wp2;go_ret;exact⟨Zaa (by simp [Zf1,hn,hto,hro]),Zb_.alloc Zl_ _⟩
theorem Zs0 :
 Calls prog 231 #[.agg #[.string nm,.int .i64 2,.int .i64 le,.int .i64 mo,.slice a n cap,.string to,.int .i64 ro,.bool mu,.bool fx,.string df,.string we]] w fun e w'=>e=.returned (.bool (Zfk le mo to ro we))/\Zw_ w w':=by
 cases hle:(le == 0) with
 | false=>
  have gle:(le != 0)=true:=by simp [bne,hle]
  go_enter func231,ntmps231;go_wp2;go_ret;exact⟨Zaa (by simp [Zfk,hle]),Zb_.alloc Zl_ _⟩
 | true=>
  have gle:(le != 0)=false:=by simp [bne,hle]
  cases hmo:(mo == 0) with
  | false=>
   have gmo:(mo != 0)=true:=by simp [bne,hmo]
   go_enter func231,ntmps231;go_wp2;go_ret;exact⟨Zaa (by simp [Zfk,hle,hmo]),Zb_.alloc Zl_ _⟩
  | true=>
   have gmo:(mo != 0)=false:=by simp [bne,hmo]
   cases hwe:we.toList.isEmpty with
   | false=>
    go_enter func231,ntmps231;go_wp2;go_ret;exact⟨Zaa (by simp [Zfk,hle,hmo,hwe]),Zb_.alloc Zl_ _⟩
   | true=>
    cases hto:to.toList.isEmpty with
    | false=>
     go_enter func231,ntmps231;go_wp2;go_ret;exact⟨Zaa (by simp [Zfk,hle,hmo,hwe,hto]),Zb_.alloc Zl_ _⟩
    | true=>
     cases hro:(ro == 0) with
     | false=>
      have gro:(ro != 0)=true:=by simp [bne,hro]
      go_enter func231,ntmps231;go_wp2;go_ret;exact⟨Zaa (by simp [Zfk,hle,hmo,hwe,hto,hro]),Zb_.alloc Zl_ _⟩
     | true=>
      have gro:(ro != 0)=false:=by simp [bne,hro]
      go_enter func231,ntmps231;go_wp2;go_ret;exact⟨Zaa (by simp [Zfk,hle,hmo,hwe,hto,hro]),Zb_.alloc Zl_ _⟩
theorem Zs1 :
 Calls prog 231 #[.agg #[.string nm,.int .i64 3,.int .i64 le,.int .i64 mo,.slice a n cap,.string to,.int .i64 ro,.bool mu,.bool fx,.string df,.string we]] w fun e w'=>e=.returned (.bool (ZfC n to ro we))/\Zw_ w w':=by
 cases hwe:we.toList.isEmpty with
 | false=>
  go_enter func231,ntmps231;go_wp2;go_ret;exact⟨Zaa (by simp [ZfC,hwe]),Zb_.alloc Zl_ _⟩
 | true=>
  cases hn:((n:Int) == 0) with
  | false=>
   have gn:(0:Int) < n:=by simp at hn;omega
   go_enter func231,ntmps231;go_wp2;go_ret;exact⟨Zaa (by simp [ZfC,hwe,hn]),Zb_.alloc Zl_ _⟩
  | true=>
   have gn:¬ (0:Int) < n:=by simp at hn;omega
   cases hto:to.toList.isEmpty with
   | false=>
    go_enter func231,ntmps231;go_wp2;go_ret;exact⟨Zaa (by simp [ZfC,hwe,hn,hto]),Zb_.alloc Zl_ _⟩
   | true=>
    cases hro:(ro == 0) with
    | false=>
     have gro:(ro != 0)=true:=by simp [bne,hro]
     go_enter func231,ntmps231;go_wp2;go_ret;exact⟨Zaa (by simp [ZfC,hwe,hn,hto,hro]),Zb_.alloc Zl_ _⟩
    | true=>
     have gro:(ro != 0)=false:=by simp [bne,hro]
     go_enter func231,ntmps231;go_wp2;go_ret;exact⟨Zaa (by simp [ZfC,hwe,hn,hto,hro]),Zb_.alloc Zl_ _⟩
theorem Zs2 :
 Calls prog 231 #[.agg #[.string nm,.int .i64 4,.int .i64 le,.int .i64 mo,.slice a n cap,.string to,.int .i64 ro,.bool mu,.bool fx,.string df,.string we]] w fun e w'=>e=.returned (.bool (ZfD le mo n we))/\Zw_ w w':=by
 cases hle:(le == 0) with
 | false=>
  have gle:(le != 0)=true:=by simp [bne,hle]
  go_enter func231,ntmps231;go_wp2;go_ret;exact⟨Zaa (by simp [ZfD,hle]),Zb_.alloc Zl_ _⟩
 | true=>
  have gle:(le != 0)=false:=by simp [bne,hle]
  cases hmo:(mo == 0) with
  | false=>
   have gmo:(mo != 0)=true:=by simp [bne,hmo]
   go_enter func231,ntmps231;go_wp2;go_ret;exact⟨Zaa (by simp [ZfD,hle,hmo]),Zb_.alloc Zl_ _⟩
  | true=>
   have gmo:(mo != 0)=false:=by simp [bne,hmo]
   cases hwe:we.toList.isEmpty with
   | false=>
    go_enter func231,ntmps231;go_wp2;go_ret;exact⟨Zaa (by simp [ZfD,hle,hmo,hwe]),Zb_.alloc Zl_ _⟩
   | true=>
    cases hn:((n:Int) == 0) with
    | false=>
     have gn:(0:Int) < n:=by simp at hn;omega
     go_enter func231,ntmps231;go_wp2;go_ret;exact⟨Zaa (by simp [ZfD,hle,hmo,hwe,hn]),Zb_.alloc Zl_ _⟩
    | true=>
     have gn:¬ (0:Int) < n:=by simp at hn;omega
     go_enter func231,ntmps231;go_wp2;go_ret;exact⟨Zaa (by simp [ZfD,hle,hmo,hwe,hn]),Zb_.alloc Zl_ _⟩
end
end
section
theorem ZaL (w u:World) (O:Array Value) (T:TypeId) (h:Below (w.heap.size+1) (w.alloc (.cells O T)) u) (i:Nat):u.cell? ⟨w.heap.size,i,none⟩=O[i]?:=by
 rw [h.cell (p:=⟨w.heap.size,i,none⟩) (by simp)];simp
def Zcd (le mo:Int) (we:Zy_):Bool:=decide (0<=le)&&decide (le<=mo)&&decide (mo<=1000000)&&Zai we
def Zex (n:Nat) (L:List Zy_):Bool:=decide (1<=(n:Int))&&decide ((n:Int)<=6)&&Zpw L
def Zc2 (le mo:Int):Bool:=decide (1<=le)&&decide (le<=mo)&&decide (mo<=40)
def Zlk (ro:Int) (mu:Bool):Bool:=ro == 1 || ro == 3 || ro == 2&&!mu
def Zc3 (Ss:List Sh) (to:Zy_) (ro:Int) (mu:Bool) (df:Zy_):Bool:=ZmV Ss to&&df.toList.isEmpty&&Zlk ro mu
theorem un1 (n:Nat) (to:Zy_) (ro:Int):Zb6 0 0 n to ro ⟨#[]⟩=Zf1 n to ro:=by simp [Zb6,Zf1,ByteArray.toList_eq]
theorem un2 (le mo:Int) (to:Zy_) (ro:Int) (we:Zy_):Zb6 le mo 0 to ro we=Zfk le mo to ro we:=by
 simp only [Zb6,Zfk];cases (le == 0) <;> cases (mo == 0) <;> cases to.toList.isEmpty <;> cases (ro == 0) <;> cases we.toList.isEmpty <;> rfl
theorem un3 (n:Nat) (to:Zy_) (ro:Int) (we:Zy_):Zb6 0 0 n to ro we=ZfC n to ro we:=by
 simp only [Zb6,ZfC];cases ((n:Int) == 0) <;> cases to.toList.isEmpty <;> cases (ro == 0) <;> cases we.toList.isEmpty <;> rfl
theorem un4 (le mo:Int) (n:Nat) (we:Zy_):Zb6 le mo n ⟨#[]⟩ 0 we=ZfD le mo n we:=by
 simp only [Zb6,ZfD,ByteArray.toList_eq];cases (le == 0) <;> cases (mo == 0) <;> cases ((n:Int) == 0) <;> cases we.data.toList.isEmpty <;> rfl
section
variable (nm to df we:Zy_) (le mo ro:Int) (mu fx:Bool) (a:Option Addr) (n cap:Nat) (w:World)
theorem ZsY (kd:Int) (h1:kd≠1) (h2:kd≠2) (h3:kd≠3) (h4:kd≠4) :
 Calls prog 231 #[.agg #[.string nm,.int .i64 kd,.int .i64 le,.int .i64 mo,.slice a n cap,.string to,.int .i64 ro,.bool mu,.bool fx,.string df,.string we]] w fun e w'=>∃ b,e=.returned (.bool b)/\Zw_ w w':=by
 have b1:(kd == 1)=false:=beq_eq_false_iff_ne.2 h1;have b2:(kd == 2)=false:=beq_eq_false_iff_ne.2 h2;have b3:(kd == 3)=false:=beq_eq_false_iff_ne.2 h3;have b4:(kd == 4)=false:=beq_eq_false_iff_ne.2 h4;have c1:(kd != 1)=true:=by simp [bne,b1]
 have c2:(kd != 2)=true:=by simp [bne,b2]
 clear h1 h2 h3 h4;go_enter func231,ntmps231;go_wp2
 all_goals go_ret
 all_goals exact⟨_,rfl,Zb_.alloc Zl_ _⟩
theorem Zts (lv:Value) (hs:we.size<=maxLen) :
 Calls prog 316 #[.agg #[.int .i64 le,.int .i64 mo,.string we],lv] w fun e w'=>e=.returned (.bool (Zcd le mo we))/\Zw_ w w':=by
 have HW:∀ o,Hd (Zw_ w (w.alloc o)):=fun o=>Zb_.alloc Zl_ _
 have hk:=fun u=>ZbL we u hs
 by_cases h1:0<=le
 . by_cases h2:le<=mo
   . by_cases h3:mo<=1000000
     . go_enter func316,ntmps316
       go_wp2_with fail;refine (hk _).mono ?_;rintro e w1 ⟨rfl,rfl⟩;go_wp2;go_ret;exact⟨Zaa (by simp [Zcd,h1,h2,h3]),(HW _).o⟩
     . go_enter func316,ntmps316
       go_wp2;go_ret;exact⟨Zaa (by rw [Bool.eq_iff_iff];simp [Zcd];omega),(HW _).o⟩
   . go_enter func316,ntmps316
     go_wp2;go_ret;exact⟨Zaa (by rw [Bool.eq_iff_iff];simp [Zcd];omega),(HW _).o⟩
 . go_enter func316,ntmps316
   go_wp2;go_ret;exact⟨Zaa (by rw [Bool.eq_iff_iff];simp [Zcd];omega),(HW _).o⟩
theorem Ztt (lv:Value) (L:List Zy_) (hv:Zaf w (.slice a L.length cap) L) :
 Calls prog 319 #[.agg #[.slice a L.length cap],lv] w fun e w'=>e=.returned (.bool (Zex L.length L))/\Zw_ w w':=by
 have HV:=Zab hv;clear hv;have HW:∀ o,Hd (Zw_ w (w.alloc o)):=fun o=>Zb_.alloc Zl_ _
 by_cases h1:(1:Int)<=L.length
 . by_cases h2:(L.length:Int)<=6
   . go_enter func319,ntmps319
     go_wp2_with fail;refine (ZgT _ L _ (HV.o.below (HW _).o)).mono ?_;rintro e w1 ⟨rfl,rfl⟩;go_wp2;go_ret;exact⟨Zaa (by simp [Zex,h1,h2]),(HW _).o⟩
   . go_enter func319,ntmps319
     go_wp2;go_ret;exact⟨Zaa (by rw [Bool.eq_iff_iff];simp [Zex];omega),(HW _).o⟩
 . go_enter func319,ntmps319
   go_wp2;go_ret;exact⟨Zaa (by rw [Bool.eq_iff_iff];simp [Zex];omega),(HW _).o⟩
theorem Ztu (lv:Value) :
 Calls prog 322 #[.agg #[.int .i64 le,.int .i64 mo],lv] w fun e w'=>e=.returned (.bool (Zc2 le mo))/\Zw_ w w':=by
 have HW:∀ o,Hd (Zw_ w (w.alloc o)):=fun o=>Zb_.alloc Zl_ _
 by_cases h1:1<=le
 . by_cases h2:le<=mo
   . go_enter func322,ntmps322
     go_wp2;go_ret;exact⟨Zaa (by simp [Zc2,h1,h2]),(HW _).o⟩
   . go_enter func322,ntmps322
     go_wp2;go_ret;exact⟨Zaa (by rw [Bool.eq_iff_iff];simp [Zc2];omega),(HW _).o⟩
 . go_enter func322,ntmps322
   go_wp2;go_ret;exact⟨Zaa (by rw [Bool.eq_iff_iff];simp [Zc2];omega),(HW _).o⟩
theorem Ztv (lo:Nat) (lv:Value) (Ss:List Sh) (hv:ZaI lo w lv Ss) :
 Calls prog 325 #[.agg #[.string to,.int .i64 ro,.bool mu,.string df],lv] w fun e w'=>e=.returned (.bool (Zc3 Ss to ro mu df))/\Zw_ w w':=by
 have HV:=Zab hv;obtain⟨la,lcap,rfl⟩:=hv.form;clear hv;have HW:∀ o,Hd (Zw_ w (w.alloc o)):=fun o=>Zb_.alloc Zl_ _
 go_enter func325,ntmps325;go_wp2_with fail;refine (ZmB lo _ Ss _ _ (HV.o.below (HW _).o)).mono ?_;rintro e w1 ⟨hb1,hsh⟩;have hz:w.heap.size < w1.heap.size:=by have:=hb1.size;simp at this;omega
 have hbx:=fun i=>ZaL w w1 #[.string to,.int .i64 ro,.bool mu,.string df] 333 (by have:=hb1;simp at this;exact this) i
 have HB:Hd (Zw_ w w1):=(HW _).o.trans (hb1.mono (by simp));clear hb1
 rcases hsh with ⟨x,fv,hx,rfl,hfd⟩ | ⟨hx,rfl⟩
 . have HK:Hd (ZmV Ss to=true):=ZkN hx
   obtain⟨fa,fcap,rfl⟩:=hfd.form;clear hfd hx
   cases hd:df.toList.isEmpty with
   | false=>
    go_wp2;go_ret;exact⟨Zaa (by simp [Zc3,hd]),HB.o.alloc (by omega) _⟩
   | true=>
    cases a1:(ro == 1) with
    | true=>
     go_wp2;go_ret;exact⟨Zaa (by simp [Zc3,Zlk,hd,HK.o,a1]),HB.o.alloc (by omega) _⟩
    | false=>
     cases a3:(ro == 3) with
     | true=>
      go_wp2;go_ret;exact⟨Zaa (by simp [Zc3,Zlk,hd,HK.o,a1,a3]),HB.o.alloc (by omega) _⟩
     | false=>
      cases a2:(ro == 2) with
      | true=>
       go_wp2;go_ret;exact⟨Zaa (by simp [Zc3,Zlk,hd,HK.o,a1,a3,a2]),HB.o.alloc (by omega) _⟩
      | false=>
       go_wp2;go_ret;exact⟨Zaa (by simp [Zc3,Zlk,hd,HK.o,a1,a3,a2]),HB.o.alloc (by omega) _⟩
 . have HK:Hd (ZmV Ss to=false):=ZkM hx
   clear hx;go_wp2;go_ret;exact⟨Zaa (by simp [Zc3,HK.o]),HB.o.alloc (by omega) _⟩
end
end
section
section
variable (nm to df we:Zy_) (le mo ro:Int) (mu fx:Bool) (a:Option Addr) (L:List Zy_) (cap:Nat) (w:World)
theorem Zol (kd:Int) (lo:Nat) (lv:Value) (Ss:List Sh) (hl:ZaI lo w lv Ss) (hv:Zaf w (.slice a L.length cap) L) (s9:df.size<=maxLen) (s10:we.size<=maxLen) :
 Calls prog 263 #[.iface 327 (.agg #[.int .i64 le,.int .i64 mo,.string we]),lv,.agg #[.string nm,.int .i64 kd,.int .i64 le,.int .i64 mo,.slice a L.length cap,.string to,.int .i64 ro,.bool mu,.bool fx,.string df,.string we]] w fun e w'=>e=.returned (.bool (Zf1 L.length to ro&&Zcd le mo we&&(df.toList.isEmpty || ZaM 1 le mo L df)))/\Zw_ w w':=by
 have HL:=Zab hl;have HV:=Zab hv;have HW9:=Zab s9;have HW4:=Zab s10;obtain⟨la,lcap,rfl⟩:=hl.form;clear hl hv s9 s10;have HW:∀ o,Hd (Zw_ w (w.alloc o)):=fun o=>Zb_.alloc Zl_ _
 have m1:∀ W:World,(method 465 327 (.agg #[.int .i64 le,.int .i64 mo,.string we]) "loop.example/wharfhall/impl.without").run prog W=.ok (317,.agg #[.int .i64 le,.int .i64 mo,.string we]) W:=fun _=>by kernel_rfl
 have m2:∀ W:World,(method 465 327 (.agg #[.int .i64 le,.int .i64 mo,.string we]) "loop.example/wharfhall/impl.sound").run prog W=.ok (316,.agg #[.int .i64 le,.int .i64 mo,.string we]) W:=fun _=>by kernel_rfl
 have m3:∀ W:World,(method 465 327 (.agg #[.int .i64 le,.int .i64 mo,.string we]) "loop.example/wharfhall/impl.fits").run prog W=.ok (315,.agg #[.int .i64 le,.int .i64 mo,.string we]) W:=fun _=>by kernel_rfl
 rw [ZsM];go_enter func263,ntmps263;go_wp2_with fail;refine (Zrv nm to df we le mo ro mu fx a L.length cap _ _).mono ?_;rintro e w1 ⟨rfl,hb1⟩;have HC1:Hd (Below (w.heap.size+1) (w.alloc (.cells #[.string nm,.int .i64 kd,.int .i64 le,.int .i64 mo,.slice a L.length cap,.string to,.int .i64 ro,.bool mu,.bool fx,.string df,.string we] 178)) w1):=by have:=hb1;simp at this;exact this
 have HB1:Hd (Zw_ w w1):=(HW _).o.trans (hb1.mono (by simp));clear hb1;go_wp2_with fail;refine (Zff nm to df ⟨#[]⟩ 0 0 ro mu fx a L.length cap _ _).mono ?_;rintro e w2 ⟨rfl,hb2⟩;have HC2:Hd (Below (w.heap.size+1) (w.alloc (.cells #[.string nm,.int .i64 kd,.int .i64 le,.int .i64 mo,.slice a L.length cap,.string to,.int .i64 ro,.bool mu,.bool fx,.string df,.string we] 178)) w2):=HC1.o.trans (hb2.mono (by have:=HC1.o.size;simp at this;omega));have HB2:Hd (Zw_ w w2):=HB1.o.trans (hb2.mono HB1.o.size);clear hb2 HB1 HC1;rw [un1]
 cases hbr:Zf1 L.length to ro with
 | false=>
  go_wp2;go_ret;exact⟨Zaa (by simp [hbr]),HB2.o⟩
 | true=>
  go_wp2_with fail;refine (Zts we le mo _ _ HW4.o).mono ?_;rintro e w3 ⟨rfl,hb3⟩;have HC3:Hd (Below (w.heap.size+1) (w.alloc (.cells #[.string nm,.int .i64 kd,.int .i64 le,.int .i64 mo,.slice a L.length cap,.string to,.int .i64 ro,.bool mu,.bool fx,.string df,.string we] 178)) w3):=HC2.o.trans (hb3.mono (by have:=HC2.o.size;simp at this;omega));have HB3:Hd (Zw_ w w3):=HB2.o.trans (hb3.mono HB2.o.size);clear hb3 HB2 HC2;have hbx:=fun i=>ZaL w w3 #[.string nm,.int .i64 kd,.int .i64 le,.int .i64 mo,.slice a L.length cap,.string to,.int .i64 ro,.bool mu,.bool fx,.string df,.string we] 178 HC3.o i
  cases hso:Zcd le mo we with
  | false=>
   go_wp2;go_ret;exact⟨Zaa (by simp [hbr,hso]),HB3.o⟩
  | true=>
   cases hd:df.toList.isEmpty with
   | true=>
    go_wp2;go_ret;exact⟨Zaa (by simp [hbr,hso,hd]),HB3.o⟩
   | false=>
    go_wp2_with fail;refine (ZqD _ _ _ _ _ HW9.o).mono ?_;rintro e w4 ⟨rfl,hb4⟩;have HB4:Hd (Zw_ w w4):=HB3.o.trans (hb4.mono HB3.o.size);clear hb4;go_wp2;go_ret;exact⟨Zaa (by simp [hbr,hso,hd]),HB4.o⟩
theorem Zom (kd:Int) (lo:Nat) (lv:Value) (Ss:List Sh) (hl:ZaI lo w lv Ss) (hv:Zaf w (.slice a L.length cap) L) (s9:df.size<=maxLen) (s10:we.size<=maxLen) :
 Calls prog 263 #[.iface 329 (.agg #[.slice a L.length cap]),lv,.agg #[.string nm,.int .i64 kd,.int .i64 le,.int .i64 mo,.slice a L.length cap,.string to,.int .i64 ro,.bool mu,.bool fx,.string df,.string we]] w fun e w'=>e=.returned (.bool (Zfk le mo to ro we&&Zex L.length L&&(df.toList.isEmpty || ZaM 2 le mo L df)))/\Zw_ w w':=by
 have HL:=Zab hl;have HV:=Zab hv;have HW9:=Zab s9;have HW4:=Zab s10;obtain⟨la,lcap,rfl⟩:=hl.form;clear hl hv s9 s10;have HW:∀ o,Hd (Zw_ w (w.alloc o)):=fun o=>Zb_.alloc Zl_ _
 have m1:∀ W:World,(method 465 329 (.agg #[.slice a L.length cap]) "loop.example/wharfhall/impl.without").run prog W=.ok (320,.agg #[.slice a L.length cap]) W:=fun _=>by kernel_rfl
 have m2:∀ W:World,(method 465 329 (.agg #[.slice a L.length cap]) "loop.example/wharfhall/impl.sound").run prog W=.ok (319,.agg #[.slice a L.length cap]) W:=fun _=>by kernel_rfl
 have m3:∀ W:World,(method 465 329 (.agg #[.slice a L.length cap]) "loop.example/wharfhall/impl.fits").run prog W=.ok (318,.agg #[.slice a L.length cap]) W:=fun _=>by kernel_rfl
 rw [ZsN];go_enter func263,ntmps263;go_wp2_with fail;refine (Zrw nm to df we le mo ro mu fx a L.length cap _ _).mono ?_;rintro e w1 ⟨rfl,hb1⟩;have HC1:Hd (Below (w.heap.size+1) (w.alloc (.cells #[.string nm,.int .i64 kd,.int .i64 le,.int .i64 mo,.slice a L.length cap,.string to,.int .i64 ro,.bool mu,.bool fx,.string df,.string we] 178)) w1):=by have:=hb1;simp at this;exact this
 have HB1:Hd (Zw_ w w1):=(HW _).o.trans (hb1.mono (by simp));clear hb1;go_wp2_with fail;refine (Zff nm to df we le mo ro mu fx none 0 0 _ _).mono ?_;rintro e w2 ⟨rfl,hb2⟩;have HC2:Hd (Below (w.heap.size+1) (w.alloc (.cells #[.string nm,.int .i64 kd,.int .i64 le,.int .i64 mo,.slice a L.length cap,.string to,.int .i64 ro,.bool mu,.bool fx,.string df,.string we] 178)) w2):=HC1.o.trans (hb2.mono (by have:=HC1.o.size;simp at this;omega));have HB2:Hd (Zw_ w w2):=HB1.o.trans (hb2.mono HB1.o.size);clear hb2 HB1 HC1;rw [un2]
 cases hbr:Zfk le mo to ro we with
 | false=>
  go_wp2;go_ret;exact⟨Zaa (by simp [hbr]),HB2.o⟩
 | true=>
  go_wp2_with fail;refine (Ztt a cap _ _ L (HV.o.below HB2.o)).mono ?_;rintro e w3 ⟨rfl,hb3⟩;have HC3:Hd (Below (w.heap.size+1) (w.alloc (.cells #[.string nm,.int .i64 kd,.int .i64 le,.int .i64 mo,.slice a L.length cap,.string to,.int .i64 ro,.bool mu,.bool fx,.string df,.string we] 178)) w3):=HC2.o.trans (hb3.mono (by have:=HC2.o.size;simp at this;omega));have HB3:Hd (Zw_ w w3):=HB2.o.trans (hb3.mono HB2.o.size);clear hb3 HB2 HC2;have hbx:=fun i=>ZaL w w3 #[.string nm,.int .i64 kd,.int .i64 le,.int .i64 mo,.slice a L.length cap,.string to,.int .i64 ro,.bool mu,.bool fx,.string df,.string we] 178 HC3.o i
  cases hso:Zex L.length L with
  | false=>
   go_wp2;go_ret;exact⟨Zaa (by simp [hbr,hso]),HB3.o⟩
  | true=>
   cases hd:df.toList.isEmpty with
   | true=>
    go_wp2;go_ret;exact⟨Zaa (by simp [hbr,hso,hd]),HB3.o⟩
   | false=>
    go_wp2_with fail;refine (Zns _ _ _ _ _ L (HV.o.below HB3.o)).mono ?_;rintro e w4 ⟨rfl,hb4⟩;have HB4:Hd (Zw_ w w4):=HB3.o.trans (hb4.mono HB3.o.size);clear hb4;go_wp2;go_ret;exact⟨Zaa (by simp [hbr,hso,hd]),HB4.o⟩
theorem Zon (kd:Int) (lo:Nat) (lv:Value) (Ss:List Sh) (hl:ZaI lo w lv Ss) (hv:Zaf w (.slice a L.length cap) L) (s9:df.size<=maxLen) (s10:we.size<=maxLen) :
 Calls prog 263 #[.iface 331 (.agg #[.int .i64 le,.int .i64 mo]),lv,.agg #[.string nm,.int .i64 kd,.int .i64 le,.int .i64 mo,.slice a L.length cap,.string to,.int .i64 ro,.bool mu,.bool fx,.string df,.string we]] w fun e w'=>e=.returned (.bool (ZfC L.length to ro we&&Zc2 le mo&&(df.toList.isEmpty || ZaM 3 le mo L df)))/\Zw_ w w':=by
 have HL:=Zab hl;have HV:=Zab hv;have HW9:=Zab s9;have HW4:=Zab s10;obtain⟨la,lcap,rfl⟩:=hl.form;clear hl hv s9 s10;have HW:∀ o,Hd (Zw_ w (w.alloc o)):=fun o=>Zb_.alloc Zl_ _
 have m1:∀ W:World,(method 465 331 (.agg #[.int .i64 le,.int .i64 mo]) "loop.example/wharfhall/impl.without").run prog W=.ok (323,.agg #[.int .i64 le,.int .i64 mo]) W:=fun _=>by kernel_rfl
 have m2:∀ W:World,(method 465 331 (.agg #[.int .i64 le,.int .i64 mo]) "loop.example/wharfhall/impl.sound").run prog W=.ok (322,.agg #[.int .i64 le,.int .i64 mo]) W:=fun _=>by kernel_rfl
 have m3:∀ W:World,(method 465 331 (.agg #[.int .i64 le,.int .i64 mo]) "loop.example/wharfhall/impl.fits").run prog W=.ok (321,.agg #[.int .i64 le,.int .i64 mo]) W:=fun _=>by kernel_rfl
 rw [ZsO];go_enter func263,ntmps263;go_wp2_with fail;refine (Zrx nm to df we le mo ro mu fx a L.length cap _ _).mono ?_;rintro e w1 ⟨rfl,hb1⟩;have HC1:Hd (Below (w.heap.size+1) (w.alloc (.cells #[.string nm,.int .i64 kd,.int .i64 le,.int .i64 mo,.slice a L.length cap,.string to,.int .i64 ro,.bool mu,.bool fx,.string df,.string we] 178)) w1):=by have:=hb1;simp at this;exact this
 have HB1:Hd (Zw_ w w1):=(HW _).o.trans (hb1.mono (by simp));clear hb1;go_wp2_with fail;refine (Zff nm to df we 0 0 ro mu fx a L.length cap _ _).mono ?_;rintro e w2 ⟨rfl,hb2⟩;have HC2:Hd (Below (w.heap.size+1) (w.alloc (.cells #[.string nm,.int .i64 kd,.int .i64 le,.int .i64 mo,.slice a L.length cap,.string to,.int .i64 ro,.bool mu,.bool fx,.string df,.string we] 178)) w2):=HC1.o.trans (hb2.mono (by have:=HC1.o.size;simp at this;omega));have HB2:Hd (Zw_ w w2):=HB1.o.trans (hb2.mono HB1.o.size);clear hb2 HB1 HC1;rw [un3]
 cases hbr:ZfC L.length to ro we with
 | false=>
  go_wp2;go_ret;exact⟨Zaa (by simp [hbr]),HB2.o⟩
 | true=>
  go_wp2_with fail;refine (Ztu le mo _ _).mono ?_;rintro e w3 ⟨rfl,hb3⟩;have HC3:Hd (Below (w.heap.size+1) (w.alloc (.cells #[.string nm,.int .i64 kd,.int .i64 le,.int .i64 mo,.slice a L.length cap,.string to,.int .i64 ro,.bool mu,.bool fx,.string df,.string we] 178)) w3):=HC2.o.trans (hb3.mono (by have:=HC2.o.size;simp at this;omega));have HB3:Hd (Zw_ w w3):=HB2.o.trans (hb3.mono HB2.o.size);clear hb3 HB2 HC2;have hbx:=fun i=>ZaL w w3 #[.string nm,.int .i64 kd,.int .i64 le,.int .i64 mo,.slice a L.length cap,.string to,.int .i64 ro,.bool mu,.bool fx,.string df,.string we] 178 HC3.o i
  cases hso:Zc2 le mo with
  | false=>
   go_wp2;go_ret;exact⟨Zaa (by simp [hbr,hso]),HB3.o⟩
  | true=>
   cases hd:df.toList.isEmpty with
   | true=>
    go_wp2;go_ret;exact⟨Zaa (by simp [hbr,hso,hd]),HB3.o⟩
   | false=>
    go_wp2_with fail;refine (Zhd _ _ _ _ HW9.o).mono ?_;rintro e w4 ⟨rfl,hb4⟩;have HB4:Hd (Zw_ w w4):=HB3.o.trans (hb4.mono HB3.o.size);clear hb4;go_wp2;go_ret;exact⟨Zaa (by simp [hbr,hso,hd]),HB4.o⟩
theorem Zoo (kd:Int) (lo:Nat) (lv:Value) (Ss:List Sh) (hl:ZaI lo w lv Ss) (hv:Zaf w (.slice a L.length cap) L) (s9:df.size<=maxLen) (s10:we.size<=maxLen) :
 Calls prog 263 #[.iface 333 (.agg #[.string to,.int .i64 ro,.bool mu,.string df]),lv,.agg #[.string nm,.int .i64 kd,.int .i64 le,.int .i64 mo,.slice a L.length cap,.string to,.int .i64 ro,.bool mu,.bool fx,.string df,.string we]] w fun e w'=>e=.returned (.bool (ZfD le mo L.length we&&Zc3 Ss to ro mu df&&(df.toList.isEmpty || ZaM 4 le mo L df)))/\Zw_ w w':=by
 have HL:=Zab hl;have HV:=Zab hv;have HW9:=Zab s9;have HW4:=Zab s10;obtain⟨la,lcap,rfl⟩:=hl.form;clear hl hv s9 s10;have HW:∀ o,Hd (Zw_ w (w.alloc o)):=fun o=>Zb_.alloc Zl_ _
 have m1:∀ W:World,(method 465 333 (.agg #[.string to,.int .i64 ro,.bool mu,.string df]) "loop.example/wharfhall/impl.without").run prog W=.ok (326,.agg #[.string to,.int .i64 ro,.bool mu,.string df]) W:=fun _=>by kernel_rfl
 have m2:∀ W:World,(method 465 333 (.agg #[.string to,.int .i64 ro,.bool mu,.string df]) "loop.example/wharfhall/impl.sound").run prog W=.ok (325,.agg #[.string to,.int .i64 ro,.bool mu,.string df]) W:=fun _=>by kernel_rfl
 have m3:∀ W:World,(method 465 333 (.agg #[.string to,.int .i64 ro,.bool mu,.string df]) "loop.example/wharfhall/impl.fits").run prog W=.ok (324,.agg #[.string to,.int .i64 ro,.bool mu,.string df]) W:=fun _=>by kernel_rfl
 rw [ZsP];go_enter func263,ntmps263;go_wp2_with fail;refine (Zpr nm to df we le mo ro mu fx a L.length cap _ _).mono ?_;rintro e w1 ⟨rfl,hb1⟩;have HC1:Hd (Below (w.heap.size+1) (w.alloc (.cells #[.string nm,.int .i64 kd,.int .i64 le,.int .i64 mo,.slice a L.length cap,.string to,.int .i64 ro,.bool mu,.bool fx,.string df,.string we] 178)) w1):=by have:=hb1;simp at this;exact this
 have HB1:Hd (Zw_ w w1):=(HW _).o.trans (hb1.mono (by simp));clear hb1;go_wp2_with fail;refine (Zff nm ⟨#[]⟩ df we le mo 0 mu fx a L.length cap _ _).mono ?_;rintro e w2 ⟨rfl,hb2⟩;have HC2:Hd (Below (w.heap.size+1) (w.alloc (.cells #[.string nm,.int .i64 kd,.int .i64 le,.int .i64 mo,.slice a L.length cap,.string to,.int .i64 ro,.bool mu,.bool fx,.string df,.string we] 178)) w2):=HC1.o.trans (hb2.mono (by have:=HC1.o.size;simp at this;omega));have HB2:Hd (Zw_ w w2):=HB1.o.trans (hb2.mono HB1.o.size);clear hb2 HB1 HC1;rw [un4]
 cases hbr:ZfD le mo L.length we with
 | false=>
  go_wp2;go_ret;exact⟨Zaa (by simp [hbr]),HB2.o⟩
 | true=>
  go_wp2_with fail;refine (Ztv to df ro mu _ lo _ Ss (HL.o.below HB2.o)).mono ?_;rintro e w3 ⟨rfl,hb3⟩;have HC3:Hd (Below (w.heap.size+1) (w.alloc (.cells #[.string nm,.int .i64 kd,.int .i64 le,.int .i64 mo,.slice a L.length cap,.string to,.int .i64 ro,.bool mu,.bool fx,.string df,.string we] 178)) w3):=HC2.o.trans (hb3.mono (by have:=HC2.o.size;simp at this;omega));have HB3:Hd (Zw_ w w3):=HB2.o.trans (hb3.mono HB2.o.size);clear hb3 HB2 HC2;have hbx:=fun i=>ZaL w w3 #[.string nm,.int .i64 kd,.int .i64 le,.int .i64 mo,.slice a L.length cap,.string to,.int .i64 ro,.bool mu,.bool fx,.string df,.string we] 178 HC3.o i
  cases hso:Zc3 Ss to ro mu df with
  | false=>
   go_wp2;go_ret;exact⟨Zaa (by simp [hbr,hso]),HB3.o⟩
  | true=>
   cases hd:df.toList.isEmpty with
   | true=>
    go_wp2;go_ret;exact⟨Zaa (by simp [hbr,hso,hd]),HB3.o⟩
   | false=>
    go_wp2_with fail;refine (ZmZ _ _ _ _ _ _ HW9.o).mono ?_;rintro e w4 ⟨rfl,hb4⟩;have HB4:Hd (Zw_ w w4):=HB3.o.trans (hb4.mono HB3.o.size);clear hb4;go_wp2;go_ret;exact⟨Zaa (by simp [hbr,hso,hd]),HB4.o⟩
end
end
section
theorem Zud (n:Nat) (L:List Zy_):Zex n L=(inB 1 6 (n:Int)&&Zpw L):=by unfold Zex;rw [Zg0]
theorem Ztp (ro:Int) (mu:Bool):Zlk ro mu=(inB 1 3 ro&&((ro != 2) || !mu)):=by
 unfold Zlk inB
 by_cases h1:ro=1
 . subst h1;simp
 by_cases h2:ro=2
 . subst h2;simp
 by_cases h3:ro=3
 . subst h3;simp
 have hx:¬ (1<=ro/\ro<=3):=by omega
 simp [h1,h2,h3,hx]
theorem Ztr (Ss:List Sh) (to:Zy_) (ro:Int) (mu:Bool) (df:Zy_):Zc3 Ss to ro mu df=(ZmV Ss to&&inB 1 3 ro&&df.toList.isEmpty&&((ro != 2) || !mu)):=by
 unfold Zc3;rw [Ztp];cases ZmV Ss to <;> cases df.toList.isEmpty <;> cases inB 1 3 ro <;> simp
section
variable (nm to df we:Zy_) (le mo ro:Int) (mu fx:Bool) (a:Option Addr) (L:List Zy_) (cap:Nat) (w:World)
theorem ZoU (lo:Nat) (lv:Value) (Ss:List Sh) (hl:ZaI lo w lv Ss) (hv:Zaf w (.slice a L.length cap) L) (s0:nm.size<=maxLen) (s9:df.size<=maxLen) (s10:we.size<=maxLen) :
 Calls prog 198 #[lv,.agg #[.string nm,.int .i64 1,.int .i64 le,.int .i64 mo,.slice a L.length cap,.string to,.int .i64 ro,.bool mu,.bool fx,.string df,.string we]] w fun e w'=>e=.returned (.bool (Zap nm&&(Zf1 L.length to ro&&Zcd le mo we&&(df.toList.isEmpty || ZaM 1 le mo L df))))/\Zw_ w w':=by
 have HL:=Zab hl;have HV:=Zab hv;have HW0:=Zab s0;have HW9:=Zab s9;have HW4:=Zab s10;obtain⟨la,lcap,rfl⟩:=hl.form;clear hl hv s0 s9 s10;generalize hQ:(Zap nm&&(Zf1 L.length to ro&&Zcd le mo we&&(df.toList.isEmpty || ZaM 1 le mo L df)))=Q;have HQ:=Zab hQ;clear hQ;have HW:∀ o,Hd (Zw_ w (w.alloc o)):=fun o=>Zb_.alloc Zl_ _
 go_enter func198,ntmps198;go_wp2_with fail;refine (Zae _ _ HW0.o).mono ?_;rintro e wx ⟨rfl,rfl⟩
 cases hnm:Zap nm with
 | false=>
  go_wp2;go_ret;exact⟨Zaa (by rw [<- HQ.o,hnm];rfl),(HW _).o⟩
 | true=>
  go_wp2_with fail;refine (ZsZ nm to df we le mo ro mu fx a L.length cap _).mono ?_;rintro e w1 ⟨rfl,hb1⟩;have HC1:Hd (Below (w.heap.size+1) (w.alloc (.cells #[.string nm,.int .i64 1,.int .i64 le,.int .i64 mo,.slice a L.length cap,.string to,.int .i64 ro,.bool mu,.bool fx,.string df,.string we] 178)) w1):=by have:=hb1;simp at this;exact this
  have HB1:Hd (Zw_ w w1):=(HW _).o.trans (hb1.mono (by simp));have hbx:=fun i=>ZaL w w1 #[.string nm,.int .i64 1,.int .i64 le,.int .i64 mo,.slice a L.length cap,.string to,.int .i64 ro,.bool mu,.bool fx,.string df,.string we] 178 HC1.o i
  clear hb1
  cases hbr:Zf1 L.length to ro with
  | false=>
   go_wp2;go_ret;exact⟨Zaa (by rw [<- HQ.o,hnm,hbr];rfl),HB1.o⟩
  | true=>
   cases hd:df.toList.isEmpty with
   | true=>
    have hdf:(df.toList.isEmpty || ZaM 1 le mo L df)=true:=by simp [hd]
    have HDF:=Zab hdf;clear hdf
    by_cases h1:0<=le
    . by_cases h2:le<=mo
      . by_cases h3:mo<=1000000
        . cases he:we.toList.isEmpty with
          | true=>
           go_wp2;go_ret;exact⟨Zaa (by rw [<- HQ.o,HDF.o,hnm,hbr];simp [Zcd,Zai,h1,h2,h3,he]),HB1.o⟩
          | false=>
           go_wp2_with fail;refine (Zae _ _ HW4.o).mono ?_;rintro e wx ⟨rfl,rfl⟩;go_wp2;go_ret;exact⟨Zaa (by rw [<- HQ.o,HDF.o,hnm,hbr];simp [Zcd,Zai,h1,h2,h3,he]),HB1.o⟩
        . go_wp2
          go_ret;exact⟨Zaa (by rw [<- HQ.o,HDF.o,hnm,hbr];rw [Bool.eq_iff_iff];simp [Zcd];omega),HB1.o⟩
      . go_wp2
        go_ret;exact⟨Zaa (by rw [<- HQ.o,HDF.o,hnm,hbr];rw [Bool.eq_iff_iff];simp [Zcd];omega),HB1.o⟩
    . go_wp2
      go_ret;exact⟨Zaa (by rw [<- HQ.o,HDF.o,hnm,hbr];rw [Bool.eq_iff_iff];simp [Zcd];omega),HB1.o⟩
   | false=>
    go_wp2_with fail;refine (Zbw _ _ _ _ _ _ _ _ _ _ L _ _ _ (HV.o.below HB1.o) HW9.o).mono ?_;rintro e w2 ⟨rfl,hb2⟩;have HC2:Hd (Below (w.heap.size+1) (w.alloc (.cells #[.string nm,.int .i64 1,.int .i64 le,.int .i64 mo,.slice a L.length cap,.string to,.int .i64 ro,.bool mu,.bool fx,.string df,.string we] 178)) w2):=HC1.o.trans (hb2.mono (by have:=HC1.o.size;simp at this;omega));have HB2:Hd (Zw_ w w2):=HB1.o.trans (hb2.mono HB1.o.size);have hbx2:=fun i=>ZaL w w2 #[.string nm,.int .i64 1,.int .i64 le,.int .i64 mo,.slice a L.length cap,.string to,.int .i64 ro,.bool mu,.bool fx,.string df,.string we] 178 HC2.o i
    clear hb2 hbx
    cases hft:ZaM 1 le mo L df with
    | false=>
     go_wp2;go_ret;exact⟨Zaa (by rw [<- HQ.o,hnm,hbr,hd,hft];simp),HB2.o⟩
    | true=>
     have HDF:Hd ((df.toList.isEmpty || ZaM 1 le mo L df)=true):=by unfold Hd;simp [hft]
     by_cases h1:0<=le
     . by_cases h2:le<=mo
       . by_cases h3:mo<=1000000
         . cases he:we.toList.isEmpty with
           | true=>
            go_wp2;go_ret;exact⟨Zaa (by rw [<- HQ.o,HDF.o,hnm,hbr];simp [Zcd,Zai,h1,h2,h3,he]),HB2.o⟩
           | false=>
            go_wp2_with fail;refine (Zae _ _ HW4.o).mono ?_;rintro e wx ⟨rfl,rfl⟩;go_wp2;go_ret;exact⟨Zaa (by rw [<- HQ.o,HDF.o,hnm,hbr];simp [Zcd,Zai,h1,h2,h3,he]),HB2.o⟩
         . go_wp2
           go_ret;exact⟨Zaa (by rw [<- HQ.o,HDF.o,hnm,hbr];rw [Bool.eq_iff_iff];simp [Zcd];omega),HB2.o⟩
       . go_wp2
         go_ret;exact⟨Zaa (by rw [<- HQ.o,HDF.o,hnm,hbr];rw [Bool.eq_iff_iff];simp [Zcd];omega),HB2.o⟩
     . go_wp2
       go_ret;exact⟨Zaa (by rw [<- HQ.o,HDF.o,hnm,hbr];rw [Bool.eq_iff_iff];simp [Zcd];omega),HB2.o⟩
theorem ZoV (lo:Nat) (lv:Value) (Ss:List Sh) (hl:ZaI lo w lv Ss) (hv:Zaf w (.slice a L.length cap) L) (s0:nm.size<=maxLen) (s9:df.size<=maxLen) (s10:we.size<=maxLen) :
 Calls prog 198 #[lv,.agg #[.string nm,.int .i64 2,.int .i64 le,.int .i64 mo,.slice a L.length cap,.string to,.int .i64 ro,.bool mu,.bool fx,.string df,.string we]] w fun e w'=>e=.returned (.bool (Zap nm&&(Zfk le mo to ro we&&Zex L.length L&&(df.toList.isEmpty || ZaM 2 le mo L df))))/\Zw_ w w':=by
 have HL:=Zab hl;have HV:=Zab hv;have HW0:=Zab s0;have HW9:=Zab s9;have HW4:=Zab s10;obtain⟨la,lcap,rfl⟩:=hl.form;clear hl hv s0 s9 s10;generalize hQ:(Zap nm&&(Zfk le mo to ro we&&Zex L.length L&&(df.toList.isEmpty || ZaM 2 le mo L df)))=Q;have HQ:=Zab hQ;clear hQ;have HW:∀ o,Hd (Zw_ w (w.alloc o)):=fun o=>Zb_.alloc Zl_ _
 go_enter func198,ntmps198;go_wp2_with fail;refine (Zae _ _ HW0.o).mono ?_;rintro e wx ⟨rfl,rfl⟩
 cases hnm:Zap nm with
 | false=>
  go_wp2;go_ret;exact⟨Zaa (by rw [<- HQ.o,hnm];rfl),(HW _).o⟩
 | true=>
  go_wp2_with fail;refine (Zs0 nm to df we le mo ro mu fx a L.length cap _).mono ?_;rintro e w1 ⟨rfl,hb1⟩;have HC1:Hd (Below (w.heap.size+1) (w.alloc (.cells #[.string nm,.int .i64 2,.int .i64 le,.int .i64 mo,.slice a L.length cap,.string to,.int .i64 ro,.bool mu,.bool fx,.string df,.string we] 178)) w1):=by have:=hb1;simp at this;exact this
  have HB1:Hd (Zw_ w w1):=(HW _).o.trans (hb1.mono (by simp));have hbx:=fun i=>ZaL w w1 #[.string nm,.int .i64 2,.int .i64 le,.int .i64 mo,.slice a L.length cap,.string to,.int .i64 ro,.bool mu,.bool fx,.string df,.string we] 178 HC1.o i
  clear hb1
  cases hbr:Zfk le mo to ro we with
  | false=>
   go_wp2;go_ret;exact⟨Zaa (by rw [<- HQ.o,hnm,hbr];rfl),HB1.o⟩
  | true=>
   cases hd:df.toList.isEmpty with
   | true=>
    have hdf:(df.toList.isEmpty || ZaM 2 le mo L df)=true:=by simp [hd]
    have HDF:=Zab hdf;clear hdf;go_wp2_with fail;refine (Zao _ _ _ _).mono ?_;rintro e wx ⟨rfl,rfl⟩
    cases hi:inB 1 6 (L.length:Int) with
    | true=>
     go_wp2_with fail;refine (ZcO _ L _ (HV.o.below HB1.o)).mono ?_;rintro e wy ⟨rfl,hby⟩;have HBy:Hd (Zw_ w wy):=HB1.o.trans (hby.mono HB1.o.size);clear hby
     go_wp2;go_ret;exact⟨Zaa (by rw [<- HQ.o,HDF.o,hnm,hbr,Zud,hi];simp),HBy.o⟩
    | false=>
     go_wp2;go_ret;exact⟨Zaa (by rw [<- HQ.o,HDF.o,hnm,hbr,Zud,hi];simp),HB1.o⟩
   | false=>
    go_wp2_with fail;refine (Zbw _ _ _ _ _ _ _ _ _ _ L _ _ _ (HV.o.below HB1.o) HW9.o).mono ?_;rintro e w2 ⟨rfl,hb2⟩;have HC2:Hd (Below (w.heap.size+1) (w.alloc (.cells #[.string nm,.int .i64 2,.int .i64 le,.int .i64 mo,.slice a L.length cap,.string to,.int .i64 ro,.bool mu,.bool fx,.string df,.string we] 178)) w2):=HC1.o.trans (hb2.mono (by have:=HC1.o.size;simp at this;omega));have HB2:Hd (Zw_ w w2):=HB1.o.trans (hb2.mono HB1.o.size);have hbx2:=fun i=>ZaL w w2 #[.string nm,.int .i64 2,.int .i64 le,.int .i64 mo,.slice a L.length cap,.string to,.int .i64 ro,.bool mu,.bool fx,.string df,.string we] 178 HC2.o i
    clear hb2 hbx
    cases hft:ZaM 2 le mo L df with
    | false=>
     go_wp2;go_ret;exact⟨Zaa (by rw [<- HQ.o,hnm,hbr,hd,hft];simp),HB2.o⟩
    | true=>
     have HDF:Hd ((df.toList.isEmpty || ZaM 2 le mo L df)=true):=by unfold Hd;simp [hft]
     go_wp2_with fail;refine (Zao _ _ _ _).mono ?_;rintro e wx ⟨rfl,rfl⟩
     cases hi:inB 1 6 (L.length:Int) with
     | true=>
      go_wp2_with fail;refine (ZcO _ L _ (HV.o.below HB2.o)).mono ?_;rintro e wy ⟨rfl,hby⟩;have HBy:Hd (Zw_ w wy):=HB2.o.trans (hby.mono HB2.o.size);clear hby
      go_wp2;go_ret;exact⟨Zaa (by rw [<- HQ.o,HDF.o,hnm,hbr,Zud,hi];simp),HBy.o⟩
     | false=>
      go_wp2;go_ret;exact⟨Zaa (by rw [<- HQ.o,HDF.o,hnm,hbr,Zud,hi];simp),HB2.o⟩
theorem ZoW (lo:Nat) (lv:Value) (Ss:List Sh) (hl:ZaI lo w lv Ss) (hv:Zaf w (.slice a L.length cap) L) (s0:nm.size<=maxLen) (s9:df.size<=maxLen) (s10:we.size<=maxLen) :
 Calls prog 198 #[lv,.agg #[.string nm,.int .i64 3,.int .i64 le,.int .i64 mo,.slice a L.length cap,.string to,.int .i64 ro,.bool mu,.bool fx,.string df,.string we]] w fun e w'=>e=.returned (.bool (Zap nm&&(ZfC L.length to ro we&&Zc2 le mo&&(df.toList.isEmpty || ZaM 3 le mo L df))))/\Zw_ w w':=by
 have HL:=Zab hl;have HV:=Zab hv;have HW0:=Zab s0;have HW9:=Zab s9;have HW4:=Zab s10;obtain⟨la,lcap,rfl⟩:=hl.form;clear hl hv s0 s9 s10;generalize hQ:(Zap nm&&(ZfC L.length to ro we&&Zc2 le mo&&(df.toList.isEmpty || ZaM 3 le mo L df)))=Q;have HQ:=Zab hQ;clear hQ;have HW:∀ o,Hd (Zw_ w (w.alloc o)):=fun o=>Zb_.alloc Zl_ _
 go_enter func198,ntmps198;go_wp2_with fail;refine (Zae _ _ HW0.o).mono ?_;rintro e wx ⟨rfl,rfl⟩
 cases hnm:Zap nm with
 | false=>
  go_wp2;go_ret;exact⟨Zaa (by rw [<- HQ.o,hnm];rfl),(HW _).o⟩
 | true=>
  go_wp2_with fail;refine (Zs1 nm to df we le mo ro mu fx a L.length cap _).mono ?_;rintro e w1 ⟨rfl,hb1⟩;have HC1:Hd (Below (w.heap.size+1) (w.alloc (.cells #[.string nm,.int .i64 3,.int .i64 le,.int .i64 mo,.slice a L.length cap,.string to,.int .i64 ro,.bool mu,.bool fx,.string df,.string we] 178)) w1):=by have:=hb1;simp at this;exact this
  have HB1:Hd (Zw_ w w1):=(HW _).o.trans (hb1.mono (by simp));have hbx:=fun i=>ZaL w w1 #[.string nm,.int .i64 3,.int .i64 le,.int .i64 mo,.slice a L.length cap,.string to,.int .i64 ro,.bool mu,.bool fx,.string df,.string we] 178 HC1.o i
  clear hb1
  cases hbr:ZfC L.length to ro we with
  | false=>
   go_wp2;go_ret;exact⟨Zaa (by rw [<- HQ.o,hnm,hbr];rfl),HB1.o⟩
  | true=>
   cases hd:df.toList.isEmpty with
   | true=>
    have hdf:(df.toList.isEmpty || ZaM 3 le mo L df)=true:=by simp [hd]
    have HDF:=Zab hdf;clear hdf
    by_cases h1:1<=le
    . by_cases h2:le<=mo
      . go_wp2
        go_ret;exact⟨Zaa (by rw [<- HQ.o,HDF.o,hnm,hbr];simp [Zc2,h1,h2]),HB1.o⟩
      . go_wp2
        go_ret;exact⟨Zaa (by rw [<- HQ.o,HDF.o,hnm,hbr];rw [Bool.eq_iff_iff];simp [Zc2];omega),HB1.o⟩
    . go_wp2
      go_ret;exact⟨Zaa (by rw [<- HQ.o,HDF.o,hnm,hbr];rw [Bool.eq_iff_iff];simp [Zc2];omega),HB1.o⟩
   | false=>
    go_wp2_with fail;refine (Zbw _ _ _ _ _ _ _ _ _ _ L _ _ _ (HV.o.below HB1.o) HW9.o).mono ?_;rintro e w2 ⟨rfl,hb2⟩;have HC2:Hd (Below (w.heap.size+1) (w.alloc (.cells #[.string nm,.int .i64 3,.int .i64 le,.int .i64 mo,.slice a L.length cap,.string to,.int .i64 ro,.bool mu,.bool fx,.string df,.string we] 178)) w2):=HC1.o.trans (hb2.mono (by have:=HC1.o.size;simp at this;omega));have HB2:Hd (Zw_ w w2):=HB1.o.trans (hb2.mono HB1.o.size);have hbx2:=fun i=>ZaL w w2 #[.string nm,.int .i64 3,.int .i64 le,.int .i64 mo,.slice a L.length cap,.string to,.int .i64 ro,.bool mu,.bool fx,.string df,.string we] 178 HC2.o i
    clear hb2 hbx
    cases hft:ZaM 3 le mo L df with
    | false=>
     go_wp2;go_ret;exact⟨Zaa (by rw [<- HQ.o,hnm,hbr,hd,hft];simp),HB2.o⟩
    | true=>
     have HDF:Hd ((df.toList.isEmpty || ZaM 3 le mo L df)=true):=by unfold Hd;simp [hft]
     by_cases h1:1<=le
     . by_cases h2:le<=mo
       . go_wp2
         go_ret;exact⟨Zaa (by rw [<- HQ.o,HDF.o,hnm,hbr];simp [Zc2,h1,h2]),HB2.o⟩
       . go_wp2
         go_ret;exact⟨Zaa (by rw [<- HQ.o,HDF.o,hnm,hbr];rw [Bool.eq_iff_iff];simp [Zc2];omega),HB2.o⟩
     . go_wp2
       go_ret;exact⟨Zaa (by rw [<- HQ.o,HDF.o,hnm,hbr];rw [Bool.eq_iff_iff];simp [Zc2];omega),HB2.o⟩
theorem ZoX (lo:Nat) (lv:Value) (Ss:List Sh) (hl:ZaI lo w lv Ss) (hv:Zaf w (.slice a L.length cap) L) (s0:nm.size<=maxLen) (s9:df.size<=maxLen) (s10:we.size<=maxLen) :
 Calls prog 198 #[lv,.agg #[.string nm,.int .i64 4,.int .i64 le,.int .i64 mo,.slice a L.length cap,.string to,.int .i64 ro,.bool mu,.bool fx,.string df,.string we]] w fun e w'=>e=.returned (.bool (Zap nm&&(ZfD le mo L.length we&&Zc3 Ss to ro mu df&&(df.toList.isEmpty || ZaM 4 le mo L df))))/\Zw_ w w':=by
 have HL:=Zab hl;have HV:=Zab hv;have HW0:=Zab s0;have HW9:=Zab s9;have HW4:=Zab s10;obtain⟨la,lcap,rfl⟩:=hl.form;clear hl hv s0 s9 s10;generalize hQ:(Zap nm&&(ZfD le mo L.length we&&Zc3 Ss to ro mu df&&(df.toList.isEmpty || ZaM 4 le mo L df)))=Q;have HQ:=Zab hQ;clear hQ;have HW:∀ o,Hd (Zw_ w (w.alloc o)):=fun o=>Zb_.alloc Zl_ _
 go_enter func198,ntmps198;go_wp2_with fail;refine (Zae _ _ HW0.o).mono ?_;rintro e wx ⟨rfl,rfl⟩
 cases hnm:Zap nm with
 | false=>
  go_wp2;go_ret;exact⟨Zaa (by rw [<- HQ.o,hnm];rfl),(HW _).o⟩
 | true=>
  go_wp2_with fail;refine (Zs2 nm to df we le mo ro mu fx a L.length cap _).mono ?_;rintro e w1 ⟨rfl,hb1⟩;have HC1:Hd (Below (w.heap.size+1) (w.alloc (.cells #[.string nm,.int .i64 4,.int .i64 le,.int .i64 mo,.slice a L.length cap,.string to,.int .i64 ro,.bool mu,.bool fx,.string df,.string we] 178)) w1):=by have:=hb1;simp at this;exact this
  have HB1:Hd (Zw_ w w1):=(HW _).o.trans (hb1.mono (by simp));have hbx:=fun i=>ZaL w w1 #[.string nm,.int .i64 4,.int .i64 le,.int .i64 mo,.slice a L.length cap,.string to,.int .i64 ro,.bool mu,.bool fx,.string df,.string we] 178 HC1.o i
  clear hb1
  cases hbr:ZfD le mo L.length we with
  | false=>
   go_wp2;go_ret;exact⟨Zaa (by rw [<- HQ.o,hnm,hbr];rfl),HB1.o⟩
  | true=>
   cases hd:df.toList.isEmpty with
   | true=>
    have hdf:(df.toList.isEmpty || ZaM 4 le mo L df)=true:=by simp [hd]
    have HDF:=Zab hdf;clear hdf;go_wp2_with fail;refine (ZhX lo _ Ss _ _ (HL.o.below HB1.o)).mono ?_;rintro e wx ⟨rr,rfl,rfl,hrr⟩;have HR:=Zab hrr;clear hrr
    by_cases hr0:0<=rr
    . have HK:Hd (ZmV Ss to=true):=by unfold Hd;rw [<- HR.o];simpa using hr0
      go_wp2_with fail;refine (Zao _ _ _ _).mono ?_;rintro e wx ⟨rfl,rfl⟩
      cases hi:inB 1 3 ro with
      | false=>
       go_wp2;go_ret;exact⟨Zaa (by rw [<- HQ.o,HDF.o,hnm,hbr,Ztr,hi];simp),HB1.o⟩
      | true=>
       cases h2:(ro != 2) with
       | true=>
        go_wp2;go_ret;exact⟨Zaa (by rw [<- HQ.o,HDF.o,hnm,hbr,Ztr,HK.o,hi,hd,h2];simp),HB1.o⟩
       | false=>
        go_wp2;go_ret;exact⟨Zaa (by rw [<- HQ.o,HDF.o,hnm,hbr,Ztr,HK.o,hi,hd,h2];simp),HB1.o⟩
    . have HK:Hd (ZmV Ss to=false):=by unfold Hd;rw [<- HR.o];simpa using hr0
      go_wp2;go_ret;exact⟨Zaa (by rw [<- HQ.o,HDF.o,hnm,hbr,Ztr,HK.o];simp),HB1.o⟩
   | false=>
    go_wp2_with fail;refine (Zbw _ _ _ _ _ _ _ _ _ _ L _ _ _ (HV.o.below HB1.o) HW9.o).mono ?_;rintro e w2 ⟨rfl,hb2⟩;have HC2:Hd (Below (w.heap.size+1) (w.alloc (.cells #[.string nm,.int .i64 4,.int .i64 le,.int .i64 mo,.slice a L.length cap,.string to,.int .i64 ro,.bool mu,.bool fx,.string df,.string we] 178)) w2):=HC1.o.trans (hb2.mono (by have:=HC1.o.size;simp at this;omega));have HB2:Hd (Zw_ w w2):=HB1.o.trans (hb2.mono HB1.o.size);have hbx2:=fun i=>ZaL w w2 #[.string nm,.int .i64 4,.int .i64 le,.int .i64 mo,.slice a L.length cap,.string to,.int .i64 ro,.bool mu,.bool fx,.string df,.string we] 178 HC2.o i
    clear hb2 hbx
    cases hft:ZaM 4 le mo L df with
    | false=>
     go_wp2;go_ret;exact⟨Zaa (by rw [<- HQ.o,hnm,hbr,hd,hft];simp),HB2.o⟩
    | true=>
     have HDF:Hd ((df.toList.isEmpty || ZaM 4 le mo L df)=true):=by unfold Hd;simp [hft]
     go_wp2_with fail;refine (ZhX lo _ Ss _ _ (HL.o.below HB2.o)).mono ?_;rintro e wx ⟨rr,rfl,rfl,hrr⟩;have HR:=Zab hrr;clear hrr
     by_cases hr0:0<=rr
     . have HK:Hd (ZmV Ss to=true):=by unfold Hd;rw [<- HR.o];simpa using hr0
       go_wp2_with fail;refine (Zao _ _ _ _).mono ?_;rintro e wx ⟨rfl,rfl⟩
       cases hi:inB 1 3 ro with
       | false=>
        go_wp2;go_ret;exact⟨Zaa (by rw [<- HQ.o,HDF.o,hnm,hbr,Ztr,hi];simp),HB2.o⟩
       | true=>
        go_wp2;go_ret;exact⟨Zaa (by rw [<- HQ.o,HDF.o,hnm,hbr,Ztr,hd];simp),HB2.o⟩
     . have HK:Hd (ZmV Ss to=false):=by unfold Hd;rw [<- HR.o];simpa using hr0
       go_wp2;go_ret;exact⟨Zaa (by rw [<- HQ.o,HDF.o,hnm,hbr,Ztr,HK.o];simp),HB2.o⟩
end
end
variable {Fs:List Fd} {k j:Nat} {Ss:List Sh}
section
variable (nm to df we:Zy_) (le mo ro:Int) (mu fx:Bool) (a:Option Addr) (L:List Zy_) (cap:Nat) (w:World)
theorem ZoT (kd:Int) (lo:Nat) (lv:Value) (Ss:List Sh) (hl:ZaI lo w lv Ss) (hv:Zaf w (.slice a L.length cap) L) (s0:nm.size<=maxLen) (s9:df.size<=maxLen) (h1:kd≠1) (h2:kd≠2) (h3:kd≠3) (h4:kd≠4) :
 Calls prog 198 #[lv,.agg #[.string nm,.int .i64 kd,.int .i64 le,.int .i64 mo,.slice a L.length cap,.string to,.int .i64 ro,.bool mu,.bool fx,.string df,.string we]] w fun e w'=>e=.returned (.bool false)/\Zw_ w w':=by
 have HV:=Zab hv;have HW0:=Zab s0;have HW9:=Zab s9;obtain⟨la,lcap,rfl⟩:=hl.form;clear hl hv s0 s9;have HW:∀ o,Hd (Zw_ w (w.alloc o)):=fun o=>Zb_.alloc Zl_ _
 have HF:Hd (ZaM kd le mo L df=false):=ZsL h1 h2 h3 h4;have HBR:=Zab (fun u=>ZsY nm to df we le mo ro mu fx a L.length cap u kd h1 h2 h3 h4);have b1:(kd == 1)=false:=beq_eq_false_iff_ne.2 h1;have b2:(kd == 2)=false:=beq_eq_false_iff_ne.2 h2;have b3:(kd == 3)=false:=beq_eq_false_iff_ne.2 h3;have b4:(kd == 4)=false:=beq_eq_false_iff_ne.2 h4;clear h1 h2 h3 h4;go_enter func198,ntmps198;go_wp2_with fail;refine (Zae _ _ HW0.o).mono ?_;rintro e wx ⟨rfl,rfl⟩
 cases hnm:Zap nm with
 | false=>
  go_wp2;go_ret;exact⟨rfl,(HW _).o⟩
 | true=>
  go_wp2_with fail;refine (HBR.o _).mono ?_;rintro e w1 ⟨bb,rfl,hb1⟩;have HC1:Hd (Below (w.heap.size+1) (w.alloc (.cells #[.string nm,.int .i64 kd,.int .i64 le,.int .i64 mo,.slice a L.length cap,.string to,.int .i64 ro,.bool mu,.bool fx,.string df,.string we] 178)) w1):=by have:=hb1;simp at this;exact this
  have HB1:Hd (Zw_ w w1):=(HW _).o.trans (hb1.mono (by simp));have hbx:=fun i=>ZaL w w1 #[.string nm,.int .i64 kd,.int .i64 le,.int .i64 mo,.slice a L.length cap,.string to,.int .i64 ro,.bool mu,.bool fx,.string df,.string we] 178 HC1.o i
  clear hb1
  cases bb with
  | false=>
   go_wp2;go_ret;exact⟨rfl,HB1.o⟩
  | true=>
   cases hd:df.toList.isEmpty with
   | true=>
    go_wp2;go_ret;exact⟨rfl,HB1.o⟩
   | false=>
    go_wp2_with fail;refine (Zbw _ _ _ _ _ _ _ _ _ _ L _ _ _ (HV.o.below HB1.o) HW9.o).mono ?_;rintro e w2 ⟨rfl,hb2⟩;have HB2:Hd (Zw_ w w2):=HB1.o.trans (hb2.mono HB1.o.size);clear hb2 hbx;rw [HF.o];go_wp2;go_ret;exact⟨rfl,HB2.o⟩
end
def Zd3 (Ss:List Sh) (f:Fd):Bool:=
 if f.kd=1 then Zf1 f.words.length f.to f.ro&&Zcd f.le f.mo f.we&&(f.df.toList.isEmpty || ZaM 1 f.le f.mo f.words f.df)
 else if f.kd=2 then Zfk f.le f.mo f.to f.ro f.we&&Zex f.words.length f.words&&(f.df.toList.isEmpty || ZaM 2 f.le f.mo f.words f.df)
 else if f.kd=3 then ZfC f.words.length f.to f.ro f.we&&Zc2 f.le f.mo&&(f.df.toList.isEmpty || ZaM 3 f.le f.mo f.words f.df)
 else if f.kd=4 then ZfD f.le f.mo f.words.length f.we&&Zc3 Ss f.to f.ro f.mu f.df&&(f.df.toList.isEmpty || ZaM 4 f.le f.mo f.words f.df)
 else false
theorem Zaf.form_len {w:World}{v:Value}{L:List Zy_} (h:Zaf w v L):∃ a cap,v=.slice a L.length cap:=by
 rcases h with ⟨a,cap,h,rfl⟩ | ⟨b,off,cap,h,_⟩
 . exact⟨a,cap,h⟩
 . exact⟨_,cap,h⟩
theorem Zgf (lo:Nat) (lv:Value) (Ss:List Sh) (f:Fd) (wv:Value) (w:World) (hl:ZaI lo w lv Ss) (hv:Zaf w wv f.words) (hz:Zfn f) :
 Calls prog 198 #[lv,.agg #[.string f.nm,.int .i64 f.kd,.int .i64 f.le,.int .i64 f.mo,wv,.string f.to,.int .i64 f.ro,.bool f.mu,.bool f.fx,.string f.df,.string f.we]] w
  fun e w'=>e=.returned (.bool (Zap f.nm&&Zd3 Ss f))/\Zw_ w w':=by
 obtain⟨nm,kd,le,mo,words,to,ro,mu,fx,df,we⟩:=f;obtain⟨a,cap,rfl⟩:=hv.form_len;obtain⟨s0,s5,s9,s10⟩:=hz;simp only [Zd3] at*
 by_cases h1:kd=1
 . subst h1;rw [if_pos rfl];exact ZoU nm to df we le mo ro mu fx a words cap w lo lv Ss hl hv s0 s9 s10
 rw [if_neg h1]
 by_cases h2:kd=2
 . subst h2;rw [if_pos rfl];exact ZoV nm to df we le mo ro mu fx a words cap w lo lv Ss hl hv s0 s9 s10
 rw [if_neg h2]
 by_cases h3:kd=3
 . subst h3;rw [if_pos rfl];exact ZoW nm to df we le mo ro mu fx a words cap w lo lv Ss hl hv s0 s9 s10
 rw [if_neg h3]
 by_cases h4:kd=4
 . subst h4;rw [if_pos rfl];exact ZoX nm to df we le mo ro mu fx a words cap w lo lv Ss hl hv s0 s9 s10
 rw [if_neg h4,Bool.and_false];exact ZoT nm to df we le mo ro mu fx a words cap w kd lo lv Ss hl hv s0 s9 h1 h2 h3 h4
def ZnZ (Fs:List Fd) (s:Zy_):Bool:=Fs.any fun x=>x.nm.toList == s.toList
theorem Zho {s:Zy_} (hj:j < Fs.length) (hk:j < k) (h:(Fs[j].nm.toList == s.toList)=true):ZnZ (Fs.take k) s=true:=by
 unfold ZnZ;rw [List.any_eq_true];exact⟨Fs[j],List.mem_take_iff_getElem.2 ⟨j,by omega,rfl⟩,h⟩
theorem ZjK {s:Zy_} (h:∀ j (hj:j < Fs.length),j < k->(Fs[j].nm.toList == s.toList)=false):ZnZ (Fs.take k) s=false:=by
 unfold ZnZ;rw [List.any_eq_false];intro x hx;obtain⟨j,hj,rfl⟩:=List.mem_take_iff_getElem.1 hx;simp [h j (by omega) (by omega)]
def ZbF (Ss:List Sh) (Fs:List Fd) (k:Nat):Bool:=
 match Fs[k]? with
 | some f=>Zap f.nm&&Zd3 Ss f&&!ZnZ (Fs.take k) f.nm
 | none=>true
def ZaA (Ss:List Sh) (Fs:List Fd):Bool:=decide (Fs.length<=6)&&(List.range Fs.length).all (ZbF Ss Fs)
theorem ZaG (h:k < Fs.length):ZbF Ss Fs k=(Zap Fs[k].nm&&Zd3 Ss Fs[k]&&!ZnZ (Fs.take k) Fs[k].nm):=by
 unfold ZbF;rw [List.getElem?_eq_getElem h]
def Za5 (Ss:List Sh) (i:Nat):Bool:=
 match Ss[i]? with
 | some x=>Zap x.kind&&(match Ss[i - 1]? with | some y=>i == 0 || Op.bytesLess y.kind.toList x.kind.toList | none=>true)&&ZaA Ss x.fields
 | none=>true
def ZaH (Ss:List Sh):Bool:=decide (Ss.length<=6)&&(List.range Ss.length).all (Za5 Ss)
theorem ZcQ (h:0 < Ss.length):Za5 Ss 0=(Zap Ss[0].kind&&ZaA Ss Ss[0].fields):=by
 unfold Za5;rw [List.getElem?_eq_getElem h];simp
theorem ZbP (h:j+1 < Ss.length):Za5 Ss (j+1)=(Zap Ss[j+1].kind&&Op.bytesLess Ss[j].kind.toList Ss[j+1].kind.toList&&ZaA Ss Ss[j+1].fields):=by
 unfold Za5;rw [List.getElem?_eq_getElem h];simp [List.getElem?_eq_getElem (show j < Ss.length by omega)]
end Go.Proofs.YtmappejlmapboaaGreat
