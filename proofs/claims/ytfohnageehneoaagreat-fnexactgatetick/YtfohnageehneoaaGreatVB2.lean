import Derived.Test.YtfohnageehneoaaGreatVB1
set_option maxHeartbeats 16000000
set_option maxRecDepth 100000
open Go.Proofs.Tryz
namespace Go.Proofs.YtfohnageehneoaaGreat
open Go.RowKit Go.Deep
def Zb2 (le mo:Int) (n:Nat) (to:Zy_) (ro:Int) (we:Zy_):Bool:=(le == 0)&&(mo == 0)&&((n:Int) == 0)&&to.toList.isEmpty&&(ro == 0)&&we.toList.isEmpty
def Zaj (s:Zy_):Bool:=s.toList.isEmpty || Zas s
theorem ZbR (s:Zy_) (w:World) (hs:s.size≤maxLen) :
 Calls prog 239 #[.string s] w fun e w'=>e=.returned (.bool (Zaj s))∧w'=w:=by
 have hk:=Zap s w hs
 cases he:s.toList.isEmpty with
 | true=>
  go_enter func239,ntmps239;go_wp2;go_ret;exact⟨Zaa (by simp [Zaj,he]),rfl⟩
 | false=>
  go_enter func239,ntmps239;go_wp2_with fail;refine hk.mono ?_;rintro e w1 ⟨rfl,rfl⟩;go_wp2;go_ret;exact⟨Zaa (by simp [Zaj,he]),rfl⟩
section
variable (nm to df we:Zy_) (le mo ro:Int) (mu fx:Bool) (a:Option Addr) (n cap:Nat) (w:World)
theorem ZeC (kd:Int) :
 Calls prog 272 #[.agg #[.string nm,.int .i64 kd,.int .i64 le,.int .i64 mo,.slice a n cap,.string to,.int .i64 ro,.bool mu,.bool fx,.string df,.string we]] w fun e w'=>e=.returned (.bool (Zb2 le mo n to ro we))∧Zw_ w w':=by
 cases hle:(le == 0) with
 | false=>
  have gle:(le != 0)=true:=by simp [bne,hle]
  go_enter func272,ntmps272;go_wp2;go_ret;exact⟨Zaa (by simp [Zb2,hle]),Zb_.alloc Zl_ _⟩
 | true=>
  have gle:(le != 0)=false:=by simp [bne,hle]
  cases hmo:(mo == 0) with
  | false=>
   have gmo:(mo != 0)=true:=by simp [bne,hmo]
   go_enter func272,ntmps272;go_wp2;go_ret;exact⟨Zaa (by simp [Zb2,hle,hmo]),Zb_.alloc Zl_ _⟩
  | true=>
   have gmo:(mo != 0)=false:=by simp [bne,hmo]
   cases hn:((n:Int) == 0) with
   | false=>
    have gn:(0:Int) < n:=by simp at hn;omega
    go_enter func272,ntmps272;go_wp2;go_ret;exact⟨Zaa (by simp [Zb2,hle,hmo,hn]),Zb_.alloc Zl_ _⟩
   | true=>
    have gn:¬ (0:Int) < n:=by simp at hn;omega
    cases hto:to.toList.isEmpty with
    | false=>
     go_enter func272,ntmps272;go_wp2;go_ret;exact⟨Zaa (by simp [Zb2,hle,hmo,hn,hto]),Zb_.alloc Zl_ _⟩
    | true=>
     cases hro:(ro == 0) with
     | false=>
      have gro:(ro != 0)=true:=by simp [bne,hro]
      go_enter func272,ntmps272;go_wp2;go_ret;exact⟨Zaa (by simp [Zb2,hle,hmo,hn,hto,hro]),Zb_.alloc Zl_ _⟩
     | true=>
      have gro:(ro != 0)=false:=by simp [bne,hro]
      cases hwe:we.toList.isEmpty with
      | false=>
       go_enter func272,ntmps272;go_wp2;go_ret;exact⟨Zaa (by simp [Zb2,hle,hmo,hn,hto,hro,hwe]),Zb_.alloc Zl_ _⟩
      | true=>
       go_enter func272,ntmps272;go_wp2;go_ret;exact⟨Zaa (by simp [Zb2,hle,hmo,hn,hto,hro,hwe]),Zb_.alloc Zl_ _⟩
theorem ZoV (kd:Int) :
 Calls prog 337 #[.agg #[.int .i64 le,.int .i64 mo,.string we],.agg #[.string nm,.int .i64 kd,.int .i64 le,.int .i64 mo,.slice a n cap,.string to,.int .i64 ro,.bool mu,.bool fx,.string df,.string we]] w fun e w'=>e=.returned (.agg #[.string nm,.int .i64 kd,.int .i64 0,.int .i64 0,.slice a n cap,.string to,.int .i64 ro,.bool mu,.bool fx,.string df,.string ⟨#[]⟩])∧Zw_ w w':=by
 go_enter func337,ntmps337;go_wp2;refine bodyPost_ret (v:=.agg #[.string nm,.int .i64 kd,.int .i64 0,.int .i64 0,.slice a n cap,.string to,.int .i64 ro,.bool mu,.bool fx,.string df,.string ⟨#[]⟩]) (by simp [results,results337,go_sem]) rfl ⟨rfl,?_⟩
 repeat (first | exact Below.refl _ _ | refine Below.alloc ?_ (by simp;try omega) _ | refine Below.setCell ?_ (by simp only [];omega) _)
theorem ZpH (kd:Int) :
 Calls prog 340 #[.agg #[.slice a n cap],.agg #[.string nm,.int .i64 kd,.int .i64 le,.int .i64 mo,.slice a n cap,.string to,.int .i64 ro,.bool mu,.bool fx,.string df,.string we]] w fun e w'=>e=.returned (.agg #[.string nm,.int .i64 kd,.int .i64 le,.int .i64 mo,.slice none 0 0,.string to,.int .i64 ro,.bool mu,.bool fx,.string df,.string we])∧Zw_ w w':=by
 go_enter func340,ntmps340;go_wp2;refine bodyPost_ret (v:=.agg #[.string nm,.int .i64 kd,.int .i64 le,.int .i64 mo,.slice none 0 0,.string to,.int .i64 ro,.bool mu,.bool fx,.string df,.string we]) (by simp [results,results340,go_sem]) rfl ⟨rfl,?_⟩
 repeat (first | exact Below.refl _ _ | refine Below.alloc ?_ (by simp;try omega) _ | refine Below.setCell ?_ (by simp only [];omega) _)
theorem Zn3 (kd:Int) :
 Calls prog 343 #[.agg #[.int .i64 le,.int .i64 mo],.agg #[.string nm,.int .i64 kd,.int .i64 le,.int .i64 mo,.slice a n cap,.string to,.int .i64 ro,.bool mu,.bool fx,.string df,.string we]] w fun e w'=>e=.returned (.agg #[.string nm,.int .i64 kd,.int .i64 0,.int .i64 0,.slice a n cap,.string to,.int .i64 ro,.bool mu,.bool fx,.string df,.string we])∧Zw_ w w':=by
 go_enter func343,ntmps343;go_wp2;refine bodyPost_ret (v:=.agg #[.string nm,.int .i64 kd,.int .i64 0,.int .i64 0,.slice a n cap,.string to,.int .i64 ro,.bool mu,.bool fx,.string df,.string we]) (by simp [results,results343,go_sem]) rfl ⟨rfl,?_⟩
 repeat (first | exact Below.refl _ _ | refine Below.alloc ?_ (by simp;try omega) _ | refine Below.setCell ?_ (by simp only [];omega) _)
theorem Znq (kd:Int) :
 Calls prog 346 #[.agg #[.string to,.int .i64 ro,.bool mu,.string df],.agg #[.string nm,.int .i64 kd,.int .i64 le,.int .i64 mo,.slice a n cap,.string to,.int .i64 ro,.bool mu,.bool fx,.string df,.string we]] w fun e w'=>e=.returned (.agg #[.string nm,.int .i64 kd,.int .i64 le,.int .i64 mo,.slice a n cap,.string ⟨#[]⟩,.int .i64 0,.bool mu,.bool fx,.string df,.string we])∧Zw_ w w':=by
 go_enter func346,ntmps346;go_wp2;refine bodyPost_ret (v:=.agg #[.string nm,.int .i64 kd,.int .i64 le,.int .i64 mo,.slice a n cap,.string ⟨#[]⟩,.int .i64 0,.bool mu,.bool fx,.string df,.string we]) (by simp [results,results346,go_sem]) rfl ⟨rfl,?_⟩
 repeat (first | exact Below.refl _ _ | refine Below.alloc ?_ (by simp;try omega) _ | refine Below.setCell ?_ (by simp only [];omega) _)
def Zfk (n:Nat) (to:Zy_) (ro:Int):Bool:=((n:Int) == 0)&&to.toList.isEmpty&&(ro == 0)
def ZeP (le mo:Int) (to:Zy_) (ro:Int) (we:Zy_):Bool:=(le == 0)&&(mo == 0)&&we.toList.isEmpty&&to.toList.isEmpty&&(ro == 0)
def Zfa (n:Nat) (to:Zy_) (ro:Int) (we:Zy_):Bool:=we.toList.isEmpty&&((n:Int) == 0)&&to.toList.isEmpty&&(ro == 0)
def Ze1 (le mo:Int) (n:Nat) (we:Zy_):Bool:=(le == 0)&&(mo == 0)&&we.toList.isEmpty&&((n:Int) == 0)
theorem Zrn :
 Calls prog 249 #[.agg #[.string nm,.int .i64 1,.int .i64 le,.int .i64 mo,.slice a n cap,.string to,.int .i64 ro,.bool mu,.bool fx,.string df,.string we]] w fun e w'=>e=.returned (.bool (Zfk n to ro))∧Zw_ w w':=by
 cases hn:((n:Int) == 0) with
 | false=>
  have gn:(0:Int) < n:=by simp at hn;omega
  go_enter func249,ntmps249;go_wp2;go_ret;exact⟨Zaa (by simp [Zfk,hn]),Zb_.alloc Zl_ _⟩
 | true=>
  have gn:¬ (0:Int) < n:=by simp at hn;omega
  cases hto:to.toList.isEmpty with
  | false=>
   go_enter func249,ntmps249;go_wp2;go_ret;exact⟨Zaa (by simp [Zfk,hn,hto]),Zb_.alloc Zl_ _⟩
  | true=>
   cases hro:(ro == 0) with
   | false=>
    have gro:(ro != 0)=true:=by simp [bne,hro]
    go_enter func249,ntmps249;go_wp2;go_ret;exact⟨Zaa (by simp [Zfk,hn,hto,hro]),Zb_.alloc Zl_ _⟩
   | true=>
    have gro:(ro != 0)=false:=by simp [bne,hro]
    go_enter func249,ntmps249;go_wp2;go_ret;exact⟨Zaa (by simp [Zfk,hn,hto,hro]),Zb_.alloc Zl_ _⟩
theorem ZrZ :
 Calls prog 249 #[.agg #[.string nm,.int .i64 2,.int .i64 le,.int .i64 mo,.slice a n cap,.string to,.int .i64 ro,.bool mu,.bool fx,.string df,.string we]] w fun e w'=>e=.returned (.bool (ZeP le mo to ro we))∧Zw_ w w':=by
 cases hle:(le == 0) with
 | false=>
  have gle:(le != 0)=true:=by simp [bne,hle]
  go_enter func249,ntmps249;go_wp2;go_ret;exact⟨Zaa (by simp [ZeP,hle]),Zb_.alloc Zl_ _⟩
 | true=>
  have gle:(le != 0)=false:=by simp [bne,hle]
  cases hmo:(mo == 0) with
  | false=>
   have gmo:(mo != 0)=true:=by simp [bne,hmo]
   go_enter func249,ntmps249;go_wp2;go_ret;exact⟨Zaa (by simp [ZeP,hle,hmo]),Zb_.alloc Zl_ _⟩
  | true=>
   have gmo:(mo != 0)=false:=by simp [bne,hmo]
   cases hwe:we.toList.isEmpty with
   | false=>
    go_enter func249,ntmps249;go_wp2;go_ret;exact⟨Zaa (by simp [ZeP,hle,hmo,hwe]),Zb_.alloc Zl_ _⟩
   | true=>
    cases hto:to.toList.isEmpty with
    | false=>
     go_enter func249,ntmps249;go_wp2;go_ret;exact⟨Zaa (by simp [ZeP,hle,hmo,hwe,hto]),Zb_.alloc Zl_ _⟩
    | true=>
     cases hro:(ro == 0) with
     | false=>
      have gro:(ro != 0)=true:=by simp [bne,hro]
      go_enter func249,ntmps249;go_wp2;go_ret;exact⟨Zaa (by simp [ZeP,hle,hmo,hwe,hto,hro]),Zb_.alloc Zl_ _⟩
     | true=>
      have gro:(ro != 0)=false:=by simp [bne,hro]
      go_enter func249,ntmps249;go_wp2;go_ret;exact⟨Zaa (by simp [ZeP,hle,hmo,hwe,hto,hro]),Zb_.alloc Zl_ _⟩
theorem Zrz :
 Calls prog 249 #[.agg #[.string nm,.int .i64 3,.int .i64 le,.int .i64 mo,.slice a n cap,.string to,.int .i64 ro,.bool mu,.bool fx,.string df,.string we]] w fun e w'=>e=.returned (.bool (Zfa n to ro we))∧Zw_ w w':=by
 cases hwe:we.toList.isEmpty with
 | false=>
  go_enter func249,ntmps249;go_wp2;go_ret;exact⟨Zaa (by simp [Zfa,hwe]),Zb_.alloc Zl_ _⟩
 | true=>
  cases hn:((n:Int) == 0) with
  | false=>
   have gn:(0:Int) < n:=by simp at hn;omega
   go_enter func249,ntmps249;go_wp2;go_ret;exact⟨Zaa (by simp [Zfa,hwe,hn]),Zb_.alloc Zl_ _⟩
  | true=>
   have gn:¬ (0:Int) < n:=by simp at hn;omega
   cases hto:to.toList.isEmpty with
   | false=>
    go_enter func249,ntmps249;go_wp2;go_ret;exact⟨Zaa (by simp [Zfa,hwe,hn,hto]),Zb_.alloc Zl_ _⟩
   | true=>
    cases hro:(ro == 0) with
    | false=>
     have gro:(ro != 0)=true:=by simp [bne,hro]
     go_enter func249,ntmps249;go_wp2;go_ret;exact⟨Zaa (by simp [Zfa,hwe,hn,hto,hro]),Zb_.alloc Zl_ _⟩
    | true=>
     have gro:(ro != 0)=false:=by simp [bne,hro]
     go_enter func249,ntmps249;go_wp2;go_ret;exact⟨Zaa (by simp [Zfa,hwe,hn,hto,hro]),Zb_.alloc Zl_ _⟩
theorem ZrD :
 Calls prog 249 #[.agg #[.string nm,.int .i64 4,.int .i64 le,.int .i64 mo,.slice a n cap,.string to,.int .i64 ro,.bool mu,.bool fx,.string df,.string we]] w fun e w'=>e=.returned (.bool (Ze1 le mo n we))∧Zw_ w w':=by
 cases hle:(le == 0) with
 | false=>
  have gle:(le != 0)=true:=by simp [bne,hle]
  go_enter func249,ntmps249;go_wp2;go_ret;exact⟨Zaa (by simp [Ze1,hle]),Zb_.alloc Zl_ _⟩
 | true=>
  have gle:(le != 0)=false:=by simp [bne,hle]
  cases hmo:(mo == 0) with
  | false=>
   have gmo:(mo != 0)=true:=by simp [bne,hmo]
   go_enter func249,ntmps249;go_wp2;go_ret;exact⟨Zaa (by simp [Ze1,hle,hmo]),Zb_.alloc Zl_ _⟩
  | true=>
   have gmo:(mo != 0)=false:=by simp [bne,hmo]
   cases hwe:we.toList.isEmpty with
   | false=>
    go_enter func249,ntmps249;go_wp2;go_ret;exact⟨Zaa (by simp [Ze1,hle,hmo,hwe]),Zb_.alloc Zl_ _⟩
   | true=>
    cases hn:((n:Int) == 0) with
    | false=>
     have gn:(0:Int) < n:=by simp at hn;omega
     go_enter func249,ntmps249;go_wp2;go_ret;exact⟨Zaa (by simp [Ze1,hle,hmo,hwe,hn]),Zb_.alloc Zl_ _⟩
    | true=>
     have gn:¬ (0:Int) < n:=by simp at hn;omega
     go_enter func249,ntmps249;go_wp2;go_ret;exact⟨Zaa (by simp [Ze1,hle,hmo,hwe,hn]),Zb_.alloc Zl_ _⟩
end
theorem ZaN (w u:World) (O:Array Value) (T:TypeId) (h:Below (w.heap.size+1) (w.alloc (.cells O T)) u) (i:Nat):u.cell? ⟨w.heap.size,i,none⟩=O[i]?:=by
 rw [h.cell (p:=⟨w.heap.size,i,none⟩) (by simp)];simp
def Zcc (le mo:Int) (we:Zy_):Bool:=decide (0≤le)&&decide (le≤mo)&&decide (mo≤1000000)&&Zaj we
def Zd8 (n:Nat) (L:List Zy_):Bool:=decide (1≤(n:Int))&&decide ((n:Int)≤6)&&ZnT L
def ZcY (le mo:Int):Bool:=decide (1≤le)&&decide (le≤mo)&&decide (mo≤40)
def ZkM (ro:Int) (mu:Bool):Bool:=ro == 1 || ro == 3 || ro == 2&&!mu
def Zdj (Ss:List Sh) (to:Zy_) (ro:Int) (mu:Bool) (df:Zy_):Bool:=Zl9 Ss to&&df.toList.isEmpty&&ZkM ro mu
theorem un1 (n:Nat) (to:Zy_) (ro:Int):Zb2 0 0 n to ro ⟨#[]⟩=Zfk n to ro:=by simp [Zb2,Zfk,ByteArray.toList_eq]
theorem un2 (le mo:Int) (to:Zy_) (ro:Int) (we:Zy_):Zb2 le mo 0 to ro we=ZeP le mo to ro we:=by
 simp only [Zb2,ZeP];cases (le == 0) <;> cases (mo == 0) <;> cases to.toList.isEmpty <;> cases (ro == 0) <;> cases we.toList.isEmpty <;> rfl
theorem un3 (n:Nat) (to:Zy_) (ro:Int) (we:Zy_):Zb2 0 0 n to ro we=Zfa n to ro we:=by
 simp only [Zb2,Zfa];cases ((n:Int) == 0) <;> cases to.toList.isEmpty <;> cases (ro == 0) <;> cases we.toList.isEmpty <;> rfl
theorem un4 (le mo:Int) (n:Nat) (we:Zy_):Zb2 le mo n ⟨#[]⟩ 0 we=Ze1 le mo n we:=by
 simp only [Zb2,Ze1,ByteArray.toList_eq];cases (le == 0) <;> cases (mo == 0) <;> cases ((n:Int) == 0) <;> cases we.data.toList.isEmpty <;> rfl
section
variable (nm to df we:Zy_) (le mo ro:Int) (mu fx:Bool) (a:Option Addr) (n cap:Nat) (w:World)
theorem Zrg (kd:Int) (h1:kd≠1) (h2:kd≠2) (h3:kd≠3) (h4:kd≠4) :
 Calls prog 249 #[.agg #[.string nm,.int .i64 kd,.int .i64 le,.int .i64 mo,.slice a n cap,.string to,.int .i64 ro,.bool mu,.bool fx,.string df,.string we]] w fun e w'=>∃ b,e=.returned (.bool b)∧Zw_ w w':=by
 have b1:(kd == 1)=false:=beq_eq_false_iff_ne.2 h1;have b2:(kd == 2)=false:=beq_eq_false_iff_ne.2 h2;have b3:(kd == 3)=false:=beq_eq_false_iff_ne.2 h3;have b4:(kd == 4)=false:=beq_eq_false_iff_ne.2 h4;have c1:(kd != 1)=true:=by simp [bne,b1]
 have c2:(kd != 2)=true:=by simp [bne,b2]
 clear h1 h2 h3 h4;go_enter func249,ntmps249;go_wp2
 all_goals go_ret
 all_goals exact⟨_,rfl,Zb_.alloc Zl_ _⟩
theorem Zru (lv:Value) (hs:we.size≤maxLen) :
 Calls prog 336 #[.agg #[.int .i64 le,.int .i64 mo,.string we],lv] w fun e w'=>e=.returned (.bool (Zcc le mo we))∧Zw_ w w':=by
 have HW:∀ o,Hid (Zw_ w (w.alloc o)):=fun o=>Zb_.alloc Zl_ _
 have hk:=fun u=>ZbR we u hs
 by_cases h1:0≤le
 · by_cases h2:le≤mo
   · by_cases h3:mo≤1000000
     · go_enter func336,ntmps336
       go_wp2_with fail;refine (hk _).mono ?_;rintro e w1 ⟨rfl,rfl⟩;go_wp2;go_ret;exact⟨Zaa (by simp [Zcc,h1,h2,h3]),(HW _).out⟩
     · go_enter func336,ntmps336
       go_wp2;go_ret;exact⟨Zaa (by rw [Bool.eq_iff_iff];simp [Zcc];omega),(HW _).out⟩
   · go_enter func336,ntmps336
     go_wp2;go_ret;exact⟨Zaa (by rw [Bool.eq_iff_iff];simp [Zcc];omega),(HW _).out⟩
 · go_enter func336,ntmps336
   go_wp2;go_ret;exact⟨Zaa (by rw [Bool.eq_iff_iff];simp [Zcc];omega),(HW _).out⟩
theorem ZrS (lv:Value) (L:List Zy_) (hv:Zag w (.slice a L.length cap) L) :
 Calls prog 339 #[.agg #[.slice a L.length cap],lv] w fun e w'=>e=.returned (.bool (Zd8 L.length L))∧Zw_ w w':=by
 have HV:=Zab hv;clear hv;have HW:∀ o,Hid (Zw_ w (w.alloc o)):=fun o=>Zb_.alloc Zl_ _
 by_cases h1:(1:Int)≤L.length
 · by_cases h2:(L.length:Int)≤6
   · go_enter func339,ntmps339
     go_wp2_with fail;refine (Zgf _ L _ (HV.out.below (HW _).out)).mono ?_;rintro e w1 ⟨rfl,rfl⟩;go_wp2;go_ret;exact⟨Zaa (by simp [Zd8,h1,h2]),(HW _).out⟩
   · go_enter func339,ntmps339
     go_wp2;go_ret;exact⟨Zaa (by rw [Bool.eq_iff_iff];simp [Zd8];omega),(HW _).out⟩
 · go_enter func339,ntmps339
   go_wp2;go_ret;exact⟨Zaa (by rw [Bool.eq_iff_iff];simp [Zd8];omega),(HW _).out⟩
theorem ZrT (lv:Value) :
 Calls prog 342 #[.agg #[.int .i64 le,.int .i64 mo],lv] w fun e w'=>e=.returned (.bool (ZcY le mo))∧Zw_ w w':=by
 have HW:∀ o,Hid (Zw_ w (w.alloc o)):=fun o=>Zb_.alloc Zl_ _
 by_cases h1:1≤le
 · by_cases h2:le≤mo
   · go_enter func342,ntmps342
     go_wp2;go_ret;exact⟨Zaa (by simp [ZcY,h1,h2]),(HW _).out⟩
   · go_enter func342,ntmps342
     go_wp2;go_ret;exact⟨Zaa (by rw [Bool.eq_iff_iff];simp [ZcY];omega),(HW _).out⟩
 · go_enter func342,ntmps342
   go_wp2;go_ret;exact⟨Zaa (by rw [Bool.eq_iff_iff];simp [ZcY];omega),(HW _).out⟩
theorem Zq9 (lo:Nat) (lv:Value) (Ss:List Sh) (hv:ZaP lo w lv Ss) :
 Calls prog 345 #[.agg #[.string to,.int .i64 ro,.bool mu,.string df],lv] w fun e w'=>e=.returned (.bool (Zdj Ss to ro mu df))∧Zw_ w w':=by
 have HV:=Zab hv;obtain⟨la,lcap,rfl⟩:=hv.form;clear hv;have HW:∀ o,Hid (Zw_ w (w.alloc o)):=fun o=>Zb_.alloc Zl_ _
 go_enter func345,ntmps345;go_wp2_with fail;refine (Zk7 lo _ Ss _ _ (HV.out.below (HW _).out)).mono ?_;rintro e w1 ⟨hb1,hsh⟩;have hz:w.heap.size < w1.heap.size:=by have:=hb1.size;simp at this;omega
 have hbx:=fun i=>ZaN w w1 #[.string to,.int .i64 ro,.bool mu,.string df] 338 (by have:=hb1;simp at this;exact this) i
 have HB:Hid (Zw_ w w1):=(HW _).out.trans (hb1.mono (by simp));clear hb1
 rcases hsh with ⟨x,fv,hx,rfl,hfd⟩ | ⟨hx,rfl⟩
 · have HK:Hid (Zl9 Ss to=true):=ZjA hx
   obtain⟨fa,fcap,rfl⟩:=hfd.form;clear hfd hx
   cases hd:df.toList.isEmpty with
   | false=>
    go_wp2;go_ret;exact⟨Zaa (by simp [Zdj,hd]),HB.out.alloc (by omega) _⟩
   | true=>
    cases a1:(ro == 1) with
    | true=>
     go_wp2;go_ret;exact⟨Zaa (by simp [Zdj,ZkM,hd,HK.out,a1]),HB.out.alloc (by omega) _⟩
    | false=>
     cases a3:(ro == 3) with
     | true=>
      go_wp2;go_ret;exact⟨Zaa (by simp [Zdj,ZkM,hd,HK.out,a1,a3]),HB.out.alloc (by omega) _⟩
     | false=>
      cases a2:(ro == 2) with
      | true=>
       go_wp2;go_ret;exact⟨Zaa (by simp [Zdj,ZkM,hd,HK.out,a1,a3,a2]),HB.out.alloc (by omega) _⟩
      | false=>
       go_wp2;go_ret;exact⟨Zaa (by simp [Zdj,ZkM,hd,HK.out,a1,a3,a2]),HB.out.alloc (by omega) _⟩
 · have HK:Hid (Zl9 Ss to=false):=Zjr hx
   clear hx;go_wp2;go_ret;exact⟨Zaa (by simp [Zdj,HK.out]),HB.out.alloc (by omega) _⟩
end
end Go.Proofs.YtfohnageehneoaaGreat
