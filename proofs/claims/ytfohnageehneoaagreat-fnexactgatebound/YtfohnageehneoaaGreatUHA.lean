import Derived.Sort.Walk0
import Derived.Test.YtfohnageehneoaaGreatUGG
set_option maxHeartbeats 16000000
set_option maxRecDepth 100000
open Go.Proofs.Tryz
namespace Go.Proofs.YtfohnageehneoaaGreat
open Go.RowKit Go.Deep
variable {k j:Nat} {Ls:List Le}
def ZcL (a b:Zy_):Int:=if Op.bytesLess a.toList b.toList=true then -1 else if (a.toList == b.toList)=true then 0 else 1
theorem ZkM (a:List UInt8):Op.bytesLess a a=false:=by rw [bytesLess_eq];exact decide_eq_false (List.lt_irrefl _)
theorem Znn {a b c:List UInt8} (h:Op.bytesLess a b=true) (h':Op.bytesLess b c=true):Op.bytesLess a c=true:=by
 rw [bytesLess_eq] at h h' |-;exact decide_eq_true (List.lt_trans (of_decide_eq_true h) (of_decide_eq_true h'))
theorem toList_inj {a b:Zy_} (h:a.toList=b.toList):a=b:=ZaU.1 (by rw [h];simp)
theorem ZpF (a:Zy_):ZcL a a=0:=by unfold ZcL;simp [ZkM]
theorem ZeA {a b:Zy_}:ZcL a b=0↔a=b:=by
 refine⟨fun h=>?_,fun h=>by rw [h];exact ZpF _⟩;unfold ZcL at h
 split at h
 . omega
 . split at h
   . rename_i h2
     exact ZaU.1 h2
   . omega
theorem ZiM {a b:Zy_}:ZcL a b < 0↔Op.bytesLess a.toList b.toList=true:=by
 unfold ZcL
 split
 . rename_i h;simp [h]
 . rename_i h
   split <;> simp [h]
theorem ZrH (a b:Zy_):-1<=ZcL a b/\ZcL a b<=1:=by unfold ZcL;split <;> (try split) <;> omega
def orI (a b:Int):Int:=if a=0 then b else a
def Zd0 (a b c d:Zy_):Int:=orI (ZcL a c) (ZcL b d)
def ZmA (a b c d e f:Zy_):Int:=orI (ZcL a d) (orI (ZcL b e) (ZcL c f))
theorem ZqD {a b:Int}:orI a b=0↔a=0/\b=0:=by unfold orI;split <;> omega
theorem ZgI (a b:Zy_) (w:World) :
 Calls prog 131 #[.string a,.string b] w fun e w'=>e=.returned (.int .i64 (ZcL a b))/\w'=w:=by
 cases h1:Op.bytesLess a.toList b.toList with
 | true=>
  have HE:Hd (ZcL a b= -1):=by unfold Hd ZcL;rw [h1];rfl
  go_enter func131,ntmps131;go_wp2;go_ret;exact⟨ZaC HE.o.symm,rfl⟩
 | false=>
  cases h2:(a.toList == b.toList) with
  | true=>
   have HE:Hd (ZcL a b=0):=by unfold Hd ZcL;rw [h1,h2];rfl
   go_enter func131,ntmps131;go_wp2;go_ret;exact⟨ZaC HE.o.symm,rfl⟩
  | false=>
   have HE:Hd (ZcL a b=1):=by unfold Hd ZcL;rw [h1,h2];rfl
   go_enter func131,ntmps131;go_wp2;go_ret;exact⟨ZaC HE.o.symm,rfl⟩
theorem Zja (a:Zy_) (w:World):Calls prog 244 #[.string a] w fun e w'=>e=.returned (.bool false)/\w'=w:=by
 have h:=Zdb a;go_enter func244,ntmps244;go_wp2;go_ret;exact⟨rfl,rfl⟩
theorem Zf3 (a b:Zy_) (w:World) :
 Calls prog 212 #[.string a,.string b] w fun e w'=>e=.returned (.int .i64 (ZcL a b))/\w'=w:=by
 cases h1:Op.bytesLess a.toList b.toList with
 | true=>
  have HE:Hd (ZcL a b= -1):=by unfold Hd ZcL;rw [h1];rfl
  go_enter func212,ntmps212;go_wp2_with (go_at_call 244;refine (Zja _ _).mono ?_;rintro e w' ⟨rfl,rfl⟩);go_ret;exact⟨ZaC HE.o.symm,rfl⟩
 | false=>
  cases h2:(a.toList == b.toList) with
  | true=>
   have HE:Hd (ZcL a b=0):=by unfold Hd ZcL;rw [h1,h2];rfl
   go_enter func212,ntmps212;go_wp2_with (go_at_call 244;refine (Zja _ _).mono ?_;rintro e w' ⟨rfl,rfl⟩);go_ret;exact⟨ZaC HE.o.symm,rfl⟩
  | false=>
   have HE:Hd (ZcL a b=1):=by unfold Hd ZcL;rw [h1,h2];rfl
   go_enter func212,ntmps212;go_wp2_with (go_at_call 244;refine (Zja _ _).mono ?_;rintro e w' ⟨rfl,rfl⟩);go_ret;exact⟨ZaC HE.o.symm,rfl⟩
theorem ZcO (a b c d:Zy_) (w:World) :
 Calls prog 73 #[.string a,.string b,.string c,.string d] w fun e w'=>e=.returned (.int .i64 (Zd0 a b c d))/\w'=w:=by
 have hk:=ZrH a c
 by_cases h0:ZcL a c=0
 . have HE:Hd (Zd0 a b c d=ZcL b d):=by unfold Hd Zd0 orI;rw [if_pos h0]
   have h0':(ZcL a c != 0)=false:=by simp [h0]
   have H0:=Zab h0;clear h0;go_enter func73,ntmps73;go_wp2_with (go_at_call 131;refine (ZgI _ _ _).mono ?_;rintro e w' ⟨rfl,rfl⟩);go_ret;exact⟨ZaC HE.o.symm,rfl⟩
 . have HE:Hd (Zd0 a b c d=ZcL a c):=by unfold Hd Zd0 orI;rw [if_neg h0]
   have h0':(ZcL a c != 0)=true:=by simp [h0]
   clear h0;go_enter func73,ntmps73;go_wp2_with (go_at_call 131;refine (ZgI _ _ _).mono ?_;rintro e w' ⟨rfl,rfl⟩);go_ret;exact⟨ZaC HE.o.symm,rfl⟩
def orL:List Int->Int
 | []=>0
 | x :: r=>if x=0 then orL r else x
theorem Zrk {a b c d e f:Zy_} (h:a≠d):ZmA a b c d e f=ZcL a d:=by
 unfold ZmA orI;rw [if_neg (fun h0=>h (ZeA.1 h0))]
theorem Zrm {a b c d e f:Zy_} (h:a=d):ZmA a b c d e f=Zd0 b c e f:=by
 unfold ZmA Zd0;rw [ZeA.2 h]
 rfl
theorem Zqt {L:List Int} (hk:k < L.length) (h:L[k]=0):orL (L.drop k)=orL (L.drop (k+1)):=by
 rw [List.drop_eq_getElem_cons hk,orL,if_pos h]
theorem ZqB {L:List Int} (hk:k < L.length) (h:L[k]≠0):orL (L.drop k)=L[k]:=by
 rw [List.drop_eq_getElem_cons hk,orL,if_neg h]
theorem ZoD (a b:Int):orL [a,b]=orI a b:=by simp only [orL];unfold orI;split <;> (try split) <;> omega
theorem Zn5 (a b c:Int):orL [a,b,c]=orI a (orI b c):=by simp only [orL];unfold orI;split <;> (try split) <;> (try split) <;> omega
theorem Zhc (w:World) (b off cap:Nat) (L:List Int) (hm:L.length<=1000) (hc:∀ i (h:i < L.length),w.cell? ⟨b,off+i,none⟩=some (.int .i64 L[i])) :
 Calls prog 211 #[.slice (some ⟨b,off,none⟩) L.length cap] w fun e w'=>e=.returned (.int .i64 (orL L))/\w'=w:=by
 go_enter func211,ntmps211;go_wp2
 go_loop [8] (fun i=>∃ k:Nat,i=.int .i64 k/\k<=L.length/\orL L=orL (L.drop k)) (fun i=>L.length - (intOf i).toNat)
 case atStart=>exact⟨0,rfl,by omega,by simp⟩
 case round=>
  obtain⟨k,rfl,hk,he⟩:=hrel;have HE:=Zab he;clear he
  by_cases hlt:k < L.length
  . have c:=hc k hlt
    by_cases h0:L[k]=0
    . have HS:=Zab (Zqt hlt h0)
      have h0':(L[k] != 0)=false:=by simp [h0]
      clear h0;go_wp2
      go_round
      . exact⟨k+1,by go_num,by omega,HE.o.trans HS.o⟩
      . simp [intOf];omega
    . have HS:=Zab (ZqB hlt h0)
      have h0':(L[k] != 0)=true:=by simp [h0]
      clear h0;go_wp2;go_ret;exact⟨ZaC (by rw [HE.o,HS.o]),rfl⟩
  . have HS:Hd (orL (L.drop k)=0):=by unfold Hd;rw [List.drop_of_length_le (by omega)];rfl
    go_wp2;go_ret;exact⟨ZaC (by rw [HE.o,HS.o]),rfl⟩
theorem Zle (x y:Ob) (va:Option Addr) (vn vc:Nat) (ha:Option Addr) (hn hc:Nat) (va':Option Addr) (vn' vc':Nat) (ha':Option Addr) (hn' hc':Nat) (w:World) :
 Calls prog 233 #[.agg #[.string x.kd,.string x.nm,.string x.tm,.slice va vn vc,.bool x.en,.slice ha hn hc,.int .i64 x.ver],.agg #[.string y.kd,.string y.nm,.string y.tm,.slice va' vn' vc',.bool y.en,.slice ha' hn' hc',.int .i64 y.ver]] w fun e w'=>e=.returned (.int .i64 (Zd0 x.kd x.nm y.kd y.nm))/\Zw_ w w':=by
 have HO:Hd (orL [ZcL x.kd y.kd,ZcL x.nm y.nm]=Zd0 x.kd x.nm y.kd y.nm):=ZoD _ _;go_enter func233,ntmps233;go_wp2;generalize hWa:(World.alloc (w.alloc _) _)=Wa;have HBa:Hd (Zw_ w Wa):=by rw [<- hWa];exact (Zac w _).alloc (by simp) _
 have FA:Hd (Box Wa w.heap.size #[.string x.kd,.string x.nm,.string x.tm,.slice va vn vc,.bool x.en,.slice ha hn hc,.int .i64 x.ver]):=by rw [<- hWa];exact (Box.new _ _ _ _ rfl).on (Zac _ _)
 have FB:Hd (Box Wa (w.heap.size+1) #[.string y.kd,.string y.nm,.string y.tm,.slice va' vn' vc',.bool y.en,.slice ha' hn' hc',.int .i64 y.ver]):=by rw [<- hWa];exact Box.new _ _ _ _ (by simp)
 clear hWa
 go_region_held3 (ZaB Wa w.heap.size #[.string x.kd,.string x.nm,.string x.tm,.slice va vn vc,.bool x.en,.slice ha hn hc,.int .i64 x.ver] (w.heap.size+1) #[.string y.kd,.string y.nm,.string y.tm,.slice va' vn' vc',.bool y.en,.slice ha' hn' hc',.int .i64 y.ver])
  (first
    | (with_reducible exact ZaB.drew FA.o FB.o)
    | (with_reducible exact ZaB.on (by assumption) Zb_)
    | (with_reducible exact ZaB.on (by assumption) (Zac _ _))
    | (with_reducible exact ZaB.on (by assumption) (by assumption)))
  (first
    | (go_at_call 212
       refine (Zf3 _ _ _).mono ?_;rintro e w1 ⟨rfl,rfl⟩)
    | (go_at_call 211
       refine (Zhc _ _ _ _ [ZcL x.kd y.kd,ZcL x.nm y.nm] (by simp) ?_).mono ?_
       . intro i hi
         have hi':i=0\/i=1:=by simp at hi;omega
         rcases hi' with rfl | rfl <;> simp
       rintro e w2 ⟨rfl,rfl⟩))
 go_wp2;go_ret;exact⟨ZaC HO.o,(HBa.o.trans ((Zac _ _).mono HBa.o.size)).drew⟩
theorem ZfV (x y:Le) (w:World) :
 Calls prog 169 #[.agg #[.string x.tm,.string x.re,.int .i64 x.mo,.int .i64 x.fr],.agg #[.string y.tm,.string y.re,.int .i64 y.mo,.int .i64 y.fr]] w fun e w'=>e=.returned (.int .i64 (Zd0 x.tm x.re y.tm y.re))/\Zw_ w w':=by
 have HO:Hd (orL [ZcL x.tm y.tm,ZcL x.re y.re]=Zd0 x.tm x.re y.tm y.re):=ZoD _ _;go_enter func169,ntmps169;go_wp2;generalize hWa:(World.alloc (w.alloc _) _)=Wa;have HBa:Hd (Zw_ w Wa):=by rw [<- hWa];exact (Zac w _).alloc (by simp) _
 have FA:Hd (Box Wa w.heap.size #[.string x.tm,.string x.re,.int .i64 x.mo,.int .i64 x.fr]):=by rw [<- hWa];exact (Box.new _ _ _ _ rfl).on (Zac _ _)
 have FB:Hd (Box Wa (w.heap.size+1) #[.string y.tm,.string y.re,.int .i64 y.mo,.int .i64 y.fr]):=by rw [<- hWa];exact Box.new _ _ _ _ (by simp)
 clear hWa
 go_region_held3 (ZaB Wa w.heap.size #[.string x.tm,.string x.re,.int .i64 x.mo,.int .i64 x.fr] (w.heap.size+1) #[.string y.tm,.string y.re,.int .i64 y.mo,.int .i64 y.fr])
  (first
    | (with_reducible exact ZaB.drew FA.o FB.o)
    | (with_reducible exact ZaB.on (by assumption) Zb_)
    | (with_reducible exact ZaB.on (by assumption) (Zac _ _))
    | (with_reducible exact ZaB.on (by assumption) (by assumption)))
  (first
    | (go_at_call 212
       refine (Zf3 _ _ _).mono ?_;rintro e w1 ⟨rfl,rfl⟩)
    | (go_at_call 211
       refine (Zhc _ _ _ _ [ZcL x.tm y.tm,ZcL x.re y.re] (by simp) ?_).mono ?_
       . intro i hi
         have hi':i=0\/i=1:=by simp at hi;omega
         rcases hi' with rfl | rfl <;> simp
       rintro e w2 ⟨rfl,rfl⟩))
 go_wp2;go_ret;exact⟨ZaC HO.o,(HBa.o.trans ((Zac _ _).mono HBa.o.size)).drew⟩
theorem Zm4 (x y:Pu) (w:World) :
 Calls prog 172 #[.agg #[.string x.dr,.string x.tm,.string x.re,.int .i64 x.am,.int .i64 x.un],.agg #[.string y.dr,.string y.tm,.string y.re,.int .i64 y.am,.int .i64 y.un]] w fun e w'=>e=.returned (.int .i64 (ZmA x.dr x.tm x.re y.dr y.tm y.re))/\Zw_ w w':=by
 have HO:Hd (orL [ZcL x.dr y.dr,ZcL x.tm y.tm,ZcL x.re y.re]=ZmA x.dr x.tm x.re y.dr y.tm y.re):=Zn5 _ _ _;go_enter func172,ntmps172;go_wp2;generalize hWa:(World.alloc (w.alloc _) _)=Wa;have HBa:Hd (Zw_ w Wa):=by rw [<- hWa];exact (Zac w _).alloc (by simp) _
 have FA:Hd (Box Wa w.heap.size #[.string x.dr,.string x.tm,.string x.re,.int .i64 x.am,.int .i64 x.un]):=by rw [<- hWa];exact (Box.new _ _ _ _ rfl).on (Zac _ _)
 have FB:Hd (Box Wa (w.heap.size+1) #[.string y.dr,.string y.tm,.string y.re,.int .i64 y.am,.int .i64 y.un]):=by rw [<- hWa];exact Box.new _ _ _ _ (by simp)
 clear hWa
 go_region_held3 (ZaB Wa w.heap.size #[.string x.dr,.string x.tm,.string x.re,.int .i64 x.am,.int .i64 x.un] (w.heap.size+1) #[.string y.dr,.string y.tm,.string y.re,.int .i64 y.am,.int .i64 y.un])
  (first
    | (with_reducible exact ZaB.drew FA.o FB.o)
    | (with_reducible exact ZaB.on (by assumption) Zb_)
    | (with_reducible exact ZaB.on (by assumption) (Zac _ _))
    | (with_reducible exact ZaB.on (by assumption) (by assumption)))
  (first
    | (go_at_call 212
       refine (Zf3 _ _ _).mono ?_;rintro e w1 ⟨rfl,rfl⟩)
    | (go_at_call 211
       refine (Zhc _ _ _ _ [ZcL x.dr y.dr,ZcL x.tm y.tm,ZcL x.re y.re] (by simp) ?_).mono ?_
       . intro i hi
         have hi':i=0\/i=1\/i=2:=by simp at hi;omega
         rcases hi' with rfl | rfl | rfl <;> simp
       rintro e w2 ⟨rfl,rfl⟩))
 go_wp2;go_ret;exact⟨ZaC HO.o,(HBa.o.trans ((Zac _ _).mono HBa.o.size)).drew⟩
theorem Zcp (x y:Pu) (w:World) :
 Calls prog 99 #[.agg #[.string x.dr,.string x.tm,.string x.re,.int .i64 x.am,.int .i64 x.un],.agg #[.string y.dr,.string y.tm,.string y.re,.int .i64 y.am,.int .i64 y.un]] w fun e w'=>e=.returned (.int .i64 (ZmA x.dr x.tm x.re y.dr y.tm y.re))/\Zw_ w w':=by
 have HW:∀ o o',Hd (Zw_ w ((w.alloc o).alloc o')):=fun o o'=>(Zb_.alloc Zl_ _).alloc (by simp) _
 cases h:(x.dr.toList == y.dr.toList) with
 | true=>
  have HE:=Zab (Zrm (b:=x.tm) (c:=x.re) (e:=y.tm) (f:=y.re) (ZaU.1 h));go_enter func99,ntmps99;go_wp2_with (go_at_call 73;refine (ZcO _ _ _ _ _).mono ?_;rintro e w' ⟨rfl,rfl⟩);go_ret;exact⟨ZaC HE.o.symm,(HW _ _).o⟩
 | false=>
  have HE:=Zab (Zrk (b:=x.tm) (c:=x.re) (e:=y.tm) (f:=y.re) (Zft.1 h));go_enter func99,ntmps99;go_wp2_with (go_at_call 131;refine (ZgI _ _ _).mono ?_;rintro e w' ⟨rfl,rfl⟩);go_ret;exact⟨ZaC HE.o.symm,(HW _ _).o⟩
def Zpm (a b:Int):Int:=if a < b then -1 else if b < a then 1 else 0
theorem Zp5 {a b:Int}:Zpm a b < 0↔a < b:=by unfold Zpm;split <;> (try split) <;> omega
theorem Zi7 (a:Int) (w:World):Calls prog 281 #[.int .i64 a] w fun e w'=>e=.returned (.bool false)/\w'=w:=by
 go_enter func281,ntmps281;go_wp2;go_ret;exact⟨rfl,rfl⟩
theorem ZmY (a b:Int) (w:World) :
 Calls prog 267 #[.int .i64 a,.int .i64 b] w fun e w'=>e=.returned (.int .i64 (Zpm a b))/\w'=w:=by
 by_cases h1:a < b
 . have HE:Hd (Zpm a b= -1):=if_pos h1
   go_enter func267,ntmps267;go_wp2_with (go_at_call 281;refine (Zi7 _ _).mono ?_;rintro e w' ⟨rfl,rfl⟩);go_ret;exact⟨ZaC HE.o.symm,rfl⟩
 . by_cases h2:b < a
   . have HE:Hd (Zpm a b=1):=by unfold Hd Zpm;rw [if_neg h1,if_pos h2]
     go_enter func267,ntmps267;go_wp2_with (go_at_call 281;refine (Zi7 _ _).mono ?_;rintro e w' ⟨rfl,rfl⟩);go_ret;exact⟨ZaC HE.o.symm,rfl⟩
   . have HE:Hd (Zpm a b=0):=by unfold Hd Zpm;rw [if_neg h1,if_neg h2]
     go_enter func267,ntmps267;go_wp2_with (go_at_call 281;refine (Zi7 _ _).mono ?_;rintro e w' ⟨rfl,rfl⟩);go_ret;exact⟨ZaC HE.o.symm,rfl⟩
theorem ZmM (x y:Gr) (va:Option Addr) (vn vc:Nat) (va':Option Addr) (vn' vc':Nat) (w:World) :
 Calls prog 238 #[.agg #[.int .i64 x.nu,.string x.tw,.string x.gb,.slice va vn vc,.string x.kd,.string x.tm,.string x.pf],.agg #[.int .i64 y.nu,.string y.tw,.string y.gb,.slice va' vn' vc',.string y.kd,.string y.tm,.string y.pf]] w fun e w'=>e=.returned (.int .i64 (Zpm x.nu y.nu))/\Zw_ w w':=by
 go_enter func238,ntmps238;go_wp2_with (go_at_call 267;refine (ZmY _ _ _).mono ?_;rintro e w' ⟨rfl,rfl⟩);go_ret;exact⟨rfl,(Zb_.alloc Zl_ _).alloc (by simp) _⟩
theorem ZaQ (n lo hi:Int) (w:World) :
 Calls prog 111 #[.int .i64 n,.int .i64 lo,.int .i64 hi] w fun e w'=>e=.returned (.bool (inB lo hi n))/\w'=w:=by
 rw [ZdF]
 by_cases h:lo<=n
 . by_cases h2:n<=hi
   . go_enter func111,ntmps111
     go_wp2;go_ret;exact⟨by rw [decide_eq_true h,decide_eq_true h2];rfl,rfl⟩
   . go_enter func111,ntmps111
     go_wp2;go_ret;exact⟨by simp [h2],rfl⟩
 . go_enter func111,ntmps111
   go_wp2;go_ret;exact⟨by rw [decide_eq_false (show ¬ lo<=n by omega)];rfl,rfl⟩
def ZcP {X:Type} (c:X->X->Int) (L:List X):Nat->Bool
 | 0=>true
 | j+1=>match L[j]?,L[j+1]? with
  | some x,some y=>decide (c x y < 0)
  | _,_=>true
def Zdn {X:Type} (c:X->X->Int) (L:List X):Bool:=(List.range L.length).all (ZcP c L)
theorem Zd9 {X:Type}{c:X->X->Int}{L:List X} (h:j+1 < L.length):ZcP c L (j+1)=decide (c L[j] L[j+1] < 0):=by
 show (match L[j]?,L[j+1]? with | some x,some y=>decide (c x y < 0) | _,_=>true)=_
 rw [List.getElem?_eq_getElem (by omega),List.getElem?_eq_getElem h]
def Zgz (x y:Ob):Int:=Zd0 x.kd x.nm y.kd y.nm
def Zgy (x y:Gr):Int:=Zpm x.nu y.nu
def Zce (x y:Le):Int:=Zd0 x.tm x.re y.tm y.re
def Zgx (x y:Pu):Int:=ZmA x.dr x.tm x.re y.dr y.tm y.re
theorem Znh (lo:Nat) (v:Value) (Xl:List Ob) (w:World) (hv:Zbu lo w v Xl) :
 Calls prog 232 #[v,.func (.func 233) #[] #[]] w fun e w'=>e=.returned (.bool (Zdn Zgz Xl))/\Zw_ w w':=by
 have HV:=Zab hv;have hm:=hv.max;unfold maxLen at hm;obtain⟨a,cap,rfl⟩:=hv.form;clear hv;go_enter func232,ntmps232;go_wp2
 go_loopw [5] (fun i wr=>∃ m:Nat,i=.int .i64 m/\1<=m/\(m<=Xl.length\/m=1)/\Zw_ w wr/\∀ j,j < m->ZcP Zgz Xl j=true) (fun i _=>Xl.length+1 - (intOf i).toNat)
 case atStart=>exact⟨1,rfl,Nat.le_refl _,Or.inr rfl,Below.refl _ _,fun j hj=>by rw [show j=0 by omega];rfl⟩
 case round=>
  obtain⟨m,rfl,hm1,hk,hb,hall⟩:=hrel;have HB:=Zab hb;have HA:=Zab hall;clear hb hall
  by_cases hlt:m < Xl.length
  . obtain⟨k,hkm⟩:∃ k,m=k+1:=⟨m - 1,by omega⟩
    have hlt0:k < Xl.length:=by omega
    obtain⟨b,off,rfl,hbw,-,hc⟩:=HV.o.full' (by omega);obtain⟨hs,vv0,vv1,hcell,hv0,hv1⟩:=hc k hlt0;obtain⟨ht,vv0',vv1',hdell,hw0,hw1⟩:=hc m hlt;obtain⟨va0,vc0,rfl⟩:=hv0.at.form';obtain⟨va1,vc1,rfl⟩:=hv1.at.form';obtain⟨vb0,vd0,rfl⟩:=hw0.at.form';obtain⟨vb1,vd1,rfl⟩:=hw1.at.form';obtain⟨c0,c1,c2,c3,c4,c5,c6⟩:=hcell.below HB.o hbw;obtain⟨d0,d1,d2,d3,d4,d5,d6⟩:=hdell.below HB.o hbw
    have HS:Hd (ZcP Zgz Xl m=decide (Zgz Xl[k] Xl[m] < 0)):=by
     subst hkm;exact Zd9 hlt
    have e2:IntKind.i64.wrap ((m:Int) - 1)=k:=by rw [IntWalk.i64_left];unfold wrap64;omega
    have HKM:=Zab hkm;clear hc hcell hdell hs ht hkm hk hv0 hw0 hv1 hw1;go_wp2
    go_region_with (go_at_call 233;refine (Zle Xl[k] Xl[m] _ _ _ _ _ _ _ _ _ _ _ _ _).mono ?_;rintro e w1 ⟨rfl,hb1⟩;have hB:Hd (Zw_ w w1):=(HB.o.drew).trans (hb1.mono HB.o.size);clear hb1)
    all_goals by_cases hq:0<=Zd0 Xl[k].kd Xl[k].nm Xl[m].kd Xl[m].nm
    all_goals first
     | (have HN:Hd (Zdn Zgz Xl=false):=Za3 hlt (HS.o.trans (decide_eq_false (by unfold Zgz;omega)))
        go_wp2;go_ret;exact⟨Zaa HN.o.symm,hB.o⟩)
     | (have HT:Hd (ZcP Zgz Xl m=true):=HS.o.trans (decide_eq_true (by unfold Zgz;omega))
        go_wp2;go_roundw
        case rel=>exact⟨m+1,by go_num,by omega,by omega,hB.o,fun j hj=>by
                   by_cases e:j=m
                   . rw [e];exact HT.o
                   . exact HA.o j (by omega)⟩
        . simp [intOf];omega)
  . have HT:Hd (Zdn Zgz Xl=true):=Za7 (fun i hi=>HA.o i (by omega))
    go_wp2;go_ret;exact⟨Zaa HT.o.symm,HB.o⟩
theorem Znz (lo:Nat) (v:Value) (Xl:List Gr) (w:World) (hv:Zb4 lo w v Xl) :
 Calls prog 237 #[v,.func (.func 238) #[] #[]] w fun e w'=>e=.returned (.bool (Zdn Zgy Xl))/\Zw_ w w':=by
 have HV:=Zab hv;have hm:=hv.max;unfold maxLen at hm;obtain⟨a,cap,rfl⟩:=hv.form;clear hv;go_enter func237,ntmps237;go_wp2
 go_loopw [5] (fun i wr=>∃ m:Nat,i=.int .i64 m/\1<=m/\(m<=Xl.length\/m=1)/\Zw_ w wr/\∀ j,j < m->ZcP Zgy Xl j=true) (fun i _=>Xl.length+1 - (intOf i).toNat)
 case atStart=>exact⟨1,rfl,Nat.le_refl _,Or.inr rfl,Below.refl _ _,fun j hj=>by rw [show j=0 by omega];rfl⟩
 case round=>
  obtain⟨m,rfl,hm1,hk,hb,hall⟩:=hrel;have HB:=Zab hb;have HA:=Zab hall;clear hb hall
  by_cases hlt:m < Xl.length
  . obtain⟨k,hkm⟩:∃ k,m=k+1:=⟨m - 1,by omega⟩
    have hlt0:k < Xl.length:=by omega
    obtain⟨b,off,rfl,hbw,-,hc⟩:=HV.o.full' (by omega);obtain⟨hs,vv0,hcell,hv0⟩:=hc k hlt0;obtain⟨ht,vv0',hdell,hw0⟩:=hc m hlt;obtain⟨va0,vc0,rfl⟩:=hv0.form;obtain⟨vb0,vd0,rfl⟩:=hw0.form;obtain⟨c0,c1,c2,c3,c4,c5,c6⟩:=hcell.below HB.o hbw;obtain⟨d0,d1,d2,d3,d4,d5,d6⟩:=hdell.below HB.o hbw
    have HS:Hd (ZcP Zgy Xl m=decide (Zgy Xl[k] Xl[m] < 0)):=by
     subst hkm;exact Zd9 hlt
    have e2:IntKind.i64.wrap ((m:Int) - 1)=k:=by rw [IntWalk.i64_left];unfold wrap64;omega
    have HKM:=Zab hkm;clear hc hcell hdell hs ht hkm hk hv0 hw0;go_wp2
    go_region_with (go_at_call 238;refine (ZmM Xl[k] Xl[m] _ _ _ _ _ _ _).mono ?_;rintro e w1 ⟨rfl,hb1⟩;have hB:Hd (Zw_ w w1):=(HB.o.drew).trans (hb1.mono HB.o.size);clear hb1)
    all_goals by_cases hq:0<=Zpm Xl[k].nu Xl[m].nu
    all_goals first
     | (have HN:Hd (Zdn Zgy Xl=false):=Za3 hlt (HS.o.trans (decide_eq_false (by unfold Zgy;omega)))
        go_wp2;go_ret;exact⟨Zaa HN.o.symm,hB.o⟩)
     | (have HT:Hd (ZcP Zgy Xl m=true):=HS.o.trans (decide_eq_true (by unfold Zgy;omega))
        go_wp2;go_roundw
        case rel=>exact⟨m+1,by go_num,by omega,by omega,hB.o,fun j hj=>by
                   by_cases e:j=m
                   . rw [e];exact HT.o
                   . exact HA.o j (by omega)⟩
        . simp [intOf];omega)
  . have HT:Hd (Zdn Zgy Xl=true):=Za7 (fun i hi=>HA.o i (by omega))
    go_wp2;go_ret;exact⟨Zaa HT.o.symm,HB.o⟩
theorem Znb (lo:Nat) (v:Value) (Xl:List Le) (w:World) (hv:ZbG lo w v Xl) :
 Calls prog 241 #[v,.func (.func 169) #[] #[]] w fun e w'=>e=.returned (.bool (Zdn Zce Xl))/\Zw_ w w':=by
 have HV:=Zab hv;have hm:=hv.max;unfold maxLen at hm;obtain⟨a,cap,rfl⟩:=hv.form;clear hv;go_enter func241,ntmps241;go_wp2
 go_loopw [5] (fun i wr=>∃ m:Nat,i=.int .i64 m/\1<=m/\(m<=Xl.length\/m=1)/\Zw_ w wr/\∀ j,j < m->ZcP Zce Xl j=true) (fun i _=>Xl.length+1 - (intOf i).toNat)
 case atStart=>exact⟨1,rfl,Nat.le_refl _,Or.inr rfl,Below.refl _ _,fun j hj=>by rw [show j=0 by omega];rfl⟩
 case round=>
  obtain⟨m,rfl,hm1,hk,hb,hall⟩:=hrel;have HB:=Zab hb;have HA:=Zab hall;clear hb hall
  by_cases hlt:m < Xl.length
  . obtain⟨k,hkm⟩:∃ k,m=k+1:=⟨m - 1,by omega⟩
    have hlt0:k < Xl.length:=by omega
    obtain⟨b,off,rfl,hbw,-,hc⟩:=HV.o.full' (by omega);obtain⟨hs,hcell⟩:=hc k hlt0;obtain⟨ht,hdell⟩:=hc m hlt;obtain⟨c0,c1,c2,c3⟩:=hcell.below HB.o hbw;obtain⟨d0,d1,d2,d3⟩:=hdell.below HB.o hbw
    have HS:Hd (ZcP Zce Xl m=decide (Zce Xl[k] Xl[m] < 0)):=by
     subst hkm;exact Zd9 hlt
    have e2:IntKind.i64.wrap ((m:Int) - 1)=k:=by rw [IntWalk.i64_left];unfold wrap64;omega
    have HKM:=Zab hkm;clear hc hcell hdell hs ht hkm hk;go_wp2
    go_region_with (go_at_call 169;refine (ZfV Xl[k] Xl[m] _).mono ?_;rintro e w1 ⟨rfl,hb1⟩;have hB:Hd (Zw_ w w1):=(HB.o.drew).trans (hb1.mono HB.o.size);clear hb1)
    all_goals by_cases hq:0<=Zd0 Xl[k].tm Xl[k].re Xl[m].tm Xl[m].re
    all_goals first
     | (have HN:Hd (Zdn Zce Xl=false):=Za3 hlt (HS.o.trans (decide_eq_false (by unfold Zce;omega)))
        go_wp2;go_ret;exact⟨Zaa HN.o.symm,hB.o⟩)
     | (have HT:Hd (ZcP Zce Xl m=true):=HS.o.trans (decide_eq_true (by unfold Zce;omega))
        go_wp2;go_roundw
        case rel=>exact⟨m+1,by go_num,by omega,by omega,hB.o,fun j hj=>by
                   by_cases e:j=m
                   . rw [e];exact HT.o
                   . exact HA.o j (by omega)⟩
        . simp [intOf];omega)
  . have HT:Hd (Zdn Zce Xl=true):=Za7 (fun i hi=>HA.o i (by omega))
    go_wp2;go_ret;exact⟨Zaa HT.o.symm,HB.o⟩
theorem Zmx (lo:Nat) (v:Value) (Xl:List Pu) (w:World) (hv:ZbW lo w v Xl) :
 Calls prog 242 #[v,.func (.func 172) #[] #[]] w fun e w'=>e=.returned (.bool (Zdn Zgx Xl))/\Zw_ w w':=by
 have HV:=Zab hv;have hm:=hv.max;unfold maxLen at hm;obtain⟨a,cap,rfl⟩:=hv.form;clear hv;go_enter func242,ntmps242;go_wp2
 go_loopw [5] (fun i wr=>∃ m:Nat,i=.int .i64 m/\1<=m/\(m<=Xl.length\/m=1)/\Zw_ w wr/\∀ j,j < m->ZcP Zgx Xl j=true) (fun i _=>Xl.length+1 - (intOf i).toNat)
 case atStart=>exact⟨1,rfl,Nat.le_refl _,Or.inr rfl,Below.refl _ _,fun j hj=>by rw [show j=0 by omega];rfl⟩
 case round=>
  obtain⟨m,rfl,hm1,hk,hb,hall⟩:=hrel;have HB:=Zab hb;have HA:=Zab hall;clear hb hall
  by_cases hlt:m < Xl.length
  . obtain⟨k,hkm⟩:∃ k,m=k+1:=⟨m - 1,by omega⟩
    have hlt0:k < Xl.length:=by omega
    obtain⟨b,off,rfl,hbw,-,hc⟩:=HV.o.full' (by omega);obtain⟨hs,hcell⟩:=hc k hlt0;obtain⟨ht,hdell⟩:=hc m hlt;obtain⟨c0,c1,c2,c3,c4⟩:=hcell.below HB.o hbw;obtain⟨d0,d1,d2,d3,d4⟩:=hdell.below HB.o hbw
    have HS:Hd (ZcP Zgx Xl m=decide (Zgx Xl[k] Xl[m] < 0)):=by
     subst hkm;exact Zd9 hlt
    have e2:IntKind.i64.wrap ((m:Int) - 1)=k:=by rw [IntWalk.i64_left];unfold wrap64;omega
    have HKM:=Zab hkm;clear hc hcell hdell hs ht hkm hk;go_wp2
    go_region_with (go_at_call 172;refine (Zm4 Xl[k] Xl[m] _).mono ?_;rintro e w1 ⟨rfl,hb1⟩;have hB:Hd (Zw_ w w1):=(HB.o.drew).trans (hb1.mono HB.o.size);clear hb1)
    all_goals by_cases hq:0<=ZmA Xl[k].dr Xl[k].tm Xl[k].re Xl[m].dr Xl[m].tm Xl[m].re
    all_goals first
     | (have HN:Hd (Zdn Zgx Xl=false):=Za3 hlt (HS.o.trans (decide_eq_false (by unfold Zgx;omega)))
        go_wp2;go_ret;exact⟨Zaa HN.o.symm,hB.o⟩)
     | (have HT:Hd (ZcP Zgx Xl m=true):=HS.o.trans (decide_eq_true (by unfold Zgx;omega))
        go_wp2;go_roundw
        case rel=>exact⟨m+1,by go_num,by omega,by omega,hB.o,fun j hj=>by
                   by_cases e:j=m
                   . rw [e];exact HT.o
                   . exact HA.o j (by omega)⟩
        . simp [intOf];omega)
  . have HT:Hd (Zdn Zgx Xl=true):=Za7 (fun i hi=>HA.o i (by omega))
    go_wp2;go_ret;exact⟨Zaa HT.o.symm,HB.o⟩
def ZbV (t r:Zy_) (x:Le):Bool:=x.tm.toList == t.toList&&x.re.toList == r.toList
def Zj6 (Ls:List Le) (t r:Zy_):Nat:=Ls.findIdx (ZbV t r)
def Zks (Ls:List Le) (t r:Zy_):Int:=if Zj6 Ls t r < Ls.length then (Zj6 Ls t r:Int) else -1
theorem ZlY {t r:Zy_} (hk:k < Ls.length) (h:ZbV t r Ls[k]=true) (hall:∀ i (h:i < Ls.length),i < k->ZbV t r Ls[i]=false):Zks Ls t r=k:=by
 have e:Zj6 Ls t r=k:=by
  unfold Zj6;rw [List.findIdx_eq hk];exact⟨h,fun j hj=>hall j (by omega) hj⟩
 unfold Zks;rw [e,if_pos hk]
theorem ZrM {t r:Zy_} (hall:∀ i (h:i < Ls.length),ZbV t r Ls[i]=false):Zks Ls t r= -1:=by
 have e:Zj6 Ls t r=Ls.length:=by
  unfold Zj6;rw [List.findIdx_eq_length];intro x hx;obtain⟨i,hi,rfl⟩:=List.getElem_of_mem hx;exact hall i hi
 unfold Zks;rw [e,if_neg (Nat.lt_irrefl _)]
theorem ZiU (Ls:List Le) (t r:Zy_):decide (Zks Ls t r < 0)=!Ls.any (ZbV t r):=by
 unfold Zks Zj6
 cases h:Ls.any (ZbV t r) with
 | true=>
  obtain⟨x,hx,hp⟩:=List.any_eq_true.1 h;rw [if_pos (List.findIdx_lt_length_of_exists ⟨x,hx,hp⟩)];simp
 | false=>
  have e:Ls.findIdx (ZbV t r)=Ls.length:=List.findIdx_eq_length.2 (fun x hx=>by
   have:=List.any_eq_false.1 h x hx
   simpa using this)
  rw [e,if_neg (Nat.lt_irrefl _)]
  rfl
def Zmh (t r:Zy_) (p:Pu):Int:=if (p.tm.toList == t.toList&&p.re.toList == r.toList)=true then p.am else 0
def Zfe (Ps:List Pu) (t r:Zy_):Int:=(Ps.map (Zmh t r)).sum
theorem Zn9 (A:List Pu) (p:Pu) (t r:Zy_):Zfe (A ++ [p]) t r=Zfe A t r+Zmh t r p:=by simp [Zfe]
def ZdM (B:Bk):Bool:=inB 0 1000000 B.now&&inB 0 1000000 B.tick&&inB 0 B.now B.given
section
variable (lo:Nat) (ov gv lv pv:Value) (B:Bk) (t r:Zy_) (w:World)
theorem ZaW (h:ZaY lo w ov gv lv pv B) :
 Calls prog 36 #[.agg #[.int .i64 B.now,.int .i64 B.tick,.int .i64 B.given,ov,gv,lv,pv],.string t,.string r] w fun e w'=>e=.returned (.int .i64 (Zks B.ls t r))/\Zw_ w w':=by
 have HL:=Zab h.les;have hm:=h.les.max;unfold maxLen at hm;obtain⟨a0,k0,rfl⟩:=h.obs.form;obtain⟨a1,k1,rfl⟩:=h.grs.form;obtain⟨a2,k2,rfl⟩:=h.les.form;obtain⟨a3,k3,rfl⟩:=h.pus.form;clear h;go_enter func36,ntmps36;go_wp2_with fail;generalize hWa:w.alloc _=Wa;have HB:Hd (Zw_ w Wa):=by rw [<- hWa];exact Zac w _
 have HX:Hd (Box Wa w.heap.size #[.int .i64 B.now,.int .i64 B.tick,.int .i64 B.given,.slice a0 B.os.length k0,.slice a1 B.gs.length k1,.slice a2 B.ls.length k2,.slice a3 B.ps.length k3]):=by rw [<- hWa];exact Box.new _ _ _ _ rfl
 clear hWa;have x5:=HX.o.cell 5;simp at x5
 go_loop [7] (fun i=>∃ k:Nat,i=.int .i64 k/\k<=B.ls.length/\∀ j (h:j < B.ls.length),j < k->ZbV t r B.ls[j]=false) (fun i=>B.ls.length - (intOf i).toNat)
 case atStart=>exact⟨0,rfl,Nat.zero_le _,fun j _ h=>by omega⟩
 case round=>
  obtain⟨k,rfl,hk,hall⟩:=hrel;have HA:=Zab hall;clear hall
  by_cases hlt:k < B.ls.length
  . obtain⟨b,off,rfl,hbw,-,hc⟩:=HL.o.full' (by omega)
    obtain⟨hs,hcell⟩:=hc k hlt;obtain⟨c0,c1,c2,c3⟩:=hcell.below HB.o hbw;have HI:Hd (ZbV t r B.ls[k]=(B.ls[k].tm.toList == t.toList&&B.ls[k].re.toList == r.toList)):=rfl;clear hc hcell hs
    cases h1:(B.ls[k].tm.toList == t.toList) with
    | false=>
     have HE:Hd (ZbV t r B.ls[k]=false):=by unfold Hd;rw [HI.o,h1];rfl
     go_wp2
     go_round
     case rel=>exact⟨k+1,by go_num,by omega,fun j hj hjk=>by
                by_cases e:j=k
                . subst e;exact HE.o
                . exact HA.o j hj (by omega)⟩
     . simp [intOf];omega
    | true=>
     cases h2:(B.ls[k].re.toList == r.toList) with
     | false=>
      have HE:Hd (ZbV t r B.ls[k]=false):=by unfold Hd;rw [HI.o,h1,h2];rfl
      go_wp2
      go_round
      case rel=>exact⟨k+1,by go_num,by omega,fun j hj hjk=>by
                 by_cases e:j=k
                 . subst e;exact HE.o
                 . exact HA.o j hj (by omega)⟩
      . simp [intOf];omega
     | true=>
      have HE:Hd (Zks B.ls t r=k):=ZlY hlt (by rw [HI.o,h1,h2];rfl) HA.o;go_wp2;go_ret;exact⟨ZaC HE.o.symm,HB.o⟩
  . have HE:Hd (Zks B.ls t r= -1):=ZrM (fun i hi=>HA.o i hi (by omega))
    go_wp2;go_ret;exact⟨ZaC HE.o.symm,HB.o⟩
theorem Zku (h:ZaY lo w ov gv lv pv B) :
 Calls prog 159 #[.agg #[.int .i64 B.now,.int .i64 B.tick,.int .i64 B.given,ov,gv,lv,pv],.string t,.string r] w fun e w'=>e=.returned (.int .i64 (wrap64 (Zfe B.ps t r)))/\Zw_ w w':=by
 have HL:=Zab h.pus;have hm:=h.pus.max;unfold maxLen at hm;obtain⟨a0,k0,rfl⟩:=h.obs.form;obtain⟨a1,k1,rfl⟩:=h.grs.form;obtain⟨a2,k2,rfl⟩:=h.les.form;obtain⟨a3,k3,rfl⟩:=h.pus.form;clear h;go_enter func159,ntmps159;go_wp2_with fail;generalize hWa:w.alloc _=Wa;have HB:Hd (Zw_ w Wa):=by rw [<- hWa];exact Zac w _
 have HX:Hd (Box Wa w.heap.size #[.int .i64 B.now,.int .i64 B.tick,.int .i64 B.given,.slice a0 B.os.length k0,.slice a1 B.gs.length k1,.slice a2 B.ls.length k2,.slice a3 B.ps.length k3]):=by rw [<- hWa];exact Box.new _ _ _ _ rfl
 clear hWa;have x5:=HX.o.cell 6;simp at x5
 go_loop [7,8] (fun n i=>∃ k:Nat,n=.int .i64 (wrap64 (Zfe (B.ps.take k) t r))/\i=.int .i64 k/\k<=B.ps.length) (fun _ i=>B.ps.length - (intOf i).toNat)
 case atStart=>exact⟨0,by simp [Zfe,wrap64],rfl,Nat.zero_le _⟩
 case round=>
  obtain⟨k,rfl,rfl,hk⟩:=hrel
  by_cases hlt:k < B.ps.length
  . obtain⟨b,off,rfl,hbw,-,hc⟩:=HL.o.full' (by omega)
    obtain⟨hs,hcell⟩:=hc k hlt;obtain⟨c0,c1,c2,c3,c4⟩:=hcell.below HB.o hbw;have HI:Hd (Zmh t r B.ps[k]=if (B.ps[k].tm.toList == t.toList&&B.ps[k].re.toList == r.toList)=true then B.ps[k].am else 0):=rfl;have HU:=Zab (Zn9 (B.ps.take k) B.ps[k] t r);have HT:=Zab (List.take_succ_eq_append_getElem hlt);clear hc hcell hs
    cases h1:(B.ps[k].tm.toList == t.toList) with
    | false=>
     have HE:Hd (Zfe (B.ps.take (k+1)) t r=Zfe (B.ps.take k) t r):=by unfold Hd;rw [HT.o,HU.o,HI.o,h1];simp
     go_wp2
     go_round
     . exact⟨k+1,by rw [HE.o],by go_num,by omega⟩
     . simp [intOf];omega
    | true=>
     cases h2:(B.ps[k].re.toList == r.toList) with
     | false=>
      have HE:Hd (Zfe (B.ps.take (k+1)) t r=Zfe (B.ps.take k) t r):=by unfold Hd;rw [HT.o,HU.o,HI.o,h1,h2];simp
      go_wp2
      go_round
      . exact⟨k+1,by rw [HE.o],by go_num,by omega⟩
      . simp [intOf];omega
     | true=>
      have HE:Hd (Zfe (B.ps.take (k+1)) t r=Zfe (B.ps.take k) t r+B.ps[k].am):=by unfold Hd;rw [HT.o,HU.o,HI.o,h1,h2];simp
      go_wp2
      go_round
      . exact⟨k+1,by rw [HE.o,Zfh],by go_num,by omega⟩
      . simp [intOf];omega
  . have he:k=B.ps.length:=by omega
    subst he;have HE:Hd (Zfe (B.ps.take B.ps.length) t r=Zfe B.ps t r):=by unfold Hd;rw [List.take_length]
    go_wp2;go_ret;exact⟨ZaC (by first | rw [HE.o] | rfl),HB.o⟩
theorem Zln (h:ZaY lo w ov gv lv pv B) :
 Calls prog 203 #[.agg #[.int .i64 B.now,.int .i64 B.tick,.int .i64 B.given,ov,gv,lv,pv]] w fun e w'=>e=.returned (.bool (ZdM B))/\Zw_ w w':=by
 obtain⟨a0,k0,rfl⟩:=h.obs.form;obtain⟨a1,k1,rfl⟩:=h.grs.form;obtain⟨a2,k2,rfl⟩:=h.les.form;obtain⟨a3,k3,rfl⟩:=h.pus.form;clear h;have HI:Hd (ZdM B=(inB 0 1000000 B.now&&inB 0 1000000 B.tick&&inB 0 B.now B.given)):=rfl
 cases h1:inB 0 1000000 B.now with
 | false=>
  have HE:Hd (ZdM B=false):=by unfold Hd;rw [HI.o,h1];rfl
  go_enter func203,ntmps203;go_wp2_with (go_at_call 111;refine (ZaQ _ _ _ _).mono ?_;rintro e w' ⟨rfl,rfl⟩);go_ret;exact⟨Zaa HE.o.symm,Zac _ _⟩
 | true=>
  cases h2:inB 0 1000000 B.tick with
  | false=>
   have HE:Hd (ZdM B=false):=by unfold Hd;rw [HI.o,h1,h2];rfl
   go_enter func203,ntmps203;go_wp2_with (go_at_call 111;refine (ZaQ _ _ _ _).mono ?_;rintro e w' ⟨rfl,rfl⟩);go_ret;exact⟨Zaa HE.o.symm,Zac _ _⟩
  | true=>
   have HE:Hd (ZdM B=inB 0 B.now B.given):=by unfold Hd;rw [HI.o,h1,h2];rfl
   go_enter func203,ntmps203;go_wp2_with (go_at_call 111;refine (ZaQ _ _ _ _).mono ?_;rintro e w' ⟨rfl,rfl⟩);go_ret;exact⟨Zaa HE.o.symm,Zac _ _⟩
end
structure Zq1 {X:Type} (c:X->X->Int) (L:List X) (t:X) (p:Nat):Prop where
 le:p<=L.length
 less:∀ i (h:i < L.length),i < p->c L[i] t < 0
 more:∀ i (h:i < L.length),p<=i->0<=c L[i] t
def ZqW {X:Type} (c:X->X->Int) (L:List X) (t:X) (p:Nat):Bool:=match L[p]? with
 | some x=>decide (c x t=0)
 | none=>false
def Zsx {X:Type} (c:X->X->Int) (L:List X) (t:X):Prop:=∀ i j (hi:i < L.length) (hj:j < L.length),i < j->c L[j] t < 0->c L[i] t < 0
theorem ZrQ {i:Nat} (h:i < j):i<=(i+j) / 2/\(i+j) / 2 < j:=by omega
abbrev Zht (w:World) (b o:Nat) (x t:Le) (W:World):Prop:=
 W.cell? ⟨b,o,none⟩=some (.string x.tm)/\W.cell? ⟨b,o+1,none⟩=some (.string x.re)/\W.cell? ⟨b,o+2,none⟩=some (.int .i64 x.mo)/\W.cell? ⟨b,o+3,none⟩=some (.int .i64 x.fr)/\W.cell? ⟨w.heap.size,0,none⟩=some (.string t.tm)/\W.cell? ⟨w.heap.size,1,none⟩=some (.string t.re)/\W.cell? ⟨w.heap.size,2,none⟩=some (.int .i64 t.mo)/\W.cell? ⟨w.heap.size,3,none⟩=some (.int .i64 t.fr)/\Hd (Zw_ w W/\b < W.heap.size/\w.heap.size < W.heap.size)
theorem Zht.on {w:World}{b o:Nat}{x t:Le}{W W':World} (h:Zht w b o x t W) (hb:Below W.heap.size W W'):Zht w b o x t W':=by
 obtain⟨y0,y1,y2,y3,y4,y5,y6,y7,hh⟩:=h;have e1:∀ o,W'.cell? ⟨b,o,none⟩=W.cell? ⟨b,o,none⟩:=fun o=>hb.cell (p:=⟨b,o,none⟩) hh.o.2.1
 have e2:∀ o,W'.cell? ⟨w.heap.size,o,none⟩=W.cell? ⟨w.heap.size,o,none⟩:=fun o=>hb.cell (p:=⟨w.heap.size,o,none⟩) hh.o.2.2
 exact⟨(e1 _).trans y0,(e1 _).trans y1,(e1 _).trans y2,(e1 _).trans y3,(e2 _).trans y4,(e2 _).trans y5,(e2 _).trans y6,(e2 _).trans y7,⟨hh.o.1.trans (hb.mono hh.o.1.size),Zk_ hh.o.2.1 hb.size,Zk_ hh.o.2.2 hb.size⟩⟩
theorem Zjj (lo:Nat) (v:Value) (Xl:List Le) (t:Le) (w:World) (hv:ZbG lo w v Xl) (hn:Xl.length<=1048576) (hr:Zsx Zce Xl t) :
 Calls prog 168 #[v,.agg #[.string t.tm,.string t.re,.int .i64 t.mo,.int .i64 t.fr],.func (.func 169) #[] #[]] w
  fun e w'=>(∃ p:Nat,Zq1 Zce Xl t p/\e=.returned (.tuple #[.int .i64 p,.bool (ZqW Zce Xl t p)]))/\Zw_ w w':=by
 have HV:=Zab hv;have HR:=Zab hr;obtain⟨a,cap,rfl⟩:=hv.form;clear hv hr;go_enter func168,ntmps168;go_wp2_with fail;generalize hWa:w.alloc _=Wa;have HB:Hd (Zw_ w Wa):=by rw [<- hWa];exact Zac w _
 have HX:Hd (Box Wa w.heap.size #[.string t.tm,.string t.re,.int .i64 t.mo,.int .i64 t.fr]):=by rw [<- hWa];exact Box.new _ _ _ _ rfl
 clear hWa
 go_loopw [9,10] (fun i j wr=>∃ p q:Nat,i=.int .i64 p/\j=.int .i64 q/\p<=q/\q<=Xl.length/\(∀ k (h:k < Xl.length),k < p->Zce Xl[k] t < 0)/\(∀ k (h:k < Xl.length),q<=k->0<=Zce Xl[k] t)/\Zw_ w wr/\Box wr w.heap.size #[.string t.tm,.string t.re,.int .i64 t.mo,.int .i64 t.fr])
  (fun i j _=>(intOf j).toNat - (intOf i).toNat)
 case atStart=>exact⟨0,Xl.length,rfl,rfl,Nat.zero_le _,Nat.le_refl _,fun k _ h=>by omega,fun k h h'=>by omega,HB.o,HX.o⟩
 case round=>
  obtain⟨p,q,rfl,rfl,hpq,hq,h1,h2,hb,hx⟩:=hrel;have HL1:=Zab h1;have HL2:=Zab h2;have HBr:=Zab hb;have HXr:=Zab hx;clear h1 h2 hb hx
  by_cases hlt:p < q
  . obtain⟨hm1,hm2⟩:=ZrQ hlt
    have hml:(p+q) / 2 < Xl.length:=by omega
    obtain⟨m,em⟩:∃ m:Nat,(p+q) / 2=m:=⟨_,rfl⟩
    rw [em] at hm1 hm2 hml;have em':((p:Int)+(q:Int)) / 2=(m:Int):=by omega
    obtain⟨b,off,rfl,hbw,-,hc⟩:=HV.o.full' (by omega);obtain⟨hs,hcell⟩:=hc m hml;obtain⟨c0,c1,c2,c3⟩:=hcell.below HBr.o hbw;have x:=HXr.o.cell;have x0:=x 0;have x1:=x 1;have x2:=x 2;have x3:=x 3;simp at x0 x1 x2 x3;have EM:=Zab em;clear hc hcell hs x em;go_wp2
    go_region_with (go_at_call 169;refine (ZfV Xl[m] t _).mono ?_;rintro e w1 ⟨rfl,hb1⟩;have hB:Hd (Zw_ w w1):=(HBr.o.drew).trans (hb1.mono HBr.o.size);have hX:Hd (Box w1 w.heap.size #[.string t.tm,.string t.re,.int .i64 t.mo,.int .i64 t.fr]):=(HXr.o.drew).on hb1;clear hb1)
    all_goals by_cases hq:Zd0 Xl[m].tm Xl[m].re t.tm t.re < 0
    all_goals first
     | (have HT:Hd (Zce Xl[m] t < 0):=hq
        go_wp2;go_roundw
        case rel=>exact⟨m+1,q,by go_num,rfl,by omega,by omega,fun k hk hkm=>by
                   by_cases e:k=m
                   . subst e;exact HT.o
                   . exact HR.o k m hk hml (by omega) HT.o,HL2.o,hB.o,hX.o⟩
        . simp [intOf];omega)
     | (have HT:Hd (0<=Zce Xl[m] t):=by unfold Hd Zce;omega
        go_wp2;go_roundw
        case rel=>exact⟨p,m,rfl,rfl,by omega,by omega,HL1.o,fun k hk hkm=>by
                   by_cases e:k=m
                   . subst e;exact HT.o
                   . refine Int.not_lt.1 (fun hn'=>?_)
                     have:=HR.o m k hml hk (by omega) hn';have:=HT.o
                     omega,hB.o,hX.o⟩
        . simp [intOf];omega)
  . have hpq':p=q:=by omega
    subst hpq';have HSP:Hd (Zq1 Zce Xl t p):=⟨hq,HL1.o,HL2.o⟩
    by_cases hlt2:p < Xl.length
    . obtain⟨b,off,rfl,hbw,-,hc⟩:=HV.o.full' (by omega)
      obtain⟨hs,hcell⟩:=hc p hlt2;obtain⟨c0,c1,c2,c3⟩:=hcell.below HBr.o hbw;have x:=HXr.o.cell;have x0:=x 0;have x1:=x 1;have x2:=x 2;have x3:=x 3;simp at x0 x1 x2 x3;have HI:Hd (ZqW Zce Xl t p=decide (Zd0 Xl[p].tm Xl[p].re t.tm t.re=0)):=by unfold Hd ZqW;rw [List.getElem?_eq_getElem hlt2];rfl
      have hd:decide ((p:Int) < (Xl.length:Int))=true:=by simp;omega
      clear hc hcell hs x;go_wp2;have HBD:Hd (Zw_ w wr.drew):=HBr.o.drew;have hbl:b < wr.heap.size:=Zk_ hbw HBr.o.size
      have hxl:=HXr.o.lt
      go_region_held3 (Zht w b (off+p*4) Xl[p] t)
       (first
         | (exact⟨c0,c1,c2,c3,x0,x1,x2,x3,⟨HBD.o,hbl,hxl⟩⟩)
         | (with_reducible exact Zht.on (by assumption) (by assumption)))
       (first
         | (go_at_call 169
            refine (ZfV Xl[p] t _).mono ?_;rintro e w1 ⟨rfl,hb1⟩;have hB:Hd (Zw_ w w1):=HBD.o.trans (hb1.mono HBD.o.size)))
      all_goals go_wp2
      all_goals go_ret2
      all_goals exact⟨⟨p,HSP.o,by rw [HI.o];first | rfl | simp⟩,hB.o⟩
    . have HI:Hd (ZqW Zce Xl t p=false):=by unfold Hd ZqW;rw [List.getElem?_eq_none (by omega)]
      have hd:decide ((p:Int) < (Xl.length:Int))=false:=by simp;omega
      go_wp2
      go_quiet (fail)
      go_wp2
      go_ret2
      exact⟨⟨p,HSP.o,by rw [HI.o];rfl⟩,below_drewN HBr.o _⟩
theorem Zil {a b c:Zy_} (h:ZcL a b < 0) (h':ZcL b c < 0):ZcL a c < 0:=ZiM.2 (Znn (ZiM.1 h) (ZiM.1 h'))
theorem ZrO {a b:Int}:orI a b < 0↔a < 0\/(a=0/\b < 0):=by unfold orI;split <;> omega
theorem Zp6 {a b c d:Zy_}:Zd0 a b c d < 0↔ZcL a c < 0\/(a=c/\ZcL b d < 0):=by
 unfold Zd0;rw [ZrO,ZeA]
theorem Zdf {a b c d:Zy_}:Zd0 a b c d=0↔a=c/\b=d:=by
 unfold Zd0;rw [ZqD,ZeA,ZeA]
theorem ZnH {a b c d e f:Zy_} (h:Zd0 a b c d < 0) (h':Zd0 c d e f < 0):Zd0 a b e f < 0:=by
 rw [Zp6] at*
 rcases h with h | ⟨rfl,h⟩
 . rcases h' with h' | ⟨rfl,h'⟩
   . exact Or.inl (Zil h h')
   . exact Or.inl h
 . rcases h' with h' | ⟨rfl,h'⟩
   . exact Or.inl h'
   . exact Or.inr ⟨rfl,Zil h h'⟩
theorem ZdJ (x y z:Le) (h:Zce x y < 0) (h':Zce y z < 0):Zce x z < 0:=ZnH h h'
theorem Zmb {X:Type}{c:X->X->Int}{L:List X} (h:Zdn c L=true) {j:Nat} (hj:j+1 < L.length):c L[j] L[j+1] < 0:=by
 have:=Zqn hj h;rw [Zd9 hj] at this;exact of_decide_eq_true this
theorem Zq5 {X:Type}{c:X->X->Int}{L:List X} (tr:∀ x y z,c x y < 0->c y z < 0->c x z < 0) (h:Zdn c L=true) (i:Nat):∀ (d:Nat) (hj:i+d+1 < L.length),c (L[i]'(by omega)) L[i+d+1] < 0
 | 0,hj=>Zmb h hj
 | d+1,hj=>tr _ _ _ (Zq5 tr h i d (by omega)) (Zmb (j:=i+d+1) h hj)
theorem Zi0 {X:Type}{c:X->X->Int}{L:List X} (tr:∀ x y z,c x y < 0->c y z < 0->c x z < 0) (h:Zdn c L=true) {i j:Nat} (hi:i < L.length) (hj:j < L.length) (hij:i < j):c L[i] L[j] < 0:=by
 obtain⟨d,rfl⟩:∃ d,j=i+d+1:=⟨j - i - 1,by omega⟩
 exact Zq5 tr h i d hj
theorem ZjP {X:Type}{c:X->X->Int}{L:List X} (tr:∀ x y z,c x y < 0->c y z < 0->c x z < 0) (h:Zdn c L=true) (t:X):Zsx c L t:=
 fun _ _ hi hj hij h'=>tr _ _ _ (Zi0 tr h hi hj hij) h'
theorem Zme {X:Type}{c:X->X->Int}{L:List X}{t:X}{p:Nat} (tr:∀ x y z,c x y < 0->c y z < 0->c x z < 0) (sub:∀ x y,c x y < 0->c y t=0->c x t < 0) (h:Zdn c L=true) (hp:Zq1 c L t p) :
 ZqW c L t p=L.any fun x=>decide (c x t=0):=by
 unfold ZqW
 cases hx:L[p]? with
 | some x=>
  obtain⟨hl,rfl⟩:=List.getElem?_eq_some_iff.1 hx
  show decide (c L[p] t=0)=_
  by_cases h0:c L[p] t=0
  . rw [decide_eq_true h0]
    exact (List.any_eq_true.2 ⟨L[p],List.getElem_mem hl,decide_eq_true h0⟩).symm
  . rw [decide_eq_false h0]
    refine (List.any_eq_false.2 fun y hy hc=>?_).symm;obtain⟨i,hi,rfl⟩:=List.getElem_of_mem hy;have hc':=of_decide_eq_true hc
    by_cases e:i < p
    . have:=hp.less i hi e
      omega
    . by_cases e2:i=p
      . subst e2;exact h0 hc'
      . have h1:=sub _ _ (Zi0 tr h hl hi (by omega)) hc'
        have h2:=hp.more p hl Zl_
        omega
 | none=>
  have hl:L.length<=p:=List.getElem?_eq_none_iff.1 hx;refine (List.any_eq_false.2 fun y hy hc=>?_).symm;obtain⟨i,hi,rfl⟩:=List.getElem_of_mem hy;have:=hp.less i hi (by omega);have:=of_decide_eq_true hc
  omega
theorem Zoh (Ls:List Le) (t r:Zy_):(Ls.any fun x=>decide (Zce x ⟨t,r,0,0⟩=0))=Ls.any (ZbV t r):=by
 congr 1
 funext x
 unfold ZbV Zce;rw [Bool.eq_iff_iff,Bool.and_eq_true,ZaU,ZaU,decide_eq_true_iff,Zdf]
theorem Zen (lo:Nat) (v:Value) (Ls:List Le) (t r:Zy_) (w:World) (hv:ZbG lo w v Ls) (hn:Ls.length<=1048576) (hr:Zdn Zce Ls=true) :
 Calls prog 109 #[v,.string t,.string r] w
  fun e w'=>(∃ p:Nat,Zq1 Zce Ls ⟨t,r,0,0⟩ p/\e=.returned (.tuple #[.int .i64 p,.bool (Ls.any (ZbV t r))]))/\Zw_ w w':=by
 have HV:=Zab hv;have HR:=Zab hr;obtain⟨a,cap,rfl⟩:=hv.form;clear hv hr;go_enter func109,ntmps109;go_wp2_with fail;refine (Zjj lo _ Ls ⟨t,r,0,0⟩ _ HV.o hn (ZjP ZdJ HR.o _)).mono ?_;rintro e w1 ⟨⟨p,hp,rfl⟩,hb⟩;have HP:=Zab hp;have HB:=Zab hb
 have HE:Hd (ZqW Zce Ls ⟨t,r,0,0⟩ p=Ls.any (ZbV t r)):=(Zme ZdJ (fun x y h h0=>by
  obtain⟨e1,e2⟩:=Zdf.1 h0;unfold Zce at h |-;simp only at e1 e2 |-;rw [<- e1,<- e2];exact h) HR.o hp).trans (Zoh Ls t r)
 clear hp hb;go_wp2
 go_ret2
 exact⟨⟨p,HP.o,by rw [HE.o];rfl⟩,HB.o⟩
end Go.Proofs.YtfohnageehneoaaGreat
