import Derived.Sort.Walk0
import Derived.Test.YtcfjmagkinpaeaaGreatGBBL
set_option maxHeartbeats 16000000
set_option maxRecDepth 100000
open Go.Proofs.Tryz
namespace Go.Proofs.YtcfjmagkinpaeaaGreat
open Go.RowKit Go.Deep
def Zcj (a b:Zy_):Int:=if Op.bytesLess a.toList b.toList=true then -1 else if (a.toList == b.toList)=true then 0 else 1
theorem Zkn (a:List UInt8):Op.bytesLess a a=false:=by rw [bytesLess_eq];exact decide_eq_false (List.lt_irrefl _)
theorem Zma {a b c:List UInt8} (h:Op.bytesLess a b=true) (h':Op.bytesLess b c=true):Op.bytesLess a c=true:=by
 rw [bytesLess_eq] at h h' ⊢;exact decide_eq_true (List.lt_trans (of_decide_eq_true h) (of_decide_eq_true h'))
theorem Zng (a:Zy_):Zcj a a=0:=by unfold Zcj;simp [Zkn]
theorem Zd7 {a b:Zy_}:Zcj a b=0↔a=b:=by
 refine⟨fun h=>?_,fun h=>by rw [h];exact Zng _⟩;unfold Zcj at h
 split at h
 · omega
 · split at h
   · rename_i h2
     exact ZaY.1 h2
   · omega
theorem Zfc {a b:Zy_}:Zcj a b < 0↔Op.bytesLess a.toList b.toList=true:=by
 unfold Zcj
 split
 · rename_i h;simp [h]
 · rename_i h
   split <;> simp [h]
theorem Zq6 (a b:Zy_):-1≤Zcj a b∧Zcj a b≤1:=by unfold Zcj;split <;> (try split) <;> omega
def orI (a b:Int):Int:=if a=0 then b else a
def ZeK (a b c d:Zy_):Int:=orI (Zcj a c) (Zcj b d)
def ZlE (a b c d e f:Zy_):Int:=orI (Zcj a d) (orI (Zcj b e) (Zcj c f))
theorem ZpT {a b:Int}:orI a b=0↔a=0∧b=0:=by unfold orI;split <;> omega
theorem ZgF (a b:Zy_) (w:World) :
 Calls prog 160 #[.string a,.string b] w fun e w'=>e=.returned (.int .i64 (Zcj a b))∧w'=w:=by
 cases h1:Op.bytesLess a.toList b.toList with
 | true=>
  have HE:Hid (Zcj a b= -1):=by unfold Hid Zcj;rw [h1];rfl
  go_enter func160,ntmps160;go_wp2;go_ret;exact⟨Zaz HE.out.symm,rfl⟩
 | false=>
  cases h2:(a.toList == b.toList) with
  | true=>
   have HE:Hid (Zcj a b=0):=by unfold Hid Zcj;rw [h1,h2];rfl
   go_enter func160,ntmps160;go_wp2;go_ret;exact⟨Zaz HE.out.symm,rfl⟩
  | false=>
   have HE:Hid (Zcj a b=1):=by unfold Hid Zcj;rw [h1,h2];rfl
   go_enter func160,ntmps160;go_wp2;go_ret;exact⟨Zaz HE.out.symm,rfl⟩
theorem Zix (a:Zy_) (w:World):Calls prog 177 #[.string a] w fun e w'=>e=.returned (.bool false)∧w'=w:=by
 have h:=ZcX a;go_enter func177,ntmps177;go_wp2;go_ret;exact⟨rfl,rfl⟩
theorem Zeo (a b:Zy_) (w:World) :
 Calls prog 121 #[.string a,.string b] w fun e w'=>e=.returned (.int .i64 (Zcj a b))∧w'=w:=by
 cases h1:Op.bytesLess a.toList b.toList with
 | true=>
  have HE:Hid (Zcj a b= -1):=by unfold Hid Zcj;rw [h1];rfl
  go_enter func121,ntmps121;go_wp2_with (go_at_call 177;refine (Zix _ _).mono ?_;rintro e w' ⟨rfl,rfl⟩);go_ret;exact⟨Zaz HE.out.symm,rfl⟩
 | false=>
  cases h2:(a.toList == b.toList) with
  | true=>
   have HE:Hid (Zcj a b=0):=by unfold Hid Zcj;rw [h1,h2];rfl
   go_enter func121,ntmps121;go_wp2_with (go_at_call 177;refine (Zix _ _).mono ?_;rintro e w' ⟨rfl,rfl⟩);go_ret;exact⟨Zaz HE.out.symm,rfl⟩
  | false=>
   have HE:Hid (Zcj a b=1):=by unfold Hid Zcj;rw [h1,h2];rfl
   go_enter func121,ntmps121;go_wp2_with (go_at_call 177;refine (Zix _ _).mono ?_;rintro e w' ⟨rfl,rfl⟩);go_ret;exact⟨Zaz HE.out.symm,rfl⟩
theorem Zc5 (a b c d:Zy_) (w:World) :
 Calls prog 102 #[.string a,.string b,.string c,.string d] w fun e w'=>e=.returned (.int .i64 (ZeK a b c d))∧w'=w:=by
 have hk:=Zq6 a c
 by_cases h0:Zcj a c=0
 · have HE:Hid (ZeK a b c d=Zcj b d):=by unfold Hid ZeK orI;rw [if_pos h0]
   have h0':(Zcj a c != 0)=false:=by simp [h0]
   have H0:=Zab h0;clear h0;go_enter func102,ntmps102;go_wp2_with (go_at_call 160;refine (ZgF _ _ _).mono ?_;rintro e w' ⟨rfl,rfl⟩);go_ret;exact⟨Zaz HE.out.symm,rfl⟩
 · have HE:Hid (ZeK a b c d=Zcj a c):=by unfold Hid ZeK orI;rw [if_neg h0]
   have h0':(Zcj a c != 0)=true:=by simp [h0]
   clear h0;go_enter func102,ntmps102;go_wp2_with (go_at_call 160;refine (ZgF _ _ _).mono ?_;rintro e w' ⟨rfl,rfl⟩);go_ret;exact⟨Zaz HE.out.symm,rfl⟩
def orL:List Int→Int
 | []=>0
 | x :: r=>if x=0 then orL r else x
theorem Zq5 {a b c d e f:Zy_} (h:a≠d):ZlE a b c d e f=Zcj a d:=by
 unfold ZlE orI;rw [if_neg (fun h0=>h (Zd7.1 h0))]
theorem Zq4 {a b c d e f:Zy_} (h:a=d):ZlE a b c d e f=ZeK b c e f:=by
 unfold ZlE ZeK;rw [Zd7.2 h]
 rfl
theorem ZpU {L:List Int} {k:Nat} (hk:k < L.length) (h:L[k]=0):orL (L.drop k)=orL (L.drop (k+1)):=by
 rw [List.drop_eq_getElem_cons hk,orL,if_pos h]
theorem ZpV {L:List Int} {k:Nat} (hk:k < L.length) (h:L[k]≠0):orL (L.drop k)=L[k]:=by
 rw [List.drop_eq_getElem_cons hk,orL,if_neg h]
theorem ZnQ (a b:Int):orL [a,b]=orI a b:=by simp only [orL];unfold orI;split <;> (try split) <;> omega
theorem ZnP (a b c:Int):orL [a,b,c]=orI a (orI b c):=by simp only [orL];unfold orI;split <;> (try split) <;> (try split) <;> omega
theorem Zgq (w:World) (b off cap:Nat) (L:List Int) (hm:L.length≤1000) (hc:∀ i (h:i < L.length),w.cell? ⟨b,off+i,none⟩=some (.int .i64 L[i])) :
 Calls prog 183 #[.slice (some ⟨b,off,none⟩) L.length cap] w fun e w'=>e=.returned (.int .i64 (orL L))∧w'=w:=by
 go_enter func183,ntmps183;go_wp2
 go_loop [8] (fun i=>∃ k:Nat,i=.int .i64 k∧k≤L.length∧orL L=orL (L.drop k)) (fun i=>L.length - (intOf i).toNat)
 case atStart=>exact⟨0,rfl,by omega,by simp⟩
 case round=>
  obtain⟨k,rfl,hk,he⟩:=hrel;have HE:=Zab he;clear he
  by_cases hlt:k < L.length
  · have c:=hc k hlt
    by_cases h0:L[k]=0
    · have HS:=Zab (ZpU hlt h0)
      have h0':(L[k] != 0)=false:=by simp [h0]
      clear h0;go_wp2
      go_round
      case rel=>exact⟨k+1,by go_num,by omega,HE.out.trans HS.out⟩
      case measure=>simp [intOf];omega
    · have HS:=Zab (ZpV hlt h0)
      have h0':(L[k] != 0)=true:=by simp [h0]
      clear h0;go_wp2;go_ret;exact⟨Zaz (by rw [HE.out,HS.out]),rfl⟩
  · have HS:Hid (orL (L.drop k)=0):=by unfold Hid;rw [List.drop_of_length_le (by omega)];rfl
    go_wp2;go_ret;exact⟨Zaz (by rw [HE.out,HS.out]),rfl⟩
theorem Zj1 (x y:Ob) (va:Option Addr) (vn vc:Nat) (ha:Option Addr) (hn hc:Nat) (va':Option Addr) (vn' vc':Nat) (ha':Option Addr) (hn' hc':Nat) (w:World) :
 Calls prog 132 #[.agg #[.string x.kd,.string x.nm,.string x.tm,.slice va vn vc,.bool x.en,.slice ha hn hc,.int .i64 x.ver],.agg #[.string y.kd,.string y.nm,.string y.tm,.slice va' vn' vc',.bool y.en,.slice ha' hn' hc',.int .i64 y.ver]] w fun e w'=>e=.returned (.int .i64 (ZeK x.kd x.nm y.kd y.nm))∧Zw_ w w':=by
 have HO:Hid (orL [Zcj x.kd y.kd,Zcj x.nm y.nm]=ZeK x.kd x.nm y.kd y.nm):=ZnQ _ _;go_enter func132,ntmps132;go_wp2;generalize hWa:(World.alloc (w.alloc _) _)=Wa;have HBa:Hid (Zw_ w Wa):=by rw [← hWa];exact (Zac w _).alloc (by simp) _
 have FA:Hid (Box Wa w.heap.size #[.string x.kd,.string x.nm,.string x.tm,.slice va vn vc,.bool x.en,.slice ha hn hc,.int .i64 x.ver]):=by rw [← hWa];exact (Box.new _ _ _ _ rfl).on (Zac _ _)
 have FB:Hid (Box Wa (w.heap.size+1) #[.string y.kd,.string y.nm,.string y.tm,.slice va' vn' vc',.bool y.en,.slice ha' hn' hc',.int .i64 y.ver]):=by rw [← hWa];exact Box.new _ _ _ _ (by simp)
 clear hWa
 go_region_held3 (ZaN Wa w.heap.size #[.string x.kd,.string x.nm,.string x.tm,.slice va vn vc,.bool x.en,.slice ha hn hc,.int .i64 x.ver] (w.heap.size+1) #[.string y.kd,.string y.nm,.string y.tm,.slice va' vn' vc',.bool y.en,.slice ha' hn' hc',.int .i64 y.ver])
  (first
    | (with_reducible exact ZaN.drew FA.out FB.out)
    | (with_reducible exact ZaN.on (by assumption) Zb_)
    | (with_reducible exact ZaN.on (by assumption) (Zac _ _))
    | (with_reducible exact ZaN.on (by assumption) (by assumption)))
  (first
    | (go_at_call 121
       refine (Zeo _ _ _).mono ?_;rintro e w1 ⟨rfl,rfl⟩)
    | (go_at_call 183
       refine (Zgq _ _ _ _ [Zcj x.kd y.kd,Zcj x.nm y.nm] (by simp) ?_).mono ?_
       · intro i hi
         have hi':i=0∨i=1:=by simp at hi;omega
         rcases hi' with rfl | rfl <;> simp
       rintro e w2 ⟨rfl,rfl⟩))
 go_wp2;go_ret;exact⟨Zaz HO.out,(HBa.out.trans ((Zac _ _).mono HBa.out.size)).drew⟩
theorem Zfu (x y:Le) (w:World) :
 Calls prog 142 #[.agg #[.string x.tm,.string x.re,.int .i64 x.mo,.int .i64 x.fr],.agg #[.string y.tm,.string y.re,.int .i64 y.mo,.int .i64 y.fr]] w fun e w'=>e=.returned (.int .i64 (ZeK x.tm x.re y.tm y.re))∧Zw_ w w':=by
 have HO:Hid (orL [Zcj x.tm y.tm,Zcj x.re y.re]=ZeK x.tm x.re y.tm y.re):=ZnQ _ _;go_enter func142,ntmps142;go_wp2;generalize hWa:(World.alloc (w.alloc _) _)=Wa;have HBa:Hid (Zw_ w Wa):=by rw [← hWa];exact (Zac w _).alloc (by simp) _
 have FA:Hid (Box Wa w.heap.size #[.string x.tm,.string x.re,.int .i64 x.mo,.int .i64 x.fr]):=by rw [← hWa];exact (Box.new _ _ _ _ rfl).on (Zac _ _)
 have FB:Hid (Box Wa (w.heap.size+1) #[.string y.tm,.string y.re,.int .i64 y.mo,.int .i64 y.fr]):=by rw [← hWa];exact Box.new _ _ _ _ (by simp)
 clear hWa
 go_region_held3 (ZaN Wa w.heap.size #[.string x.tm,.string x.re,.int .i64 x.mo,.int .i64 x.fr] (w.heap.size+1) #[.string y.tm,.string y.re,.int .i64 y.mo,.int .i64 y.fr])
  (first
    | (with_reducible exact ZaN.drew FA.out FB.out)
    | (with_reducible exact ZaN.on (by assumption) Zb_)
    | (with_reducible exact ZaN.on (by assumption) (Zac _ _))
    | (with_reducible exact ZaN.on (by assumption) (by assumption)))
  (first
    | (go_at_call 121
       refine (Zeo _ _ _).mono ?_;rintro e w1 ⟨rfl,rfl⟩)
    | (go_at_call 183
       refine (Zgq _ _ _ _ [Zcj x.tm y.tm,Zcj x.re y.re] (by simp) ?_).mono ?_
       · intro i hi
         have hi':i=0∨i=1:=by simp at hi;omega
         rcases hi' with rfl | rfl <;> simp
       rintro e w2 ⟨rfl,rfl⟩))
 go_wp2;go_ret;exact⟨Zaz HO.out,(HBa.out.trans ((Zac _ _).mono HBa.out.size)).drew⟩
theorem ZlI (x y:Pu) (w:World) :
 Calls prog 144 #[.agg #[.string x.dr,.string x.tm,.string x.re,.int .i64 x.am,.int .i64 x.un],.agg #[.string y.dr,.string y.tm,.string y.re,.int .i64 y.am,.int .i64 y.un]] w fun e w'=>e=.returned (.int .i64 (ZlE x.dr x.tm x.re y.dr y.tm y.re))∧Zw_ w w':=by
 have HO:Hid (orL [Zcj x.dr y.dr,Zcj x.tm y.tm,Zcj x.re y.re]=ZlE x.dr x.tm x.re y.dr y.tm y.re):=ZnP _ _ _;go_enter func144,ntmps144;go_wp2;generalize hWa:(World.alloc (w.alloc _) _)=Wa;have HBa:Hid (Zw_ w Wa):=by rw [← hWa];exact (Zac w _).alloc (by simp) _
 have FA:Hid (Box Wa w.heap.size #[.string x.dr,.string x.tm,.string x.re,.int .i64 x.am,.int .i64 x.un]):=by rw [← hWa];exact (Box.new _ _ _ _ rfl).on (Zac _ _)
 have FB:Hid (Box Wa (w.heap.size+1) #[.string y.dr,.string y.tm,.string y.re,.int .i64 y.am,.int .i64 y.un]):=by rw [← hWa];exact Box.new _ _ _ _ (by simp)
 clear hWa
 go_region_held3 (ZaN Wa w.heap.size #[.string x.dr,.string x.tm,.string x.re,.int .i64 x.am,.int .i64 x.un] (w.heap.size+1) #[.string y.dr,.string y.tm,.string y.re,.int .i64 y.am,.int .i64 y.un])
  (first
    | (with_reducible exact ZaN.drew FA.out FB.out)
    | (with_reducible exact ZaN.on (by assumption) Zb_)
    | (with_reducible exact ZaN.on (by assumption) (Zac _ _))
    | (with_reducible exact ZaN.on (by assumption) (by assumption)))
  (first
    | (go_at_call 121
       refine (Zeo _ _ _).mono ?_;rintro e w1 ⟨rfl,rfl⟩)
    | (go_at_call 183
       refine (Zgq _ _ _ _ [Zcj x.dr y.dr,Zcj x.tm y.tm,Zcj x.re y.re] (by simp) ?_).mono ?_
       · intro i hi
         have hi':i=0∨i=1∨i=2:=by simp at hi;omega
         rcases hi' with rfl | rfl | rfl <;> simp
       rintro e w2 ⟨rfl,rfl⟩))
 go_wp2;go_ret;exact⟨Zaz HO.out,(HBa.out.trans ((Zac _ _).mono HBa.out.size)).drew⟩
theorem Zcc (x y:Pu) (w:World) :
 Calls prog 109 #[.agg #[.string x.dr,.string x.tm,.string x.re,.int .i64 x.am,.int .i64 x.un],.agg #[.string y.dr,.string y.tm,.string y.re,.int .i64 y.am,.int .i64 y.un]] w fun e w'=>e=.returned (.int .i64 (ZlE x.dr x.tm x.re y.dr y.tm y.re))∧Zw_ w w':=by
 have HW:∀ o o',Hid (Zw_ w ((w.alloc o).alloc o')):=fun o o'=>(Zb_.alloc Zl_ _).alloc (by simp) _
 cases h:(x.dr.toList == y.dr.toList) with
 | true=>
  have HE:=Zab (Zq4 (b:=x.tm) (c:=x.re) (e:=y.tm) (f:=y.re) (ZaY.1 h));go_enter func109,ntmps109;go_wp2_with (go_at_call 102;refine (Zc5 _ _ _ _ _).mono ?_;rintro e w' ⟨rfl,rfl⟩);go_ret;exact⟨Zaz HE.out.symm,(HW _ _).out⟩
 | false=>
  have HE:=Zab (Zq5 (b:=x.tm) (c:=x.re) (e:=y.tm) (f:=y.re) (Zfa.1 h));go_enter func109,ntmps109;go_wp2_with (go_at_call 160;refine (ZgF _ _ _).mono ?_;rintro e w' ⟨rfl,rfl⟩);go_ret;exact⟨Zaz HE.out.symm,(HW _ _).out⟩
def Znf (a b:Int):Int:=if a < b then -1 else if b < a then 1 else 0
theorem Zpy {a b:Int}:Znf a b < 0↔a < b:=by unfold Znf;split <;> (try split) <;> omega
theorem Ziw (a:Int) (w:World):Calls prog 228 #[.int .i64 a] w fun e w'=>e=.returned (.bool false)∧w'=w:=by
 go_enter func228,ntmps228;go_wp2;go_ret;exact⟨rfl,rfl⟩
theorem ZlH (a b:Int) (w:World) :
 Calls prog 189 #[.int .i64 a,.int .i64 b] w fun e w'=>e=.returned (.int .i64 (Znf a b))∧w'=w:=by
 by_cases h1:a < b
 · have HE:Hid (Znf a b= -1):=if_pos h1
   go_enter func189,ntmps189;go_wp2_with (go_at_call 228;refine (Ziw _ _).mono ?_;rintro e w' ⟨rfl,rfl⟩);go_ret;exact⟨Zaz HE.out.symm,rfl⟩
 · by_cases h2:b < a
   · have HE:Hid (Znf a b=1):=by unfold Hid Znf;rw [if_neg h1,if_pos h2]
     go_enter func189,ntmps189;go_wp2_with (go_at_call 228;refine (Ziw _ _).mono ?_;rintro e w' ⟨rfl,rfl⟩);go_ret;exact⟨Zaz HE.out.symm,rfl⟩
   · have HE:Hid (Znf a b=0):=by unfold Hid Znf;rw [if_neg h1,if_neg h2]
     go_enter func189,ntmps189;go_wp2_with (go_at_call 228;refine (Ziw _ _).mono ?_;rintro e w' ⟨rfl,rfl⟩);go_ret;exact⟨Zaz HE.out.symm,rfl⟩
theorem ZlG (x y:Gr) (va:Option Addr) (vn vc:Nat) (va':Option Addr) (vn' vc':Nat) (w:World) :
 Calls prog 138 #[.agg #[.int .i64 x.nu,.string x.tw,.string x.gb,.slice va vn vc,.string x.kd,.string x.tm,.string x.pf],.agg #[.int .i64 y.nu,.string y.tw,.string y.gb,.slice va' vn' vc',.string y.kd,.string y.tm,.string y.pf]] w fun e w'=>e=.returned (.int .i64 (Znf x.nu y.nu))∧Zw_ w w':=by
 go_enter func138,ntmps138;go_wp2_with (go_at_call 189;refine (ZlH _ _ _).mono ?_;rintro e w' ⟨rfl,rfl⟩);go_ret;exact⟨rfl,(Zb_.alloc Zl_ _).alloc (by simp) _⟩
theorem Zat (n lo hi:Int) (w:World) :
 Calls prog 130 #[.int .i64 n,.int .i64 lo,.int .i64 hi] w fun e w'=>e=.returned (.bool (inB lo hi n))∧w'=w:=by
 rw [ZeN]
 by_cases h:lo≤n
 · by_cases h2:n≤hi
   · go_enter func130,ntmps130
     go_wp2;go_ret;exact⟨by rw [decide_eq_true h,decide_eq_true h2];rfl,rfl⟩
   · go_enter func130,ntmps130
     go_wp2;go_ret;exact⟨by simp [h2],rfl⟩
 · go_enter func130,ntmps130
   go_wp2;go_ret;exact⟨by rw [decide_eq_false (show ¬ lo≤n by omega)];rfl,rfl⟩
def Zce {X:Type} (c:X→X→Int) (L:List X):Nat→Bool
 | 0=>true
 | j+1=>match L[j]?,L[j+1]? with
  | some x,some y=>decide (c x y < 0)
  | _,_=>true
def Zcz {X:Type} (c:X→X→Int) (L:List X):Bool:=(List.range L.length).all (Zce c L)
theorem Zdb {X:Type} {c:X→X→Int} {L:List X} {j:Nat} (h:j+1 < L.length):Zce c L (j+1)=decide (c L[j] L[j+1] < 0):=by
 show (match L[j]?,L[j+1]? with | some x,some y=>decide (c x y < 0) | _,_=>true)=_
 rw [List.getElem?_eq_getElem (by omega),List.getElem?_eq_getElem h]
def Zf5 (x y:Ob):Int:=ZeK x.kd x.nm y.kd y.nm
def Zf4 (x y:Gr):Int:=Znf x.nu y.nu
def Zdh (x y:Le):Int:=ZeK x.tm x.re y.tm y.re
def Zgm (x y:Pu):Int:=ZlE x.dr x.tm x.re y.dr y.tm y.re
theorem ZlB (lo:Nat) (v:Value) (Xl:List Ob) (w:World) (hv:ZbC lo w v Xl) :
 Calls prog 131 #[v,.func (.func 132) #[] #[]] w fun e w'=>e=.returned (.bool (Zcz Zf5 Xl))∧Zw_ w w':=by
 have HV:=Zab hv;have hm:=hv.max;unfold maxLen at hm;obtain⟨a,cap,rfl⟩:=hv.form;clear hv;go_enter func131,ntmps131;go_wp2
 go_loopw [5] (fun i wr=>∃ m:Nat,i=.int .i64 m∧1≤m∧(m≤Xl.length∨m=1)∧Zw_ w wr∧∀ j,j < m→Zce Zf5 Xl j=true) (fun i _=>Xl.length+1 - (intOf i).toNat)
 case atStart=>exact⟨1,rfl,Nat.le_refl _,Or.inr rfl,Below.refl _ _,fun j hj=>by rw [show j=0 by omega];rfl⟩
 case round=>
  obtain⟨m,rfl,hm1,hk,hb,hall⟩:=hrel;have HB:=Zab hb;have HA:=Zab hall;clear hb hall
  by_cases hlt:m < Xl.length
  · obtain⟨k,hkm⟩:∃ k,m=k+1:=⟨m - 1,by omega⟩
    have hlt0:k < Xl.length:=by omega
    obtain⟨b,off,rfl,hbw,-,hc⟩:=HV.out.full' (by omega);obtain⟨hs,vv0,vv1,hcell,hv0,hv1⟩:=hc k hlt0;obtain⟨ht,vv0',vv1',hdell,hw0,hw1⟩:=hc m hlt;obtain⟨va0,vc0,rfl⟩:=hv0.at.form';obtain⟨va1,vc1,rfl⟩:=hv1.at.form';obtain⟨vb0,vd0,rfl⟩:=hw0.at.form';obtain⟨vb1,vd1,rfl⟩:=hw1.at.form';obtain⟨c0,c1,c2,c3,c4,c5,c6⟩:=hcell.below HB.out hbw;obtain⟨d0,d1,d2,d3,d4,d5,d6⟩:=hdell.below HB.out hbw
    have HS:Hid (Zce Zf5 Xl m=decide (Zf5 Xl[k] Xl[m] < 0)):=by
     subst hkm;exact Zdb hlt
    have e2:IntKind.i64.wrap ((m:Int) - 1)=k:=by rw [IntWalk.i64_left];unfold wrap64;omega
    have HKM:=Zab hkm;clear hc hcell hdell hs ht hkm hk hv0 hw0 hv1 hw1;go_wp2
    go_region_with (go_at_call 132;refine (Zj1 Xl[k] Xl[m] _ _ _ _ _ _ _ _ _ _ _ _ _).mono ?_;rintro e w1 ⟨rfl,hb1⟩;have hB:Hid (Zw_ w w1):=(HB.out.drew).trans (hb1.mono HB.out.size);clear hb1)
    all_goals by_cases hq:0≤ZeK Xl[k].kd Xl[k].nm Xl[m].kd Xl[m].nm
    all_goals first
     | (have HN:Hid (Zcz Zf5 Xl=false):=ZaW hlt (HS.out.trans (decide_eq_false (by unfold Zf5;omega)))
        go_wp2;go_ret;exact⟨Zaa HN.out.symm,hB.out⟩)
     | (have HT:Hid (Zce Zf5 Xl m=true):=HS.out.trans (decide_eq_true (by unfold Zf5;omega))
        go_wp2;go_roundw
        case rel=>exact⟨m+1,by go_num,by omega,by omega,hB.out,fun j hj=>by
                   by_cases e:j=m
                   · rw [e];exact HT.out
                   · exact HA.out j (by omega)⟩
        case measure=>simp [intOf];omega)
  · have HT:Hid (Zcz Zf5 Xl=true):=Za0 (fun i hi=>HA.out i (by omega))
    go_wp2;go_ret;exact⟨Zaa HT.out.symm,HB.out⟩
theorem Zlz (lo:Nat) (v:Value) (Xl:List Gr) (w:World) (hv:Zb9 lo w v Xl) :
 Calls prog 137 #[v,.func (.func 138) #[] #[]] w fun e w'=>e=.returned (.bool (Zcz Zf4 Xl))∧Zw_ w w':=by
 have HV:=Zab hv;have hm:=hv.max;unfold maxLen at hm;obtain⟨a,cap,rfl⟩:=hv.form;clear hv;go_enter func137,ntmps137;go_wp2
 go_loopw [5] (fun i wr=>∃ m:Nat,i=.int .i64 m∧1≤m∧(m≤Xl.length∨m=1)∧Zw_ w wr∧∀ j,j < m→Zce Zf4 Xl j=true) (fun i _=>Xl.length+1 - (intOf i).toNat)
 case atStart=>exact⟨1,rfl,Nat.le_refl _,Or.inr rfl,Below.refl _ _,fun j hj=>by rw [show j=0 by omega];rfl⟩
 case round=>
  obtain⟨m,rfl,hm1,hk,hb,hall⟩:=hrel;have HB:=Zab hb;have HA:=Zab hall;clear hb hall
  by_cases hlt:m < Xl.length
  · obtain⟨k,hkm⟩:∃ k,m=k+1:=⟨m - 1,by omega⟩
    have hlt0:k < Xl.length:=by omega
    obtain⟨b,off,rfl,hbw,-,hc⟩:=HV.out.full' (by omega);obtain⟨hs,vv0,hcell,hv0⟩:=hc k hlt0;obtain⟨ht,vv0',hdell,hw0⟩:=hc m hlt;obtain⟨va0,vc0,rfl⟩:=hv0.form;obtain⟨vb0,vd0,rfl⟩:=hw0.form;obtain⟨c0,c1,c2,c3,c4,c5,c6⟩:=hcell.below HB.out hbw;obtain⟨d0,d1,d2,d3,d4,d5,d6⟩:=hdell.below HB.out hbw
    have HS:Hid (Zce Zf4 Xl m=decide (Zf4 Xl[k] Xl[m] < 0)):=by
     subst hkm;exact Zdb hlt
    have e2:IntKind.i64.wrap ((m:Int) - 1)=k:=by rw [IntWalk.i64_left];unfold wrap64;omega
    have HKM:=Zab hkm;clear hc hcell hdell hs ht hkm hk hv0 hw0;go_wp2
    go_region_with (go_at_call 138;refine (ZlG Xl[k] Xl[m] _ _ _ _ _ _ _).mono ?_;rintro e w1 ⟨rfl,hb1⟩;have hB:Hid (Zw_ w w1):=(HB.out.drew).trans (hb1.mono HB.out.size);clear hb1)
    all_goals by_cases hq:0≤Znf Xl[k].nu Xl[m].nu
    all_goals first
     | (have HN:Hid (Zcz Zf4 Xl=false):=ZaW hlt (HS.out.trans (decide_eq_false (by unfold Zf4;omega)))
        go_wp2;go_ret;exact⟨Zaa HN.out.symm,hB.out⟩)
     | (have HT:Hid (Zce Zf4 Xl m=true):=HS.out.trans (decide_eq_true (by unfold Zf4;omega))
        go_wp2;go_roundw
        case rel=>exact⟨m+1,by go_num,by omega,by omega,hB.out,fun j hj=>by
                   by_cases e:j=m
                   · rw [e];exact HT.out
                   · exact HA.out j (by omega)⟩
        case measure=>simp [intOf];omega)
  · have HT:Hid (Zcz Zf4 Xl=true):=Za0 (fun i hi=>HA.out i (by omega))
    go_wp2;go_ret;exact⟨Zaa HT.out.symm,HB.out⟩
theorem ZlA (lo:Nat) (v:Value) (Xl:List Le) (w:World) (hv:ZbU lo w v Xl) :
 Calls prog 141 #[v,.func (.func 142) #[] #[]] w fun e w'=>e=.returned (.bool (Zcz Zdh Xl))∧Zw_ w w':=by
 have HV:=Zab hv;have hm:=hv.max;unfold maxLen at hm;obtain⟨a,cap,rfl⟩:=hv.form;clear hv;go_enter func141,ntmps141;go_wp2
 go_loopw [5] (fun i wr=>∃ m:Nat,i=.int .i64 m∧1≤m∧(m≤Xl.length∨m=1)∧Zw_ w wr∧∀ j,j < m→Zce Zdh Xl j=true) (fun i _=>Xl.length+1 - (intOf i).toNat)
 case atStart=>exact⟨1,rfl,Nat.le_refl _,Or.inr rfl,Below.refl _ _,fun j hj=>by rw [show j=0 by omega];rfl⟩
 case round=>
  obtain⟨m,rfl,hm1,hk,hb,hall⟩:=hrel;have HB:=Zab hb;have HA:=Zab hall;clear hb hall
  by_cases hlt:m < Xl.length
  · obtain⟨k,hkm⟩:∃ k,m=k+1:=⟨m - 1,by omega⟩
    have hlt0:k < Xl.length:=by omega
    obtain⟨b,off,rfl,hbw,-,hc⟩:=HV.out.full' (by omega);obtain⟨hs,hcell⟩:=hc k hlt0;obtain⟨ht,hdell⟩:=hc m hlt;obtain⟨c0,c1,c2,c3⟩:=hcell.below HB.out hbw;obtain⟨d0,d1,d2,d3⟩:=hdell.below HB.out hbw
    have HS:Hid (Zce Zdh Xl m=decide (Zdh Xl[k] Xl[m] < 0)):=by
     subst hkm;exact Zdb hlt
    have e2:IntKind.i64.wrap ((m:Int) - 1)=k:=by rw [IntWalk.i64_left];unfold wrap64;omega
    have HKM:=Zab hkm;clear hc hcell hdell hs ht hkm hk;go_wp2
    go_region_with (go_at_call 142;refine (Zfu Xl[k] Xl[m] _).mono ?_;rintro e w1 ⟨rfl,hb1⟩;have hB:Hid (Zw_ w w1):=(HB.out.drew).trans (hb1.mono HB.out.size);clear hb1)
    all_goals by_cases hq:0≤ZeK Xl[k].tm Xl[k].re Xl[m].tm Xl[m].re
    all_goals first
     | (have HN:Hid (Zcz Zdh Xl=false):=ZaW hlt (HS.out.trans (decide_eq_false (by unfold Zdh;omega)))
        go_wp2;go_ret;exact⟨Zaa HN.out.symm,hB.out⟩)
     | (have HT:Hid (Zce Zdh Xl m=true):=HS.out.trans (decide_eq_true (by unfold Zdh;omega))
        go_wp2;go_roundw
        case rel=>exact⟨m+1,by go_num,by omega,by omega,hB.out,fun j hj=>by
                   by_cases e:j=m
                   · rw [e];exact HT.out
                   · exact HA.out j (by omega)⟩
        case measure=>simp [intOf];omega)
  · have HT:Hid (Zcz Zdh Xl=true):=Za0 (fun i hi=>HA.out i (by omega))
    go_wp2;go_ret;exact⟨Zaa HT.out.symm,HB.out⟩
theorem ZlC (lo:Nat) (v:Value) (Xl:List Pu) (w:World) (hv:Zcd lo w v Xl) :
 Calls prog 143 #[v,.func (.func 144) #[] #[]] w fun e w'=>e=.returned (.bool (Zcz Zgm Xl))∧Zw_ w w':=by
 have HV:=Zab hv;have hm:=hv.max;unfold maxLen at hm;obtain⟨a,cap,rfl⟩:=hv.form;clear hv;go_enter func143,ntmps143;go_wp2
 go_loopw [5] (fun i wr=>∃ m:Nat,i=.int .i64 m∧1≤m∧(m≤Xl.length∨m=1)∧Zw_ w wr∧∀ j,j < m→Zce Zgm Xl j=true) (fun i _=>Xl.length+1 - (intOf i).toNat)
 case atStart=>exact⟨1,rfl,Nat.le_refl _,Or.inr rfl,Below.refl _ _,fun j hj=>by rw [show j=0 by omega];rfl⟩
 case round=>
  obtain⟨m,rfl,hm1,hk,hb,hall⟩:=hrel;have HB:=Zab hb;have HA:=Zab hall;clear hb hall
  by_cases hlt:m < Xl.length
  · obtain⟨k,hkm⟩:∃ k,m=k+1:=⟨m - 1,by omega⟩
    have hlt0:k < Xl.length:=by omega
    obtain⟨b,off,rfl,hbw,-,hc⟩:=HV.out.full' (by omega);obtain⟨hs,hcell⟩:=hc k hlt0;obtain⟨ht,hdell⟩:=hc m hlt;obtain⟨c0,c1,c2,c3,c4⟩:=hcell.below HB.out hbw;obtain⟨d0,d1,d2,d3,d4⟩:=hdell.below HB.out hbw
    have HS:Hid (Zce Zgm Xl m=decide (Zgm Xl[k] Xl[m] < 0)):=by
     subst hkm;exact Zdb hlt
    have e2:IntKind.i64.wrap ((m:Int) - 1)=k:=by rw [IntWalk.i64_left];unfold wrap64;omega
    have HKM:=Zab hkm;clear hc hcell hdell hs ht hkm hk;go_wp2
    go_region_with (go_at_call 144;refine (ZlI Xl[k] Xl[m] _).mono ?_;rintro e w1 ⟨rfl,hb1⟩;have hB:Hid (Zw_ w w1):=(HB.out.drew).trans (hb1.mono HB.out.size);clear hb1)
    all_goals by_cases hq:0≤ZlE Xl[k].dr Xl[k].tm Xl[k].re Xl[m].dr Xl[m].tm Xl[m].re
    all_goals first
     | (have HN:Hid (Zcz Zgm Xl=false):=ZaW hlt (HS.out.trans (decide_eq_false (by unfold Zgm;omega)))
        go_wp2;go_ret;exact⟨Zaa HN.out.symm,hB.out⟩)
     | (have HT:Hid (Zce Zgm Xl m=true):=HS.out.trans (decide_eq_true (by unfold Zgm;omega))
        go_wp2;go_roundw
        case rel=>exact⟨m+1,by go_num,by omega,by omega,hB.out,fun j hj=>by
                   by_cases e:j=m
                   · rw [e];exact HT.out
                   · exact HA.out j (by omega)⟩
        case measure=>simp [intOf];omega)
  · have HT:Hid (Zcz Zgm Xl=true):=Za0 (fun i hi=>HA.out i (by omega))
    go_wp2;go_ret;exact⟨Zaa HT.out.symm,HB.out⟩
end Go.Proofs.YtcfjmagkinpaeaaGreat
