import Derived.Sort.Walk0
import Derived.Test.YtlmippkhpjcfcaaGreatVBBL
set_option maxHeartbeats 16000000
set_option maxRecDepth 100000
open Go.Proofs.Tryz
namespace Go.Proofs.YtlmippkhpjcfcaaGreat
open Go.RowKit Go.Deep
def ZcL (a b:Zy_):Int:=if Op.bytesLess a.toList b.toList=true then -1 else if (a.toList == b.toList)=true then 0 else 1
theorem ZlR (a:List UInt8):Op.bytesLess a a=false:=by rw [bytesLess_eq];exact decide_eq_false (List.lt_irrefl _)
theorem Znt {a b c:List UInt8} (h:Op.bytesLess a b=true) (h':Op.bytesLess b c=true):Op.bytesLess a c=true:=by
 rw [bytesLess_eq] at h h' ⊢;exact decide_eq_true (List.lt_trans (of_decide_eq_true h) (of_decide_eq_true h'))
theorem toList_inj {a b:Zy_} (h:a.toList=b.toList):a=b:=ZaJ.1 (by rw [h];simp)
theorem ZpL (a:Zy_):ZcL a a=0:=by unfold ZcL;simp [ZlR]
theorem Zcs {a b:Zy_}:ZcL a b=0↔a=b:=by
 refine⟨fun h=>?_,fun h=>by rw [h];exact ZpL _⟩;unfold ZcL at h
 split at h
 · omega
 · split at h
   · rename_i h2
     exact ZaJ.1 h2
   · omega
theorem Zi1 {a b:Zy_}:ZcL a b < 0↔Op.bytesLess a.toList b.toList=true:=by
 unfold ZcL
 split
 · rename_i h;simp [h]
 · rename_i h
   split <;> simp [h]
theorem ZrP (a b:Zy_):-1≤ZcL a b∧ZcL a b≤1:=by unfold ZcL;split <;> (try split) <;> omega
def orI (a b:Int):Int:=if a=0 then b else a
def ZeX (a b c d:Zy_):Int:=orI (ZcL a c) (ZcL b d)
def ZhO (a b c d e f:Zy_):Int:=orI (ZcL a d) (orI (ZcL b e) (ZcL c f))
theorem ZiV {a b:Int}:orI a b=0↔a=0∧b=0:=by unfold orI;split <;> omega
theorem Zhe (a b:Zy_) (w:World) :
 Calls prog 179 #[.string a,.string b] w fun e w'=>e=.returned (.int .i64 (ZcL a b))∧w'=w:=by
 cases h1:Op.bytesLess a.toList b.toList with
 | true=>
  have HE:Hid (ZcL a b= -1):=by unfold Hid ZcL;rw [h1];rfl
  go_enter func179,ntmps179;go_wp2;go_ret;exact⟨ZaG HE.out.symm,rfl⟩
 | false=>
  cases h2:(a.toList == b.toList) with
  | true=>
   have HE:Hid (ZcL a b=0):=by unfold Hid ZcL;rw [h1,h2];rfl
   go_enter func179,ntmps179;go_wp2;go_ret;exact⟨ZaG HE.out.symm,rfl⟩
  | false=>
   have HE:Hid (ZcL a b=1):=by unfold Hid ZcL;rw [h1,h2];rfl
   go_enter func179,ntmps179;go_wp2;go_ret;exact⟨ZaG HE.out.symm,rfl⟩
theorem ZjD (a:Zy_) (w:World):Calls prog 193 #[.string a] w fun e w'=>e=.returned (.bool false)∧w'=w:=by
 have h:=Zdd a;go_enter func193,ntmps193;go_wp2;go_ret;exact⟨rfl,rfl⟩
theorem Zgb (a b:Zy_) (w:World) :
 Calls prog 163 #[.string a,.string b] w fun e w'=>e=.returned (.int .i64 (ZcL a b))∧w'=w:=by
 cases h1:Op.bytesLess a.toList b.toList with
 | true=>
  have HE:Hid (ZcL a b= -1):=by unfold Hid ZcL;rw [h1];rfl
  go_enter func163,ntmps163;go_wp2_with (go_at_call 193;refine (ZjD _ _).mono ?_;rintro e w' ⟨rfl,rfl⟩);go_ret;exact⟨ZaG HE.out.symm,rfl⟩
 | false=>
  cases h2:(a.toList == b.toList) with
  | true=>
   have HE:Hid (ZcL a b=0):=by unfold Hid ZcL;rw [h1,h2];rfl
   go_enter func163,ntmps163;go_wp2_with (go_at_call 193;refine (ZjD _ _).mono ?_;rintro e w' ⟨rfl,rfl⟩);go_ret;exact⟨ZaG HE.out.symm,rfl⟩
  | false=>
   have HE:Hid (ZcL a b=1):=by unfold Hid ZcL;rw [h1,h2];rfl
   go_enter func163,ntmps163;go_wp2_with (go_at_call 193;refine (ZjD _ _).mono ?_;rintro e w' ⟨rfl,rfl⟩);go_ret;exact⟨ZaG HE.out.symm,rfl⟩
theorem Zdj (a b c d:Zy_) (w:World) :
 Calls prog 146 #[.string a,.string b,.string c,.string d] w fun e w'=>e=.returned (.int .i64 (ZeX a b c d))∧w'=w:=by
 have hk:=ZrP a c
 by_cases h0:ZcL a c=0
 · have HE:Hid (ZeX a b c d=ZcL b d):=by unfold Hid ZeX orI;rw [if_pos h0]
   have h0':(ZcL a c != 0)=false:=by simp [h0]
   have H0:=Zab h0;clear h0;go_enter func146,ntmps146;go_wp2_with (go_at_call 179;refine (Zhe _ _ _).mono ?_;rintro e w' ⟨rfl,rfl⟩);go_ret;exact⟨ZaG HE.out.symm,rfl⟩
 · have HE:Hid (ZeX a b c d=ZcL a c):=by unfold Hid ZeX orI;rw [if_neg h0]
   have h0':(ZcL a c != 0)=true:=by simp [h0]
   clear h0;go_enter func146,ntmps146;go_wp2_with (go_at_call 179;refine (Zhe _ _ _).mono ?_;rintro e w' ⟨rfl,rfl⟩);go_ret;exact⟨ZaG HE.out.symm,rfl⟩
def orL:List Int→Int
 | []=>0
 | x :: r=>if x=0 then orL r else x
theorem ZrA {a b c d e f:Zy_} (h:a≠d):ZhO a b c d e f=ZcL a d:=by
 unfold ZhO orI;rw [if_neg (fun h0=>h (Zcs.1 h0))]
theorem Zsc {a b c d e f:Zy_} (h:a=d):ZhO a b c d e f=ZeX b c e f:=by
 unfold ZhO ZeX;rw [Zcs.2 h]
 rfl
theorem Zq0 {L:List Int} {k:Nat} (hk:k < L.length) (h:L[k]=0):orL (L.drop k)=orL (L.drop (k+1)):=by
 rw [List.drop_eq_getElem_cons hk,orL,if_pos h]
theorem ZqT {L:List Int} {k:Nat} (hk:k < L.length) (h:L[k]≠0):orL (L.drop k)=L[k]:=by
 rw [List.drop_eq_getElem_cons hk,orL,if_neg h]
theorem ZoR (a b:Int):orL [a,b]=orI a b:=by simp only [orL];unfold orI;split <;> (try split) <;> omega
theorem ZoU (a b c:Int):orL [a,b,c]=orI a (orI b c):=by simp only [orL];unfold orI;split <;> (try split) <;> (try split) <;> omega
theorem Zhh (w:World) (b off cap:Nat) (L:List Int) (hm:L.length≤1000) (hc:∀ i (h:i < L.length),w.cell? ⟨b,off+i,none⟩=some (.int .i64 L[i])) :
 Calls prog 162 #[.slice (some ⟨b,off,none⟩) L.length cap] w fun e w'=>e=.returned (.int .i64 (orL L))∧w'=w:=by
 go_enter func162,ntmps162;go_wp2
 go_loop [8] (fun i=>∃ k:Nat,i=.int .i64 k∧k≤L.length∧orL L=orL (L.drop k)) (fun i=>L.length - (intOf i).toNat)
 case atStart=>exact⟨0,rfl,by omega,by simp⟩
 case round=>
  obtain⟨k,rfl,hk,he⟩:=hrel;have HE:=Zab he;clear he
  by_cases hlt:k < L.length
  · have c:=hc k hlt
    by_cases h0:L[k]=0
    · have HS:=Zab (Zq0 hlt h0)
      have h0':(L[k] != 0)=false:=by simp [h0]
      clear h0;go_wp2
      go_round
      case rel=>exact⟨k+1,by go_num,by omega,HE.out.trans HS.out⟩
      case measure=>simp [intOf];omega
    · have HS:=Zab (ZqT hlt h0)
      have h0':(L[k] != 0)=true:=by simp [h0]
      clear h0;go_wp2;go_ret;exact⟨ZaG (by rw [HE.out,HS.out]),rfl⟩
  · have HS:Hid (orL (L.drop k)=0):=by unfold Hid;rw [List.drop_of_length_le (by omega)];rfl
    go_wp2;go_ret;exact⟨ZaG (by rw [HE.out,HS.out]),rfl⟩
theorem Zl9 (x y:Ob) (va:Option Addr) (vn vc:Nat) (ha:Option Addr) (hn hc:Nat) (va':Option Addr) (vn' vc':Nat) (ha':Option Addr) (hn' hc':Nat) (w:World) :
 Calls prog 213 #[.agg #[.string x.kd,.string x.nm,.string x.tm,.slice va vn vc,.bool x.en,.slice ha hn hc,.int .i64 x.ver],.agg #[.string y.kd,.string y.nm,.string y.tm,.slice va' vn' vc',.bool y.en,.slice ha' hn' hc',.int .i64 y.ver]] w fun e w'=>e=.returned (.int .i64 (ZeX x.kd x.nm y.kd y.nm))∧Zw_ w w':=by
 have HO:Hid (orL [ZcL x.kd y.kd,ZcL x.nm y.nm]=ZeX x.kd x.nm y.kd y.nm):=ZoR _ _;go_enter func213,ntmps213;go_wp2;generalize hWa:(World.alloc (w.alloc _) _)=Wa;have HBa:Hid (Zw_ w Wa):=by rw [← hWa];exact (Zac w _).alloc (by simp) _
 have FA:Hid (Box Wa w.heap.size #[.string x.kd,.string x.nm,.string x.tm,.slice va vn vc,.bool x.en,.slice ha hn hc,.int .i64 x.ver]):=by rw [← hWa];exact (Box.new _ _ _ _ rfl).on (Zac _ _)
 have FB:Hid (Box Wa (w.heap.size+1) #[.string y.kd,.string y.nm,.string y.tm,.slice va' vn' vc',.bool y.en,.slice ha' hn' hc',.int .i64 y.ver]):=by rw [← hWa];exact Box.new _ _ _ _ (by simp)
 clear hWa
 go_region_held3 (Zat Wa w.heap.size #[.string x.kd,.string x.nm,.string x.tm,.slice va vn vc,.bool x.en,.slice ha hn hc,.int .i64 x.ver] (w.heap.size+1) #[.string y.kd,.string y.nm,.string y.tm,.slice va' vn' vc',.bool y.en,.slice ha' hn' hc',.int .i64 y.ver])
  (first
    | (with_reducible exact Zat.drew FA.out FB.out)
    | (with_reducible exact Zat.on (by assumption) Zb_)
    | (with_reducible exact Zat.on (by assumption) (Zac _ _))
    | (with_reducible exact Zat.on (by assumption) (by assumption)))
  (first
    | (go_at_call 163
       refine (Zgb _ _ _).mono ?_;rintro e w1 ⟨rfl,rfl⟩)
    | (go_at_call 162
       refine (Zhh _ _ _ _ [ZcL x.kd y.kd,ZcL x.nm y.nm] (by simp) ?_).mono ?_
       · intro i hi
         have hi':i=0∨i=1:=by simp at hi;omega
         rcases hi' with rfl | rfl <;> simp
       rintro e w2 ⟨rfl,rfl⟩))
 go_wp2;go_ret;exact⟨ZaG HO.out,(HBa.out.trans ((Zac _ _).mono HBa.out.size)).drew⟩
theorem Zf9 (x y:Le) (w:World) :
 Calls prog 195 #[.agg #[.string x.tm,.string x.re,.int .i64 x.mo,.int .i64 x.fr],.agg #[.string y.tm,.string y.re,.int .i64 y.mo,.int .i64 y.fr]] w fun e w'=>e=.returned (.int .i64 (ZeX x.tm x.re y.tm y.re))∧Zw_ w w':=by
 have HO:Hid (orL [ZcL x.tm y.tm,ZcL x.re y.re]=ZeX x.tm x.re y.tm y.re):=ZoR _ _;go_enter func195,ntmps195;go_wp2;generalize hWa:(World.alloc (w.alloc _) _)=Wa;have HBa:Hid (Zw_ w Wa):=by rw [← hWa];exact (Zac w _).alloc (by simp) _
 have FA:Hid (Box Wa w.heap.size #[.string x.tm,.string x.re,.int .i64 x.mo,.int .i64 x.fr]):=by rw [← hWa];exact (Box.new _ _ _ _ rfl).on (Zac _ _)
 have FB:Hid (Box Wa (w.heap.size+1) #[.string y.tm,.string y.re,.int .i64 y.mo,.int .i64 y.fr]):=by rw [← hWa];exact Box.new _ _ _ _ (by simp)
 clear hWa
 go_region_held3 (Zat Wa w.heap.size #[.string x.tm,.string x.re,.int .i64 x.mo,.int .i64 x.fr] (w.heap.size+1) #[.string y.tm,.string y.re,.int .i64 y.mo,.int .i64 y.fr])
  (first
    | (with_reducible exact Zat.drew FA.out FB.out)
    | (with_reducible exact Zat.on (by assumption) Zb_)
    | (with_reducible exact Zat.on (by assumption) (Zac _ _))
    | (with_reducible exact Zat.on (by assumption) (by assumption)))
  (first
    | (go_at_call 163
       refine (Zgb _ _ _).mono ?_;rintro e w1 ⟨rfl,rfl⟩)
    | (go_at_call 162
       refine (Zhh _ _ _ _ [ZcL x.tm y.tm,ZcL x.re y.re] (by simp) ?_).mono ?_
       · intro i hi
         have hi':i=0∨i=1:=by simp at hi;omega
         rcases hi' with rfl | rfl <;> simp
       rintro e w2 ⟨rfl,rfl⟩))
 go_wp2;go_ret;exact⟨ZaG HO.out,(HBa.out.trans ((Zac _ _).mono HBa.out.size)).drew⟩
theorem Zf1 (x y:Pu) (w:World) :
 Calls prog 106 #[.agg #[.string x.dr,.string x.tm,.string x.re,.int .i64 x.am,.int .i64 x.un],.agg #[.string y.dr,.string y.tm,.string y.re,.int .i64 y.am,.int .i64 y.un]] w fun e w'=>e=.returned (.int .i64 (ZhO x.dr x.tm x.re y.dr y.tm y.re))∧Zw_ w w':=by
 have HO:Hid (orL [ZcL x.dr y.dr,ZcL x.tm y.tm,ZcL x.re y.re]=ZhO x.dr x.tm x.re y.dr y.tm y.re):=ZoU _ _ _;go_enter func106,ntmps106;go_wp2;generalize hWa:(World.alloc (w.alloc _) _)=Wa;have HBa:Hid (Zw_ w Wa):=by rw [← hWa];exact (Zac w _).alloc (by simp) _
 have FA:Hid (Box Wa w.heap.size #[.string x.dr,.string x.tm,.string x.re,.int .i64 x.am,.int .i64 x.un]):=by rw [← hWa];exact (Box.new _ _ _ _ rfl).on (Zac _ _)
 have FB:Hid (Box Wa (w.heap.size+1) #[.string y.dr,.string y.tm,.string y.re,.int .i64 y.am,.int .i64 y.un]):=by rw [← hWa];exact Box.new _ _ _ _ (by simp)
 clear hWa
 go_region_held3 (Zat Wa w.heap.size #[.string x.dr,.string x.tm,.string x.re,.int .i64 x.am,.int .i64 x.un] (w.heap.size+1) #[.string y.dr,.string y.tm,.string y.re,.int .i64 y.am,.int .i64 y.un])
  (first
    | (with_reducible exact Zat.drew FA.out FB.out)
    | (with_reducible exact Zat.on (by assumption) Zb_)
    | (with_reducible exact Zat.on (by assumption) (Zac _ _))
    | (with_reducible exact Zat.on (by assumption) (by assumption)))
  (first
    | (go_at_call 163
       refine (Zgb _ _ _).mono ?_;rintro e w1 ⟨rfl,rfl⟩)
    | (go_at_call 162
       refine (Zhh _ _ _ _ [ZcL x.dr y.dr,ZcL x.tm y.tm,ZcL x.re y.re] (by simp) ?_).mono ?_
       · intro i hi
         have hi':i=0∨i=1∨i=2:=by simp at hi;omega
         rcases hi' with rfl | rfl | rfl <;> simp
       rintro e w2 ⟨rfl,rfl⟩))
 go_wp2;go_ret;exact⟨ZaG HO.out,(HBa.out.trans ((Zac _ _).mono HBa.out.size)).drew⟩
theorem Zcp (x y:Pu) (w:World) :
 Calls prog 151 #[.agg #[.string x.dr,.string x.tm,.string x.re,.int .i64 x.am,.int .i64 x.un],.agg #[.string y.dr,.string y.tm,.string y.re,.int .i64 y.am,.int .i64 y.un]] w fun e w'=>e=.returned (.int .i64 (ZhO x.dr x.tm x.re y.dr y.tm y.re))∧Zw_ w w':=by
 have HW:∀ o o',Hid (Zw_ w ((w.alloc o).alloc o')):=fun o o'=>(Zb_.alloc Zl_ _).alloc (by simp) _
 cases h:(x.dr.toList == y.dr.toList) with
 | true=>
  have HE:=Zab (Zsc (b:=x.tm) (c:=x.re) (e:=y.tm) (f:=y.re) (ZaJ.1 h));go_enter func151,ntmps151;go_wp2_with (go_at_call 146;refine (Zdj _ _ _ _ _).mono ?_;rintro e w' ⟨rfl,rfl⟩);go_ret;exact⟨ZaG HE.out.symm,(HW _ _).out⟩
 | false=>
  have HE:=Zab (ZrA (b:=x.tm) (c:=x.re) (e:=y.tm) (f:=y.re) (ZfF.1 h));go_enter func151,ntmps151;go_wp2_with (go_at_call 179;refine (Zhe _ _ _).mono ?_;rintro e w' ⟨rfl,rfl⟩);go_ret;exact⟨ZaG HE.out.symm,(HW _ _).out⟩
def Zpi (a b:Int):Int:=if a < b then -1 else if b < a then 1 else 0
theorem ZqB {a b:Int}:Zpi a b < 0↔a < b:=by unfold Zpi;split <;> (try split) <;> omega
theorem ZiS (a:Int) (w:World):Calls prog 259 #[.int .i64 a] w fun e w'=>e=.returned (.bool false)∧w'=w:=by
 go_enter func259,ntmps259;go_wp2;go_ret;exact⟨rfl,rfl⟩
theorem ZnZ (a b:Int) (w:World) :
 Calls prog 244 #[.int .i64 a,.int .i64 b] w fun e w'=>e=.returned (.int .i64 (Zpi a b))∧w'=w:=by
 by_cases h1:a < b
 · have HE:Hid (Zpi a b= -1):=if_pos h1
   go_enter func244,ntmps244;go_wp2_with (go_at_call 259;refine (ZiS _ _).mono ?_;rintro e w' ⟨rfl,rfl⟩);go_ret;exact⟨ZaG HE.out.symm,rfl⟩
 · by_cases h2:b < a
   · have HE:Hid (Zpi a b=1):=by unfold Hid Zpi;rw [if_neg h1,if_pos h2]
     go_enter func244,ntmps244;go_wp2_with (go_at_call 259;refine (ZiS _ _).mono ?_;rintro e w' ⟨rfl,rfl⟩);go_ret;exact⟨ZaG HE.out.symm,rfl⟩
   · have HE:Hid (Zpi a b=0):=by unfold Hid Zpi;rw [if_neg h1,if_neg h2]
     go_enter func244,ntmps244;go_wp2_with (go_at_call 259;refine (ZiS _ _).mono ?_;rintro e w' ⟨rfl,rfl⟩);go_ret;exact⟨ZaG HE.out.symm,rfl⟩
theorem Znn (x y:Gr) (va:Option Addr) (vn vc:Nat) (va':Option Addr) (vn' vc':Nat) (w:World) :
 Calls prog 218 #[.agg #[.int .i64 x.nu,.string x.tw,.string x.gb,.slice va vn vc,.string x.kd,.string x.tm,.string x.pf],.agg #[.int .i64 y.nu,.string y.tw,.string y.gb,.slice va' vn' vc',.string y.kd,.string y.tm,.string y.pf]] w fun e w'=>e=.returned (.int .i64 (Zpi x.nu y.nu))∧Zw_ w w':=by
 go_enter func218,ntmps218;go_wp2_with (go_at_call 244;refine (ZnZ _ _ _).mono ?_;rintro e w' ⟨rfl,rfl⟩);go_ret;exact⟨rfl,(Zb_.alloc Zl_ _).alloc (by simp) _⟩
theorem Zay (n lo hi:Int) (w:World) :
 Calls prog 136 #[.int .i64 n,.int .i64 lo,.int .i64 hi] w fun e w'=>e=.returned (.bool (inB lo hi n))∧w'=w:=by
 rw [Zeh]
 by_cases h:lo≤n
 · by_cases h2:n≤hi
   · go_enter func136,ntmps136
     go_wp2;go_ret;exact⟨by rw [decide_eq_true h,decide_eq_true h2];rfl,rfl⟩
   · go_enter func136,ntmps136
     go_wp2;go_ret;exact⟨by simp [h2],rfl⟩
 · go_enter func136,ntmps136
   go_wp2;go_ret;exact⟨by rw [decide_eq_false (show ¬ lo≤n by omega)];rfl,rfl⟩
def ZcO {X:Type} (c:X→X→Int) (L:List X):Nat→Bool
 | 0=>true
 | j+1=>match L[j]?,L[j+1]? with
  | some x,some y=>decide (c x y < 0)
  | _,_=>true
def Zdb {X:Type} (c:X→X→Int) (L:List X):Bool:=(List.range L.length).all (ZcO c L)
theorem Zd8 {X:Type} {c:X→X→Int} {L:List X} {j:Nat} (h:j+1 < L.length):ZcO c L (j+1)=decide (c L[j] L[j+1] < 0):=by
 show (match L[j]?,L[j+1]? with | some x,some y=>decide (c x y < 0) | _,_=>true)=_
 rw [List.getElem?_eq_getElem (by omega),List.getElem?_eq_getElem h]
def ZgX (x y:Ob):Int:=ZeX x.kd x.nm y.kd y.nm
def ZgT (x y:Gr):Int:=Zpi x.nu y.nu
def Zcz (x y:Le):Int:=ZeX x.tm x.re y.tm y.re
def ZcJ (x y:Pu):Int:=ZhO x.dr x.tm x.re y.dr y.tm y.re
theorem Zni (lo:Nat) (v:Value) (Xl:List Ob) (w:World) (hv:Zbw lo w v Xl) :
 Calls prog 212 #[v,.func (.func 213) #[] #[]] w fun e w'=>e=.returned (.bool (Zdb ZgX Xl))∧Zw_ w w':=by
 have HV:=Zab hv;have hm:=hv.max;unfold maxLen at hm;obtain⟨a,cap,rfl⟩:=hv.form;clear hv;go_enter func212,ntmps212;go_wp2
 go_loopw [5] (fun i wr=>∃ m:Nat,i=.int .i64 m∧1≤m∧(m≤Xl.length∨m=1)∧Zw_ w wr∧∀ j,j < m→ZcO ZgX Xl j=true) (fun i _=>Xl.length+1 - (intOf i).toNat)
 case atStart=>exact⟨1,rfl,Nat.le_refl _,Or.inr rfl,Below.refl _ _,fun j hj=>by rw [show j=0 by omega];rfl⟩
 case round=>
  obtain⟨m,rfl,hm1,hk,hb,hall⟩:=hrel;have HB:=Zab hb;have HA:=Zab hall;clear hb hall
  by_cases hlt:m < Xl.length
  · obtain⟨k,hkm⟩:∃ k,m=k+1:=⟨m - 1,by omega⟩
    have hlt0:k < Xl.length:=by omega
    obtain⟨b,off,rfl,hbw,-,hc⟩:=HV.out.full' (by omega);obtain⟨hs,vv0,vv1,hcell,hv0,hv1⟩:=hc k hlt0;obtain⟨ht,vv0',vv1',hdell,hw0,hw1⟩:=hc m hlt;obtain⟨va0,vc0,rfl⟩:=hv0.at.form';obtain⟨va1,vc1,rfl⟩:=hv1.at.form';obtain⟨vb0,vd0,rfl⟩:=hw0.at.form';obtain⟨vb1,vd1,rfl⟩:=hw1.at.form';obtain⟨c0,c1,c2,c3,c4,c5,c6⟩:=hcell.below HB.out hbw;obtain⟨d0,d1,d2,d3,d4,d5,d6⟩:=hdell.below HB.out hbw
    have HS:Hid (ZcO ZgX Xl m=decide (ZgX Xl[k] Xl[m] < 0)):=by
     subst hkm;exact Zd8 hlt
    have e2:IntKind.i64.wrap ((m:Int) - 1)=k:=by rw [IntWalk.i64_left];unfold wrap64;omega
    have HKM:=Zab hkm;clear hc hcell hdell hs ht hkm hk hv0 hw0 hv1 hw1;go_wp2
    go_region_with (go_at_call 213;refine (Zl9 Xl[k] Xl[m] _ _ _ _ _ _ _ _ _ _ _ _ _).mono ?_;rintro e w1 ⟨rfl,hb1⟩;have hB:Hid (Zw_ w w1):=(HB.out.drew).trans (hb1.mono HB.out.size);clear hb1)
    all_goals by_cases hq:0≤ZeX Xl[k].kd Xl[k].nm Xl[m].kd Xl[m].nm
    all_goals first
     | (have HN:Hid (Zdb ZgX Xl=false):=Za4 hlt (HS.out.trans (decide_eq_false (by unfold ZgX;omega)))
        go_wp2;go_ret;exact⟨Zaa HN.out.symm,hB.out⟩)
     | (have HT:Hid (ZcO ZgX Xl m=true):=HS.out.trans (decide_eq_true (by unfold ZgX;omega))
        go_wp2;go_roundw
        case rel=>exact⟨m+1,by go_num,by omega,by omega,hB.out,fun j hj=>by
                   by_cases e:j=m
                   · rw [e];exact HT.out
                   · exact HA.out j (by omega)⟩
        case measure=>simp [intOf];omega)
  · have HT:Hid (Zdb ZgX Xl=true):=Za8 (fun i hi=>HA.out i (by omega))
    go_wp2;go_ret;exact⟨Zaa HT.out.symm,HB.out⟩
theorem Zm1 (lo:Nat) (v:Value) (Xl:List Gr) (w:World) (hv:ZbY lo w v Xl) :
 Calls prog 217 #[v,.func (.func 218) #[] #[]] w fun e w'=>e=.returned (.bool (Zdb ZgT Xl))∧Zw_ w w':=by
 have HV:=Zab hv;have hm:=hv.max;unfold maxLen at hm;obtain⟨a,cap,rfl⟩:=hv.form;clear hv;go_enter func217,ntmps217;go_wp2
 go_loopw [5] (fun i wr=>∃ m:Nat,i=.int .i64 m∧1≤m∧(m≤Xl.length∨m=1)∧Zw_ w wr∧∀ j,j < m→ZcO ZgT Xl j=true) (fun i _=>Xl.length+1 - (intOf i).toNat)
 case atStart=>exact⟨1,rfl,Nat.le_refl _,Or.inr rfl,Below.refl _ _,fun j hj=>by rw [show j=0 by omega];rfl⟩
 case round=>
  obtain⟨m,rfl,hm1,hk,hb,hall⟩:=hrel;have HB:=Zab hb;have HA:=Zab hall;clear hb hall
  by_cases hlt:m < Xl.length
  · obtain⟨k,hkm⟩:∃ k,m=k+1:=⟨m - 1,by omega⟩
    have hlt0:k < Xl.length:=by omega
    obtain⟨b,off,rfl,hbw,-,hc⟩:=HV.out.full' (by omega);obtain⟨hs,vv0,hcell,hv0⟩:=hc k hlt0;obtain⟨ht,vv0',hdell,hw0⟩:=hc m hlt;obtain⟨va0,vc0,rfl⟩:=hv0.form;obtain⟨vb0,vd0,rfl⟩:=hw0.form;obtain⟨c0,c1,c2,c3,c4,c5,c6⟩:=hcell.below HB.out hbw;obtain⟨d0,d1,d2,d3,d4,d5,d6⟩:=hdell.below HB.out hbw
    have HS:Hid (ZcO ZgT Xl m=decide (ZgT Xl[k] Xl[m] < 0)):=by
     subst hkm;exact Zd8 hlt
    have e2:IntKind.i64.wrap ((m:Int) - 1)=k:=by rw [IntWalk.i64_left];unfold wrap64;omega
    have HKM:=Zab hkm;clear hc hcell hdell hs ht hkm hk hv0 hw0;go_wp2
    go_region_with (go_at_call 218;refine (Znn Xl[k] Xl[m] _ _ _ _ _ _ _).mono ?_;rintro e w1 ⟨rfl,hb1⟩;have hB:Hid (Zw_ w w1):=(HB.out.drew).trans (hb1.mono HB.out.size);clear hb1)
    all_goals by_cases hq:0≤Zpi Xl[k].nu Xl[m].nu
    all_goals first
     | (have HN:Hid (Zdb ZgT Xl=false):=Za4 hlt (HS.out.trans (decide_eq_false (by unfold ZgT;omega)))
        go_wp2;go_ret;exact⟨Zaa HN.out.symm,hB.out⟩)
     | (have HT:Hid (ZcO ZgT Xl m=true):=HS.out.trans (decide_eq_true (by unfold ZgT;omega))
        go_wp2;go_roundw
        case rel=>exact⟨m+1,by go_num,by omega,by omega,hB.out,fun j hj=>by
                   by_cases e:j=m
                   · rw [e];exact HT.out
                   · exact HA.out j (by omega)⟩
        case measure=>simp [intOf];omega)
  · have HT:Hid (Zdb ZgT Xl=true):=Za8 (fun i hi=>HA.out i (by omega))
    go_wp2;go_ret;exact⟨Zaa HT.out.symm,HB.out⟩
theorem Znk (lo:Nat) (v:Value) (Xl:List Le) (w:World) (hv:ZbG lo w v Xl) :
 Calls prog 221 #[v,.func (.func 195) #[] #[]] w fun e w'=>e=.returned (.bool (Zdb Zcz Xl))∧Zw_ w w':=by
 have HV:=Zab hv;have hm:=hv.max;unfold maxLen at hm;obtain⟨a,cap,rfl⟩:=hv.form;clear hv;go_enter func221,ntmps221;go_wp2
 go_loopw [5] (fun i wr=>∃ m:Nat,i=.int .i64 m∧1≤m∧(m≤Xl.length∨m=1)∧Zw_ w wr∧∀ j,j < m→ZcO Zcz Xl j=true) (fun i _=>Xl.length+1 - (intOf i).toNat)
 case atStart=>exact⟨1,rfl,Nat.le_refl _,Or.inr rfl,Below.refl _ _,fun j hj=>by rw [show j=0 by omega];rfl⟩
 case round=>
  obtain⟨m,rfl,hm1,hk,hb,hall⟩:=hrel;have HB:=Zab hb;have HA:=Zab hall;clear hb hall
  by_cases hlt:m < Xl.length
  · obtain⟨k,hkm⟩:∃ k,m=k+1:=⟨m - 1,by omega⟩
    have hlt0:k < Xl.length:=by omega
    obtain⟨b,off,rfl,hbw,-,hc⟩:=HV.out.full' (by omega);obtain⟨hs,hcell⟩:=hc k hlt0;obtain⟨ht,hdell⟩:=hc m hlt;obtain⟨c0,c1,c2,c3⟩:=hcell.below HB.out hbw;obtain⟨d0,d1,d2,d3⟩:=hdell.below HB.out hbw
    have HS:Hid (ZcO Zcz Xl m=decide (Zcz Xl[k] Xl[m] < 0)):=by
     subst hkm;exact Zd8 hlt
    have e2:IntKind.i64.wrap ((m:Int) - 1)=k:=by rw [IntWalk.i64_left];unfold wrap64;omega
    have HKM:=Zab hkm;clear hc hcell hdell hs ht hkm hk;go_wp2
    go_region_with (go_at_call 195;refine (Zf9 Xl[k] Xl[m] _).mono ?_;rintro e w1 ⟨rfl,hb1⟩;have hB:Hid (Zw_ w w1):=(HB.out.drew).trans (hb1.mono HB.out.size);clear hb1)
    all_goals by_cases hq:0≤ZeX Xl[k].tm Xl[k].re Xl[m].tm Xl[m].re
    all_goals first
     | (have HN:Hid (Zdb Zcz Xl=false):=Za4 hlt (HS.out.trans (decide_eq_false (by unfold Zcz;omega)))
        go_wp2;go_ret;exact⟨Zaa HN.out.symm,hB.out⟩)
     | (have HT:Hid (ZcO Zcz Xl m=true):=HS.out.trans (decide_eq_true (by unfold Zcz;omega))
        go_wp2;go_roundw
        case rel=>exact⟨m+1,by go_num,by omega,by omega,hB.out,fun j hj=>by
                   by_cases e:j=m
                   · rw [e];exact HT.out
                   · exact HA.out j (by omega)⟩
        case measure=>simp [intOf];omega)
  · have HT:Hid (Zdb Zcz Xl=true):=Za8 (fun i hi=>HA.out i (by omega))
    go_wp2;go_ret;exact⟨Zaa HT.out.symm,HB.out⟩
theorem Znq (lo:Nat) (v:Value) (Xl:List Pu) (w:World) (hv:ZbD lo w v Xl) :
 Calls prog 222 #[v,.func (.func 106) #[] #[]] w fun e w'=>e=.returned (.bool (Zdb ZcJ Xl))∧Zw_ w w':=by
 have HV:=Zab hv;have hm:=hv.max;unfold maxLen at hm;obtain⟨a,cap,rfl⟩:=hv.form;clear hv;go_enter func222,ntmps222;go_wp2
 go_loopw [5] (fun i wr=>∃ m:Nat,i=.int .i64 m∧1≤m∧(m≤Xl.length∨m=1)∧Zw_ w wr∧∀ j,j < m→ZcO ZcJ Xl j=true) (fun i _=>Xl.length+1 - (intOf i).toNat)
 case atStart=>exact⟨1,rfl,Nat.le_refl _,Or.inr rfl,Below.refl _ _,fun j hj=>by rw [show j=0 by omega];rfl⟩
 case round=>
  obtain⟨m,rfl,hm1,hk,hb,hall⟩:=hrel;have HB:=Zab hb;have HA:=Zab hall;clear hb hall
  by_cases hlt:m < Xl.length
  · obtain⟨k,hkm⟩:∃ k,m=k+1:=⟨m - 1,by omega⟩
    have hlt0:k < Xl.length:=by omega
    obtain⟨b,off,rfl,hbw,-,hc⟩:=HV.out.full' (by omega);obtain⟨hs,hcell⟩:=hc k hlt0;obtain⟨ht,hdell⟩:=hc m hlt;obtain⟨c0,c1,c2,c3,c4⟩:=hcell.below HB.out hbw;obtain⟨d0,d1,d2,d3,d4⟩:=hdell.below HB.out hbw
    have HS:Hid (ZcO ZcJ Xl m=decide (ZcJ Xl[k] Xl[m] < 0)):=by
     subst hkm;exact Zd8 hlt
    have e2:IntKind.i64.wrap ((m:Int) - 1)=k:=by rw [IntWalk.i64_left];unfold wrap64;omega
    have HKM:=Zab hkm;clear hc hcell hdell hs ht hkm hk;go_wp2
    go_region_with (go_at_call 106;refine (Zf1 Xl[k] Xl[m] _).mono ?_;rintro e w1 ⟨rfl,hb1⟩;have hB:Hid (Zw_ w w1):=(HB.out.drew).trans (hb1.mono HB.out.size);clear hb1)
    all_goals by_cases hq:0≤ZhO Xl[k].dr Xl[k].tm Xl[k].re Xl[m].dr Xl[m].tm Xl[m].re
    all_goals first
     | (have HN:Hid (Zdb ZcJ Xl=false):=Za4 hlt (HS.out.trans (decide_eq_false (by unfold ZcJ;omega)))
        go_wp2;go_ret;exact⟨Zaa HN.out.symm,hB.out⟩)
     | (have HT:Hid (ZcO ZcJ Xl m=true):=HS.out.trans (decide_eq_true (by unfold ZcJ;omega))
        go_wp2;go_roundw
        case rel=>exact⟨m+1,by go_num,by omega,by omega,hB.out,fun j hj=>by
                   by_cases e:j=m
                   · rw [e];exact HT.out
                   · exact HA.out j (by omega)⟩
        case measure=>simp [intOf];omega)
  · have HT:Hid (Zdb ZcJ Xl=true):=Za8 (fun i hi=>HA.out i (by omega))
    go_wp2;go_ret;exact⟨Zaa HT.out.symm,HB.out⟩
end Go.Proofs.YtlmippkhpjcfcaaGreat
