import Derived.Sort.Walk0
import Derived.Test.YtfohnageehneoaaGreatVBBL
set_option maxHeartbeats 16000000
set_option maxRecDepth 100000
open Go.Proofs.Tryz
namespace Go.Proofs.YtfohnageehneoaaGreat
open Go.RowKit Go.Deep
def ZcE (a b:Zy_):Int:=if Op.bytesLess a.toList b.toList=true then -1 else if (a.toList == b.toList)=true then 0 else 1
theorem ZkS (a:List UInt8):Op.bytesLess a a=false:=by rw [bytesLess_eq];exact decide_eq_false (List.lt_irrefl _)
theorem ZnP {a b c:List UInt8} (h:Op.bytesLess a b=true) (h':Op.bytesLess b c=true):Op.bytesLess a c=true:=by
 rw [bytesLess_eq] at h h' ⊢;exact decide_eq_true (List.lt_trans (of_decide_eq_true h) (of_decide_eq_true h'))
theorem toList_inj {a b:Zy_} (h:a.toList=b.toList):a=b:=ZaR.1 (by rw [h];simp)
theorem Zor (a:Zy_):ZcE a a=0:=by unfold ZcE;simp [ZkS]
theorem ZdG {a b:Zy_}:ZcE a b=0↔a=b:=by
 refine⟨fun h=>?_,fun h=>by rw [h];exact Zor _⟩;unfold ZcE at h
 split at h
 · omega
 · split at h
   · rename_i h2
     exact ZaR.1 h2
   · omega
theorem Ziq {a b:Zy_}:ZcE a b < 0↔Op.bytesLess a.toList b.toList=true:=by
 unfold ZcE
 split
 · rename_i h;simp [h]
 · rename_i h
   split <;> simp [h]
theorem Zq8 (a b:Zy_):-1≤ZcE a b∧ZcE a b≤1:=by unfold ZcE;split <;> (try split) <;> omega
def orI (a b:Int):Int:=if a=0 then b else a
def ZeQ (a b c d:Zy_):Int:=orI (ZcE a c) (ZcE b d)
def Zjf (a b c d e f:Zy_):Int:=orI (ZcE a d) (orI (ZcE b e) (ZcE c f))
theorem ZpZ {a b:Int}:orI a b=0↔a=0∧b=0:=by unfold orI;split <;> omega
theorem ZgT (a b:Zy_) (w:World) :
 Calls prog 131 #[.string a,.string b] w fun e w'=>e=.returned (.int .i64 (ZcE a b))∧w'=w:=by
 cases h1:Op.bytesLess a.toList b.toList with
 | true=>
  have HE:Hid (ZcE a b= -1):=by unfold Hid ZcE;rw [h1];rfl
  go_enter func131,ntmps131;go_wp2;go_ret;exact⟨ZaG HE.out.symm,rfl⟩
 | false=>
  cases h2:(a.toList == b.toList) with
  | true=>
   have HE:Hid (ZcE a b=0):=by unfold Hid ZcE;rw [h1,h2];rfl
   go_enter func131,ntmps131;go_wp2;go_ret;exact⟨ZaG HE.out.symm,rfl⟩
  | false=>
   have HE:Hid (ZcE a b=1):=by unfold Hid ZcE;rw [h1,h2];rfl
   go_enter func131,ntmps131;go_wp2;go_ret;exact⟨ZaG HE.out.symm,rfl⟩
theorem Zi5 (a:Zy_) (w:World):Calls prog 244 #[.string a] w fun e w'=>e=.returned (.bool false)∧w'=w:=by
 have h:=Zc9 a;go_enter func244,ntmps244;go_wp2;go_ret;exact⟨rfl,rfl⟩
theorem ZfM (a b:Zy_) (w:World) :
 Calls prog 212 #[.string a,.string b] w fun e w'=>e=.returned (.int .i64 (ZcE a b))∧w'=w:=by
 cases h1:Op.bytesLess a.toList b.toList with
 | true=>
  have HE:Hid (ZcE a b= -1):=by unfold Hid ZcE;rw [h1];rfl
  go_enter func212,ntmps212;go_wp2_with (go_at_call 244;refine (Zi5 _ _).mono ?_;rintro e w' ⟨rfl,rfl⟩);go_ret;exact⟨ZaG HE.out.symm,rfl⟩
 | false=>
  cases h2:(a.toList == b.toList) with
  | true=>
   have HE:Hid (ZcE a b=0):=by unfold Hid ZcE;rw [h1,h2];rfl
   go_enter func212,ntmps212;go_wp2_with (go_at_call 244;refine (Zi5 _ _).mono ?_;rintro e w' ⟨rfl,rfl⟩);go_ret;exact⟨ZaG HE.out.symm,rfl⟩
  | false=>
   have HE:Hid (ZcE a b=1):=by unfold Hid ZcE;rw [h1,h2];rfl
   go_enter func212,ntmps212;go_wp2_with (go_at_call 244;refine (Zi5 _ _).mono ?_;rintro e w' ⟨rfl,rfl⟩);go_ret;exact⟨ZaG HE.out.symm,rfl⟩
theorem Zde (a b c d:Zy_) (w:World) :
 Calls prog 73 #[.string a,.string b,.string c,.string d] w fun e w'=>e=.returned (.int .i64 (ZeQ a b c d))∧w'=w:=by
 have hk:=Zq8 a c
 by_cases h0:ZcE a c=0
 · have HE:Hid (ZeQ a b c d=ZcE b d):=by unfold Hid ZeQ orI;rw [if_pos h0]
   have h0':(ZcE a c != 0)=false:=by simp [h0]
   have H0:=Zab h0;clear h0;go_enter func73,ntmps73;go_wp2_with (go_at_call 131;refine (ZgT _ _ _).mono ?_;rintro e w' ⟨rfl,rfl⟩);go_ret;exact⟨ZaG HE.out.symm,rfl⟩
 · have HE:Hid (ZeQ a b c d=ZcE a c):=by unfold Hid ZeQ orI;rw [if_neg h0]
   have h0':(ZcE a c != 0)=true:=by simp [h0]
   clear h0;go_enter func73,ntmps73;go_wp2_with (go_at_call 131;refine (ZgT _ _ _).mono ?_;rintro e w' ⟨rfl,rfl⟩);go_ret;exact⟨ZaG HE.out.symm,rfl⟩
def orL:List Int→Int
 | []=>0
 | x :: r=>if x=0 then orL r else x
theorem ZrE {a b c d e f:Zy_} (h:a≠d):Zjf a b c d e f=ZcE a d:=by
 unfold Zjf orI;rw [if_neg (fun h0=>h (ZdG.1 h0))]
theorem Zr2 {a b c d e f:Zy_} (h:a=d):Zjf a b c d e f=ZeQ b c e f:=by
 unfold Zjf ZeQ;rw [ZdG.2 h]
 rfl
theorem ZpO {L:List Int} {k:Nat} (hk:k < L.length) (h:L[k]=0):orL (L.drop k)=orL (L.drop (k+1)):=by
 rw [List.drop_eq_getElem_cons hk,orL,if_pos h]
theorem Zp8 {L:List Int} {k:Nat} (hk:k < L.length) (h:L[k]≠0):orL (L.drop k)=L[k]:=by
 rw [List.drop_eq_getElem_cons hk,orL,if_neg h]
theorem ZoW (a b:Int):orL [a,b]=orI a b:=by simp only [orL];unfold orI;split <;> (try split) <;> omega
theorem Zpo (a b c:Int):orL [a,b,c]=orI a (orI b c):=by simp only [orL];unfold orI;split <;> (try split) <;> (try split) <;> omega
theorem ZgR (w:World) (b off cap:Nat) (L:List Int) (hm:L.length≤1000) (hc:∀ i (h:i < L.length),w.cell? ⟨b,off+i,none⟩=some (.int .i64 L[i])) :
 Calls prog 211 #[.slice (some ⟨b,off,none⟩) L.length cap] w fun e w'=>e=.returned (.int .i64 (orL L))∧w'=w:=by
 go_enter func211,ntmps211;go_wp2
 go_loop [8] (fun i=>∃ k:Nat,i=.int .i64 k∧k≤L.length∧orL L=orL (L.drop k)) (fun i=>L.length - (intOf i).toNat)
 case atStart=>exact⟨0,rfl,by omega,by simp⟩
 case round=>
  obtain⟨k,rfl,hk,he⟩:=hrel;have HE:=Zab he;clear he
  by_cases hlt:k < L.length
  · have c:=hc k hlt
    by_cases h0:L[k]=0
    · have HS:=Zab (ZpO hlt h0)
      have h0':(L[k] != 0)=false:=by simp [h0]
      clear h0;go_wp2
      go_round
      case rel=>exact⟨k+1,by go_num,by omega,HE.out.trans HS.out⟩
      case measure=>simp [intOf];omega
    · have HS:=Zab (Zp8 hlt h0)
      have h0':(L[k] != 0)=true:=by simp [h0]
      clear h0;go_wp2;go_ret;exact⟨ZaG (by rw [HE.out,HS.out]),rfl⟩
  · have HS:Hid (orL (L.drop k)=0):=by unfold Hid;rw [List.drop_of_length_le (by omega)];rfl
    go_wp2;go_ret;exact⟨ZaG (by rw [HE.out,HS.out]),rfl⟩
theorem ZlC (x y:Ob) (va:Option Addr) (vn vc:Nat) (ha:Option Addr) (hn hc:Nat) (va':Option Addr) (vn' vc':Nat) (ha':Option Addr) (hn' hc':Nat) (w:World) :
 Calls prog 233 #[.agg #[.string x.kd,.string x.nm,.string x.tm,.slice va vn vc,.bool x.en,.slice ha hn hc,.int .i64 x.ver],.agg #[.string y.kd,.string y.nm,.string y.tm,.slice va' vn' vc',.bool y.en,.slice ha' hn' hc',.int .i64 y.ver]] w fun e w'=>e=.returned (.int .i64 (ZeQ x.kd x.nm y.kd y.nm))∧Zw_ w w':=by
 have HO:Hid (orL [ZcE x.kd y.kd,ZcE x.nm y.nm]=ZeQ x.kd x.nm y.kd y.nm):=ZoW _ _;go_enter func233,ntmps233;go_wp2;generalize hWa:(World.alloc (w.alloc _) _)=Wa;have HBa:Hid (Zw_ w Wa):=by rw [← hWa];exact (Zac w _).alloc (by simp) _
 have FA:Hid (Box Wa w.heap.size #[.string x.kd,.string x.nm,.string x.tm,.slice va vn vc,.bool x.en,.slice ha hn hc,.int .i64 x.ver]):=by rw [← hWa];exact (Box.new _ _ _ _ rfl).on (Zac _ _)
 have FB:Hid (Box Wa (w.heap.size+1) #[.string y.kd,.string y.nm,.string y.tm,.slice va' vn' vc',.bool y.en,.slice ha' hn' hc',.int .i64 y.ver]):=by rw [← hWa];exact Box.new _ _ _ _ (by simp)
 clear hWa
 go_region_held3 (ZaC Wa w.heap.size #[.string x.kd,.string x.nm,.string x.tm,.slice va vn vc,.bool x.en,.slice ha hn hc,.int .i64 x.ver] (w.heap.size+1) #[.string y.kd,.string y.nm,.string y.tm,.slice va' vn' vc',.bool y.en,.slice ha' hn' hc',.int .i64 y.ver])
  (first
    | (with_reducible exact ZaC.drew FA.out FB.out)
    | (with_reducible exact ZaC.on (by assumption) Zb_)
    | (with_reducible exact ZaC.on (by assumption) (Zac _ _))
    | (with_reducible exact ZaC.on (by assumption) (by assumption)))
  (first
    | (go_at_call 212
       refine (ZfM _ _ _).mono ?_;rintro e w1 ⟨rfl,rfl⟩)
    | (go_at_call 211
       refine (ZgR _ _ _ _ [ZcE x.kd y.kd,ZcE x.nm y.nm] (by simp) ?_).mono ?_
       · intro i hi
         have hi':i=0∨i=1:=by simp at hi;omega
         rcases hi' with rfl | rfl <;> simp
       rintro e w2 ⟨rfl,rfl⟩))
 go_wp2;go_ret;exact⟨ZaG HO.out,(HBa.out.trans ((Zac _ _).mono HBa.out.size)).drew⟩
theorem ZfY (x y:Le) (w:World) :
 Calls prog 169 #[.agg #[.string x.tm,.string x.re,.int .i64 x.mo,.int .i64 x.fr],.agg #[.string y.tm,.string y.re,.int .i64 y.mo,.int .i64 y.fr]] w fun e w'=>e=.returned (.int .i64 (ZeQ x.tm x.re y.tm y.re))∧Zw_ w w':=by
 have HO:Hid (orL [ZcE x.tm y.tm,ZcE x.re y.re]=ZeQ x.tm x.re y.tm y.re):=ZoW _ _;go_enter func169,ntmps169;go_wp2;generalize hWa:(World.alloc (w.alloc _) _)=Wa;have HBa:Hid (Zw_ w Wa):=by rw [← hWa];exact (Zac w _).alloc (by simp) _
 have FA:Hid (Box Wa w.heap.size #[.string x.tm,.string x.re,.int .i64 x.mo,.int .i64 x.fr]):=by rw [← hWa];exact (Box.new _ _ _ _ rfl).on (Zac _ _)
 have FB:Hid (Box Wa (w.heap.size+1) #[.string y.tm,.string y.re,.int .i64 y.mo,.int .i64 y.fr]):=by rw [← hWa];exact Box.new _ _ _ _ (by simp)
 clear hWa
 go_region_held3 (ZaC Wa w.heap.size #[.string x.tm,.string x.re,.int .i64 x.mo,.int .i64 x.fr] (w.heap.size+1) #[.string y.tm,.string y.re,.int .i64 y.mo,.int .i64 y.fr])
  (first
    | (with_reducible exact ZaC.drew FA.out FB.out)
    | (with_reducible exact ZaC.on (by assumption) Zb_)
    | (with_reducible exact ZaC.on (by assumption) (Zac _ _))
    | (with_reducible exact ZaC.on (by assumption) (by assumption)))
  (first
    | (go_at_call 212
       refine (ZfM _ _ _).mono ?_;rintro e w1 ⟨rfl,rfl⟩)
    | (go_at_call 211
       refine (ZgR _ _ _ _ [ZcE x.tm y.tm,ZcE x.re y.re] (by simp) ?_).mono ?_
       · intro i hi
         have hi':i=0∨i=1:=by simp at hi;omega
         rcases hi' with rfl | rfl <;> simp
       rintro e w2 ⟨rfl,rfl⟩))
 go_wp2;go_ret;exact⟨ZaG HO.out,(HBa.out.trans ((Zac _ _).mono HBa.out.size)).drew⟩
theorem Zmr (x y:Pu) (w:World) :
 Calls prog 172 #[.agg #[.string x.dr,.string x.tm,.string x.re,.int .i64 x.am,.int .i64 x.un],.agg #[.string y.dr,.string y.tm,.string y.re,.int .i64 y.am,.int .i64 y.un]] w fun e w'=>e=.returned (.int .i64 (Zjf x.dr x.tm x.re y.dr y.tm y.re))∧Zw_ w w':=by
 have HO:Hid (orL [ZcE x.dr y.dr,ZcE x.tm y.tm,ZcE x.re y.re]=Zjf x.dr x.tm x.re y.dr y.tm y.re):=Zpo _ _ _;go_enter func172,ntmps172;go_wp2;generalize hWa:(World.alloc (w.alloc _) _)=Wa;have HBa:Hid (Zw_ w Wa):=by rw [← hWa];exact (Zac w _).alloc (by simp) _
 have FA:Hid (Box Wa w.heap.size #[.string x.dr,.string x.tm,.string x.re,.int .i64 x.am,.int .i64 x.un]):=by rw [← hWa];exact (Box.new _ _ _ _ rfl).on (Zac _ _)
 have FB:Hid (Box Wa (w.heap.size+1) #[.string y.dr,.string y.tm,.string y.re,.int .i64 y.am,.int .i64 y.un]):=by rw [← hWa];exact Box.new _ _ _ _ (by simp)
 clear hWa
 go_region_held3 (ZaC Wa w.heap.size #[.string x.dr,.string x.tm,.string x.re,.int .i64 x.am,.int .i64 x.un] (w.heap.size+1) #[.string y.dr,.string y.tm,.string y.re,.int .i64 y.am,.int .i64 y.un])
  (first
    | (with_reducible exact ZaC.drew FA.out FB.out)
    | (with_reducible exact ZaC.on (by assumption) Zb_)
    | (with_reducible exact ZaC.on (by assumption) (Zac _ _))
    | (with_reducible exact ZaC.on (by assumption) (by assumption)))
  (first
    | (go_at_call 212
       refine (ZfM _ _ _).mono ?_;rintro e w1 ⟨rfl,rfl⟩)
    | (go_at_call 211
       refine (ZgR _ _ _ _ [ZcE x.dr y.dr,ZcE x.tm y.tm,ZcE x.re y.re] (by simp) ?_).mono ?_
       · intro i hi
         have hi':i=0∨i=1∨i=2:=by simp at hi;omega
         rcases hi' with rfl | rfl | rfl <;> simp
       rintro e w2 ⟨rfl,rfl⟩))
 go_wp2;go_ret;exact⟨ZaG HO.out,(HBa.out.trans ((Zac _ _).mono HBa.out.size)).drew⟩
theorem Zcl (x y:Pu) (w:World) :
 Calls prog 99 #[.agg #[.string x.dr,.string x.tm,.string x.re,.int .i64 x.am,.int .i64 x.un],.agg #[.string y.dr,.string y.tm,.string y.re,.int .i64 y.am,.int .i64 y.un]] w fun e w'=>e=.returned (.int .i64 (Zjf x.dr x.tm x.re y.dr y.tm y.re))∧Zw_ w w':=by
 have HW:∀ o o',Hid (Zw_ w ((w.alloc o).alloc o')):=fun o o'=>(Zb_.alloc Zl_ _).alloc (by simp) _
 cases h:(x.dr.toList == y.dr.toList) with
 | true=>
  have HE:=Zab (Zr2 (b:=x.tm) (c:=x.re) (e:=y.tm) (f:=y.re) (ZaR.1 h));go_enter func99,ntmps99;go_wp2_with (go_at_call 73;refine (Zde _ _ _ _ _).mono ?_;rintro e w' ⟨rfl,rfl⟩);go_ret;exact⟨ZaG HE.out.symm,(HW _ _).out⟩
 | false=>
  have HE:=Zab (ZrE (b:=x.tm) (c:=x.re) (e:=y.tm) (f:=y.re) (Zfw.1 h));go_enter func99,ntmps99;go_wp2_with (go_at_call 131;refine (ZgT _ _ _).mono ?_;rintro e w' ⟨rfl,rfl⟩);go_ret;exact⟨ZaG HE.out.symm,(HW _ _).out⟩
def ZoK (a b:Int):Int:=if a < b then -1 else if b < a then 1 else 0
theorem ZqA {a b:Int}:ZoK a b < 0↔a < b:=by unfold ZoK;split <;> (try split) <;> omega
theorem ZiF (a:Int) (w:World):Calls prog 281 #[.int .i64 a] w fun e w'=>e=.returned (.bool false)∧w'=w:=by
 go_enter func281,ntmps281;go_wp2;go_ret;exact⟨rfl,rfl⟩
theorem Znr (a b:Int) (w:World) :
 Calls prog 267 #[.int .i64 a,.int .i64 b] w fun e w'=>e=.returned (.int .i64 (ZoK a b))∧w'=w:=by
 by_cases h1:a < b
 · have HE:Hid (ZoK a b= -1):=if_pos h1
   go_enter func267,ntmps267;go_wp2_with (go_at_call 281;refine (ZiF _ _).mono ?_;rintro e w' ⟨rfl,rfl⟩);go_ret;exact⟨ZaG HE.out.symm,rfl⟩
 · by_cases h2:b < a
   · have HE:Hid (ZoK a b=1):=by unfold Hid ZoK;rw [if_neg h1,if_pos h2]
     go_enter func267,ntmps267;go_wp2_with (go_at_call 281;refine (ZiF _ _).mono ?_;rintro e w' ⟨rfl,rfl⟩);go_ret;exact⟨ZaG HE.out.symm,rfl⟩
   · have HE:Hid (ZoK a b=0):=by unfold Hid ZoK;rw [if_neg h1,if_neg h2]
     go_enter func267,ntmps267;go_wp2_with (go_at_call 281;refine (ZiF _ _).mono ?_;rintro e w' ⟨rfl,rfl⟩);go_ret;exact⟨ZaG HE.out.symm,rfl⟩
theorem Znw (x y:Gr) (va:Option Addr) (vn vc:Nat) (va':Option Addr) (vn' vc':Nat) (w:World) :
 Calls prog 238 #[.agg #[.int .i64 x.nu,.string x.tw,.string x.gb,.slice va vn vc,.string x.kd,.string x.tm,.string x.pf],.agg #[.int .i64 y.nu,.string y.tw,.string y.gb,.slice va' vn' vc',.string y.kd,.string y.tm,.string y.pf]] w fun e w'=>e=.returned (.int .i64 (ZoK x.nu y.nu))∧Zw_ w w':=by
 go_enter func238,ntmps238;go_wp2_with (go_at_call 267;refine (Znr _ _ _).mono ?_;rintro e w' ⟨rfl,rfl⟩);go_ret;exact⟨rfl,(Zb_.alloc Zl_ _).alloc (by simp) _⟩
theorem ZaU (n lo hi:Int) (w:World) :
 Calls prog 111 #[.int .i64 n,.int .i64 lo,.int .i64 hi] w fun e w'=>e=.returned (.bool (inB lo hi n))∧w'=w:=by
 rw [Zej]
 by_cases h:lo≤n
 · by_cases h2:n≤hi
   · go_enter func111,ntmps111
     go_wp2;go_ret;exact⟨by rw [decide_eq_true h,decide_eq_true h2];rfl,rfl⟩
   · go_enter func111,ntmps111
     go_wp2;go_ret;exact⟨by simp [h2],rfl⟩
 · go_enter func111,ntmps111
   go_wp2;go_ret;exact⟨by rw [decide_eq_false (show ¬ lo≤n by omega)];rfl,rfl⟩
def ZcI {X:Type} (c:X→X→Int) (L:List X):Nat→Bool
 | 0=>true
 | j+1=>match L[j]?,L[j+1]? with
  | some x,some y=>decide (c x y < 0)
  | _,_=>true
def ZcO {X:Type} (c:X→X→Int) (L:List X):Bool:=(List.range L.length).all (ZcI c L)
theorem ZdA {X:Type} {c:X→X→Int} {L:List X} {j:Nat} (h:j+1 < L.length):ZcI c L (j+1)=decide (c L[j] L[j+1] < 0):=by
 show (match L[j]?,L[j+1]? with | some x,some y=>decide (c x y < 0) | _,_=>true)=_
 rw [List.getElem?_eq_getElem (by omega),List.getElem?_eq_getElem h]
def ZgF (x y:Ob):Int:=ZeQ x.kd x.nm y.kd y.nm
def ZgD (x y:Gr):Int:=ZoK x.nu y.nu
def Zcn (x y:Le):Int:=ZeQ x.tm x.re y.tm y.re
def ZfA (x y:Pu):Int:=Zjf x.dr x.tm x.re y.dr y.tm y.re
theorem Zmx (lo:Nat) (v:Value) (Xl:List Ob) (w:World) (hv:Zbs lo w v Xl) :
 Calls prog 232 #[v,.func (.func 233) #[] #[]] w fun e w'=>e=.returned (.bool (ZcO ZgF Xl))∧Zw_ w w':=by
 have HV:=Zab hv;have hm:=hv.max;unfold maxLen at hm;obtain⟨a,cap,rfl⟩:=hv.form;clear hv;go_enter func232,ntmps232;go_wp2
 go_loopw [5] (fun i wr=>∃ m:Nat,i=.int .i64 m∧1≤m∧(m≤Xl.length∨m=1)∧Zw_ w wr∧∀ j,j < m→ZcI ZgF Xl j=true) (fun i _=>Xl.length+1 - (intOf i).toNat)
 case atStart=>exact⟨1,rfl,Nat.le_refl _,Or.inr rfl,Below.refl _ _,fun j hj=>by rw [show j=0 by omega];rfl⟩
 case round=>
  obtain⟨m,rfl,hm1,hk,hb,hall⟩:=hrel;have HB:=Zab hb;have HA:=Zab hall;clear hb hall
  by_cases hlt:m < Xl.length
  · obtain⟨k,hkm⟩:∃ k,m=k+1:=⟨m - 1,by omega⟩
    have hlt0:k < Xl.length:=by omega
    obtain⟨b,off,rfl,hbw,-,hc⟩:=HV.out.full' (by omega);obtain⟨hs,vv0,vv1,hcell,hv0,hv1⟩:=hc k hlt0;obtain⟨ht,vv0',vv1',hdell,hw0,hw1⟩:=hc m hlt;obtain⟨va0,vc0,rfl⟩:=hv0.at.form';obtain⟨va1,vc1,rfl⟩:=hv1.at.form';obtain⟨vb0,vd0,rfl⟩:=hw0.at.form';obtain⟨vb1,vd1,rfl⟩:=hw1.at.form';obtain⟨c0,c1,c2,c3,c4,c5,c6⟩:=hcell.below HB.out hbw;obtain⟨d0,d1,d2,d3,d4,d5,d6⟩:=hdell.below HB.out hbw
    have HS:Hid (ZcI ZgF Xl m=decide (ZgF Xl[k] Xl[m] < 0)):=by
     subst hkm;exact ZdA hlt
    have e2:IntKind.i64.wrap ((m:Int) - 1)=k:=by rw [IntWalk.i64_left];unfold wrap64;omega
    have HKM:=Zab hkm;clear hc hcell hdell hs ht hkm hk hv0 hw0 hv1 hw1;go_wp2
    go_region_with (go_at_call 233;refine (ZlC Xl[k] Xl[m] _ _ _ _ _ _ _ _ _ _ _ _ _).mono ?_;rintro e w1 ⟨rfl,hb1⟩;have hB:Hid (Zw_ w w1):=(HB.out.drew).trans (hb1.mono HB.out.size);clear hb1)
    all_goals by_cases hq:0≤ZeQ Xl[k].kd Xl[k].nm Xl[m].kd Xl[m].nm
    all_goals first
     | (have HN:Hid (ZcO ZgF Xl=false):=Za1 hlt (HS.out.trans (decide_eq_false (by unfold ZgF;omega)))
        go_wp2;go_ret;exact⟨Zaa HN.out.symm,hB.out⟩)
     | (have HT:Hid (ZcI ZgF Xl m=true):=HS.out.trans (decide_eq_true (by unfold ZgF;omega))
        go_wp2;go_roundw
        case rel=>exact⟨m+1,by go_num,by omega,by omega,hB.out,fun j hj=>by
                   by_cases e:j=m
                   · rw [e];exact HT.out
                   · exact HA.out j (by omega)⟩
        case measure=>simp [intOf];omega)
  · have HT:Hid (ZcO ZgF Xl=true):=Za6 (fun i hi=>HA.out i (by omega))
    go_wp2;go_ret;exact⟨Zaa HT.out.symm,HB.out⟩
theorem ZmP (lo:Nat) (v:Value) (Xl:List Gr) (w:World) (hv:ZbY lo w v Xl) :
 Calls prog 237 #[v,.func (.func 238) #[] #[]] w fun e w'=>e=.returned (.bool (ZcO ZgD Xl))∧Zw_ w w':=by
 have HV:=Zab hv;have hm:=hv.max;unfold maxLen at hm;obtain⟨a,cap,rfl⟩:=hv.form;clear hv;go_enter func237,ntmps237;go_wp2
 go_loopw [5] (fun i wr=>∃ m:Nat,i=.int .i64 m∧1≤m∧(m≤Xl.length∨m=1)∧Zw_ w wr∧∀ j,j < m→ZcI ZgD Xl j=true) (fun i _=>Xl.length+1 - (intOf i).toNat)
 case atStart=>exact⟨1,rfl,Nat.le_refl _,Or.inr rfl,Below.refl _ _,fun j hj=>by rw [show j=0 by omega];rfl⟩
 case round=>
  obtain⟨m,rfl,hm1,hk,hb,hall⟩:=hrel;have HB:=Zab hb;have HA:=Zab hall;clear hb hall
  by_cases hlt:m < Xl.length
  · obtain⟨k,hkm⟩:∃ k,m=k+1:=⟨m - 1,by omega⟩
    have hlt0:k < Xl.length:=by omega
    obtain⟨b,off,rfl,hbw,-,hc⟩:=HV.out.full' (by omega);obtain⟨hs,vv0,hcell,hv0⟩:=hc k hlt0;obtain⟨ht,vv0',hdell,hw0⟩:=hc m hlt;obtain⟨va0,vc0,rfl⟩:=hv0.form;obtain⟨vb0,vd0,rfl⟩:=hw0.form;obtain⟨c0,c1,c2,c3,c4,c5,c6⟩:=hcell.below HB.out hbw;obtain⟨d0,d1,d2,d3,d4,d5,d6⟩:=hdell.below HB.out hbw
    have HS:Hid (ZcI ZgD Xl m=decide (ZgD Xl[k] Xl[m] < 0)):=by
     subst hkm;exact ZdA hlt
    have e2:IntKind.i64.wrap ((m:Int) - 1)=k:=by rw [IntWalk.i64_left];unfold wrap64;omega
    have HKM:=Zab hkm;clear hc hcell hdell hs ht hkm hk hv0 hw0;go_wp2
    go_region_with (go_at_call 238;refine (Znw Xl[k] Xl[m] _ _ _ _ _ _ _).mono ?_;rintro e w1 ⟨rfl,hb1⟩;have hB:Hid (Zw_ w w1):=(HB.out.drew).trans (hb1.mono HB.out.size);clear hb1)
    all_goals by_cases hq:0≤ZoK Xl[k].nu Xl[m].nu
    all_goals first
     | (have HN:Hid (ZcO ZgD Xl=false):=Za1 hlt (HS.out.trans (decide_eq_false (by unfold ZgD;omega)))
        go_wp2;go_ret;exact⟨Zaa HN.out.symm,hB.out⟩)
     | (have HT:Hid (ZcI ZgD Xl m=true):=HS.out.trans (decide_eq_true (by unfold ZgD;omega))
        go_wp2;go_roundw
        case rel=>exact⟨m+1,by go_num,by omega,by omega,hB.out,fun j hj=>by
                   by_cases e:j=m
                   · rw [e];exact HT.out
                   · exact HA.out j (by omega)⟩
        case measure=>simp [intOf];omega)
  · have HT:Hid (ZcO ZgD Xl=true):=Za6 (fun i hi=>HA.out i (by omega))
    go_wp2;go_ret;exact⟨Zaa HT.out.symm,HB.out⟩
theorem Zmz (lo:Nat) (v:Value) (Xl:List Le) (w:World) (hv:ZbB lo w v Xl) :
 Calls prog 241 #[v,.func (.func 169) #[] #[]] w fun e w'=>e=.returned (.bool (ZcO Zcn Xl))∧Zw_ w w':=by
 have HV:=Zab hv;have hm:=hv.max;unfold maxLen at hm;obtain⟨a,cap,rfl⟩:=hv.form;clear hv;go_enter func241,ntmps241;go_wp2
 go_loopw [5] (fun i wr=>∃ m:Nat,i=.int .i64 m∧1≤m∧(m≤Xl.length∨m=1)∧Zw_ w wr∧∀ j,j < m→ZcI Zcn Xl j=true) (fun i _=>Xl.length+1 - (intOf i).toNat)
 case atStart=>exact⟨1,rfl,Nat.le_refl _,Or.inr rfl,Below.refl _ _,fun j hj=>by rw [show j=0 by omega];rfl⟩
 case round=>
  obtain⟨m,rfl,hm1,hk,hb,hall⟩:=hrel;have HB:=Zab hb;have HA:=Zab hall;clear hb hall
  by_cases hlt:m < Xl.length
  · obtain⟨k,hkm⟩:∃ k,m=k+1:=⟨m - 1,by omega⟩
    have hlt0:k < Xl.length:=by omega
    obtain⟨b,off,rfl,hbw,-,hc⟩:=HV.out.full' (by omega);obtain⟨hs,hcell⟩:=hc k hlt0;obtain⟨ht,hdell⟩:=hc m hlt;obtain⟨c0,c1,c2,c3⟩:=hcell.below HB.out hbw;obtain⟨d0,d1,d2,d3⟩:=hdell.below HB.out hbw
    have HS:Hid (ZcI Zcn Xl m=decide (Zcn Xl[k] Xl[m] < 0)):=by
     subst hkm;exact ZdA hlt
    have e2:IntKind.i64.wrap ((m:Int) - 1)=k:=by rw [IntWalk.i64_left];unfold wrap64;omega
    have HKM:=Zab hkm;clear hc hcell hdell hs ht hkm hk;go_wp2
    go_region_with (go_at_call 169;refine (ZfY Xl[k] Xl[m] _).mono ?_;rintro e w1 ⟨rfl,hb1⟩;have hB:Hid (Zw_ w w1):=(HB.out.drew).trans (hb1.mono HB.out.size);clear hb1)
    all_goals by_cases hq:0≤ZeQ Xl[k].tm Xl[k].re Xl[m].tm Xl[m].re
    all_goals first
     | (have HN:Hid (ZcO Zcn Xl=false):=Za1 hlt (HS.out.trans (decide_eq_false (by unfold Zcn;omega)))
        go_wp2;go_ret;exact⟨Zaa HN.out.symm,hB.out⟩)
     | (have HT:Hid (ZcI Zcn Xl m=true):=HS.out.trans (decide_eq_true (by unfold Zcn;omega))
        go_wp2;go_roundw
        case rel=>exact⟨m+1,by go_num,by omega,by omega,hB.out,fun j hj=>by
                   by_cases e:j=m
                   · rw [e];exact HT.out
                   · exact HA.out j (by omega)⟩
        case measure=>simp [intOf];omega)
  · have HT:Hid (ZcO Zcn Xl=true):=Za6 (fun i hi=>HA.out i (by omega))
    go_wp2;go_ret;exact⟨Zaa HT.out.symm,HB.out⟩
theorem Zmp (lo:Nat) (v:Value) (Xl:List Pu) (w:World) (hv:ZbK lo w v Xl) :
 Calls prog 242 #[v,.func (.func 172) #[] #[]] w fun e w'=>e=.returned (.bool (ZcO ZfA Xl))∧Zw_ w w':=by
 have HV:=Zab hv;have hm:=hv.max;unfold maxLen at hm;obtain⟨a,cap,rfl⟩:=hv.form;clear hv;go_enter func242,ntmps242;go_wp2
 go_loopw [5] (fun i wr=>∃ m:Nat,i=.int .i64 m∧1≤m∧(m≤Xl.length∨m=1)∧Zw_ w wr∧∀ j,j < m→ZcI ZfA Xl j=true) (fun i _=>Xl.length+1 - (intOf i).toNat)
 case atStart=>exact⟨1,rfl,Nat.le_refl _,Or.inr rfl,Below.refl _ _,fun j hj=>by rw [show j=0 by omega];rfl⟩
 case round=>
  obtain⟨m,rfl,hm1,hk,hb,hall⟩:=hrel;have HB:=Zab hb;have HA:=Zab hall;clear hb hall
  by_cases hlt:m < Xl.length
  · obtain⟨k,hkm⟩:∃ k,m=k+1:=⟨m - 1,by omega⟩
    have hlt0:k < Xl.length:=by omega
    obtain⟨b,off,rfl,hbw,-,hc⟩:=HV.out.full' (by omega);obtain⟨hs,hcell⟩:=hc k hlt0;obtain⟨ht,hdell⟩:=hc m hlt;obtain⟨c0,c1,c2,c3,c4⟩:=hcell.below HB.out hbw;obtain⟨d0,d1,d2,d3,d4⟩:=hdell.below HB.out hbw
    have HS:Hid (ZcI ZfA Xl m=decide (ZfA Xl[k] Xl[m] < 0)):=by
     subst hkm;exact ZdA hlt
    have e2:IntKind.i64.wrap ((m:Int) - 1)=k:=by rw [IntWalk.i64_left];unfold wrap64;omega
    have HKM:=Zab hkm;clear hc hcell hdell hs ht hkm hk;go_wp2
    go_region_with (go_at_call 172;refine (Zmr Xl[k] Xl[m] _).mono ?_;rintro e w1 ⟨rfl,hb1⟩;have hB:Hid (Zw_ w w1):=(HB.out.drew).trans (hb1.mono HB.out.size);clear hb1)
    all_goals by_cases hq:0≤Zjf Xl[k].dr Xl[k].tm Xl[k].re Xl[m].dr Xl[m].tm Xl[m].re
    all_goals first
     | (have HN:Hid (ZcO ZfA Xl=false):=Za1 hlt (HS.out.trans (decide_eq_false (by unfold ZfA;omega)))
        go_wp2;go_ret;exact⟨Zaa HN.out.symm,hB.out⟩)
     | (have HT:Hid (ZcI ZfA Xl m=true):=HS.out.trans (decide_eq_true (by unfold ZfA;omega))
        go_wp2;go_roundw
        case rel=>exact⟨m+1,by go_num,by omega,by omega,hB.out,fun j hj=>by
                   by_cases e:j=m
                   · rw [e];exact HT.out
                   · exact HA.out j (by omega)⟩
        case measure=>simp [intOf];omega)
  · have HT:Hid (ZcO ZfA Xl=true):=Za6 (fun i hi=>HA.out i (by omega))
    go_wp2;go_ret;exact⟨Zaa HT.out.symm,HB.out⟩
end Go.Proofs.YtfohnageehneoaaGreat
