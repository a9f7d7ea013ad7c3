import Derived.Test.YtcfjmagkinpaeaaGreatRows
import Derived.WalkKit
import Derived.WalkSpells
import Derived.WalkLawsBesides
import Derived.Deep.QuietTactic
import Derived.BigQuiet
import Derived.Deep.OwnRows
set_option maxHeartbeats 16000000
set_option maxRecDepth 100000
open Go.Proofs.Tryz
namespace Go.Proofs.YtcfjmagkinpaeaaGreat
open Go.RowKit
theorem Zl_{n:Nat}:n≤n:=Nat.le_refl n
theorem Zb_{n:Nat}{w:World}:Below n w w:=Below.refl n w
theorem Zz_{n:Nat}:0≤n:=Nat.zero_le n
theorem Zk_{a b c:Nat}(h:a<b)(k:b≤c):a<c:=Nat.lt_of_lt_of_le h k
abbrev Zy_:=ByteArray
@[simp] abbrev Zw_(w w_1:World):Prop:=Below w.heap.size w w_1
theorem Zab {p:Prop} (h:p):Hid p:=h
def inB (lo hi n:Int):Bool:=decide (lo≤n∧n≤hi)
theorem ZeN (lo hi n:Int):inB lo hi n=(decide (lo≤n)&&decide (n≤hi)):=by unfold inB;simp
theorem Zaa {a b:Bool} (h:a=b):Ending.returned (.bool a)=.returned (.bool b):=by rw [h]
theorem Zal (n lo hi:Int) (w:World) :
 Calls prog 54 #[.int .i64 n,.int .i64 lo,.int .i64 hi] w fun e w'=>e=.returned (.bool (inB lo hi n))∧w'=w:=by
 rw [ZeN]
 by_cases h1:lo≤n
 · by_cases h2:n≤hi
   all_goals
    go_enter func54,ntmps54;go_wp2;go_ret;exact⟨Zaa (by simp [h1,h2]),rfl⟩
 · go_enter func54,ntmps54
   go_wp2;go_ret;refine⟨Zaa ?_,rfl⟩;rw [Bool.eq_iff_iff];simp;omega
def Zas (c:UInt8):Bool:=decide (97≤c.toNat∧c.toNat≤122∨48≤c.toNat∧c.toNat≤57∨c.toNat=45)
theorem Zct (c:UInt8) (w:World) :
 Calls prog 112 #[.int .u8 c.toNat] w fun e w'=>e=.returned (.bool (Zas c))∧w'=w:=by
 have hc:=c.toNat_lt;generalize hb:Zas c=b;have hb':b=decide (97≤c.toNat∧c.toNat≤122∨48≤c.toNat∧c.toNat≤57∨c.toNat=45):=by rw [← hb];rfl
 clear hb;generalize c.toNat=x at*;have H:Hid (b=decide (97≤x∧x≤122∨48≤x∧x≤57∨x=45)):=hb';clear hb';go_enter func112,ntmps112;go_wp2
 all_goals go_ret
 all_goals refine⟨Zaa ?_,rfl⟩
 all_goals rw [H.out]
 all_goals (rw [Bool.eq_iff_iff];simp;omega)
def Zfs (p:UInt8→Bool) (s:Zy_):Bool:=s.data.toList.all p
theorem ZgZ (s:Zy_) (k:Nat) (h:k < s.size):s.data.toList.take (k+1)=s.data.toList.take k ++ [s[k]]:=by
 rw [List.take_succ_eq_append_getElem (by simpa using h)];rfl
theorem Zb7 {p:UInt8→Bool} {s:Zy_} {k:Nat} (h:k < s.size) (hp:p s[k]=false):Zfs p s=false:=by
 unfold Zfs;rw [List.all_eq_false];exact⟨s[k],by simp only [Array.mem_toList_iff];exact Array.getElem_mem h,by simp [hp]⟩
theorem ZcF {p:UInt8→Bool} {s:Zy_} {k:Nat} (h:(s.data.toList.take k).all p=true) (hk:s.size≤k):Zfs p s=true:=by
 unfold Zfs
 rwa [List.take_of_length_le (by simpa using hk)] at h
theorem Zb6 {p:UInt8→Bool} {s:Zy_} {k:Nat} (h:(s.data.toList.take k).all p=true) (hk:k < s.size) (hp:p s[k]=true):(s.data.toList.take (k+1)).all p=true:=by
 rw [ZgZ s k hk,List.all_append,h];simp [hp]
theorem Zjq (c:UInt8):Zas c=true↔(97≤(c.toNat:Int)∧(c.toNat:Int)≤122∨48≤(c.toNat:Int)∧(c.toNat:Int)≤57∨(c.toNat:Int)=45):=by
 unfold Zas;simp;omega
theorem Zfk (s:Zy_) (w:World) (hs:s.size≤maxLen) :
 Calls prog 173 #[.string s] w fun e w'=>e=.returned (.bool (Zfs Zas s))∧w'=w:=by
 unfold maxLen at hs;go_enter func173,ntmps173;go_wp2
 go_loop [7] (fun i=>∃ k:Nat,k≤s.size∧i=.int .i64 k∧(s.data.toList.take k).all Zas=true) (fun i=>s.size - (intOf i).toNat)
 case atStart=>exact⟨0,Nat.zero_le _,rfl,rfl⟩
 case round=>
  obtain⟨k,hk,rfl,hall⟩:=hrel;have HA:Hid ((s.data.toList.take k).all Zas=true):=hall;clear hall
  by_cases hlt:k < s.size
  · have hsn:=Zjq s[k]
    have HS:Hid (Zas s[k]=true↔(97≤(s[k].toNat:Int)∧(s[k].toNat:Int)≤122∨48≤(s[k].toNat:Int)∧(s[k].toNat:Int)≤57∨(s[k].toNat:Int)=45)):=hsn;clear hsn;go_wp2
    all_goals try simp only [bne_iff_ne,ne_eq,bne_eq_false_iff_eq] at*
    all_goals first
     | (go_round
        case rel=>exact⟨k+1,by omega,by go_num,Zb6 HA.out hlt (HS.out.2 (by omega))⟩
        case measure=>simp [intOf];omega)
     | (go_ret
        exact⟨Zaa (Zb7 hlt (Bool.eq_false_iff.2 fun h=>by have:=HS.out.1 h;omega)).symm,rfl⟩)
  · go_wp2
    go_ret;exact⟨Zaa (ZcF HA.out (by omega)).symm,rfl⟩
def Zaj (s:Zy_):Bool:=inB 1 16 s.size&&Zfs Zas s
theorem Zag (s:Zy_) (w:World) (hs:s.size≤maxLen) :
 Calls prog 118 #[.string s] w fun e w'=>e=.returned (.bool (Zaj s))∧w'=w:=by
 have hk:=Zfk s w hs;unfold maxLen at hs
 by_cases h1:1≤(s.size:Int)
 · by_cases h2:(s.size:Int)≤16
   · have HB:Hid (Zaj s=Zfs Zas s):=by unfold Hid Zaj inB;simp;intro h;omega
     go_enter func118,ntmps118;go_wp2_with (go_at_call 173;refine hk.mono ?_;rintro e w' ⟨rfl,rfl⟩);go_ret;exact⟨Zaa HB.out.symm,rfl⟩
   · have HB:Hid (Zaj s=false):=by unfold Hid Zaj inB;simp;intro h;omega
     go_enter func118,ntmps118;go_wp2;go_ret;exact⟨Zaa HB.out.symm,rfl⟩
 · have HB:Hid (Zaj s=false):=by unfold Hid Zaj inB;simp;intro h;omega
   go_enter func118,ntmps118;go_wp2;go_ret;exact⟨Zaa HB.out.symm,rfl⟩
theorem Zad (s:Zy_) (w:World) (hs:s.size≤maxLen) :
 Calls prog 58 #[.string s] w fun e w'=>e=.returned (.bool (Zaj s))∧w'=w:=by
 unfold maxLen at hs
 by_cases h1:inB 1 16 s.size=true
 · have HB:Hid (Zaj s=Zfs Zas s):=by unfold Hid Zaj;simp [h1]
   go_enter func58,ntmps58;go_wp2_with (go_at_call 54;refine (Zal _ _ _ _).mono ?_;rintro e w' ⟨rfl,rfl⟩)
   go_loop [3] (fun i=>∃ k:Nat,k≤s.size∧i=.int .i64 k∧(s.data.toList.take k).all Zas=true) (fun i=>s.size - (intOf i).toNat)
   case atStart=>exact⟨0,Nat.zero_le _,rfl,rfl⟩
   case round=>
    obtain⟨k,hk,rfl,hall⟩:=hrel;have HA:Hid ((s.data.toList.take k).all Zas=true):=hall;clear hall
    by_cases hlt:k < s.size
    · by_cases hn:Zas s[k]=true
      · go_wp2_with (go_at_call 112;refine (Zct _ _).mono ?_;rintro e w' ⟨rfl,rfl⟩)
        go_round
        case rel=>exact⟨k+1,by omega,by go_num,Zb6 HA.out hlt hn⟩
        case measure=>simp [intOf];omega
      · have hn':Zas s[k]=false:=by simpa using hn
        go_wp2_with (go_at_call 112;refine (Zct _ _).mono ?_;rintro e w' ⟨rfl,rfl⟩);go_ret;exact⟨Zaa (by rw [HB.out,Zb7 hlt hn']),rfl⟩
    · go_wp2
      go_ret;exact⟨Zaa (by rw [HB.out,ZcF HA.out (by omega)]),rfl⟩
 · have h1':inB 1 16 s.size=false:=by simpa using h1
   have HB:Hid (Zaj s=false):=by unfold Hid Zaj;simp [h1']
   go_enter func58,ntmps58;go_wp2_with (go_at_call 54;refine (Zal _ _ _ _).mono ?_;rintro e w' ⟨rfl,rfl⟩);go_ret;exact⟨Zaa HB.out.symm,rfl⟩
theorem Zaz {a b:Int} (h:a=b):Ending.returned (.int .i64 a)=.returned (.int .i64 b):=by rw [h]
def ZcP (c:UInt8):Bool:=decide (48≤c.toNat∧c.toNat≤57)
theorem Zec (c:UInt8):ZcP c=true↔(48≤(c.toNat:Int)∧(c.toNat:Int)≤57):=by
 unfold ZcP;simp;omega
def ZcI (l:List UInt8):Int:=l.foldl (fun n c=>10*n+((c.toNat:Int) - 48)) 0
theorem ZmP (l:List UInt8) (c:UInt8):ZcI (l ++ [c])=10*ZcI l+((c.toNat:Int) - 48):=by
 unfold ZcI;rw [List.foldl_append];rfl
theorem ZbM (s:Zy_) (k:Nat) (h:k < s.size):ZcI (s.data.toList.take (k+1))=10*ZcI (s.data.toList.take k)+((s[k].toNat:Int) - 48):=by
 rw [ZgZ s k h,ZmP]
theorem ZeP (s:Zy_) (k:Nat):k≤s.size→(s.data.toList.take k).all ZcP=true→0≤ZcI (s.data.toList.take k)∧ZcI (s.data.toList.take k) < 10 ^ k:=by
 induction k with
 | zero=>intro _ _;simp [ZcI]
 | succ k ih=>
  intro hk h;rw [ZgZ s k (by omega),List.all_append] at h;simp only [Bool.and_eq_true,List.all_cons,List.all_nil,Bool.and_true] at h;obtain⟨i1,i2⟩:=ih (by omega) h.1;have hd:=(Zec _).1 h.2;rw [ZbM s k (by omega),Int.pow_succ]
  omega
theorem Zci (s:Zy_) (k:Nat) (hk:k≤s.size) (h7:s.size≤7) (h:(s.data.toList.take k).all ZcP=true):0≤ZcI (s.data.toList.take k)∧ZcI (s.data.toList.take k) < 10000000:=by
 obtain⟨h0,h1⟩:=ZeP s k hk h;refine⟨h0,?_⟩;have:k=0∨k=1∨k=2∨k=3∨k=4∨k=5∨k=6∨k=7:=by omega
 generalize ZcI (s.data.toList.take k)=v at*
 rcases this with rfl | rfl | rfl | rfl | rfl | rfl | rfl | rfl <;> simp at h1 <;> omega
def Zfh (s:Zy_):Bool:=!(decide (1 < s.size)&&(s.data.toList.head? == some 48))
theorem ZnA (s:Zy_) (h:0 < s.size):s.data.toList.head?=some s[0]:=by
 have:0 < s.data.toList.length:=by simpa using h
 rw [List.head?_eq_getElem?,List.getElem?_eq_getElem this];rfl
theorem ZhA (s:Zy_) (h:0 < s.size) (h1:1 < s.size) (hz:((s[0].toNat:Int) == 48)=true):Zfh s=false:=by
 have e:s[0]=48:=by
  have h48:(s[0].toNat:Int)=48:=by simpa using hz
  exact UInt8.toNat_inj.1 (by show s[0].toNat=48;omega)
 unfold Zfh;rw [ZnA s h,e];simp [h1]
theorem Zgy (s:Zy_) (h:0 < s.size) (hz:((s[0].toNat:Int) == 48)=false):Zfh s=true:=by
 have e:s[0]≠48:=by
  intro e;rw [e] at hz;simp at hz
 unfold Zfh;rw [ZnA s h];simp [e]
theorem ZhB (s:Zy_) (h:s.size≤1):Zfh s=true:=by
 unfold Zfh;simp;omega
def Zea (s:Zy_):Bool:=inB 1 7 s.size&&Zfh s&&Zfs ZcP s
def Znh (s:Zy_):Int:=ZcI s.data.toList
def Zk9 (s:Zy_):Int:=if Zea s=true then Znh s else -1
theorem Zj2 {s:Zy_} (h1:inB 1 7 s.size=true) (h2:Zfh s=true):Zea s=Zfs ZcP s:=by unfold Zea;simp [h1,h2]
theorem ZgM {s:Zy_} (h:Zea s=false):Zk9 s= -1:=by unfold Zk9;simp [h]
theorem Ziz {s:Zy_} (h:Zea s=true):Zk9 s=Znh s:=by unfold Zk9;simp [h]
theorem Zdv {s:Zy_} {k:Nat} (h:s.size≤k):ZcI (s.data.toList.take k)=Znh s:=by
 unfold Znh;rw [List.take_of_length_le (by simpa using h)]
theorem Zbg (s:Zy_) (w:World) (hs:s.size≤maxLen) :
 Calls prog 203 #[.string s] w fun e w'=>e=.returned (.int .i64 (Zk9 s))∧w'=w:=by
 unfold maxLen at hs
 by_cases h1:inB 1 7 s.size=true
 · have hb:1≤s.size∧s.size≤7:=by have:=h1;unfold inB at this;simp at this;omega
   obtain⟨hb1,hb2⟩:=hb;have hb0:0 < s.size:=by omega
   have fin:∀ (hh:Hid (Zfh s=true)),Hid (Zea s=Zfs ZcP s):=fun hh=>Zj2 h1 hh.out
   by_cases hbad:1 < s.size∧((s[0].toNat:Int) == 48)=true
   · obtain⟨hb3,hz⟩:=hbad
     have HB:Hid (Zk9 s= -1):=ZgM (by unfold Zea;rw [ZhA s hb0 hb3 hz];simp);clear fin;go_enter func203,ntmps203;go_wp2_with (go_at_call 54;refine (Zal _ _ _ _).mono ?_;rintro e w' ⟨rfl,rfl⟩);go_ret;exact⟨Zaz HB.out.symm,rfl⟩
   · have HD:Hid (Zea s=Zfs ZcP s):=by
      refine fin ?_
      by_cases h2:1 < s.size
      · exact Zgy s hb0 (by simpa [h2] using hbad)
      · exact ZhB s (by omega)
     clear fin
     have hq:s.size=1∨(1 < s.size∧((s[0].toNat:Int) == 48)=false):=by
      by_cases h2:1 < s.size
      · exact Or.inr ⟨h2,by simpa [h2] using hbad⟩
      · left;omega
     clear hbad
     have hq':Hid (¬ 1 < s.size)∨(1 < s.size∧((s[0].toNat:Int) == 48)=false):=by
      rcases hq with hq | hq
      · left;unfold Hid;omega
      · exact Or.inr hq
     clear hq
     rcases hq' with hq | ⟨hq,hz⟩
     · replace hq:¬ 1 < s.size:=hq.out
       go_enter func203,ntmps203;go_wp2_with (go_at_call 54;refine (Zal _ _ _ _).mono ?_;rintro e w' ⟨rfl,rfl⟩)
       go_loop [3,4] (fun n i=>∃ k:Nat,k≤s.size∧i=.int .i64 k∧n=.int .i64 (ZcI (s.data.toList.take k))∧(s.data.toList.take k).all ZcP=true) (fun _ i=>s.size - (intOf i).toNat)
       case atStart=>exact⟨0,Nat.zero_le _,rfl,rfl,rfl⟩
       case round=>
        obtain⟨k,hk,rfl,rfl,hall⟩:=hrel;obtain⟨v0,v1⟩:=Zci s k hk hb2 hall;have HA:Hid ((s.data.toList.take k).all ZcP=true):=hall;clear hall
        by_cases hlt:k < s.size
        · have HV:Hid (ZcI (s.data.toList.take (k+1))=10*ZcI (s.data.toList.take k)+((s[k].toNat:Int) - 48)):=ZbM s k hlt
          have HS:Hid (ZcP s[k]=true↔(48≤(s[k].toNat:Int)∧(s[k].toNat:Int)≤57)):=Zec s[k];go_wp2
          all_goals first
           | (go_round
              case rel=>exact⟨k+1,by omega,by go_num,by rw [HV.out];go_num,Zb6 HA.out hlt (HS.out.2 (by omega))⟩
              case measure=>simp [intOf];omega)
           | (go_ret
              exact⟨Zaz (ZgM (by rw [HD.out];exact Zb7 hlt (Bool.eq_false_iff.2 fun h=>by have:=HS.out.1 h;omega))).symm,rfl⟩)
        · go_wp2
          go_ret;exact⟨Zaz (by rw [Ziz (by rw [HD.out];exact ZcF HA.out (by omega)),← Zdv (k:=k) (by omega)]),rfl⟩
     · go_enter func203,ntmps203
       go_wp2_with (go_at_call 54;refine (Zal _ _ _ _).mono ?_;rintro e w' ⟨rfl,rfl⟩)
       go_loop [3,4] (fun n i=>∃ k:Nat,k≤s.size∧i=.int .i64 k∧n=.int .i64 (ZcI (s.data.toList.take k))∧(s.data.toList.take k).all ZcP=true) (fun _ i=>s.size - (intOf i).toNat)
       case atStart=>exact⟨0,Nat.zero_le _,rfl,rfl,rfl⟩
       case round=>
        obtain⟨k,hk,rfl,rfl,hall⟩:=hrel;obtain⟨v0,v1⟩:=Zci s k hk hb2 hall;have HA:Hid ((s.data.toList.take k).all ZcP=true):=hall;clear hall
        by_cases hlt:k < s.size
        · have HV:Hid (ZcI (s.data.toList.take (k+1))=10*ZcI (s.data.toList.take k)+((s[k].toNat:Int) - 48)):=ZbM s k hlt
          have HS:Hid (ZcP s[k]=true↔(48≤(s[k].toNat:Int)∧(s[k].toNat:Int)≤57)):=Zec s[k];go_wp2
          all_goals first
           | (go_round
              case rel=>exact⟨k+1,by omega,by go_num,by rw [HV.out];go_num,Zb6 HA.out hlt (HS.out.2 (by omega))⟩
              case measure=>simp [intOf];omega)
           | (go_ret
              exact⟨Zaz (ZgM (by rw [HD.out];exact Zb7 hlt (Bool.eq_false_iff.2 fun h=>by have:=HS.out.1 h;omega))).symm,rfl⟩)
        · go_wp2
          go_ret;exact⟨Zaz (by rw [Ziz (by rw [HD.out];exact ZcF HA.out (by omega)),← Zdv (k:=k) (by omega)]),rfl⟩
 · have h1':inB 1 7 s.size=false:=by simpa using h1
   have HB:Hid (Zk9 s= -1):=ZgM (by unfold Zea;simp [h1']);go_enter func203,ntmps203;go_wp2_with (go_at_call 54;refine (Zal _ _ _ _).mono ?_;rintro e w' ⟨rfl,rfl⟩);go_ret;exact⟨Zaz HB.out.symm,rfl⟩
theorem Zdx {s:Zy_} (h:s.size=0):s.toList.isEmpty=true:=by
 rw [ByteArray.toList_eq,List.isEmpty_iff_length_eq_zero];simpa using h
theorem ZcQ {s:Zy_} (h:0 < s.size):s.toList.isEmpty=false:=by
 rw [ByteArray.toList_eq,List.isEmpty_eq_false_iff_exists_mem];exact⟨s[0],by simp only [Array.mem_toList_iff];exact Array.getElem_mem h⟩
def Zic (s:Zy_):Int:=if Zea s=true then Znh s else 0
theorem Zgs {s:Zy_} (h:Zea s=false):Zic s=0:=by unfold Zic;simp [h]
theorem Zie {s:Zy_} (h:Zea s=true):Zic s=Znh s:=by unfold Zic;simp [h]
theorem ZeZ {a c:Int} {b d:Bool} (h:a=c) (h':b=d):Ending.returned (.tuple #[.int .i64 a,.bool b])=.returned (.tuple #[.int .i64 c,.bool d]):=by rw [h,h']
theorem Zc4 (s:Zy_) (w:World) (hs:s.size≤maxLen) :
 Calls prog 230 #[.string s] w fun e w'=>e=.returned (.tuple #[.int .i64 (Zic s),.bool (Zea s)])∧w'=w:=by
 unfold maxLen at hs
 by_cases hb0:0 < s.size
 · have he:=ZcQ hb0
   by_cases hb2:s.size≤7
   · have h1:Hid (inB 1 7 s.size=true):=by unfold Hid inB;simp;omega
     by_cases hz:((s[0].toNat:Int) == 48)=true
     · by_cases hb3:1 < s.size
       · have HB:Hid (Zea s=false):=by unfold Hid Zea;rw [ZhA s hb0 hb3 hz];simp
         go_enter func230,ntmps230;go_wp2
         go_ret2
         exact⟨ZeZ (Zgs HB.out).symm HB.out.symm,rfl⟩
       · have HD:Hid (Zea s=Zfs ZcP s):=Zj2 h1.out (ZhB s (by omega))
         clear h1;go_enter func230,ntmps230;go_wp2
         go_loop [4,25] (fun n i=>∃ k:Nat,k≤s.size∧i=.int .i64 k∧n=.int .i64 (ZcI (s.data.toList.take k))∧(s.data.toList.take k).all ZcP=true) (fun _ i=>s.size - (intOf i).toNat)
         case atStart=>exact⟨0,Nat.zero_le _,rfl,rfl,rfl⟩
         case round=>
          obtain⟨k,hk,rfl,rfl,hall⟩:=hrel;obtain⟨v0,v1⟩:=Zci s k hk hb2 hall;have HA:Hid ((s.data.toList.take k).all ZcP=true):=hall;clear hall
          by_cases hlt:k < s.size
          · have HV:Hid (ZcI (s.data.toList.take (k+1))=10*ZcI (s.data.toList.take k)+((s[k].toNat:Int) - 48)):=ZbM s k hlt
            have HS:Hid (ZcP s[k]=true↔(48≤(s[k].toNat:Int)∧(s[k].toNat:Int)≤57)):=Zec s[k];go_wp2
            all_goals first
             | (go_round
                case rel=>exact⟨k+1,by omega,by go_num,by rw [HV.out],Zb6 HA.out hlt (HS.out.2 (by omega))⟩
                case measure=>simp [intOf];omega)
             | (go_ret2
                have HN:Zea s=false:=by rw [HD.out];exact Zb7 hlt (Bool.eq_false_iff.2 fun h=>by have:=HS.out.1 h;omega)
                exact⟨ZeZ (Zgs HN).symm HN.symm,rfl⟩)
          · go_wp2
            go_ret2
            have HN:Zea s=true:=by rw [HD.out];exact ZcF HA.out (by omega)
            exact⟨ZeZ (by rw [Zie HN,← Zdv (k:=k) (by omega)]) HN.symm,rfl⟩
     · have hz':((s[0].toNat:Int) == 48)=false:=by simpa using hz
       have HD:Hid (Zea s=Zfs ZcP s):=Zj2 h1.out (Zgy s hb0 hz');clear h1 hz;go_enter func230,ntmps230;go_wp2
       go_loop [4,25] (fun n i=>∃ k:Nat,k≤s.size∧i=.int .i64 k∧n=.int .i64 (ZcI (s.data.toList.take k))∧(s.data.toList.take k).all ZcP=true) (fun _ i=>s.size - (intOf i).toNat)
       case atStart=>exact⟨0,Nat.zero_le _,rfl,rfl,rfl⟩
       case round=>
        obtain⟨k,hk,rfl,rfl,hall⟩:=hrel;obtain⟨v0,v1⟩:=Zci s k hk hb2 hall;have HA:Hid ((s.data.toList.take k).all ZcP=true):=hall;clear hall
        by_cases hlt:k < s.size
        · have HV:Hid (ZcI (s.data.toList.take (k+1))=10*ZcI (s.data.toList.take k)+((s[k].toNat:Int) - 48)):=ZbM s k hlt
          have HS:Hid (ZcP s[k]=true↔(48≤(s[k].toNat:Int)∧(s[k].toNat:Int)≤57)):=Zec s[k];go_wp2
          all_goals first
           | (go_round
              case rel=>exact⟨k+1,by omega,by go_num,by rw [HV.out],Zb6 HA.out hlt (HS.out.2 (by omega))⟩
              case measure=>simp [intOf];omega)
           | (go_ret2
              have HN:Zea s=false:=by rw [HD.out];exact Zb7 hlt (Bool.eq_false_iff.2 fun h=>by have:=HS.out.1 h;omega)
              exact⟨ZeZ (Zgs HN).symm HN.symm,rfl⟩)
        · go_wp2
          go_ret2
          have HN:Zea s=true:=by rw [HD.out];exact ZcF HA.out (by omega)
          exact⟨ZeZ (by rw [Zie HN,← Zdv (k:=k) (by omega)]) HN.symm,rfl⟩
   · have HB:Hid (Zea s=false):=by unfold Hid Zea inB;simp;intro h;omega
     go_enter func230,ntmps230;go_wp2
     go_ret2
     exact⟨ZeZ (Zgs HB.out).symm HB.out.symm,rfl⟩
 · have he:=Zdx (s:=s) (by omega)
   have HB:Hid (Zea s=false):=by unfold Hid Zea inB;simp;intro h;omega
   go_enter func230,ntmps230;go_wp2
   go_ret2
   exact⟨ZeZ (Zgs HB.out).symm HB.out.symm,rfl⟩
def ZbS (c:UInt8):Bool:=decide (33≤c.toNat∧c.toNat≤126)
theorem ZfT (c:UInt8):ZbS c=true↔(33≤(c.toNat:Int)∧(c.toNat:Int)≤126):=by
 unfold ZbS;simp;omega
def Zfp (lo hi:Int) (s:Zy_):Bool:=decide (0 < s.size)&&inB lo hi s.size&&Zfs ZbS s
theorem Zew {lo hi:Int} {s:Zy_} (h:¬ (0 < s.size∧lo≤s.size∧(s.size:Int)≤hi)):Zfp lo hi s=false:=by
 unfold Zfp inB;rw [Bool.eq_false_iff];simp;intro a b c;exact absurd ⟨a,b,c⟩ h
theorem ZoA {lo hi:Int} {s:Zy_} (h0:0 < s.size) (h1:lo≤s.size) (h2:(s.size:Int)≤hi):Zfp lo hi s=Zfs ZbS s:=by
 unfold Zfp inB;simp [h0,h1,h2]
theorem ZfU (lo hi:Int) (s:Zy_) (w:World) (hs:s.size≤maxLen) :
 Calls prog 282 #[.agg #[.int .i64 lo,.int .i64 hi],.string s] w fun e w'=>e=.returned (.bool (Zfp lo hi s))∧Zw_ w w':=by
 unfold maxLen at hs
 by_cases hb0:0 < s.size
 · have he:=ZcQ hb0
   by_cases h1:lo≤(s.size:Int)
   · by_cases h2:(s.size:Int)≤hi
     · have HD:Hid (Zfp lo hi s=Zfs ZbS s):=ZoA hb0 h1 h2
       go_enter func282,ntmps282;go_wp2
       go_loop [24] (fun i=>∃ k:Nat,k≤s.size∧i=.int .i64 k∧(s.data.toList.take k).all ZbS=true) (fun i=>s.size - (intOf i).toNat)
       case atStart=>exact⟨0,Nat.zero_le _,rfl,rfl⟩
       case round=>
        obtain⟨k,hk,rfl,hall⟩:=hrel;have HA:Hid ((s.data.toList.take k).all ZbS=true):=hall;clear hall
        by_cases hlt:k < s.size
        · have HS:Hid (ZbS s[k]=true↔(33≤(s[k].toNat:Int)∧(s[k].toNat:Int)≤126)):=ZfT s[k]
          go_wp2
          all_goals first
           | (go_round
              case rel=>exact⟨k+1,by omega,by go_num,Zb6 HA.out hlt (HS.out.2 (by omega))⟩
              case measure=>simp [intOf];omega)
           | (go_ret
              exact⟨Zaa (by rw [HD.out];exact (Zb7 hlt (Bool.eq_false_iff.2 fun h=>by have:=HS.out.1 h;omega)).symm),Zb_.alloc Zl_ _⟩)
        · go_wp2
          go_ret;exact⟨Zaa (by rw [HD.out];exact (ZcF HA.out (by omega)).symm),Zb_.alloc Zl_ _⟩
     · have HB:Hid (Zfp lo hi s=false):=Zew (by omega)
       go_enter func282,ntmps282;go_wp2;go_ret;exact⟨Zaa HB.out.symm,Zb_.alloc Zl_ _⟩
   · have HB:Hid (Zfp lo hi s=false):=Zew (by omega)
     go_enter func282,ntmps282;go_wp2;go_ret;exact⟨Zaa HB.out.symm,Zb_.alloc Zl_ _⟩
 · have he:=Zdx (s:=s) (by omega)
   have HB:Hid (Zfp lo hi s=false):=Zew (by omega);go_enter func282,ntmps282;go_wp2;go_ret;exact⟨Zaa HB.out.symm,Zb_.alloc Zl_ _⟩
def Zaf (w:World) (v:Value) (L:List Zy_):Prop:=
 (∃ (a:Option Addr) (cap:Nat),v=.slice a 0 cap∧L=[])∨
 ∃ (b off cap:Nat),v=.slice (some ⟨b,off,none⟩) L.length cap∧L≠[]∧L.length≤maxLen∧b < w.heap.size∧
  (∀ i (h:i < L.length),w.cell? ⟨b,off+i,none⟩=some (.string L[i]))∧∀ s ∈ L,s.size≤maxLen
theorem Zaf.below {w w':World} {v:Value} {L:List Zy_} (h:Zaf w v L) (hb:Zw_ w w'):Zaf w' v L:=by
 rcases h with h | ⟨b,off,cap,h1,h2,h3,h4,h5,h6⟩
 · exact Or.inl h
 · exact Or.inr ⟨b,off,cap,h1,h2,h3,Zk_ h4 hb.size,fun i hi=>by rw [hb.cell (p:=⟨b,off+i,none⟩) h4];exact h5 i hi,h6⟩
def Zsd (n:Nat) (left r:Int):Prop:= -1≤r∧r≤left∧(0≤r→(n:Int)≤left)
theorem ZdE (v:Value) (L:List Zy_) (left:Int) (w:World) (h0:0≤left) (h1:left≤1048576) (hv:Zaf w v L) :
 Calls prog 125 #[v,.int .i64 left] w fun e w'=>∃ r:Int,e=.returned (.int .i64 r)∧w'=w∧Zsd L.length left r:=by
 rcases hv with ⟨a,cap,rfl,rfl⟩ | ⟨b,off,cap,rfl,hne,hm,hbw,hc,hsz⟩
 · go_enter func125,ntmps125
   go_wp2
   go_loop [1,5] (fun l i=>∃ r:Int,l=.int .i64 r∧0≤r∧r≤left∧i=.int .i64 0) (fun _ _=>0)
   case atStart=>exact⟨_,rfl,by omega,by omega,rfl⟩
   case round=>
    obtain⟨r,rfl,hr0,hr1,rfl⟩:=hrel;go_wp2;go_ret;exact⟨r,rfl,rfl,by omega,by omega,fun _=>by simp;omega⟩
 · unfold maxLen at hm
   by_cases hle:(L.length:Int)≤left
   · go_enter func125,ntmps125
     go_wp2
     go_loop [1,5] (fun l i=>∃ (r:Int) (k:Nat),l=.int .i64 r∧0≤r∧r≤left∧i=.int .i64 k∧k≤L.length) (fun _ i=>L.length - (intOf i).toNat)
     case atStart=>exact⟨_,0,rfl,by omega,by omega,rfl,by omega⟩
     case round=>
      obtain⟨r,k,rfl,hr0,hr1,rfl,hk⟩:=hrel
      by_cases hlt:k < L.length
      · have hck:=hc k hlt
        have hsk:=hsz L[k] (List.getElem_mem hlt);unfold maxLen at hsk;go_wp2
        all_goals first
         | (go_round
            case rel=>exact⟨_,k+1,rfl,by omega,by omega,by go_num,by omega⟩
            case measure=>simp [intOf];omega)
         | (go_ret
            exact⟨-1,rfl,rfl,by omega,by omega,fun h=>by omega⟩)
      · go_wp2
        go_ret;exact⟨r,rfl,rfl,by omega,by omega,fun _=>hle⟩
   · go_enter func125,ntmps125
     go_wp2;go_ret;exact⟨-1,rfl,rfl,by omega,by omega,fun h=>by omega⟩
def Zeq (L:List Zy_) (s:Zy_):Bool:=L.any fun x=>x.toList == s.toList
theorem Zk2 {L:List Zy_} {s:Zy_} {k:Nat} (h:k < L.length) (hp:(L[k].toList == s.toList)=true):Zeq L s=true:=by
 unfold Zeq;rw [List.any_eq_true];exact⟨L[k],List.getElem_mem h,hp⟩
theorem Zk1 {L:List Zy_} {s:Zy_} {k:Nat} (h:Zeq (L.take k) s=false) (hk:k < L.length) (hp:(L[k].toList == s.toList)=false):Zeq (L.take (k+1)) s=false:=by
 unfold Zeq at*;rw [List.take_succ_eq_append_getElem hk,List.any_append,h];simp [hp]
theorem Znz {L:List Zy_} {s:Zy_} {k:Nat} (h:Zeq (L.take k) s=false) (hk:L.length≤k):Zeq L s=false:=by
 rwa [List.take_of_length_le hk] at h
theorem Zee (v:Value) (L:List Zy_) (s:Zy_) (w:World) (hv:Zaf w v L) :
 Calls prog 201 #[v,.string s] w fun e w'=>e=.returned (.bool (Zeq L s))∧w'=w:=by
 rcases hv with ⟨a,cap,rfl,rfl⟩ | ⟨b,off,cap,rfl,hne,hm,hbw,hc,hsz⟩
 · go_enter func201,ntmps201
   go_wp2
   go_loop [5] (fun i=>i=.int .i64 0) (fun _=>0)
   case atStart=>rfl
   case round=>
    subst hrel;go_wp2;go_ret;exact⟨rfl,rfl⟩
 · unfold maxLen at hm
   go_enter func201,ntmps201;go_wp2
   go_loop [5] (fun i=>∃ k:Nat,i=.int .i64 k∧k≤L.length∧Zeq (L.take k) s=false) (fun i=>L.length - (intOf i).toNat)
   case atStart=>exact⟨0,rfl,by omega,rfl⟩
   case round=>
    obtain⟨k,rfl,hk,hh⟩:=hrel;have HH:Hid (Zeq (L.take k) s=false):=hh;clear hh
    by_cases hlt:k < L.length
    · have hck:=hc k hlt
      by_cases he:(L[k].toList == s.toList)=true
      · go_wp2
        go_ret;exact⟨Zaa (Zk2 hlt he).symm,rfl⟩
      · have he':(L[k].toList == s.toList)=false:=by simpa using he
        clear he;go_wp2
        go_round
        case rel=>exact⟨k+1,by go_num,by omega,Zk1 HH.out hlt he'⟩
        case measure=>simp [intOf];omega
    · go_wp2
      go_ret;exact⟨Zaa (Znz HH.out (by omega)).symm,rfl⟩
theorem ZnB (v:Value) (L:List Zy_) (s:Zy_) (w:World) (hv:Zaf w v L) :
 Calls prog 254 #[v,.string s] w fun e w'=>∃ r:Int,e=.returned (.int .i64 r)∧w'=w∧decide (0≤r)=Zeq L s:=by
 rcases hv with ⟨a,cap,rfl,rfl⟩ | ⟨b,off,cap,rfl,hne,hm,hbw,hc,hsz⟩
 · go_enter func254,ntmps254
   go_wp2
   go_loop [8] (fun i=>i=.int .i64 0) (fun _=>0)
   case atStart=>rfl
   case round=>
    subst hrel;go_wp2;go_ret;exact⟨-1,rfl,rfl,rfl⟩
 · unfold maxLen at hm
   go_enter func254,ntmps254;go_wp2
   go_loop [8] (fun i=>∃ k:Nat,i=.int .i64 k∧k≤L.length∧Zeq (L.take k) s=false) (fun i=>L.length - (intOf i).toNat)
   case atStart=>exact⟨0,rfl,by omega,rfl⟩
   case round=>
    obtain⟨k,rfl,hk,hh⟩:=hrel;have HH:Hid (Zeq (L.take k) s=false):=hh;clear hh
    by_cases hlt:k < L.length
    · have hck:=hc k hlt
      by_cases he:(s.toList == L[k].toList)=true
      · go_wp2
        go_ret;exact⟨k,rfl,rfl,by rw [Zk2 hlt (by rw [Bool.beq_comm];exact he)];simp⟩
      · have he':(s.toList == L[k].toList)=false:=by simpa using he
        clear he;go_wp2
        go_round
        case rel=>exact⟨k+1,by go_num,by omega,Zk1 HH.out hlt (by rw [Bool.beq_comm];exact he')⟩
        case measure=>simp [intOf];omega
    · go_wp2
      go_ret;exact⟨-1,rfl,rfl,by rw [Znz HH.out (by omega)];rfl⟩
theorem Zd8 (v:Value) (L:List Zy_) (s:Zy_) (w:World) (hv:Zaf w v L) :
 Calls prog 240 #[v,.string s] w fun e w'=>e=.returned (.bool (Zeq L s))∧w'=w:=by
 go_enter func240,ntmps240;go_wp2_with fail;refine (ZnB v L s _ hv).mono ?_;rintro e w1 ⟨r,rfl,rfl,hr⟩;have HR:Hid (decide (0≤r)=Zeq L s):=hr;clear hr;go_wp2;go_ret;exact⟨Zaa HR.out,rfl⟩
end Go.Proofs.YtcfjmagkinpaeaaGreat
namespace Go.Proofs.YtcfjmagkinpaeaaGreat
open Go.RowKit Go.Deep
theorem Zc2 (v v':Value) (L:List Zy_) (w:World) (hv:Zaf w v L) (hv':Zaf w v' L) :
 Calls prog 151 #[v,v'] w fun e w'=>e=.returned (.bool true)∧Zw_ w w':=by
 by_cases hL:L=[]
 · subst hL
   obtain⟨a,cap,rfl⟩:∃ a cap,v=.slice a 0 cap:=by
    rcases hv with ⟨a,cap,h,_⟩ | ⟨b,off,cap,h,hne,_⟩
    · exact⟨a,cap,h⟩
    · exact absurd rfl hne
   obtain⟨a',cap',rfl⟩:∃ a cap,v'=.slice a 0 cap:=by
    rcases hv' with ⟨a,cap,h,_⟩ | ⟨b,off,cap,h,hne,_⟩
    · exact⟨a,cap,h⟩
    · exact absurd rfl hne
   clear hv hv';go_enter func151,ntmps151;go_wp2
   go_loop [5] (fun i=>i=.int .i64 0) (fun _=>0)
   case atStart=>rfl
   case round=>
    subst hrel;go_wp2;go_ret;exact⟨rfl,Below.refl _ _⟩
 · obtain⟨b,off,cap,rfl,hm,hbw,hc⟩:∃ b off cap,v=.slice (some ⟨b,off,none⟩) L.length cap∧L.length≤maxLen∧b < w.heap.size∧∀ i (h:i < L.length),w.cell? ⟨b,off+i,none⟩=some (.string L[i]):=by
    rcases hv with ⟨a,cap,h,h'⟩ | ⟨b,off,cap,h,hne,hm,hbw,hc,_⟩
    · exact absurd h' hL
    · exact⟨b,off,cap,h,hm,hbw,hc⟩
   obtain⟨b',off',cap',rfl,_,hbw',hc'⟩:∃ b off cap,v'=.slice (some ⟨b,off,none⟩) L.length cap∧L.length≤maxLen∧b < w.heap.size∧∀ i (h:i < L.length),w.cell? ⟨b,off+i,none⟩=some (.string L[i]):=by
    rcases hv' with ⟨a,cap,h,h'⟩ | ⟨b,off,cap,h,hne,hm,hbw,hc,_⟩
    · exact absurd h' hL
    · exact⟨b,off,cap,h,hm,hbw,hc⟩
   clear hv hv';unfold maxLen at hm;go_enter func151,ntmps151;go_wp2
   go_loopw [5] (fun i wr=>∃ k:Nat,i=.int .i64 k∧k≤L.length∧Zw_ w wr) (fun i _=>L.length - (intOf i).toNat)
   case atStart=>exact⟨0,rfl,by omega,Below.refl _ _⟩
   case round=>
    obtain⟨k,rfl,hk,hb⟩:=hrel
    by_cases hlt:k < L.length
    · have hck:wr.cell? ⟨b,off+k,none⟩=some (.string L[k]):=by rw [hb.cell (p:=⟨b,off+k,none⟩) hbw];exact hc k hlt
      have hck':wr.cell? ⟨b',off'+k,none⟩=some (.string L[k]):=by rw [hb.cell (p:=⟨b',off'+k,none⟩) hbw'];exact hc' k hlt
      go_wp2
      go_quiet (fail)
      go_wp2;go_roundw
      case rel=>exact⟨k+1,by go_num,by omega,below_drewN hb _⟩
      case measure=>simp [intOf];omega
    · go_wp2
      go_ret;exact⟨rfl,hb⟩
theorem Tryz.info9:(prog.info? 9).map (fun i=>(i.zero,i.size,i.bytes))=some (some (.string ⟨#[]⟩),1,16):=by kernel_rfl
def Zq9 (L:List Zy_) (k i:Nat):Value:=if i < k then .string (L.getD i ⟨#[]⟩) else .string ⟨#[]⟩
def Zcm (wr:World) (B:Nat) (L:List Zy_) (k:Nat):Prop:=wr.rowIs B 9 L.length (Zq9 L k)
theorem Zcm.step {wr:World} {B:Nat} {L:List Zy_} {k:Nat} (h:Zcm wr B L k) (hk:k < L.length):Zcm (wr.setCell ⟨B,k,none⟩ (.string L[k])) B L (k+1):=by
 unfold Zcm at*;refine (h.set k (.string L[k])).congr fun i hi=>?_
 unfold Zq9
 by_cases e:i=k
 · subst e;simp [hk]
 · by_cases e2:i < k
   · simp [e,e2,Nat.lt_succ_of_lt e2]
   · have:¬ i < k+1:=by omega
     simp [e,e2,this]
theorem Zcm.old {wr:World} {B:Nat} {L:List Zy_} {k:Nat} (h:Zcm wr B L k) (hk:k < L.length):∃ v,wr.cell? ⟨B,k,none⟩=some v:=⟨_,World.rowIs.cell h hk⟩
theorem Zcm.frozen {wr:World} {B:Nat} {L:List Zy_} {k:Nat} (h:Zcm wr B L k) (i:Nat):wr.frozen? ⟨B,i,none⟩=false:=World.rowIs.frozen h i
def Zan (lo:Nat) (w:World) (v:Value) (L:List Zy_):Prop:=
 (∃ (a:Option Addr) (cap:Nat),v=.slice a 0 cap∧L=[])∨
 ∃ (b off cap:Nat),v=.slice (some ⟨b,off,none⟩) L.length cap∧L≠[]∧L.length≤maxLen∧b < w.heap.size∧
  (∀ i (h:i < L.length),w.cell? ⟨b,off+i,none⟩=some (.string L[i]))∧(∀ s ∈ L,s.size≤maxLen)∧lo≤b
theorem Zan.at {lo:Nat} {w:World} {v:Value} {L:List Zy_} (h:Zan lo w v L):Zaf w v L:=by
 rcases h with h | ⟨b,off,cap,h1,h2,h3,h4,h5,h6,_⟩
 · exact Or.inl h
 · exact Or.inr ⟨b,off,cap,h1,h2,h3,h4,h5,h6⟩
theorem Zan.mono {lo lo':Nat} {w:World} {v:Value} {L:List Zy_} (h:Zan lo w v L) (hl:lo'≤lo):Zan lo' w v L:=by
 rcases h with h | ⟨b,off,cap,h1,h2,h3,h4,h5,h6,h7⟩
 · exact Or.inl h
 · exact Or.inr ⟨b,off,cap,h1,h2,h3,h4,h5,h6,Nat.le_trans hl h7⟩
theorem Zan.below {lo:Nat} {w w':World} {v:Value} {L:List Zy_} (h:Zan lo w v L) (hb:Zw_ w w'):Zan lo w' v L:=by
 rcases h with h | ⟨b,off,cap,h1,h2,h3,h4,h5,h6,h7⟩
 · exact Or.inl h
 · exact Or.inr ⟨b,off,cap,h1,h2,h3,Zk_ h4 hb.size,fun i hi=>by rw [hb.cell (p:=⟨b,off+i,none⟩) h4];exact h5 i hi,h6,h7⟩
theorem Zar (w:World) (p q:Addr) (u:Value) (h:q.block≠p.block):(w.setCell p u).cell? q=w.cell? q:=
 World.cell?_of_block (w:=w) (Below.heap_setCell w p u q.block h)
theorem Zan.setCell {lo:Nat} {w:World} {v:Value} {L:List Zy_} (h:Zan lo w v L) {p:Addr} (hp:p.block < lo) (u:Value):Zan lo (w.setCell p u) v L:=by
 rcases h with h | ⟨b,off,cap,h1,h2,h3,h4,h5,h6,h7⟩
 · exact Or.inl h
 · exact Or.inr ⟨b,off,cap,h1,h2,h3,by simpa [World.setCell] using h4,fun i hi=>by rw [Zar _ _ _ _ (by show b≠p.block;omega)];exact h5 i hi,h6,h7⟩
theorem Zan.form {lo:Nat} {w:World} {v:Value} {L:List Zy_} (h:Zan lo w v L):∃ a n cap,v=.slice a n cap:=by
 rcases h with ⟨a,cap,h,_⟩ | ⟨b,off,cap,h,_⟩
 · exact⟨a,_,cap,h⟩
 · exact⟨_,_,cap,h⟩
theorem Zaf.form {w:World} {v:Value} {L:List Zy_} (h:Zaf w v L):∃ a n cap,v=.slice a n cap:=by
 rcases h with ⟨a,cap,h,_⟩ | ⟨b,off,cap,h,_⟩
 · exact⟨a,_,cap,h⟩
 · exact⟨_,_,cap,h⟩
theorem Zcm.done {wr:World} {B:Nat} {L:List Zy_} {k:Nat} (h:Zcm wr B L k) (hk:L.length≤k) (hne:L≠[]) (hm:L.length≤maxLen) (hs:∀ s ∈ L,s.size≤maxLen):Zan B wr (.slice (some ⟨B,0,none⟩) L.length L.length) L:=by
 refine Or.inr ⟨B,0,L.length,rfl,hne,hm,World.rowIs.lt h,fun i hi=>?_,hs,Nat.le_refl _⟩;rw [Nat.zero_add,World.rowIs.cell h hi];unfold Zq9;rw [if_pos (by omega),List.getD_eq_getElem?_getD,List.getElem?_eq_getElem hi];rfl
theorem ZdI (v:Value) (L:List Zy_) (w:World) (hv:Zaf w v L) (hn:L.length≤1048576) :
 Calls prog 128 #[v] w fun e w'=>∃ v',e=.returned v'∧Zw_ w w'∧Zan w.heap.size w' v' L:=by
 rcases hv with ⟨a,cap,rfl,rfl⟩ | ⟨b,off,cap,rfl,hne,hm,hbw,hc,hsz⟩
 · have hmk:∀ u:World,(Instr.makeSlice 120 (.int .i64 0) (.int .i64 0)).run prog u=.ok (.slice (some ⟨u.heap.size,0,none⟩) 0 0) (u.alloc (.cells (madeCells #[.string ⟨#[]⟩] 0) 9)):=
    fun u=>run_make_row' 120 9 (.string ⟨#[]⟩) 16 underlying120 Tryz.info9 rfl .i64 .i64 0 (by omega) (by omega) u
   go_enter func128,ntmps128;go_wp2
   go_loop [4] (fun i=>i=.int .i64 0) (fun _=>0)
   case atStart=>rfl
   case round=>
    subst hrel;go_wp2;go_ret;exact⟨_,rfl,Zb_.alloc Zl_ _,Or.inl ⟨_,_,rfl,rfl⟩⟩
 · have HM:Hid (L.length≤maxLen):=hm
   unfold maxLen at hm
   have hmk:∀ u:World,(Instr.makeSlice 120 (.int .i64 (L.length:Int)) (.int .i64 (L.length:Int))).run prog u=.ok (.slice (some ⟨u.heap.size,0,none⟩) L.length L.length) (u.alloc (.cells (madeCells #[.string ⟨#[]⟩] L.length) 9)):=
    fun u=>run_make_row' 120 9 (.string ⟨#[]⟩) 16 underlying120 Tryz.info9 rfl .i64 .i64 L.length (by omega) (by omega) u
   go_enter func128,ntmps128;go_wp2;clear hmk
   go_loopw [4] (fun i wr=>∃ k:Nat,i=.int .i64 k∧k≤L.length∧Zw_ w wr∧Zcm wr w.heap.size L k) (fun i _=>L.length - (intOf i).toNat)
   case atStart=>exact⟨0,rfl,by omega,Zb_.alloc Zl_ _,World.rowIs_made w (.string ⟨#[]⟩) L.length 9⟩
   case round=>
    obtain⟨k,rfl,hk,hb,hf⟩:=hrel
    by_cases hlt:k < L.length
    · have hck:wr.cell? ⟨b,off+k,none⟩=some (.string L[k]):=by rw [hb.cell (p:=⟨b,off+k,none⟩) hbw];exact hc k hlt
      obtain⟨old,hold⟩:=hf.old hlt;have hfz:=hf.frozen k;go_wp2;go_roundw
      case rel=>exact⟨k+1,by go_num,by omega,hb.setCell Zl_ _,hf.step hlt⟩
      case measure=>simp [intOf];omega
    · go_wp2
      go_ret;exact⟨_,rfl,hb,hf.done (by omega) hne HM.out hsz⟩
end Go.Proofs.YtcfjmagkinpaeaaGreat
