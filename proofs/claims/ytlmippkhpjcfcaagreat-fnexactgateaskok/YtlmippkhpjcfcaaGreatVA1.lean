import Derived.Test.YtlmippkhpjcfcaaGreatRows
import Derived.WalkKit
import Derived.WalkSpells
import Derived.WalkLawsBesides
import Derived.Deep.QuietTactic
import Derived.BigQuiet
import Derived.Deep.OwnRows
set_option maxHeartbeats 16000000
set_option maxRecDepth 100000
open Go.Proofs.Tryz
namespace Go.Proofs.YtlmippkhpjcfcaaGreat
open Go.RowKit
theorem Zl_{n:Nat}:n≤n:=Nat.le_refl n
theorem Zb_{n:Nat}{w:World}:Below n w w:=Below.refl n w
theorem Zz_{n:Nat}:0≤n:=Nat.zero_le n
theorem Zk_{a b c:Nat}(h:a<b)(k:b≤c):a<c:=Nat.lt_of_lt_of_le h k
abbrev Zy_:=ByteArray
@[simp] abbrev Zw_(w w_1:World):Prop:=Below w.heap.size w w_1
theorem Zab {p:Prop} (h:p):Hid p:=h
def inB (lo hi n:Int):Bool:=decide (lo≤n∧n≤hi)
theorem Zeh (lo hi n:Int):inB lo hi n=(decide (lo≤n)&&decide (n≤hi)):=by unfold inB;simp
theorem Zaa {a b:Bool} (h:a=b):Ending.returned (.bool a)=.returned (.bool b):=by rw [h]
theorem Zam (n lo hi:Int) (w:World) :
 Calls prog 88 #[.int .i64 n,.int .i64 lo,.int .i64 hi] w fun e w'=>e=.returned (.bool (inB lo hi n))∧w'=w:=by
 rw [Zeh]
 by_cases h1:lo≤n
 · by_cases h2:n≤hi
   all_goals
    go_enter func88,ntmps88;go_wp2;go_ret;exact⟨Zaa (by simp [h1,h2]),rfl⟩
 · go_enter func88,ntmps88
   go_wp2;go_ret;refine⟨Zaa ?_,rfl⟩;rw [Bool.eq_iff_iff];simp;omega
def Zaz (c:UInt8):Bool:=decide (97≤c.toNat∧c.toNat≤122∨48≤c.toNat∧c.toNat≤57∨c.toNat=45)
theorem ZcN (c:UInt8) (w:World) :
 Calls prog 170 #[.int .u8 c.toNat] w fun e w'=>e=.returned (.bool (Zaz c))∧w'=w:=by
 have hc:=c.toNat_lt;generalize hb:Zaz c=b;have hb':b=decide (97≤c.toNat∧c.toNat≤122∨48≤c.toNat∧c.toNat≤57∨c.toNat=45):=by rw [← hb];rfl
 clear hb;generalize c.toNat=x at*;have H:Hid (b=decide (97≤x∧x≤122∨48≤x∧x≤57∨x=45)):=hb';clear hb';go_enter func170,ntmps170;go_wp2
 all_goals go_ret
 all_goals refine⟨Zaa ?_,rfl⟩
 all_goals rw [H.out]
 all_goals (rw [Bool.eq_iff_iff];simp;omega)
def ZfV (p:UInt8→Bool) (s:Zy_):Bool:=s.data.toList.all p
theorem ZhB (s:Zy_) (k:Nat) (h:k < s.size):s.data.toList.take (k+1)=s.data.toList.take k ++ [s[k]]:=by
 rw [List.take_succ_eq_append_getElem (by simpa using h)];rfl
theorem Zcl {p:UInt8→Bool} {s:Zy_} {k:Nat} (h:k < s.size) (hp:p s[k]=false):ZfV p s=false:=by
 unfold ZfV;rw [List.all_eq_false];exact⟨s[k],by simp only [Array.mem_toList_iff];exact Array.getElem_mem h,by simp [hp]⟩
theorem ZcZ {p:UInt8→Bool} {s:Zy_} {k:Nat} (h:(s.data.toList.take k).all p=true) (hk:s.size≤k):ZfV p s=true:=by
 unfold ZfV
 rwa [List.take_of_length_le (by simpa using hk)] at h
theorem Zcm {p:UInt8→Bool} {s:Zy_} {k:Nat} (h:(s.data.toList.take k).all p=true) (hk:k < s.size) (hp:p s[k]=true):(s.data.toList.take (k+1)).all p=true:=by
 rw [ZhB s k hk,List.all_append,h];simp [hp]
theorem Zkh (c:UInt8):Zaz c=true↔(97≤(c.toNat:Int)∧(c.toNat:Int)≤122∨48≤(c.toNat:Int)∧(c.toNat:Int)≤57∨(c.toNat:Int)=45):=by
 unfold Zaz;simp;omega
theorem ZfA (s:Zy_) (w:World) (hs:s.size≤maxLen) :
 Calls prog 175 #[.string s] w fun e w'=>e=.returned (.bool (ZfV Zaz s))∧w'=w:=by
 unfold maxLen at hs;go_enter func175,ntmps175;go_wp2
 go_loop [7] (fun i=>∃ k:Nat,k≤s.size∧i=.int .i64 k∧(s.data.toList.take k).all Zaz=true) (fun i=>s.size - (intOf i).toNat)
 case atStart=>exact⟨0,Nat.zero_le _,rfl,rfl⟩
 case round=>
  obtain⟨k,hk,rfl,hall⟩:=hrel;have HA:Hid ((s.data.toList.take k).all Zaz=true):=hall;clear hall
  by_cases hlt:k < s.size
  · have hsn:=Zkh s[k]
    have HS:Hid (Zaz s[k]=true↔(97≤(s[k].toNat:Int)∧(s[k].toNat:Int)≤122∨48≤(s[k].toNat:Int)∧(s[k].toNat:Int)≤57∨(s[k].toNat:Int)=45)):=hsn;clear hsn;go_wp2
    all_goals try simp only [bne_iff_ne,ne_eq,bne_eq_false_iff_eq] at*
    all_goals first
     | (go_round
        case rel=>exact⟨k+1,by omega,by go_num,Zcm HA.out hlt (HS.out.2 (by omega))⟩
        case measure=>simp [intOf];omega)
     | (go_ret
        exact⟨Zaa (Zcl hlt (Bool.eq_false_iff.2 fun h=>by have:=HS.out.1 h;omega)).symm,rfl⟩)
  · go_wp2
    go_ret;exact⟨Zaa (ZcZ HA.out (by omega)).symm,rfl⟩
def Zao (s:Zy_):Bool:=inB 1 16 s.size&&ZfV Zaz s
theorem Zan (s:Zy_) (w:World) (hs:s.size≤maxLen) :
 Calls prog 135 #[.string s] w fun e w'=>e=.returned (.bool (Zao s))∧w'=w:=by
 have hk:=ZfA s w hs;unfold maxLen at hs
 by_cases h1:1≤(s.size:Int)
 · by_cases h2:(s.size:Int)≤16
   · have HB:Hid (Zao s=ZfV Zaz s):=by unfold Hid Zao inB;simp;intro h;omega
     go_enter func135,ntmps135;go_wp2_with (go_at_call 175;refine hk.mono ?_;rintro e w' ⟨rfl,rfl⟩);go_ret;exact⟨Zaa HB.out.symm,rfl⟩
   · have HB:Hid (Zao s=false):=by unfold Hid Zao inB;simp;intro h;omega
     go_enter func135,ntmps135;go_wp2;go_ret;exact⟨Zaa HB.out.symm,rfl⟩
 · have HB:Hid (Zao s=false):=by unfold Hid Zao inB;simp;intro h;omega
   go_enter func135,ntmps135;go_wp2;go_ret;exact⟨Zaa HB.out.symm,rfl⟩
theorem Zad (s:Zy_) (w:World) (hs:s.size≤maxLen) :
 Calls prog 125 #[.string s] w fun e w'=>e=.returned (.bool (Zao s))∧w'=w:=by
 unfold maxLen at hs
 by_cases h1:inB 1 16 s.size=true
 · have HB:Hid (Zao s=ZfV Zaz s):=by unfold Hid Zao;simp [h1]
   go_enter func125,ntmps125;go_wp2_with (go_at_call 88;refine (Zam _ _ _ _).mono ?_;rintro e w' ⟨rfl,rfl⟩)
   go_loop [3] (fun i=>∃ k:Nat,k≤s.size∧i=.int .i64 k∧(s.data.toList.take k).all Zaz=true) (fun i=>s.size - (intOf i).toNat)
   case atStart=>exact⟨0,Nat.zero_le _,rfl,rfl⟩
   case round=>
    obtain⟨k,hk,rfl,hall⟩:=hrel;have HA:Hid ((s.data.toList.take k).all Zaz=true):=hall;clear hall
    by_cases hlt:k < s.size
    · by_cases hn:Zaz s[k]=true
      · go_wp2_with (go_at_call 170;refine (ZcN _ _).mono ?_;rintro e w' ⟨rfl,rfl⟩)
        go_round
        case rel=>exact⟨k+1,by omega,by go_num,Zcm HA.out hlt hn⟩
        case measure=>simp [intOf];omega
      · have hn':Zaz s[k]=false:=by simpa using hn
        go_wp2_with (go_at_call 170;refine (ZcN _ _).mono ?_;rintro e w' ⟨rfl,rfl⟩);go_ret;exact⟨Zaa (by rw [HB.out,Zcl hlt hn']),rfl⟩
    · go_wp2
      go_ret;exact⟨Zaa (by rw [HB.out,ZcZ HA.out (by omega)]),rfl⟩
 · have h1':inB 1 16 s.size=false:=by simpa using h1
   have HB:Hid (Zao s=false):=by unfold Hid Zao;simp [h1']
   go_enter func125,ntmps125;go_wp2_with (go_at_call 88;refine (Zam _ _ _ _).mono ?_;rintro e w' ⟨rfl,rfl⟩);go_ret;exact⟨Zaa HB.out.symm,rfl⟩
theorem ZaG {a b:Int} (h:a=b):Ending.returned (.int .i64 a)=.returned (.int .i64 b):=by rw [h]
def Zc6 (c:UInt8):Bool:=decide (48≤c.toNat∧c.toNat≤57)
theorem ZeG (c:UInt8):Zc6 c=true↔(48≤(c.toNat:Int)∧(c.toNat:Int)≤57):=by
 unfold Zc6;simp;omega
def ZcY (l:List UInt8):Int:=l.foldl (fun n c=>10*n+((c.toNat:Int) - 48)) 0
theorem Zoj (l:List UInt8) (c:UInt8):ZcY (l ++ [c])=10*ZcY l+((c.toNat:Int) - 48):=by
 unfold ZcY;rw [List.foldl_append];rfl
theorem ZbR (s:Zy_) (k:Nat) (h:k < s.size):ZcY (s.data.toList.take (k+1))=10*ZcY (s.data.toList.take k)+((s[k].toNat:Int) - 48):=by
 rw [ZhB s k h,Zoj]
theorem Zff (s:Zy_) (k:Nat):k≤s.size→(s.data.toList.take k).all Zc6=true→0≤ZcY (s.data.toList.take k)∧ZcY (s.data.toList.take k) < 10 ^ k:=by
 induction k with
 | zero=>intro _ _;simp [ZcY]
 | succ k ih=>
  intro hk h;rw [ZhB s k (by omega),List.all_append] at h;simp only [Bool.and_eq_true,List.all_cons,List.all_nil,Bool.and_true] at h;obtain⟨i1,i2⟩:=ih (by omega) h.1;have hd:=(ZeG _).1 h.2;rw [ZbR s k (by omega),Int.pow_succ]
  omega
theorem Zcy (s:Zy_) (k:Nat) (hk:k≤s.size) (h7:s.size≤7) (h:(s.data.toList.take k).all Zc6=true):0≤ZcY (s.data.toList.take k)∧ZcY (s.data.toList.take k) < 10000000:=by
 obtain⟨h0,h1⟩:=Zff s k hk h;refine⟨h0,?_⟩;have:k=0∨k=1∨k=2∨k=3∨k=4∨k=5∨k=6∨k=7:=by omega
 generalize ZcY (s.data.toList.take k)=v at*
 rcases this with rfl | rfl | rfl | rfl | rfl | rfl | rfl | rfl <;> simp at h1 <;> omega
def Zfy (s:Zy_):Bool:=!(decide (1 < s.size)&&(s.data.toList.head? == some 48))
theorem Zo5 (s:Zy_) (h:0 < s.size):s.data.toList.head?=some s[0]:=by
 have:0 < s.data.toList.length:=by simpa using h
 rw [List.head?_eq_getElem?,List.getElem?_eq_getElem this];rfl
theorem Zil (s:Zy_) (h:0 < s.size) (h1:1 < s.size) (hz:((s[0].toNat:Int) == 48)=true):Zfy s=false:=by
 have e:s[0]=48:=by
  have h48:(s[0].toNat:Int)=48:=by simpa using hz
  exact UInt8.toNat_inj.1 (by show s[0].toNat=48;omega)
 unfold Zfy;rw [Zo5 s h,e];simp [h1]
theorem Zhi (s:Zy_) (h:0 < s.size) (hz:((s[0].toNat:Int) == 48)=false):Zfy s=true:=by
 have e:s[0]≠48:=by
  intro e;rw [e] at hz;simp at hz
 unfold Zfy;rw [Zo5 s h];simp [e]
theorem Zic (s:Zy_) (h:s.size≤1):Zfy s=true:=by
 unfold Zfy;simp;omega
def ZeD (s:Zy_):Bool:=inB 1 7 s.size&&Zfy s&&ZfV Zc6 s
def Zo8 (s:Zy_):Int:=ZcY s.data.toList
def Zmh (s:Zy_):Int:=if ZeD s=true then Zo8 s else -1
theorem Zlw {s:Zy_} (h1:inB 1 7 s.size=true) (h2:Zfy s=true):ZeD s=ZfV Zc6 s:=by unfold ZeD;simp [h1,h2]
theorem Zg4 {s:Zy_} (h:ZeD s=false):Zmh s= -1:=by unfold Zmh;simp [h]
theorem ZiO {s:Zy_} (h:ZeD s=true):Zmh s=Zo8 s:=by unfold Zmh;simp [h]
theorem ZdS {s:Zy_} {k:Nat} (h:s.size≤k):ZcY (s.data.toList.take k)=Zo8 s:=by
 unfold Zo8;rw [List.take_of_length_le (by simpa using h)]
theorem Zbm (s:Zy_) (w:World) (hs:s.size≤maxLen) :
 Calls prog 210 #[.string s] w fun e w'=>e=.returned (.int .i64 (Zmh s))∧w'=w:=by
 unfold maxLen at hs
 by_cases h1:inB 1 7 s.size=true
 · have hb:1≤s.size∧s.size≤7:=by have:=h1;unfold inB at this;simp at this;omega
   obtain⟨hb1,hb2⟩:=hb;have hb0:0 < s.size:=by omega
   have fin:∀ (hh:Hid (Zfy s=true)),Hid (ZeD s=ZfV Zc6 s):=fun hh=>Zlw h1 hh.out
   by_cases hbad:1 < s.size∧((s[0].toNat:Int) == 48)=true
   · obtain⟨hb3,hz⟩:=hbad
     have HB:Hid (Zmh s= -1):=Zg4 (by unfold ZeD;rw [Zil s hb0 hb3 hz];simp);clear fin;go_enter func210,ntmps210;go_wp2_with (go_at_call 88;refine (Zam _ _ _ _).mono ?_;rintro e w' ⟨rfl,rfl⟩);go_ret;exact⟨ZaG HB.out.symm,rfl⟩
   · have HD:Hid (ZeD s=ZfV Zc6 s):=by
      refine fin ?_
      by_cases h2:1 < s.size
      · exact Zhi s hb0 (by simpa [h2] using hbad)
      · exact Zic s (by omega)
     clear fin
     have hq:s.size=1∨(1 < s.size∧((s[0].toNat:Int) == 48)=false):=by
      by_cases h2:1 < s.size
      · exact Or.inr ⟨h2,by simpa [h2] using hbad⟩
      · left;omega
     clear hbad
     have hq':Hid (¬ 1 < s.size)∨(1 < s.size∧((s[0].toNat:Int) == 48)=false):=by
      rcases hq with hq | hq
      · left;unfold Hid;omega
      · exact Or.inr hq
     clear hq
     rcases hq' with hq | ⟨hq,hz⟩
     · replace hq:¬ 1 < s.size:=hq.out
       go_enter func210,ntmps210;go_wp2_with (go_at_call 88;refine (Zam _ _ _ _).mono ?_;rintro e w' ⟨rfl,rfl⟩)
       go_loop [3,4] (fun n i=>∃ k:Nat,k≤s.size∧i=.int .i64 k∧n=.int .i64 (ZcY (s.data.toList.take k))∧(s.data.toList.take k).all Zc6=true) (fun _ i=>s.size - (intOf i).toNat)
       case atStart=>exact⟨0,Nat.zero_le _,rfl,rfl,rfl⟩
       case round=>
        obtain⟨k,hk,rfl,rfl,hall⟩:=hrel;obtain⟨v0,v1⟩:=Zcy s k hk hb2 hall;have HA:Hid ((s.data.toList.take k).all Zc6=true):=hall;clear hall
        by_cases hlt:k < s.size
        · have HV:Hid (ZcY (s.data.toList.take (k+1))=10*ZcY (s.data.toList.take k)+((s[k].toNat:Int) - 48)):=ZbR s k hlt
          have HS:Hid (Zc6 s[k]=true↔(48≤(s[k].toNat:Int)∧(s[k].toNat:Int)≤57)):=ZeG s[k];go_wp2
          all_goals first
           | (go_round
              case rel=>exact⟨k+1,by omega,by go_num,by rw [HV.out];go_num,Zcm HA.out hlt (HS.out.2 (by omega))⟩
              case measure=>simp [intOf];omega)
           | (go_ret
              exact⟨ZaG (Zg4 (by rw [HD.out];exact Zcl hlt (Bool.eq_false_iff.2 fun h=>by have:=HS.out.1 h;omega))).symm,rfl⟩)
        · go_wp2
          go_ret;exact⟨ZaG (by rw [ZiO (by rw [HD.out];exact ZcZ HA.out (by omega)),← ZdS (k:=k) (by omega)]),rfl⟩
     · go_enter func210,ntmps210
       go_wp2_with (go_at_call 88;refine (Zam _ _ _ _).mono ?_;rintro e w' ⟨rfl,rfl⟩)
       go_loop [3,4] (fun n i=>∃ k:Nat,k≤s.size∧i=.int .i64 k∧n=.int .i64 (ZcY (s.data.toList.take k))∧(s.data.toList.take k).all Zc6=true) (fun _ i=>s.size - (intOf i).toNat)
       case atStart=>exact⟨0,Nat.zero_le _,rfl,rfl,rfl⟩
       case round=>
        obtain⟨k,hk,rfl,rfl,hall⟩:=hrel;obtain⟨v0,v1⟩:=Zcy s k hk hb2 hall;have HA:Hid ((s.data.toList.take k).all Zc6=true):=hall;clear hall
        by_cases hlt:k < s.size
        · have HV:Hid (ZcY (s.data.toList.take (k+1))=10*ZcY (s.data.toList.take k)+((s[k].toNat:Int) - 48)):=ZbR s k hlt
          have HS:Hid (Zc6 s[k]=true↔(48≤(s[k].toNat:Int)∧(s[k].toNat:Int)≤57)):=ZeG s[k];go_wp2
          all_goals first
           | (go_round
              case rel=>exact⟨k+1,by omega,by go_num,by rw [HV.out];go_num,Zcm HA.out hlt (HS.out.2 (by omega))⟩
              case measure=>simp [intOf];omega)
           | (go_ret
              exact⟨ZaG (Zg4 (by rw [HD.out];exact Zcl hlt (Bool.eq_false_iff.2 fun h=>by have:=HS.out.1 h;omega))).symm,rfl⟩)
        · go_wp2
          go_ret;exact⟨ZaG (by rw [ZiO (by rw [HD.out];exact ZcZ HA.out (by omega)),← ZdS (k:=k) (by omega)]),rfl⟩
 · have h1':inB 1 7 s.size=false:=by simpa using h1
   have HB:Hid (Zmh s= -1):=Zg4 (by unfold ZeD;simp [h1']);go_enter func210,ntmps210;go_wp2_with (go_at_call 88;refine (Zam _ _ _ _).mono ?_;rintro e w' ⟨rfl,rfl⟩);go_ret;exact⟨ZaG HB.out.symm,rfl⟩
theorem Zem {s:Zy_} (h:s.size=0):s.toList.isEmpty=true:=by
 rw [ByteArray.toList_eq,List.isEmpty_iff_length_eq_zero];simpa using h
theorem Zc5 {s:Zy_} (h:0 < s.size):s.toList.isEmpty=false:=by
 rw [ByteArray.toList_eq,List.isEmpty_eq_false_iff_exists_mem];exact⟨s[0],by simp only [Array.mem_toList_iff];exact Array.getElem_mem h⟩
def Zi2 (s:Zy_):Int:=if ZeD s=true then Zo8 s else 0
theorem ZgZ {s:Zy_} (h:ZeD s=false):Zi2 s=0:=by unfold Zi2;simp [h]
theorem Zjl {s:Zy_} (h:ZeD s=true):Zi2 s=Zo8 s:=by unfold Zi2;simp [h]
theorem Zfh {a c:Int} {b d:Bool} (h:a=c) (h':b=d):Ending.returned (.tuple #[.int .i64 a,.bool b])=.returned (.tuple #[.int .i64 c,.bool d]):=by rw [h,h']
theorem Zdh (s:Zy_) (w:World) (hs:s.size≤maxLen) :
 Calls prog 261 #[.string s] w fun e w'=>e=.returned (.tuple #[.int .i64 (Zi2 s),.bool (ZeD s)])∧w'=w:=by
 unfold maxLen at hs
 by_cases hb0:0 < s.size
 · have he:=Zc5 hb0
   by_cases hb2:s.size≤7
   · have h1:Hid (inB 1 7 s.size=true):=by unfold Hid inB;simp;omega
     by_cases hz:((s[0].toNat:Int) == 48)=true
     · by_cases hb3:1 < s.size
       · have HB:Hid (ZeD s=false):=by unfold Hid ZeD;rw [Zil s hb0 hb3 hz];simp
         go_enter func261,ntmps261;go_wp2
         go_ret2
         exact⟨Zfh (ZgZ HB.out).symm HB.out.symm,rfl⟩
       · have HD:Hid (ZeD s=ZfV Zc6 s):=Zlw h1.out (Zic s (by omega))
         clear h1;go_enter func261,ntmps261;go_wp2
         go_loop [4,25] (fun n i=>∃ k:Nat,k≤s.size∧i=.int .i64 k∧n=.int .i64 (ZcY (s.data.toList.take k))∧(s.data.toList.take k).all Zc6=true) (fun _ i=>s.size - (intOf i).toNat)
         case atStart=>exact⟨0,Nat.zero_le _,rfl,rfl,rfl⟩
         case round=>
          obtain⟨k,hk,rfl,rfl,hall⟩:=hrel;obtain⟨v0,v1⟩:=Zcy s k hk hb2 hall;have HA:Hid ((s.data.toList.take k).all Zc6=true):=hall;clear hall
          by_cases hlt:k < s.size
          · have HV:Hid (ZcY (s.data.toList.take (k+1))=10*ZcY (s.data.toList.take k)+((s[k].toNat:Int) - 48)):=ZbR s k hlt
            have HS:Hid (Zc6 s[k]=true↔(48≤(s[k].toNat:Int)∧(s[k].toNat:Int)≤57)):=ZeG s[k];go_wp2
            all_goals first
             | (go_round
                case rel=>exact⟨k+1,by omega,by go_num,by rw [HV.out],Zcm HA.out hlt (HS.out.2 (by omega))⟩
                case measure=>simp [intOf];omega)
             | (go_ret2
                have HN:ZeD s=false:=by rw [HD.out];exact Zcl hlt (Bool.eq_false_iff.2 fun h=>by have:=HS.out.1 h;omega)
                exact⟨Zfh (ZgZ HN).symm HN.symm,rfl⟩)
          · go_wp2
            go_ret2
            have HN:ZeD s=true:=by rw [HD.out];exact ZcZ HA.out (by omega)
            exact⟨Zfh (by rw [Zjl HN,← ZdS (k:=k) (by omega)]) HN.symm,rfl⟩
     · have hz':((s[0].toNat:Int) == 48)=false:=by simpa using hz
       have HD:Hid (ZeD s=ZfV Zc6 s):=Zlw h1.out (Zhi s hb0 hz');clear h1 hz;go_enter func261,ntmps261;go_wp2
       go_loop [4,25] (fun n i=>∃ k:Nat,k≤s.size∧i=.int .i64 k∧n=.int .i64 (ZcY (s.data.toList.take k))∧(s.data.toList.take k).all Zc6=true) (fun _ i=>s.size - (intOf i).toNat)
       case atStart=>exact⟨0,Nat.zero_le _,rfl,rfl,rfl⟩
       case round=>
        obtain⟨k,hk,rfl,rfl,hall⟩:=hrel;obtain⟨v0,v1⟩:=Zcy s k hk hb2 hall;have HA:Hid ((s.data.toList.take k).all Zc6=true):=hall;clear hall
        by_cases hlt:k < s.size
        · have HV:Hid (ZcY (s.data.toList.take (k+1))=10*ZcY (s.data.toList.take k)+((s[k].toNat:Int) - 48)):=ZbR s k hlt
          have HS:Hid (Zc6 s[k]=true↔(48≤(s[k].toNat:Int)∧(s[k].toNat:Int)≤57)):=ZeG s[k];go_wp2
          all_goals first
           | (go_round
              case rel=>exact⟨k+1,by omega,by go_num,by rw [HV.out],Zcm HA.out hlt (HS.out.2 (by omega))⟩
              case measure=>simp [intOf];omega)
           | (go_ret2
              have HN:ZeD s=false:=by rw [HD.out];exact Zcl hlt (Bool.eq_false_iff.2 fun h=>by have:=HS.out.1 h;omega)
              exact⟨Zfh (ZgZ HN).symm HN.symm,rfl⟩)
        · go_wp2
          go_ret2
          have HN:ZeD s=true:=by rw [HD.out];exact ZcZ HA.out (by omega)
          exact⟨Zfh (by rw [Zjl HN,← ZdS (k:=k) (by omega)]) HN.symm,rfl⟩
   · have HB:Hid (ZeD s=false):=by unfold Hid ZeD inB;simp;intro h;omega
     go_enter func261,ntmps261;go_wp2
     go_ret2
     exact⟨Zfh (ZgZ HB.out).symm HB.out.symm,rfl⟩
 · have he:=Zem (s:=s) (by omega)
   have HB:Hid (ZeD s=false):=by unfold Hid ZeD inB;simp;intro h;omega
   go_enter func261,ntmps261;go_wp2
   go_ret2
   exact⟨Zfh (ZgZ HB.out).symm HB.out.symm,rfl⟩
def ZbX (c:UInt8):Bool:=decide (33≤c.toNat∧c.toNat≤126)
theorem Zgq (c:UInt8):ZbX c=true↔(33≤(c.toNat:Int)∧(c.toNat:Int)≤126):=by
 unfold ZbX;simp;omega
def ZfE (lo hi:Int) (s:Zy_):Bool:=decide (0 < s.size)&&inB lo hi s.size&&ZfV ZbX s
theorem ZeK {lo hi:Int} {s:Zy_} (h:¬ (0 < s.size∧lo≤s.size∧(s.size:Int)≤hi)):ZfE lo hi s=false:=by
 unfold ZfE inB;rw [Bool.eq_false_iff];simp;intro a b c;exact absurd ⟨a,b,c⟩ h
theorem ZpR {lo hi:Int} {s:Zy_} (h0:0 < s.size) (h1:lo≤s.size) (h2:(s.size:Int)≤hi):ZfE lo hi s=ZfV ZbX s:=by
 unfold ZfE inB;simp [h0,h1,h2]
theorem Zgt (lo hi:Int) (s:Zy_) (w:World) (hs:s.size≤maxLen) :
 Calls prog 321 #[.agg #[.int .i64 lo,.int .i64 hi],.string s] w fun e w'=>e=.returned (.bool (ZfE lo hi s))∧Zw_ w w':=by
 unfold maxLen at hs
 by_cases hb0:0 < s.size
 · have he:=Zc5 hb0
   by_cases h1:lo≤(s.size:Int)
   · by_cases h2:(s.size:Int)≤hi
     · have HD:Hid (ZfE lo hi s=ZfV ZbX s):=ZpR hb0 h1 h2
       go_enter func321,ntmps321;go_wp2
       go_loop [24] (fun i=>∃ k:Nat,k≤s.size∧i=.int .i64 k∧(s.data.toList.take k).all ZbX=true) (fun i=>s.size - (intOf i).toNat)
       case atStart=>exact⟨0,Nat.zero_le _,rfl,rfl⟩
       case round=>
        obtain⟨k,hk,rfl,hall⟩:=hrel;have HA:Hid ((s.data.toList.take k).all ZbX=true):=hall;clear hall
        by_cases hlt:k < s.size
        · have HS:Hid (ZbX s[k]=true↔(33≤(s[k].toNat:Int)∧(s[k].toNat:Int)≤126)):=Zgq s[k]
          go_wp2
          all_goals first
           | (go_round
              case rel=>exact⟨k+1,by omega,by go_num,Zcm HA.out hlt (HS.out.2 (by omega))⟩
              case measure=>simp [intOf];omega)
           | (go_ret
              exact⟨Zaa (by rw [HD.out];exact (Zcl hlt (Bool.eq_false_iff.2 fun h=>by have:=HS.out.1 h;omega)).symm),Zb_.alloc Zl_ _⟩)
        · go_wp2
          go_ret;exact⟨Zaa (by rw [HD.out];exact (ZcZ HA.out (by omega)).symm),Zb_.alloc Zl_ _⟩
     · have HB:Hid (ZfE lo hi s=false):=ZeK (by omega)
       go_enter func321,ntmps321;go_wp2;go_ret;exact⟨Zaa HB.out.symm,Zb_.alloc Zl_ _⟩
   · have HB:Hid (ZfE lo hi s=false):=ZeK (by omega)
     go_enter func321,ntmps321;go_wp2;go_ret;exact⟨Zaa HB.out.symm,Zb_.alloc Zl_ _⟩
 · have he:=Zem (s:=s) (by omega)
   have HB:Hid (ZfE lo hi s=false):=ZeK (by omega);go_enter func321,ntmps321;go_wp2;go_ret;exact⟨Zaa HB.out.symm,Zb_.alloc Zl_ _⟩
def Zag (w:World) (v:Value) (L:List Zy_):Prop:=
 (∃ (a:Option Addr) (cap:Nat),v=.slice a 0 cap∧L=[])∨
 ∃ (b off cap:Nat),v=.slice (some ⟨b,off,none⟩) L.length cap∧L≠[]∧L.length≤maxLen∧b < w.heap.size∧
  (∀ i (h:i < L.length),w.cell? ⟨b,off+i,none⟩=some (.string L[i]))∧∀ s ∈ L,s.size≤maxLen
theorem Zag.below {w w':World} {v:Value} {L:List Zy_} (h:Zag w v L) (hb:Zw_ w w'):Zag w' v L:=by
 rcases h with h | ⟨b,off,cap,h1,h2,h3,h4,h5,h6⟩
 · exact Or.inl h
 · exact Or.inr ⟨b,off,cap,h1,h2,h3,Zk_ h4 hb.size,fun i hi=>by rw [hb.cell (p:=⟨b,off+i,none⟩) h4];exact h5 i hi,h6⟩
def ZsG (n:Nat) (left r:Int):Prop:= -1≤r∧r≤left∧(0≤r→(n:Int)≤left)
theorem Zd1 (v:Value) (L:List Zy_) (left:Int) (w:World) (h0:0≤left) (h1:left≤1048576) (hv:Zag w v L) :
 Calls prog 66 #[v,.int .i64 left] w fun e w'=>∃ r:Int,e=.returned (.int .i64 r)∧w'=w∧ZsG L.length left r:=by
 rcases hv with ⟨a,cap,rfl,rfl⟩ | ⟨b,off,cap,rfl,hne,hm,hbw,hc,hsz⟩
 · go_enter func66,ntmps66
   go_wp2
   go_loop [1,5] (fun l i=>∃ r:Int,l=.int .i64 r∧0≤r∧r≤left∧i=.int .i64 0) (fun _ _=>0)
   case atStart=>exact⟨_,rfl,by omega,by omega,rfl⟩
   case round=>
    obtain⟨r,rfl,hr0,hr1,rfl⟩:=hrel;go_wp2;go_ret;exact⟨r,rfl,rfl,by omega,by omega,fun _=>by simp;omega⟩
 · unfold maxLen at hm
   by_cases hle:(L.length:Int)≤left
   · go_enter func66,ntmps66
     go_wp2
     go_loop [1,5] (fun l i=>∃ (r:Int) (k:Nat),l=.int .i64 r∧0≤r∧r≤left∧i=.int .i64 k∧k≤L.length) (fun _ i=>L.length - (intOf i).toNat)
     case atStart=>exact⟨_,0,rfl,by omega,by omega,rfl,by omega⟩
     case round=>
      obtain⟨r,k,rfl,hr0,hr1,rfl,hk⟩:=hrel
      by_cases hlt:k < L.length
      · have hck:=hc k hlt
        have hsk:=hsz L[k] (List.getElem_mem hlt);unfold maxLen at hsk;go_wp2
        all_goals first
         | (go_round
            case rel=>exact⟨_,k+1,rfl,by omega,by omega,by go_num,by omega⟩
            case measure=>simp [intOf];omega)
         | (go_ret
            exact⟨-1,rfl,rfl,by omega,by omega,fun h=>by omega⟩)
      · go_wp2
        go_ret;exact⟨r,rfl,rfl,by omega,by omega,fun _=>hle⟩
   · go_enter func66,ntmps66
     go_wp2;go_ret;exact⟨-1,rfl,rfl,by omega,by omega,fun h=>by omega⟩
def ZeQ (L:List Zy_) (s:Zy_):Bool:=L.any fun x=>x.toList == s.toList
theorem ZmU {L:List Zy_} {s:Zy_} {k:Nat} (h:k < L.length) (hp:(L[k].toList == s.toList)=true):ZeQ L s=true:=by
 unfold ZeQ;rw [List.any_eq_true];exact⟨L[k],List.getElem_mem h,hp⟩
theorem Zmk {L:List Zy_} {s:Zy_} {k:Nat} (h:ZeQ (L.take k) s=false) (hk:k < L.length) (hp:(L[k].toList == s.toList)=false):ZeQ (L.take (k+1)) s=false:=by
 unfold ZeQ at*;rw [List.take_succ_eq_append_getElem hk,List.any_append,h];simp [hp]
theorem ZoH {L:List Zy_} {s:Zy_} {k:Nat} (h:ZeQ (L.take k) s=false) (hk:L.length≤k):ZeQ L s=false:=by
 rwa [List.take_of_length_le hk] at h
theorem Zez (v:Value) (L:List Zy_) (s:Zy_) (w:World) (hv:Zag w v L) :
 Calls prog 200 #[v,.string s] w fun e w'=>e=.returned (.bool (ZeQ L s))∧w'=w:=by
 rcases hv with ⟨a,cap,rfl,rfl⟩ | ⟨b,off,cap,rfl,hne,hm,hbw,hc,hsz⟩
 · go_enter func200,ntmps200
   go_wp2
   go_loop [5] (fun i=>i=.int .i64 0) (fun _=>0)
   case atStart=>rfl
   case round=>
    subst hrel;go_wp2;go_ret;exact⟨rfl,rfl⟩
 · unfold maxLen at hm
   go_enter func200,ntmps200;go_wp2
   go_loop [5] (fun i=>∃ k:Nat,i=.int .i64 k∧k≤L.length∧ZeQ (L.take k) s=false) (fun i=>L.length - (intOf i).toNat)
   case atStart=>exact⟨0,rfl,by omega,rfl⟩
   case round=>
    obtain⟨k,rfl,hk,hh⟩:=hrel;have HH:Hid (ZeQ (L.take k) s=false):=hh;clear hh
    by_cases hlt:k < L.length
    · have hck:=hc k hlt
      by_cases he:(L[k].toList == s.toList)=true
      · go_wp2
        go_ret;exact⟨Zaa (ZmU hlt he).symm,rfl⟩
      · have he':(L[k].toList == s.toList)=false:=by simpa using he
        clear he;go_wp2
        go_round
        case rel=>exact⟨k+1,by go_num,by omega,Zmk HH.out hlt he'⟩
        case measure=>simp [intOf];omega
    · go_wp2
      go_ret;exact⟨Zaa (ZoH HH.out (by omega)).symm,rfl⟩
theorem ZoC (v:Value) (L:List Zy_) (s:Zy_) (w:World) (hv:Zag w v L) :
 Calls prog 264 #[v,.string s] w fun e w'=>∃ r:Int,e=.returned (.int .i64 r)∧w'=w∧decide (0≤r)=ZeQ L s:=by
 rcases hv with ⟨a,cap,rfl,rfl⟩ | ⟨b,off,cap,rfl,hne,hm,hbw,hc,hsz⟩
 · go_enter func264,ntmps264
   go_wp2
   go_loop [8] (fun i=>i=.int .i64 0) (fun _=>0)
   case atStart=>rfl
   case round=>
    subst hrel;go_wp2;go_ret;exact⟨-1,rfl,rfl,rfl⟩
 · unfold maxLen at hm
   go_enter func264,ntmps264;go_wp2
   go_loop [8] (fun i=>∃ k:Nat,i=.int .i64 k∧k≤L.length∧ZeQ (L.take k) s=false) (fun i=>L.length - (intOf i).toNat)
   case atStart=>exact⟨0,rfl,by omega,rfl⟩
   case round=>
    obtain⟨k,rfl,hk,hh⟩:=hrel;have HH:Hid (ZeQ (L.take k) s=false):=hh;clear hh
    by_cases hlt:k < L.length
    · have hck:=hc k hlt
      by_cases he:(s.toList == L[k].toList)=true
      · go_wp2
        go_ret;exact⟨k,rfl,rfl,by rw [ZmU hlt (by rw [Bool.beq_comm];exact he)];simp⟩
      · have he':(s.toList == L[k].toList)=false:=by simpa using he
        clear he;go_wp2
        go_round
        case rel=>exact⟨k+1,by go_num,by omega,Zmk HH.out hlt (by rw [Bool.beq_comm];exact he')⟩
        case measure=>simp [intOf];omega
    · go_wp2
      go_ret;exact⟨-1,rfl,rfl,by rw [ZoH HH.out (by omega)];rfl⟩
theorem Zes (v:Value) (L:List Zy_) (s:Zy_) (w:World) (hv:Zag w v L) :
 Calls prog 253 #[v,.string s] w fun e w'=>e=.returned (.bool (ZeQ L s))∧w'=w:=by
 go_enter func253,ntmps253;go_wp2_with fail;refine (ZoC v L s _ hv).mono ?_;rintro e w1 ⟨r,rfl,rfl,hr⟩;have HR:Hid (decide (0≤r)=ZeQ L s):=hr;clear hr;go_wp2;go_ret;exact⟨Zaa HR.out,rfl⟩
end Go.Proofs.YtlmippkhpjcfcaaGreat
namespace Go.Proofs.YtlmippkhpjcfcaaGreat
open Go.RowKit Go.Deep
theorem Zdn (v v':Value) (L:List Zy_) (w:World) (hv:Zag w v L) (hv':Zag w v' L) :
 Calls prog 74 #[v,v'] w fun e w'=>e=.returned (.bool true)∧Zw_ w w':=by
 by_cases hL:L=[]
 · subst hL
   obtain⟨a,cap,rfl⟩:∃ a cap,v=.slice a 0 cap:=by
    rcases hv with ⟨a,cap,h,_⟩ | ⟨b,off,cap,h,hne,_⟩
    · exact⟨a,cap,h⟩
    · exact absurd rfl hne
   obtain⟨a',cap',rfl⟩:∃ a cap,v'=.slice a 0 cap:=by
    rcases hv' with ⟨a,cap,h,_⟩ | ⟨b,off,cap,h,hne,_⟩
    · exact⟨a,cap,h⟩
    · exact absurd rfl hne
   clear hv hv';go_enter func74,ntmps74;go_wp2
   go_loop [5] (fun i=>i=.int .i64 0) (fun _=>0)
   case atStart=>rfl
   case round=>
    subst hrel;go_wp2;go_ret;exact⟨rfl,Below.refl _ _⟩
 · obtain⟨b,off,cap,rfl,hm,hbw,hc⟩:∃ b off cap,v=.slice (some ⟨b,off,none⟩) L.length cap∧L.length≤maxLen∧b < w.heap.size∧∀ i (h:i < L.length),w.cell? ⟨b,off+i,none⟩=some (.string L[i]):=by
    rcases hv with ⟨a,cap,h,h'⟩ | ⟨b,off,cap,h,hne,hm,hbw,hc,_⟩
    · exact absurd h' hL
    · exact⟨b,off,cap,h,hm,hbw,hc⟩
   obtain⟨b',off',cap',rfl,_,hbw',hc'⟩:∃ b off cap,v'=.slice (some ⟨b,off,none⟩) L.length cap∧L.length≤maxLen∧b < w.heap.size∧∀ i (h:i < L.length),w.cell? ⟨b,off+i,none⟩=some (.string L[i]):=by
    rcases hv' with ⟨a,cap,h,h'⟩ | ⟨b,off,cap,h,hne,hm,hbw,hc,_⟩
    · exact absurd h' hL
    · exact⟨b,off,cap,h,hm,hbw,hc⟩
   clear hv hv';unfold maxLen at hm;go_enter func74,ntmps74;go_wp2
   go_loopw [5] (fun i wr=>∃ k:Nat,i=.int .i64 k∧k≤L.length∧Zw_ w wr) (fun i _=>L.length - (intOf i).toNat)
   case atStart=>exact⟨0,rfl,by omega,Below.refl _ _⟩
   case round=>
    obtain⟨k,rfl,hk,hb⟩:=hrel
    by_cases hlt:k < L.length
    · have hck:wr.cell? ⟨b,off+k,none⟩=some (.string L[k]):=by rw [hb.cell (p:=⟨b,off+k,none⟩) hbw];exact hc k hlt
      have hck':wr.cell? ⟨b',off'+k,none⟩=some (.string L[k]):=by rw [hb.cell (p:=⟨b',off'+k,none⟩) hbw'];exact hc' k hlt
      go_wp2
      go_quiet (fail)
      go_wp2;go_roundw
      case rel=>exact⟨k+1,by go_num,by omega,below_drewN hb _⟩
      case measure=>simp [intOf];omega
    · go_wp2
      go_ret;exact⟨rfl,hb⟩
theorem Tryz.info9:(prog.info? 9).map (fun i=>(i.zero,i.size,i.bytes))=some (some (.string ⟨#[]⟩),1,16):=by kernel_rfl
def ZqC (L:List Zy_) (k i:Nat):Value:=if i < k then .string (L.getD i ⟨#[]⟩) else .string ⟨#[]⟩
def Zcg (wr:World) (B:Nat) (L:List Zy_) (k:Nat):Prop:=wr.rowIs B 9 L.length (ZqC L k)
theorem Zcg.step {wr:World} {B:Nat} {L:List Zy_} {k:Nat} (h:Zcg wr B L k) (hk:k < L.length):Zcg (wr.setCell ⟨B,k,none⟩ (.string L[k])) B L (k+1):=by
 unfold Zcg at*;refine (h.set k (.string L[k])).congr fun i hi=>?_
 unfold ZqC
 by_cases e:i=k
 · subst e;simp [hk]
 · by_cases e2:i < k
   · simp [e,e2,Nat.lt_succ_of_lt e2]
   · have:¬ i < k+1:=by omega
     simp [e,e2,this]
theorem Zcg.old {wr:World} {B:Nat} {L:List Zy_} {k:Nat} (h:Zcg wr B L k) (hk:k < L.length):∃ v,wr.cell? ⟨B,k,none⟩=some v:=⟨_,World.rowIs.cell h hk⟩
theorem Zcg.frozen {wr:World} {B:Nat} {L:List Zy_} {k:Nat} (h:Zcg wr B L k) (i:Nat):wr.frozen? ⟨B,i,none⟩=false:=World.rowIs.frozen h i
def Zaq (lo:Nat) (w:World) (v:Value) (L:List Zy_):Prop:=
 (∃ (a:Option Addr) (cap:Nat),v=.slice a 0 cap∧L=[])∨
 ∃ (b off cap:Nat),v=.slice (some ⟨b,off,none⟩) L.length cap∧L≠[]∧L.length≤maxLen∧b < w.heap.size∧
  (∀ i (h:i < L.length),w.cell? ⟨b,off+i,none⟩=some (.string L[i]))∧(∀ s ∈ L,s.size≤maxLen)∧lo≤b
theorem Zaq.at {lo:Nat} {w:World} {v:Value} {L:List Zy_} (h:Zaq lo w v L):Zag w v L:=by
 rcases h with h | ⟨b,off,cap,h1,h2,h3,h4,h5,h6,_⟩
 · exact Or.inl h
 · exact Or.inr ⟨b,off,cap,h1,h2,h3,h4,h5,h6⟩
theorem Zaq.mono {lo lo':Nat} {w:World} {v:Value} {L:List Zy_} (h:Zaq lo w v L) (hl:lo'≤lo):Zaq lo' w v L:=by
 rcases h with h | ⟨b,off,cap,h1,h2,h3,h4,h5,h6,h7⟩
 · exact Or.inl h
 · exact Or.inr ⟨b,off,cap,h1,h2,h3,h4,h5,h6,Nat.le_trans hl h7⟩
theorem Zaq.below {lo:Nat} {w w':World} {v:Value} {L:List Zy_} (h:Zaq lo w v L) (hb:Zw_ w w'):Zaq lo w' v L:=by
 rcases h with h | ⟨b,off,cap,h1,h2,h3,h4,h5,h6,h7⟩
 · exact Or.inl h
 · exact Or.inr ⟨b,off,cap,h1,h2,h3,Zk_ h4 hb.size,fun i hi=>by rw [hb.cell (p:=⟨b,off+i,none⟩) h4];exact h5 i hi,h6,h7⟩
theorem Zas (w:World) (p q:Addr) (u:Value) (h:q.block≠p.block):(w.setCell p u).cell? q=w.cell? q:=
 World.cell?_of_block (w:=w) (Below.heap_setCell w p u q.block h)
theorem Zaq.setCell {lo:Nat} {w:World} {v:Value} {L:List Zy_} (h:Zaq lo w v L) {p:Addr} (hp:p.block < lo) (u:Value):Zaq lo (w.setCell p u) v L:=by
 rcases h with h | ⟨b,off,cap,h1,h2,h3,h4,h5,h6,h7⟩
 · exact Or.inl h
 · exact Or.inr ⟨b,off,cap,h1,h2,h3,by simpa [World.setCell] using h4,fun i hi=>by rw [Zas _ _ _ _ (by show b≠p.block;omega)];exact h5 i hi,h6,h7⟩
theorem Zaq.form {lo:Nat} {w:World} {v:Value} {L:List Zy_} (h:Zaq lo w v L):∃ a n cap,v=.slice a n cap:=by
 rcases h with ⟨a,cap,h,_⟩ | ⟨b,off,cap,h,_⟩
 · exact⟨a,_,cap,h⟩
 · exact⟨_,_,cap,h⟩
theorem Zag.form {w:World} {v:Value} {L:List Zy_} (h:Zag w v L):∃ a n cap,v=.slice a n cap:=by
 rcases h with ⟨a,cap,h,_⟩ | ⟨b,off,cap,h,_⟩
 · exact⟨a,_,cap,h⟩
 · exact⟨_,_,cap,h⟩
theorem Zcg.done {wr:World} {B:Nat} {L:List Zy_} {k:Nat} (h:Zcg wr B L k) (hk:L.length≤k) (hne:L≠[]) (hm:L.length≤maxLen) (hs:∀ s ∈ L,s.size≤maxLen):Zaq B wr (.slice (some ⟨B,0,none⟩) L.length L.length) L:=by
 refine Or.inr ⟨B,0,L.length,rfl,hne,hm,World.rowIs.lt h,fun i hi=>?_,hs,Nat.le_refl _⟩;rw [Nat.zero_add,World.rowIs.cell h hi];unfold ZqC;rw [if_pos (by omega),List.getD_eq_getElem?_getD,List.getElem?_eq_getElem hi];rfl
theorem ZdU (v:Value) (L:List Zy_) (w:World) (hv:Zag w v L) (hn:L.length≤1048576) :
 Calls prog 70 #[v] w fun e w'=>∃ v',e=.returned v'∧Zw_ w w'∧Zaq w.heap.size w' v' L:=by
 rcases hv with ⟨a,cap,rfl,rfl⟩ | ⟨b,off,cap,rfl,hne,hm,hbw,hc,hsz⟩
 · have hmk:∀ u:World,(Instr.makeSlice 55 (.int .i64 0) (.int .i64 0)).run prog u=.ok (.slice (some ⟨u.heap.size,0,none⟩) 0 0) (u.alloc (.cells (madeCells #[.string ⟨#[]⟩] 0) 9)):=
    fun u=>run_make_row' 55 9 (.string ⟨#[]⟩) 16 underlying55 Tryz.info9 rfl .i64 .i64 0 (by omega) (by omega) u
   go_enter func70,ntmps70;go_wp2
   go_loop [4] (fun i=>i=.int .i64 0) (fun _=>0)
   case atStart=>rfl
   case round=>
    subst hrel;go_wp2;go_ret;exact⟨_,rfl,Zb_.alloc Zl_ _,Or.inl ⟨_,_,rfl,rfl⟩⟩
 · have HM:Hid (L.length≤maxLen):=hm
   unfold maxLen at hm
   have hmk:∀ u:World,(Instr.makeSlice 55 (.int .i64 (L.length:Int)) (.int .i64 (L.length:Int))).run prog u=.ok (.slice (some ⟨u.heap.size,0,none⟩) L.length L.length) (u.alloc (.cells (madeCells #[.string ⟨#[]⟩] L.length) 9)):=
    fun u=>run_make_row' 55 9 (.string ⟨#[]⟩) 16 underlying55 Tryz.info9 rfl .i64 .i64 L.length (by omega) (by omega) u
   go_enter func70,ntmps70;go_wp2;clear hmk
   go_loopw [4] (fun i wr=>∃ k:Nat,i=.int .i64 k∧k≤L.length∧Zw_ w wr∧Zcg wr w.heap.size L k) (fun i _=>L.length - (intOf i).toNat)
   case atStart=>exact⟨0,rfl,by omega,Zb_.alloc Zl_ _,World.rowIs_made w (.string ⟨#[]⟩) L.length 9⟩
   case round=>
    obtain⟨k,rfl,hk,hb,hf⟩:=hrel
    by_cases hlt:k < L.length
    · have hck:wr.cell? ⟨b,off+k,none⟩=some (.string L[k]):=by rw [hb.cell (p:=⟨b,off+k,none⟩) hbw];exact hc k hlt
      obtain⟨old,hold⟩:=hf.old hlt;have hfz:=hf.frozen k;go_wp2;go_roundw
      case rel=>exact⟨k+1,by go_num,by omega,hb.setCell Zl_ _,hf.step hlt⟩
      case measure=>simp [intOf];omega
    · go_wp2
      go_ret;exact⟨_,rfl,hb,hf.done (by omega) hne HM.out hsz⟩
end Go.Proofs.YtlmippkhpjcfcaaGreat
