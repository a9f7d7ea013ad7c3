import Derived.Test.YtfohnageehneoaaGreatRows
import Derived.WalkKit
import Derived.WalkSpells
import Derived.WalkLawsBesides
import Derived.Deep.QuietTactic
import Derived.BigQuiet
import Derived.Deep.OwnRows
import Derived.WideMake
import Derived.Deep.RegionWith
set_option maxHeartbeats 16000000
set_option maxRecDepth 100000
open Go.Proofs.Tryz
namespace Go.Proofs.YtfohnageehneoaaGreat
open Go.RowKit
variable {b:Bool} {k lo B:Nat} {hi:Int} {w' wr:World} {v:Value}
theorem Zl_ {n:Nat}:n<=n:=Nat.le_refl n
theorem Zb_{n:Nat} {w:World}:Below n w w:=Below.refl n w
theorem Zz_ {n:Nat}:0<=n:=Nat.zero_le n
theorem Zk_ {a b c:Nat}(h:a<b)(k:b<=c):a<c:=Nat.lt_of_lt_of_le h k
abbrev Zy_:=ByteArray
@[simp] abbrev Zw_(w w_1:World):Prop:=Below w.heap.size w w_1
def Hd (p:Prop):Prop:=p
theorem Hd.o {p:Prop} (h:Hd p):p:=h
theorem Zab {p:Prop} (h:p):Hd p:=h
def inB (lo hi n:Int):Bool:=decide (lo<=n/\n<=hi)
theorem ZdF (lo hi n:Int):inB lo hi n=(decide (lo<=n)&&decide (n<=hi)):=by unfold inB;simp
theorem Zaa {a:Bool} (h:a=b):Ending.returned (.bool a)=.returned (.bool b):=by rw [h]
theorem Zar (n lo hi:Int) (w:World) :
 Calls prog 38 #[.int .i64 n,.int .i64 lo,.int .i64 hi] w fun e w'=>e=.returned (.bool (inB lo hi n))/\w'=w:=by
 rw [ZdF]
 by_cases h1:lo<=n
 . by_cases h2:n<=hi
   all_goals
    go_enter func38,ntmps38;go_wp2;go_ret;exact⟨Zaa (by simp [h1,h2]),rfl⟩
 . go_enter func38,ntmps38
   go_wp2;go_ret;refine⟨Zaa ?_,rfl⟩;rw [Bool.eq_iff_iff];simp;omega
def Zaw (c:UInt8):Bool:=decide (97<=c.toNat/\c.toNat<=122\/48<=c.toNat/\c.toNat<=57\/c.toNat=45)
theorem ZcJ (c:UInt8) (w:World) :
 Calls prog 98 #[.int .u8 c.toNat] w fun e w'=>e=.returned (.bool (Zaw c))/\w'=w:=by
 have hc:=c.toNat_lt;generalize hb:Zaw c=b;have hb':b=decide (97<=c.toNat/\c.toNat<=122\/48<=c.toNat/\c.toNat<=57\/c.toNat=45):=by rw [<- hb];rfl
 clear hb;generalize c.toNat=x at*;have H:Hd (b=decide (97<=x/\x<=122\/48<=x/\x<=57\/x=45)):=hb';clear hb';go_enter func98,ntmps98;go_wp2
 all_goals go_ret
 all_goals refine⟨Zaa ?_,rfl⟩
 all_goals rw [H.o]
 all_goals (rw [Bool.eq_iff_iff];simp;omega)
def ZfJ (p:UInt8->Bool) (s:Zy_):Bool:=s.data.toList.all p
theorem Zhu (s:Zy_) (k:Nat) (h:k < s.size):s.data.toList.take (k+1)=s.data.toList.take k ++ [s[k]]:=by
 rw [List.take_succ_eq_append_getElem (by simpa using h)];rfl
theorem Zcj {p:UInt8->Bool}{s:Zy_} (h:k < s.size) (hp:p s[k]=false):ZfJ p s=false:=by
 unfold ZfJ;rw [List.all_eq_false];exact⟨s[k],by simp only [Array.mem_toList_iff];exact Array.getElem_mem h,by simp [hp]⟩
theorem Zc0 {p:UInt8->Bool}{s:Zy_} (h:(s.data.toList.take k).all p=true) (hk:s.size<=k):ZfJ p s=true:=by
 unfold ZfJ
 rwa [List.take_of_length_le (by simpa using hk)] at h
theorem Zck {p:UInt8->Bool}{s:Zy_} (h:(s.data.toList.take k).all p=true) (hk:k < s.size) (hp:p s[k]=true):(s.data.toList.take (k+1)).all p=true:=by
 rw [Zhu s k hk,List.all_append,h];simp [hp]
theorem Zkj (c:UInt8):Zaw c=true↔(97<=(c.toNat:Int)/\(c.toNat:Int)<=122\/48<=(c.toNat:Int)/\(c.toNat:Int)<=57\/(c.toNat:Int)=45):=by
 unfold Zaw;simp;omega
theorem ZfD (s:Zy_) (w:World) (hs:s.size<=maxLen) :
 Calls prog 170 #[.string s] w fun e w'=>e=.returned (.bool (ZfJ Zaw s))/\w'=w:=by
 unfold maxLen at hs;go_enter func170,ntmps170;go_wp2
 go_loop [7] (fun i=>∃ k:Nat,k<=s.size/\i=.int .i64 k/\(s.data.toList.take k).all Zaw=true) (fun i=>s.size - (intOf i).toNat)
 case atStart=>exact⟨0,Nat.zero_le _,rfl,rfl⟩
 case round=>
  obtain⟨k,hk,rfl,hall⟩:=hrel;have HA:Hd ((s.data.toList.take k).all Zaw=true):=hall;clear hall
  by_cases hlt:k < s.size
  . have hsn:=Zkj s[k]
    have HS:Hd (Zaw s[k]=true↔(97<=(s[k].toNat:Int)/\(s[k].toNat:Int)<=122\/48<=(s[k].toNat:Int)/\(s[k].toNat:Int)<=57\/(s[k].toNat:Int)=45)):=hsn;clear hsn;go_wp2
    all_goals try simp only [bne_iff_ne,ne_eq,bne_eq_false_iff_eq] at*
    all_goals first
     | (go_round
        . exact⟨k+1,by omega,by go_num,Zck HA.o hlt (HS.o.2 (by omega))⟩
        . simp [intOf];omega)
     | (go_ret
        exact⟨Zaa (Zcj hlt (Bool.eq_false_iff.2 fun h=>by have:=HS.o.1 h;omega)).symm,rfl⟩)
  . go_wp2
    go_ret;exact⟨Zaa (Zc0 HA.o (by omega)).symm,rfl⟩
def Zan (s:Zy_):Bool:=inB 1 16 s.size&&ZfJ Zaw s
theorem Zao (s:Zy_) (w:World) (hs:s.size<=maxLen) :
 Calls prog 110 #[.string s] w fun e w'=>e=.returned (.bool (Zan s))/\w'=w:=by
 have hk:=ZfD s w hs;unfold maxLen at hs
 by_cases h1:1<=(s.size:Int)
 . by_cases h2:(s.size:Int)<=16
   . have HB:Hd (Zan s=ZfJ Zaw s):=by unfold Hd Zan inB;simp;intro h;omega
     go_enter func110,ntmps110;go_wp2_with (go_at_call 170;refine hk.mono ?_;rintro e w' ⟨rfl,rfl⟩);go_ret;exact⟨Zaa HB.o.symm,rfl⟩
   . have HB:Hd (Zan s=false):=by unfold Hd Zan inB;simp;intro h;omega
     go_enter func110,ntmps110;go_wp2;go_ret;exact⟨Zaa HB.o.symm,rfl⟩
 . have HB:Hd (Zan s=false):=by unfold Hd Zan inB;simp;intro h;omega
   go_enter func110,ntmps110;go_wp2;go_ret;exact⟨Zaa HB.o.symm,rfl⟩
theorem Zaf (s:Zy_) (w:World) (hs:s.size<=maxLen) :
 Calls prog 37 #[.string s] w fun e w'=>e=.returned (.bool (Zan s))/\w'=w:=by
 unfold maxLen at hs
 by_cases h1:inB 1 16 s.size=true
 . have HB:Hd (Zan s=ZfJ Zaw s):=by unfold Hd Zan;simp [h1]
   go_enter func37,ntmps37;go_wp2_with (go_at_call 38;refine (Zar _ _ _ _).mono ?_;rintro e w' ⟨rfl,rfl⟩)
   go_loop [3] (fun i=>∃ k:Nat,k<=s.size/\i=.int .i64 k/\(s.data.toList.take k).all Zaw=true) (fun i=>s.size - (intOf i).toNat)
   case atStart=>exact⟨0,Nat.zero_le _,rfl,rfl⟩
   case round=>
    obtain⟨k,hk,rfl,hall⟩:=hrel;have HA:Hd ((s.data.toList.take k).all Zaw=true):=hall;clear hall
    by_cases hlt:k < s.size
    . by_cases hn:Zaw s[k]=true
      . go_wp2_with (go_at_call 98;refine (ZcJ _ _).mono ?_;rintro e w' ⟨rfl,rfl⟩)
        go_round
        . exact⟨k+1,by omega,by go_num,Zck HA.o hlt hn⟩
        . simp [intOf];omega
      . have hn':Zaw s[k]=false:=by simpa using hn
        go_wp2_with (go_at_call 98;refine (ZcJ _ _).mono ?_;rintro e w' ⟨rfl,rfl⟩);go_ret;exact⟨Zaa (by rw [HB.o,Zcj hlt hn']),rfl⟩
    . go_wp2
      go_ret;exact⟨Zaa (by rw [HB.o,Zc0 HA.o (by omega)]),rfl⟩
 . have h1':inB 1 16 s.size=false:=by simpa using h1
   have HB:Hd (Zan s=false):=by unfold Hd Zan;simp [h1']
   go_enter func37,ntmps37;go_wp2_with (go_at_call 38;refine (Zar _ _ _ _).mono ?_;rintro e w' ⟨rfl,rfl⟩);go_ret;exact⟨Zaa HB.o.symm,rfl⟩
theorem ZaC {a b:Int} (h:a=b):Ending.returned (.int .i64 a)=.returned (.int .i64 b):=by rw [h]
def Zc6 (c:UInt8):Bool:=decide (48<=c.toNat/\c.toNat<=57)
theorem Zeq (c:UInt8):Zc6 c=true↔(48<=(c.toNat:Int)/\(c.toNat:Int)<=57):=by
 unfold Zc6;simp;omega
def ZcU (l:List UInt8):Int:=l.foldl (fun n c=>10*n+((c.toNat:Int) - 48)) 0
theorem ZmG (l:List UInt8) (c:UInt8):ZcU (l ++ [c])=10*ZcU l+((c.toNat:Int) - 48):=by
 unfold ZcU;rw [List.foldl_append];rfl
theorem ZbL (s:Zy_) (k:Nat) (h:k < s.size):ZcU (s.data.toList.take (k+1))=10*ZcU (s.data.toList.take k)+((s[k].toNat:Int) - 48):=by
 rw [Zhu s k h,ZmG]
theorem ZeS (s:Zy_) (k:Nat):k<=s.size->(s.data.toList.take k).all Zc6=true->0<=ZcU (s.data.toList.take k)/\ZcU (s.data.toList.take k) < 10 ^ k:=by
 induction k with
 | zero=>intro _ _;simp [ZcU]
 | succ k ih=>
  intro hk h;rw [Zhu s k (by omega),List.all_append] at h;simp only [Bool.and_eq_true,List.all_cons,List.all_nil,Bool.and_true] at h;obtain⟨i1,i2⟩:=ih (by omega) h.1;have hd:=(Zeq _).1 h.2;rw [ZbL s k (by omega),Int.pow_succ]
  omega
theorem Zcx (s:Zy_) (k:Nat) (hk:k<=s.size) (h7:s.size<=7) (h:(s.data.toList.take k).all Zc6=true):0<=ZcU (s.data.toList.take k)/\ZcU (s.data.toList.take k) < 10000000:=by
 obtain⟨h0,h1⟩:=ZeS s k hk h;refine⟨h0,?_⟩;have:k=0\/k=1\/k=2\/k=3\/k=4\/k=5\/k=6\/k=7:=by omega
 generalize ZcU (s.data.toList.take k)=v at*
 rcases this with rfl | rfl | rfl | rfl | rfl | rfl | rfl | rfl <;> simp at h1 <;> omega
def Zfm (s:Zy_):Bool:=!(decide (1 < s.size)&&(s.data.toList.head? == some 48))
theorem ZoE (s:Zy_) (h:0 < s.size):s.data.toList.head?=some s[0]:=by
 have:0 < s.data.toList.length:=by simpa using h
 rw [List.head?_eq_getElem?,List.getElem?_eq_getElem this];rfl
theorem ZhY (s:Zy_) (h:0 < s.size) (h1:1 < s.size) (hz:((s[0].toNat:Int) == 48)=true):Zfm s=false:=by
 have e:s[0]=48:=by
  have h48:(s[0].toNat:Int)=48:=by simpa using hz
  exact UInt8.toNat_inj.1 (by show s[0].toNat=48;omega)
 unfold Zfm;rw [ZoE s h,e];simp [h1]
theorem Zhj (s:Zy_) (h:0 < s.size) (hz:((s[0].toNat:Int) == 48)=false):Zfm s=true:=by
 have e:s[0]≠48:=by
  intro e;rw [e] at hz;simp at hz
 unfold Zfm;rw [ZoE s h];simp [e]
theorem Zh7 (s:Zy_) (h:s.size<=1):Zfm s=true:=by
 unfold Zfm;simp;omega
def Zer (s:Zy_):Bool:=inB 1 7 s.size&&Zfm s&&ZfJ Zc6 s
def ZpE (s:Zy_):Int:=ZcU s.data.toList
def Zmg (s:Zy_):Int:=if Zer s=true then ZpE s else -1
theorem ZkN {s:Zy_} (h1:inB 1 7 s.size=true) (h2:Zfm s=true):Zer s=ZfJ Zc6 s:=by unfold Zer;simp [h1,h2]
theorem Zg1 {s:Zy_} (h:Zer s=false):Zmg s= -1:=by unfold Zmg;simp [h]
theorem ZiN {s:Zy_} (h:Zer s=true):Zmg s=ZpE s:=by unfold Zmg;simp [h]
theorem ZdO {s:Zy_} (h:s.size<=k):ZcU (s.data.toList.take k)=ZpE s:=by
 unfold ZpE;rw [List.take_of_length_le (by simpa using h)]
theorem Zbi (s:Zy_) (w:World) (hs:s.size<=maxLen) :
 Calls prog 176 #[.string s] w fun e w'=>e=.returned (.int .i64 (Zmg s))/\w'=w:=by
 unfold maxLen at hs
 by_cases h1:inB 1 7 s.size=true
 . have hb:1<=s.size/\s.size<=7:=by have:=h1;unfold inB at this;simp at this;omega
   obtain⟨hb1,hb2⟩:=hb;have hb0:0 < s.size:=by omega
   have fin:∀ (hh:Hd (Zfm s=true)),Hd (Zer s=ZfJ Zc6 s):=fun hh=>ZkN h1 hh.o
   by_cases hbad:1 < s.size/\((s[0].toNat:Int) == 48)=true
   . obtain⟨hb3,hz⟩:=hbad
     have HB:Hd (Zmg s= -1):=Zg1 (by unfold Zer;rw [ZhY s hb0 hb3 hz];simp);clear fin;go_enter func176,ntmps176;go_wp2_with (go_at_call 38;refine (Zar _ _ _ _).mono ?_;rintro e w' ⟨rfl,rfl⟩);go_ret;exact⟨ZaC HB.o.symm,rfl⟩
   . have HD:Hd (Zer s=ZfJ Zc6 s):=by
      refine fin ?_
      by_cases h2:1 < s.size
      . exact Zhj s hb0 (by simpa [h2] using hbad)
      . exact Zh7 s (by omega)
     clear fin
     have hq:s.size=1\/(1 < s.size/\((s[0].toNat:Int) == 48)=false):=by
      by_cases h2:1 < s.size
      . exact Or.inr ⟨h2,by simpa [h2] using hbad⟩
      . left;omega
     clear hbad
     have hq':Hd (¬ 1 < s.size)\/(1 < s.size/\((s[0].toNat:Int) == 48)=false):=by
      rcases hq with hq | hq
      . left;unfold Hd;omega
      . exact Or.inr hq
     clear hq
     rcases hq' with hq | ⟨hq,hz⟩
     . replace hq:¬ 1 < s.size:=hq.o
       go_enter func176,ntmps176;go_wp2_with (go_at_call 38;refine (Zar _ _ _ _).mono ?_;rintro e w' ⟨rfl,rfl⟩)
       go_loop [3,4] (fun n i=>∃ k:Nat,k<=s.size/\i=.int .i64 k/\n=.int .i64 (ZcU (s.data.toList.take k))/\(s.data.toList.take k).all Zc6=true) (fun _ i=>s.size - (intOf i).toNat)
       case atStart=>exact⟨0,Nat.zero_le _,rfl,rfl,rfl⟩
       case round=>
        obtain⟨k,hk,rfl,rfl,hall⟩:=hrel;obtain⟨v0,v1⟩:=Zcx s k hk hb2 hall;have HA:Hd ((s.data.toList.take k).all Zc6=true):=hall;clear hall
        by_cases hlt:k < s.size
        . have HV:Hd (ZcU (s.data.toList.take (k+1))=10*ZcU (s.data.toList.take k)+((s[k].toNat:Int) - 48)):=ZbL s k hlt
          have HS:Hd (Zc6 s[k]=true↔(48<=(s[k].toNat:Int)/\(s[k].toNat:Int)<=57)):=Zeq s[k];go_wp2
          all_goals first
           | (go_round
              . exact⟨k+1,by omega,by go_num,by rw [HV.o];go_num,Zck HA.o hlt (HS.o.2 (by omega))⟩
              . simp [intOf];omega)
           | (go_ret
              exact⟨ZaC (Zg1 (by rw [HD.o];exact Zcj hlt (Bool.eq_false_iff.2 fun h=>by have:=HS.o.1 h;omega))).symm,rfl⟩)
        . go_wp2
          go_ret;exact⟨ZaC (by rw [ZiN (by rw [HD.o];exact Zc0 HA.o (by omega)),<- ZdO (k:=k) (by omega)]),rfl⟩
     . go_enter func176,ntmps176
       go_wp2_with (go_at_call 38;refine (Zar _ _ _ _).mono ?_;rintro e w' ⟨rfl,rfl⟩)
       go_loop [3,4] (fun n i=>∃ k:Nat,k<=s.size/\i=.int .i64 k/\n=.int .i64 (ZcU (s.data.toList.take k))/\(s.data.toList.take k).all Zc6=true) (fun _ i=>s.size - (intOf i).toNat)
       case atStart=>exact⟨0,Nat.zero_le _,rfl,rfl,rfl⟩
       case round=>
        obtain⟨k,hk,rfl,rfl,hall⟩:=hrel;obtain⟨v0,v1⟩:=Zcx s k hk hb2 hall;have HA:Hd ((s.data.toList.take k).all Zc6=true):=hall;clear hall
        by_cases hlt:k < s.size
        . have HV:Hd (ZcU (s.data.toList.take (k+1))=10*ZcU (s.data.toList.take k)+((s[k].toNat:Int) - 48)):=ZbL s k hlt
          have HS:Hd (Zc6 s[k]=true↔(48<=(s[k].toNat:Int)/\(s[k].toNat:Int)<=57)):=Zeq s[k];go_wp2
          all_goals first
           | (go_round
              . exact⟨k+1,by omega,by go_num,by rw [HV.o];go_num,Zck HA.o hlt (HS.o.2 (by omega))⟩
              . simp [intOf];omega)
           | (go_ret
              exact⟨ZaC (Zg1 (by rw [HD.o];exact Zcj hlt (Bool.eq_false_iff.2 fun h=>by have:=HS.o.1 h;omega))).symm,rfl⟩)
        . go_wp2
          go_ret;exact⟨ZaC (by rw [ZiN (by rw [HD.o];exact Zc0 HA.o (by omega)),<- ZdO (k:=k) (by omega)]),rfl⟩
 . have h1':inB 1 7 s.size=false:=by simpa using h1
   have HB:Hd (Zmg s= -1):=Zg1 (by unfold Zer;simp [h1']);go_enter func176,ntmps176;go_wp2_with (go_at_call 38;refine (Zar _ _ _ _).mono ?_;rintro e w' ⟨rfl,rfl⟩);go_ret;exact⟨ZaC HB.o.symm,rfl⟩
theorem Zeg {s:Zy_} (h:s.size=0):s.toList.isEmpty=true:=by
 rw [ByteArray.toList_eq,List.isEmpty_iff_length_eq_zero];simpa using h
theorem Zc9 {s:Zy_} (h:0 < s.size):s.toList.isEmpty=false:=by
 rw [ByteArray.toList_eq,List.isEmpty_eq_false_iff_exists_mem];exact⟨s[0],by simp only [Array.mem_toList_iff];exact Array.getElem_mem h⟩
def Zi8 (s:Zy_):Int:=if Zer s=true then ZpE s else 0
theorem ZgP {s:Zy_} (h:Zer s=false):Zi8 s=0:=by unfold Zi8;simp [h]
theorem Zje {s:Zy_} (h:Zer s=true):Zi8 s=ZpE s:=by unfold Zi8;simp [h]
theorem Ze7 {a c:Int}{d:Bool} (h:a=c) (h':b=d):Ending.returned (.tuple #[.int .i64 a,.bool b])=.returned (.tuple #[.int .i64 c,.bool d]):=by rw [h,h']
theorem Zdl (s:Zy_) (w:World) (hs:s.size<=maxLen) :
 Calls prog 247 #[.string s] w fun e w'=>e=.returned (.tuple #[.int .i64 (Zi8 s),.bool (Zer s)])/\w'=w:=by
 unfold maxLen at hs
 by_cases hb0:0 < s.size
 . have he:=Zc9 hb0
   by_cases hb2:s.size<=7
   . have h1:Hd (inB 1 7 s.size=true):=by unfold Hd inB;simp;omega
     by_cases hz:((s[0].toNat:Int) == 48)=true
     . by_cases hb3:1 < s.size
       . have HB:Hd (Zer s=false):=by unfold Hd Zer;rw [ZhY s hb0 hb3 hz];simp
         go_enter func247,ntmps247;go_wp2
         go_ret2
         exact⟨Ze7 (ZgP HB.o).symm HB.o.symm,rfl⟩
       . have HD:Hd (Zer s=ZfJ Zc6 s):=ZkN h1.o (Zh7 s (by omega))
         clear h1;go_enter func247,ntmps247;go_wp2
         go_loop [4,25] (fun n i=>∃ k:Nat,k<=s.size/\i=.int .i64 k/\n=.int .i64 (ZcU (s.data.toList.take k))/\(s.data.toList.take k).all Zc6=true) (fun _ i=>s.size - (intOf i).toNat)
         case atStart=>exact⟨0,Nat.zero_le _,rfl,rfl,rfl⟩
         case round=>
          obtain⟨k,hk,rfl,rfl,hall⟩:=hrel;obtain⟨v0,v1⟩:=Zcx s k hk hb2 hall;have HA:Hd ((s.data.toList.take k).all Zc6=true):=hall;clear hall
          by_cases hlt:k < s.size
          . have HV:Hd (ZcU (s.data.toList.take (k+1))=10*ZcU (s.data.toList.take k)+((s[k].toNat:Int) - 48)):=ZbL s k hlt
            have HS:Hd (Zc6 s[k]=true↔(48<=(s[k].toNat:Int)/\(s[k].toNat:Int)<=57)):=Zeq s[k];go_wp2
            all_goals first
             | (go_round
                . exact⟨k+1,by omega,by go_num,by rw [HV.o],Zck HA.o hlt (HS.o.2 (by omega))⟩
                . simp [intOf];omega)
             | (go_ret2
                have HN:Zer s=false:=by rw [HD.o];exact Zcj hlt (Bool.eq_false_iff.2 fun h=>by have:=HS.o.1 h;omega)
                exact⟨Ze7 (ZgP HN).symm HN.symm,rfl⟩)
          . go_wp2
            go_ret2
            have HN:Zer s=true:=by rw [HD.o];exact Zc0 HA.o (by omega)
            exact⟨Ze7 (by rw [Zje HN,<- ZdO (k:=k) (by omega)]) HN.symm,rfl⟩
     . have hz':((s[0].toNat:Int) == 48)=false:=by simpa using hz
       have HD:Hd (Zer s=ZfJ Zc6 s):=ZkN h1.o (Zhj s hb0 hz');clear h1 hz;go_enter func247,ntmps247;go_wp2
       go_loop [4,25] (fun n i=>∃ k:Nat,k<=s.size/\i=.int .i64 k/\n=.int .i64 (ZcU (s.data.toList.take k))/\(s.data.toList.take k).all Zc6=true) (fun _ i=>s.size - (intOf i).toNat)
       case atStart=>exact⟨0,Nat.zero_le _,rfl,rfl,rfl⟩
       case round=>
        obtain⟨k,hk,rfl,rfl,hall⟩:=hrel;obtain⟨v0,v1⟩:=Zcx s k hk hb2 hall;have HA:Hd ((s.data.toList.take k).all Zc6=true):=hall;clear hall
        by_cases hlt:k < s.size
        . have HV:Hd (ZcU (s.data.toList.take (k+1))=10*ZcU (s.data.toList.take k)+((s[k].toNat:Int) - 48)):=ZbL s k hlt
          have HS:Hd (Zc6 s[k]=true↔(48<=(s[k].toNat:Int)/\(s[k].toNat:Int)<=57)):=Zeq s[k];go_wp2
          all_goals first
           | (go_round
              . exact⟨k+1,by omega,by go_num,by rw [HV.o],Zck HA.o hlt (HS.o.2 (by omega))⟩
              . simp [intOf];omega)
           | (go_ret2
              have HN:Zer s=false:=by rw [HD.o];exact Zcj hlt (Bool.eq_false_iff.2 fun h=>by have:=HS.o.1 h;omega)
              exact⟨Ze7 (ZgP HN).symm HN.symm,rfl⟩)
        . go_wp2
          go_ret2
          have HN:Zer s=true:=by rw [HD.o];exact Zc0 HA.o (by omega)
          exact⟨Ze7 (by rw [Zje HN,<- ZdO (k:=k) (by omega)]) HN.symm,rfl⟩
   . have HB:Hd (Zer s=false):=by unfold Hd Zer inB;simp;intro h;omega
     go_enter func247,ntmps247;go_wp2
     go_ret2
     exact⟨Ze7 (ZgP HB.o).symm HB.o.symm,rfl⟩
 . have he:=Zeg (s:=s) (by omega)
   have HB:Hd (Zer s=false):=by unfold Hd Zer inB;simp;intro h;omega
   go_enter func247,ntmps247;go_wp2
   go_ret2
   exact⟨Ze7 (ZgP HB.o).symm HB.o.symm,rfl⟩
def ZbY (c:UInt8):Bool:=decide (33<=c.toNat/\c.toNat<=126)
theorem Zf8 (c:UInt8):ZbY c=true↔(33<=(c.toNat:Int)/\(c.toNat:Int)<=126):=by
 unfold ZbY;simp;omega
def Zff (lo hi:Int) (s:Zy_):Bool:=decide (0 < s.size)&&inB lo hi s.size&&ZfJ ZbY s
theorem ZeC {lo:Int}{s:Zy_} (h:¬ (0 < s.size/\lo<=s.size/\(s.size:Int)<=hi)):Zff lo hi s=false:=by
 unfold Zff inB;rw [Bool.eq_false_iff];simp;intro a b c;exact absurd ⟨a,b,c⟩ h
theorem Zpf {lo:Int}{s:Zy_} (h0:0 < s.size) (h1:lo<=s.size) (h2:(s.size:Int)<=hi):Zff lo hi s=ZfJ ZbY s:=by
 unfold Zff inB;simp [h0,h1,h2]
theorem Zgn (lo hi:Int) (s:Zy_) (w:World) (hs:s.size<=maxLen) :
 Calls prog 341 #[.agg #[.int .i64 lo,.int .i64 hi],.string s] w fun e w'=>e=.returned (.bool (Zff lo hi s))/\Zw_ w w':=by
 unfold maxLen at hs
 by_cases hb0:0 < s.size
 . have he:=Zc9 hb0
   by_cases h1:lo<=(s.size:Int)
   . by_cases h2:(s.size:Int)<=hi
     . have HD:Hd (Zff lo hi s=ZfJ ZbY s):=Zpf hb0 h1 h2
       go_enter func341,ntmps341;go_wp2
       go_loop [24] (fun i=>∃ k:Nat,k<=s.size/\i=.int .i64 k/\(s.data.toList.take k).all ZbY=true) (fun i=>s.size - (intOf i).toNat)
       case atStart=>exact⟨0,Nat.zero_le _,rfl,rfl⟩
       case round=>
        obtain⟨k,hk,rfl,hall⟩:=hrel;have HA:Hd ((s.data.toList.take k).all ZbY=true):=hall;clear hall
        by_cases hlt:k < s.size
        . have HS:Hd (ZbY s[k]=true↔(33<=(s[k].toNat:Int)/\(s[k].toNat:Int)<=126)):=Zf8 s[k]
          go_wp2
          all_goals first
           | (go_round
              . exact⟨k+1,by omega,by go_num,Zck HA.o hlt (HS.o.2 (by omega))⟩
              . simp [intOf];omega)
           | (go_ret
              exact⟨Zaa (by rw [HD.o];exact (Zcj hlt (Bool.eq_false_iff.2 fun h=>by have:=HS.o.1 h;omega)).symm),Zb_.alloc Zl_ _⟩)
        . go_wp2
          go_ret;exact⟨Zaa (by rw [HD.o];exact (Zc0 HA.o (by omega)).symm),Zb_.alloc Zl_ _⟩
     . have HB:Hd (Zff lo hi s=false):=ZeC (by omega)
       go_enter func341,ntmps341;go_wp2;go_ret;exact⟨Zaa HB.o.symm,Zb_.alloc Zl_ _⟩
   . have HB:Hd (Zff lo hi s=false):=ZeC (by omega)
     go_enter func341,ntmps341;go_wp2;go_ret;exact⟨Zaa HB.o.symm,Zb_.alloc Zl_ _⟩
 . have he:=Zeg (s:=s) (by omega)
   have HB:Hd (Zff lo hi s=false):=ZeC (by omega);go_enter func341,ntmps341;go_wp2;go_ret;exact⟨Zaa HB.o.symm,Zb_.alloc Zl_ _⟩
def Zag (w:World) (v:Value) (L:List Zy_):Prop:=
 (∃ (a:Option Addr) (cap:Nat),v=.slice a 0 cap/\L=[])\/
 ∃ (b off cap:Nat),v=.slice (some ⟨b,off,none⟩) L.length cap/\L≠[]/\L.length<=maxLen/\b < w.heap.size/\
  (∀ i (h:i < L.length),w.cell? ⟨b,off+i,none⟩=some (.string L[i]))/\∀ s ∈ L,s.size<=maxLen
theorem Zag.below {w:World}{L:List Zy_} (h:Zag w v L) (hb:Zw_ w w'):Zag w' v L:=by
 rcases h with h | ⟨b,off,cap,h1,h2,h3,h4,h5,h6⟩
 . exact Or.inl h
 . exact Or.inr ⟨b,off,cap,h1,h2,h3,Zk_ h4 hb.size,fun i hi=>by rw [hb.cell (p:=⟨b,off+i,none⟩) h4];exact h5 i hi,h6⟩
def Zsb (n:Nat) (left r:Int):Prop:= -1<=r/\r<=left/\(0<=r->(n:Int)<=left)
theorem ZfQ (v:Value) (L:List Zy_) (left:Int) (w:World) (h0:0<=left) (h1:left<=1048576) (hv:Zag w v L) :
 Calls prog 136 #[v,.int .i64 left] w fun e w'=>∃ r:Int,e=.returned (.int .i64 r)/\w'=w/\Zsb L.length left r:=by
 rcases hv with ⟨a,cap,rfl,rfl⟩ | ⟨b,off,cap,rfl,hne,hm,hbw,hc,hsz⟩
 . go_enter func136,ntmps136
   go_wp2
   go_loop [1,5] (fun l i=>∃ r:Int,l=.int .i64 r/\0<=r/\r<=left/\i=.int .i64 0) (fun _ _=>0)
   case atStart=>exact⟨_,rfl,by omega,by omega,rfl⟩
   case round=>
    obtain⟨r,rfl,hr0,hr1,rfl⟩:=hrel;go_wp2;go_ret;exact⟨r,rfl,rfl,by omega,by omega,fun _=>by simp;omega⟩
 . unfold maxLen at hm
   by_cases hle:(L.length:Int)<=left
   . go_enter func136,ntmps136
     go_wp2
     go_loop [1,5] (fun l i=>∃ (r:Int) (k:Nat),l=.int .i64 r/\0<=r/\r<=left/\i=.int .i64 k/\k<=L.length) (fun _ i=>L.length - (intOf i).toNat)
     case atStart=>exact⟨_,0,rfl,by omega,by omega,rfl,by omega⟩
     case round=>
      obtain⟨r,k,rfl,hr0,hr1,rfl,hk⟩:=hrel
      by_cases hlt:k < L.length
      . have hck:=hc k hlt
        have hsk:=hsz L[k] (List.getElem_mem hlt);unfold maxLen at hsk;go_wp2
        all_goals first
         | (go_round
            . exact⟨_,k+1,rfl,by omega,by omega,by go_num,by omega⟩
            . simp [intOf];omega)
         | (go_ret
            exact⟨-1,rfl,rfl,by omega,by omega,fun h=>by omega⟩)
      . go_wp2
        go_ret;exact⟨r,rfl,rfl,by omega,by omega,fun _=>hle⟩
   . go_enter func136,ntmps136
     go_wp2;go_ret;exact⟨-1,rfl,rfl,by omega,by omega,fun h=>by omega⟩
def ZeJ (L:List Zy_) (s:Zy_):Bool:=L.any fun x=>x.toList == s.toList
theorem ZlW {L:List Zy_}{s:Zy_} (h:k < L.length) (hp:(L[k].toList == s.toList)=true):ZeJ L s=true:=by
 unfold ZeJ;rw [List.any_eq_true];exact⟨L[k],List.getElem_mem h,hp⟩
theorem Zl6 {L:List Zy_}{s:Zy_} (h:ZeJ (L.take k) s=false) (hk:k < L.length) (hp:(L[k].toList == s.toList)=false):ZeJ (L.take (k+1)) s=false:=by
 unfold ZeJ at*;rw [List.take_succ_eq_append_getElem hk,List.any_append,h];simp [hp]
theorem ZpL {L:List Zy_}{s:Zy_} (h:ZeJ (L.take k) s=false) (hk:L.length<=k):ZeJ L s=false:=by
 rwa [List.take_of_length_le hk] at h
theorem Zek (v:Value) (L:List Zy_) (s:Zy_) (w:World) (hv:Zag w v L) :
 Calls prog 222 #[v,.string s] w fun e w'=>e=.returned (.bool (ZeJ L s))/\w'=w:=by
 rcases hv with ⟨a,cap,rfl,rfl⟩ | ⟨b,off,cap,rfl,hne,hm,hbw,hc,hsz⟩
 . go_enter func222,ntmps222
   go_wp2
   go_loop [5] (fun i=>i=.int .i64 0) (fun _=>0)
   case atStart=>rfl
   case round=>
    subst hrel;go_wp2;go_ret;exact⟨rfl,rfl⟩
 . unfold maxLen at hm
   go_enter func222,ntmps222;go_wp2
   go_loop [5] (fun i=>∃ k:Nat,i=.int .i64 k/\k<=L.length/\ZeJ (L.take k) s=false) (fun i=>L.length - (intOf i).toNat)
   case atStart=>exact⟨0,rfl,by omega,rfl⟩
   case round=>
    obtain⟨k,rfl,hk,hh⟩:=hrel;have HH:Hd (ZeJ (L.take k) s=false):=hh;clear hh
    by_cases hlt:k < L.length
    . have hck:=hc k hlt
      by_cases he:(L[k].toList == s.toList)=true
      . go_wp2
        go_ret;exact⟨Zaa (ZlW hlt he).symm,rfl⟩
      . have he':(L[k].toList == s.toList)=false:=by simpa using he
        clear he;go_wp2
        go_round
        . exact⟨k+1,by go_num,by omega,Zl6 HH.o hlt he'⟩
        . simp [intOf];omega
    . go_wp2
      go_ret;exact⟨Zaa (ZpL HH.o (by omega)).symm,rfl⟩
theorem Zoz (v:Value) (L:List Zy_) (s:Zy_) (w:World) (hv:Zag w v L) :
 Calls prog 284 #[v,.string s] w fun e w'=>∃ r:Int,e=.returned (.int .i64 r)/\w'=w/\decide (0<=r)=ZeJ L s:=by
 rcases hv with ⟨a,cap,rfl,rfl⟩ | ⟨b,off,cap,rfl,hne,hm,hbw,hc,hsz⟩
 . go_enter func284,ntmps284
   go_wp2
   go_loop [8] (fun i=>i=.int .i64 0) (fun _=>0)
   case atStart=>rfl
   case round=>
    subst hrel;go_wp2;go_ret;exact⟨-1,rfl,rfl,rfl⟩
 . unfold maxLen at hm
   go_enter func284,ntmps284;go_wp2
   go_loop [8] (fun i=>∃ k:Nat,i=.int .i64 k/\k<=L.length/\ZeJ (L.take k) s=false) (fun i=>L.length - (intOf i).toNat)
   case atStart=>exact⟨0,rfl,by omega,rfl⟩
   case round=>
    obtain⟨k,rfl,hk,hh⟩:=hrel;have HH:Hd (ZeJ (L.take k) s=false):=hh;clear hh
    by_cases hlt:k < L.length
    . have hck:=hc k hlt
      by_cases he:(s.toList == L[k].toList)=true
      . go_wp2
        go_ret;exact⟨k,rfl,rfl,by rw [ZlW hlt (by rw [Bool.beq_comm];exact he)];simp⟩
      . have he':(s.toList == L[k].toList)=false:=by simpa using he
        clear he;go_wp2
        go_round
        . exact⟨k+1,by go_num,by omega,Zl6 HH.o hlt (by rw [Bool.beq_comm];exact he')⟩
        . simp [intOf];omega
    . go_wp2
      go_ret;exact⟨-1,rfl,rfl,by rw [ZpL HH.o (by omega)];rfl⟩
theorem Zex (v:Value) (L:List Zy_) (s:Zy_) (w:World) (hv:Zag w v L) :
 Calls prog 275 #[v,.string s] w fun e w'=>e=.returned (.bool (ZeJ L s))/\w'=w:=by
 go_enter func275,ntmps275;go_wp2_with fail;refine (Zoz v L s _ hv).mono ?_;rintro e w1 ⟨r,rfl,rfl,hr⟩;have HR:Hd (decide (0<=r)=ZeJ L s):=hr;clear hr;go_wp2;go_ret;exact⟨Zaa HR.o,rfl⟩
open Go.RowKit Go.Deep
theorem Ze9 (v v':Value) (L:List Zy_) (w:World) (hv:Zag w v L) (hv':Zag w v' L) :
 Calls prog 149 #[v,v'] w fun e w'=>e=.returned (.bool true)/\Zw_ w w':=by
 by_cases hL:L=[]
 . subst hL
   obtain⟨a,cap,rfl⟩:∃ a cap,v=.slice a 0 cap:=by
    rcases hv with ⟨a,cap,h,_⟩ | ⟨b,off,cap,h,hne,_⟩
    . exact⟨a,cap,h⟩
    . exact absurd rfl hne
   obtain⟨a',cap',rfl⟩:∃ a cap,v'=.slice a 0 cap:=by
    rcases hv' with ⟨a,cap,h,_⟩ | ⟨b,off,cap,h,hne,_⟩
    . exact⟨a,cap,h⟩
    . exact absurd rfl hne
   clear hv hv';go_enter func149,ntmps149;go_wp2
   go_loop [5] (fun i=>i=.int .i64 0) (fun _=>0)
   case atStart=>rfl
   case round=>
    subst hrel;go_wp2;go_ret;exact⟨rfl,Below.refl _ _⟩
 . obtain⟨b,off,cap,rfl,hm,hbw,hc⟩:∃ b off cap,v=.slice (some ⟨b,off,none⟩) L.length cap/\L.length<=maxLen/\b < w.heap.size/\∀ i (h:i < L.length),w.cell? ⟨b,off+i,none⟩=some (.string L[i]):=by
    rcases hv with ⟨a,cap,h,h'⟩ | ⟨b,off,cap,h,hne,hm,hbw,hc,_⟩
    . exact absurd h' hL
    . exact⟨b,off,cap,h,hm,hbw,hc⟩
   obtain⟨b',off',cap',rfl,_,hbw',hc'⟩:∃ b off cap,v'=.slice (some ⟨b,off,none⟩) L.length cap/\L.length<=maxLen/\b < w.heap.size/\∀ i (h:i < L.length),w.cell? ⟨b,off+i,none⟩=some (.string L[i]):=by
    rcases hv' with ⟨a,cap,h,h'⟩ | ⟨b,off,cap,h,hne,hm,hbw,hc,_⟩
    . exact absurd h' hL
    . exact⟨b,off,cap,h,hm,hbw,hc⟩
   clear hv hv';unfold maxLen at hm;go_enter func149,ntmps149;go_wp2
   go_loopw [5] (fun i wr=>∃ k:Nat,i=.int .i64 k/\k<=L.length/\Zw_ w wr) (fun i _=>L.length - (intOf i).toNat)
   case atStart=>exact⟨0,rfl,by omega,Below.refl _ _⟩
   case round=>
    obtain⟨k,rfl,hk,hb⟩:=hrel
    by_cases hlt:k < L.length
    . have hck:wr.cell? ⟨b,off+k,none⟩=some (.string L[k]):=by rw [hb.cell (p:=⟨b,off+k,none⟩) hbw];exact hc k hlt
      have hck':wr.cell? ⟨b',off'+k,none⟩=some (.string L[k]):=by rw [hb.cell (p:=⟨b',off'+k,none⟩) hbw'];exact hc' k hlt
      go_wp2
      go_quiet (fail)
      go_wp2;go_roundw
      . exact⟨k+1,by go_num,by omega,below_drewN hb _⟩
      . simp [intOf];omega
    . go_wp2
      go_ret;exact⟨rfl,hb⟩
theorem Tryz.info9:(prog.info? 9).map (fun i=>(i.zero,i.size,i.bytes))=some (some (.string ⟨#[]⟩),1,16):=by kernel_rfl
def ZqH (L:List Zy_) (k i:Nat):Value:=if i < k then .string (L.getD i ⟨#[]⟩) else .string ⟨#[]⟩
def Zcg (wr:World) (B:Nat) (L:List Zy_) (k:Nat):Prop:=wr.rowIs B 9 L.length (ZqH L k)
theorem Zcg.step {L:List Zy_} (h:Zcg wr B L k) (hk:k < L.length):Zcg (wr.setCell ⟨B,k,none⟩ (.string L[k])) B L (k+1):=by
 unfold Zcg at*;refine (h.set k (.string L[k])).congr fun i hi=>?_
 unfold ZqH
 by_cases e:i=k
 . subst e;simp [hk]
 . by_cases e2:i < k
   . simp [e,e2,Nat.lt_succ_of_lt e2]
   . have:¬ i < k+1:=by omega
     simp [e,e2,this]
theorem Zcg.old {L:List Zy_} (h:Zcg wr B L k) (hk:k < L.length):∃ v,wr.cell? ⟨B,k,none⟩=some v:=⟨_,World.rowIs.cell h hk⟩
theorem Zcg.frozen {L:List Zy_} (h:Zcg wr B L k) (i:Nat):wr.frozen? ⟨B,i,none⟩=false:=World.rowIs.frozen h i
def Zaq (lo:Nat) (w:World) (v:Value) (L:List Zy_):Prop:=
 (∃ (a:Option Addr) (cap:Nat),v=.slice a 0 cap/\L=[])\/
 ∃ (b off cap:Nat),v=.slice (some ⟨b,off,none⟩) L.length cap/\L≠[]/\L.length<=maxLen/\b < w.heap.size/\
  (∀ i (h:i < L.length),w.cell? ⟨b,off+i,none⟩=some (.string L[i]))/\(∀ s ∈ L,s.size<=maxLen)/\lo<=b
theorem Zaq.at {w:World}{L:List Zy_} (h:Zaq lo w v L):Zag w v L:=by
 rcases h with h | ⟨b,off,cap,h1,h2,h3,h4,h5,h6,_⟩
 . exact Or.inl h
 . exact Or.inr ⟨b,off,cap,h1,h2,h3,h4,h5,h6⟩
theorem Zaq.mono {lo':Nat}{w:World}{L:List Zy_} (h:Zaq lo w v L) (hl:lo'<=lo):Zaq lo' w v L:=by
 rcases h with h | ⟨b,off,cap,h1,h2,h3,h4,h5,h6,h7⟩
 . exact Or.inl h
 . exact Or.inr ⟨b,off,cap,h1,h2,h3,h4,h5,h6,Nat.le_trans hl h7⟩
theorem Zaq.below {w:World}{L:List Zy_} (h:Zaq lo w v L) (hb:Zw_ w w'):Zaq lo w' v L:=by
 rcases h with h | ⟨b,off,cap,h1,h2,h3,h4,h5,h6,h7⟩
 . exact Or.inl h
 . exact Or.inr ⟨b,off,cap,h1,h2,h3,Zk_ h4 hb.size,fun i hi=>by rw [hb.cell (p:=⟨b,off+i,none⟩) h4];exact h5 i hi,h6,h7⟩
theorem Zas (w:World) (p q:Addr) (u:Value) (h:q.block≠p.block):(w.setCell p u).cell? q=w.cell? q:=
 World.cell?_of_block (w:=w) (Below.heap_setCell w p u q.block h)
theorem Zaq.setCell {w:World}{L:List Zy_} (h:Zaq lo w v L) {p:Addr} (hp:p.block < lo) (u:Value):Zaq lo (w.setCell p u) v L:=by
 rcases h with h | ⟨b,off,cap,h1,h2,h3,h4,h5,h6,h7⟩
 . exact Or.inl h
 . exact Or.inr ⟨b,off,cap,h1,h2,h3,by simpa [World.setCell] using h4,fun i hi=>by rw [Zas _ _ _ _ (by show b≠p.block;omega)];exact h5 i hi,h6,h7⟩
theorem Zaq.form {w:World}{L:List Zy_} (h:Zaq lo w v L):∃ a n cap,v=.slice a n cap:=by
 rcases h with ⟨a,cap,h,_⟩ | ⟨b,off,cap,h,_⟩
 . exact⟨a,_,cap,h⟩
 . exact⟨_,_,cap,h⟩
theorem Zag.form {w:World}{L:List Zy_} (h:Zag w v L):∃ a n cap,v=.slice a n cap:=by
 rcases h with ⟨a,cap,h,_⟩ | ⟨b,off,cap,h,_⟩
 . exact⟨a,_,cap,h⟩
 . exact⟨_,_,cap,h⟩
theorem Zcg.done {L:List Zy_} (h:Zcg wr B L k) (hk:L.length<=k) (hne:L≠[]) (hm:L.length<=maxLen) (hs:∀ s ∈ L,s.size<=maxLen):Zaq B wr (.slice (some ⟨B,0,none⟩) L.length L.length) L:=by
 refine Or.inr ⟨B,0,L.length,rfl,hne,hm,World.rowIs.lt h,fun i hi=>?_,hs,Nat.le_refl _⟩;rw [Nat.zero_add,World.rowIs.cell h hi];unfold ZqH;rw [if_pos (by omega),List.getD_eq_getElem?_getD,List.getElem?_eq_getElem hi];rfl
theorem Zf6 (v:Value) (L:List Zy_) (w:World) (hv:Zag w v L) (hn:L.length<=1048576) :
 Calls prog 142 #[v] w fun e w'=>∃ v',e=.returned v'/\Zw_ w w'/\Zaq w.heap.size w' v' L:=by
 rcases hv with ⟨a,cap,rfl,rfl⟩ | ⟨b,off,cap,rfl,hne,hm,hbw,hc,hsz⟩
 . have hmk:∀ u:World,(Instr.makeSlice 59 (.int .i64 0) (.int .i64 0)).run prog u=.ok (.slice (some ⟨u.heap.size,0,none⟩) 0 0) (u.alloc (.cells (madeCells #[.string ⟨#[]⟩] 0) 9)):=
    fun u=>run_make_row' 59 9 (.string ⟨#[]⟩) 16 underlying59 Tryz.info9 rfl .i64 .i64 0 (by omega) (by omega) u
   go_enter func142,ntmps142;go_wp2
   go_loop [4] (fun i=>i=.int .i64 0) (fun _=>0)
   case atStart=>rfl
   case round=>
    subst hrel;go_wp2;go_ret;exact⟨_,rfl,Zb_.alloc Zl_ _,Or.inl ⟨_,_,rfl,rfl⟩⟩
 . have HM:Hd (L.length<=maxLen):=hm
   unfold maxLen at hm
   have hmk:∀ u:World,(Instr.makeSlice 59 (.int .i64 (L.length:Int)) (.int .i64 (L.length:Int))).run prog u=.ok (.slice (some ⟨u.heap.size,0,none⟩) L.length L.length) (u.alloc (.cells (madeCells #[.string ⟨#[]⟩] L.length) 9)):=
    fun u=>run_make_row' 59 9 (.string ⟨#[]⟩) 16 underlying59 Tryz.info9 rfl .i64 .i64 L.length (by omega) (by omega) u
   go_enter func142,ntmps142;go_wp2;clear hmk
   go_loopw [4] (fun i wr=>∃ k:Nat,i=.int .i64 k/\k<=L.length/\Zw_ w wr/\Zcg wr w.heap.size L k) (fun i _=>L.length - (intOf i).toNat)
   case atStart=>exact⟨0,rfl,by omega,Zb_.alloc Zl_ _,World.rowIs_made w (.string ⟨#[]⟩) L.length 9⟩
   case round=>
    obtain⟨k,rfl,hk,hb,hf⟩:=hrel
    by_cases hlt:k < L.length
    . have hck:wr.cell? ⟨b,off+k,none⟩=some (.string L[k]):=by rw [hb.cell (p:=⟨b,off+k,none⟩) hbw];exact hc k hlt
      obtain⟨old,hold⟩:=hf.old hlt;have hfz:=hf.frozen k;go_wp2;go_roundw
      . exact⟨k+1,by go_num,by omega,hb.setCell Zl_ _,hf.step hlt⟩
      . simp [intOf];omega
    . go_wp2
      go_ret;exact⟨_,rfl,hb,hf.done (by omega) hne HM.o hsz⟩
theorem ZfL {W w1:World} (hb:Below W.heap.size W w1):(∀ b o,b < W.heap.size->w1.cell? ⟨b,o,none⟩=W.cell? ⟨b,o,none⟩)/\(∀ b o,b < W.heap.size->w1.frozen? ⟨b,o,none⟩=W.frozen? ⟨b,o,none⟩):=
 ⟨fun b o h=>hb.cell (p:=⟨b,o,none⟩) h,fun b o h=>hb.frozen (p:=⟨b,o,none⟩) h⟩
theorem ZkT (nm to df we:Zy_) (kd le mo ro:Int) (mu fx:Bool) (wv:Value) (L:List Zy_) (w:World) (hv:Zag w wv L) (hn:L.length<=1048576) :
 Calls prog 202 #[.agg #[.string nm,.int .i64 kd,.int .i64 le,.int .i64 mo,wv,.string to,.int .i64 ro,.bool mu,.bool fx,.string df,.string we]] w
  fun e w'=>∃ wv',e=.returned (.agg #[.string nm,.int .i64 kd,.int .i64 le,.int .i64 mo,wv',.string to,.int .i64 ro,.bool mu,.bool fx,.string df,.string we])/\Zw_ w w'/\Zaq w.heap.size w' wv' L:=by
 have HV:Hd (Zag w wv L):=hv;obtain⟨a,n,cap,rfl⟩:=hv.form;clear hv;go_enter func202,ntmps202;go_wp2_with fail;refine (Zf6 _ L _ (HV.o.below ?_) hn).mono ?_
 . exact ((Zb_.alloc Zl_ _).alloc (by simp) _).alloc (by simp;omega) _
 rintro e w1 ⟨wv',rfl,hb,hs⟩;obtain⟨a',n',cap',rfl⟩:=hs.form;have HS:Hd (Zaq (w.heap.size+3) w1 (.slice a' n' cap') L):=hs.mono (by simp);clear hs;have hz:w.heap.size+2 < w1.heap.size:=by have:=hb.size;simp at this;omega
 obtain⟨hc,hf⟩:=ZfL hb;have HB:Hd (Zw_ w w1):=(((Zb_.alloc Zl_ _).alloc (by simp) _).alloc (by simp;omega) _).trans (hb.mono (by simp;omega));clear hb;go_wp2;refine bodyPost_ret (v:=.agg #[.string nm,.int .i64 kd,.int .i64 le,.int .i64 mo,.slice a' n' cap',.string to,.int .i64 ro,.bool mu,.bool fx,.string df,.string we]) (by simp [results,results202,go_sem,hc]) rfl ⟨_,rfl,?_,?_⟩
 . repeat (refine Below.setCell ?_ (by simp only [];omega) _)
   exact HB.o
 . refine Zaq.mono (lo:=w.heap.size+3) ?_ (by omega)
   repeat (refine Zaq.setCell ?_ (by simp only [];omega) _)
   exact HS.o
theorem Zls (nm to df we:Zy_) (kd le mo ro:Int) (mu fx:Bool) (wv:Value) (L:List Zy_) (left:Int) (w:World) (hv:Zag w wv L) (h0:0<=left) (h1:left<=1048576)
 (s1:nm.size<=maxLen) (s2:to.size<=maxLen) (s3:df.size<=maxLen) (s4:we.size<=maxLen) :
 Calls prog 198 #[.agg #[.string nm,.int .i64 kd,.int .i64 le,.int .i64 mo,wv,.string to,.int .i64 ro,.bool mu,.bool fx,.string df,.string we],.int .i64 left] w
  fun e w'=>∃ r:Int,e=.returned (.int .i64 r)/\Zw_ w w'/\Zsb L.length left r:=by
 have HV:Hd (Zag w wv L):=hv;obtain⟨a,n,cap,rfl⟩:=hv.form;clear hv;unfold maxLen at s1 s2 s3 s4;have HW:∀ o,Hd (Zw_ w (w.alloc o)):=fun o=>Zb_.alloc Zl_ _
 by_cases c1:(nm.size:Int)<=left
 . go_enter func198,ntmps198
   go_wp2_with fail;refine (ZfQ _ L _ _ (by omega) (by omega) (HV.o.below (HW _).o)).mono ?_;rintro e w1 ⟨r,rfl,rfl,hr0,hr1,hr2⟩;go_wp2
   all_goals go_ret
   all_goals refine⟨_,rfl,(HW _).o,by omega,by omega,fun _=>?_⟩
   all_goals have:=hr2 (by omega)
   all_goals omega
 . go_enter func198,ntmps198
   go_wp2;go_ret;exact⟨-1,rfl,(HW _).o,by omega,by omega,fun h=>by omega⟩
theorem Zkb (nm to df we:Zy_) (kd le mo ro:Int) (mu fx:Bool) (wv wv':Value) (L:List Zy_) (w:World) (hv:Zag w wv L) (hv':Zag w wv' L) :
 Calls prog 215 #[.agg #[.string nm,.int .i64 kd,.int .i64 le,.int .i64 mo,wv,.string to,.int .i64 ro,.bool mu,.bool fx,.string df,.string we],
  .agg #[.string nm,.int .i64 kd,.int .i64 le,.int .i64 mo,wv',.string to,.int .i64 ro,.bool mu,.bool fx,.string df,.string we]] w
  fun e w'=>e=.returned (.bool true)/\Zw_ w w':=by
 have HV:=Zab hv;have HV':=Zab hv';obtain⟨a,n,cap,rfl⟩:=hv.form;obtain⟨a',n',cap',rfl⟩:=hv'.form;clear hv hv';have HW:∀ o o',Hd (Zw_ w ((w.alloc o).alloc o')):=fun o o'=>(Zb_.alloc Zl_ _).alloc (by simp) _
 go_enter func215,ntmps215;go_wp2_with fail;refine (Ze9 _ _ L _ (HV.o.below (HW _ _).o) (HV'.o.below (HW _ _).o)).mono ?_;rintro e w1 ⟨rfl,hb⟩;have hz:w.heap.size+1 < w1.heap.size:=by have:=hb.size;simp at this;omega
 have HB:Hd (Zw_ w w1):=(HW _ _).o.trans (hb.mono (by simp;omega));obtain⟨hc,hf⟩:=ZfL hb;clear hb;go_wp2;go_ret;exact⟨rfl,HB.o⟩
def ZaP (kd le mo:Int) (L:List Zy_) (s:Zy_):Bool:=
 if kd=1 then Zer s&&inB le mo (ZpE s) else if kd=2 then decide (0 < s.size)&&ZeJ L s else if kd=3 then Zff le mo s else if kd=4 then Zan s else false
theorem Zrt {le mo:Int}{L:List Zy_}{s:Zy_}:ZaP 1 le mo L s=(Zer s&&inB le mo (ZpE s)):=by simp [ZaP]
theorem ZrP {le mo:Int}{L:List Zy_}{s:Zy_}:ZaP 2 le mo L s=(decide (0 < s.size)&&ZeJ L s):=by simp [ZaP]
theorem ZrY {le mo:Int}{L:List Zy_}{s:Zy_}:ZaP 3 le mo L s=Zff le mo s:=by simp [ZaP]
theorem ZrS {le mo:Int}{L:List Zy_}{s:Zy_}:ZaP 4 le mo L s=Zan s:=by simp [ZaP]
theorem ZrX {kd le mo:Int}{L:List Zy_}{s:Zy_} (h1:kd≠1) (h2:kd≠2) (h3:kd≠3) (h4:kd≠4):ZaP kd le mo L s=false:=by simp [ZaP,h1,h2,h3,h4]
theorem Zk5 {s:Zy_} (h:Zer s=true):0<=ZpE s:=by
 have h3:ZfJ Zc6 s=true:=by unfold Zer at h;simp at h;exact h.2
 have:=ZeS s s.size Zl_ (by rw [List.take_of_length_le (by simp)];exact h3);rw [ZdO Zl_] at this;exact this.1
theorem ZkW (c:UInt8):wrap64 (c.toNat:Int)=c.toNat:=by
 have:=c.toNat_lt;unfold wrap64
 omega
theorem ZoO {lo:Int}{s:Zy_} (h:ZfJ ZbY s=false):Zff lo hi s=false:=by unfold Zff;simp [h]
section
variable (nm to df we:Zy_) (le mo ro:Int) (mu fx:Bool) (wv:Value) (L:List Zy_) (s:Zy_) (w:World)
theorem Zoq (hv:Zag w wv L) (hs:s.size<=maxLen) :
 Calls prog 199 #[.agg #[.string nm,.int .i64 1,.int .i64 le,.int .i64 mo,wv,.string to,.int .i64 ro,.bool mu,.bool fx,.string df,.string we],.string s] w
  fun e w'=>e=.returned (.bool (ZaP 1 le mo L s))/\Zw_ w w':=by
 obtain⟨a,n,cap,rfl⟩:=hv.form;clear hv;have HW:∀ o,Hd (Zw_ w (w.alloc o)):=fun o=>Zb_.alloc Zl_ _
 rw [Zrt];have hnum:=fun u=>Zbi s u hs
 by_cases hd:Zer s=true
 . have h0:=Zk5 hd
   have HN:=Zab (ZiN hd);go_enter func199,ntmps199;go_wp2_with fail;refine (hnum _).mono ?_;rintro e w1 ⟨rfl,rfl⟩;rw [HN.o];go_wp2_with fail;refine (Zar _ _ _ _).mono ?_;rintro e w1 ⟨rfl,rfl⟩;go_wp2;go_ret;exact⟨Zaa (by rw [hd];rfl),(HW _).o⟩
 . have hd':Zer s=false:=by simpa using hd
   have HN:=Zab (Zg1 hd');go_enter func199,ntmps199;go_wp2_with fail;refine (hnum _).mono ?_;rintro e w1 ⟨rfl,rfl⟩;rw [HN.o];go_wp2;go_ret;exact⟨Zaa (by rw [hd'];rfl),(HW _).o⟩
theorem Zom (hv:Zag w wv L) (_hs:s.size<=maxLen) :
 Calls prog 199 #[.agg #[.string nm,.int .i64 2,.int .i64 le,.int .i64 mo,wv,.string to,.int .i64 ro,.bool mu,.bool fx,.string df,.string we],.string s] w
  fun e w'=>e=.returned (.bool (ZaP 2 le mo L s))/\Zw_ w w':=by
 have HV:=Zab hv;obtain⟨a,n,cap,rfl⟩:=hv.form;clear hv;have HW:∀ o,Hd (Zw_ w (w.alloc o)):=fun o=>Zb_.alloc Zl_ _
 rw [ZrP]
 by_cases hb0:0 < s.size
 . have he:=Zc9 hb0
   go_enter func199,ntmps199;go_wp2_with fail;refine (Zek _ L _ _ (HV.o.below (HW _).o)).mono ?_;rintro e w1 ⟨rfl,rfl⟩;go_wp2;go_ret;exact⟨Zaa (by simp [hb0]),(HW _).o⟩
 . have he:=Zeg (s:=s) (by omega)
   go_enter func199,ntmps199;go_wp2;go_ret;exact⟨Zaa (by simp [hb0]),(HW _).o⟩
theorem Zoa (hv:Zag w wv L) (hs:s.size<=maxLen) :
 Calls prog 199 #[.agg #[.string nm,.int .i64 3,.int .i64 le,.int .i64 mo,wv,.string to,.int .i64 ro,.bool mu,.bool fx,.string df,.string we],.string s] w
  fun e w'=>e=.returned (.bool (ZaP 3 le mo L s))/\Zw_ w w':=by
 obtain⟨a,n,cap,rfl⟩:=hv.form;clear hv;have HW:∀ o,Hd (Zw_ w (w.alloc o)):=fun o=>Zb_.alloc Zl_ _
 rw [ZrY];unfold maxLen at hs;go_enter func199,ntmps199;go_wp2_with fail
 go_loop [6] (fun i=>∃ k:Nat,k<=s.size/\i=.int .i64 k/\(s.data.toList.take k).all ZbY=true) (fun i=>s.size - (intOf i).toNat)
 case atStart=>exact⟨0,Nat.zero_le _,rfl,rfl⟩
 case round=>
  obtain⟨k,hk,rfl,hall⟩:=hrel;have HA:Hd ((s.data.toList.take k).all ZbY=true):=hall;clear hall
  by_cases hlt:k < s.size
  . have HS:Hd (ZbY s[k]=true↔(33<=(s[k].toNat:Int)/\(s[k].toNat:Int)<=126)):=Zf8 s[k]
    go_wp2_with fail;simp only [ZkW];refine (Zar _ _ _ _).mono ?_;rintro e w1 ⟨rfl,rfl⟩
    by_cases hin:inB 33 126 (s[k].toNat:Int)=true
    . go_wp2
      go_round
      . exact⟨k+1,by omega,by go_num,Zck HA.o hlt (HS.o.2 (by unfold inB at hin;simpa using hin))⟩
      . simp [intOf];omega
    . have hin':inB 33 126 (s[k].toNat:Int)=false:=by simpa using hin
      go_wp2;go_ret;exact⟨Zaa (ZoO (Zcj hlt (Bool.eq_false_iff.2 fun h=>by have:=HS.o.1 h;unfold inB at hin;simp at hin;omega))).symm,(HW _).o⟩
  . have HE:Hd (ZfJ ZbY s=true):=Zc0 HA.o (by omega)
    by_cases hb0:0 < s.size
    . have he:=Zc9 hb0
      go_wp2_with fail;refine (Zar _ _ _ _).mono ?_;rintro e w1 ⟨rfl,rfl⟩;go_wp2;go_ret;exact⟨Zaa (by unfold Zff;rw [HE.o];simp [hb0]),(HW _).o⟩
    . have he:=Zeg (s:=s) (by omega)
      go_wp2;go_ret;exact⟨Zaa (ZeC (by omega)).symm,(HW _).o⟩
theorem ZpA (hv:Zag w wv L) (hs:s.size<=maxLen) :
 Calls prog 199 #[.agg #[.string nm,.int .i64 4,.int .i64 le,.int .i64 mo,wv,.string to,.int .i64 ro,.bool mu,.bool fx,.string df,.string we],.string s] w
  fun e w'=>e=.returned (.bool (ZaP 4 le mo L s))/\Zw_ w w':=by
 obtain⟨a,n,cap,rfl⟩:=hv.form;clear hv;have HW:∀ o,Hd (Zw_ w (w.alloc o)):=fun o=>Zb_.alloc Zl_ _
 rw [ZrS];go_enter func199,ntmps199;go_wp2_with fail;refine (Zaf _ _ hs).mono ?_;rintro e w1 ⟨rfl,rfl⟩;go_wp2;go_ret;exact⟨rfl,(HW _).o⟩
theorem ZnW (kd:Int) (hv:Zag w wv L) (h1:kd≠1) (h2:kd≠2) (h3:kd≠3) (h4:kd≠4) :
 Calls prog 199 #[.agg #[.string nm,.int .i64 kd,.int .i64 le,.int .i64 mo,wv,.string to,.int .i64 ro,.bool mu,.bool fx,.string df,.string we],.string s] w
  fun e w'=>e=.returned (.bool (ZaP kd le mo L s))/\Zw_ w w':=by
 obtain⟨a,n,cap,rfl⟩:=hv.form;clear hv;have HW:∀ o,Hd (Zw_ w (w.alloc o)):=fun o=>Zb_.alloc Zl_ _
 rw [ZrX h1 h2 h3 h4];have b1:(kd == 1)=false:=beq_eq_false_iff_ne.2 h1;have b2:(kd == 2)=false:=beq_eq_false_iff_ne.2 h2;have b3:(kd == 3)=false:=beq_eq_false_iff_ne.2 h3;have b4:(kd == 4)=false:=beq_eq_false_iff_ne.2 h4;clear h1 h2 h3 h4;go_enter func199,ntmps199;go_wp2;go_ret;exact⟨rfl,(HW _).o⟩
end
theorem Zp1 {α:Type} (a:Array α) (x y:α):(a.push x).setIfInBounds a.size y=a.push y:=by
 apply Array.ext';simp
theorem Zir (u:World) (es:Array MapEntry) (c:Nat) (k:Int) (v:Value) (hf:Instr.findNow (.int .i64) (.int .i64 k) es.toList 0=some none) :
 (Instr.mapUpdate 274 (.map (some u.heap.size)) (.int .i64 k) v).run prog (u.alloc (.map es c))=.ok () (u.alloc (.map (es.push { key:=.int .i64 k,val:=v,born:=c }) (c+1))):=by
 have hb:(u.alloc (.map es c)).heap[u.heap.size]?=some (.map es c):=(MapKept.heap_alloc u _).1;have hc:(Instr.checkKey false 10000 3 (.int .i64 k)).run prog (u.alloc (.map es c))=.ok () (u.alloc (.map es c)):=MapKept.run_checkKey (k:=.int .i64 k) underlying3 (by simp [MapKept.IsKey]) false 9999;simp [Instr.mapUpdate,run_underlying underlying274,MapKept.run_getObj_map hb,hc,MapKept.run_findKey underlying3 hf,MapKept.run_setObj_map _ hb,Result.andThen]
 show ({ u with heap:=(u.heap.push (.map es c)).setIfInBounds u.heap.size (.map (es.push { key:=.int .i64 k,val:=v,born:=c }) (c+1)) }:World)=_
 rw [Zp1]
 rfl
def Zal:Array MapEntry:=#[⟨.int .i64 1,.func (.func 250) #[] #[],0⟩,⟨.int .i64 2,.func (.func 251) #[] #[],1⟩,⟨.int .i64 3,.func (.func 252) #[] #[],2⟩,⟨.int .i64 4,.func (.func 253) #[] #[],3⟩]
theorem ZeH (w:World) :
 Calls prog 224 #[] w fun e w'=>e=.returned (.map (some w.heap.size))/\w'=w.alloc (.map Zal 4):=by
 have hmm:=@run_makeMap prog;have h1:=Zir w #[] 0 1 (.func (.func 250) #[] #[]) rfl;have h2:=Zir w #[⟨.int .i64 1,.func (.func 250) #[] #[],0⟩] 1 2 (.func (.func 251) #[] #[]) rfl;have h3:=Zir w #[⟨.int .i64 1,.func (.func 250) #[] #[],0⟩,⟨.int .i64 2,.func (.func 251) #[] #[],1⟩] 2 3 (.func (.func 252) #[] #[]) rfl;have h4:=Zir w #[⟨.int .i64 1,.func (.func 250) #[] #[],0⟩,⟨.int .i64 2,.func (.func 251) #[] #[],1⟩,⟨.int .i64 3,.func (.func 252) #[] #[],2⟩] 3 4 (.func (.func 253) #[] #[]) rfl;go_enter func224,ntmps224;go_wp2;go_ret;exact⟨rfl,rfl⟩
theorem Zdz (W:World) (r:Nat) (k:Int) (a:Option (Nat×Value)) (hb:W.heap[r]?=some (.map Zal 4)) (hf:Instr.findNow (.int .i64) (.int .i64 k) Zal.toList 0=some a) :
 (Instr.lookup 274 (.map (some r)) (.int .i64 k) true).run prog W=.ok (.tuple (match a with | some (_,v)=>#[v,.bool true] | none=>#[.nilFunc,.bool false])) W:=by
 have hc:(Instr.checkKey Zal.isEmpty 10000 3 (.int .i64 k)).run prog W=.ok () W:=MapKept.run_checkKey (k:=.int .i64 k) underlying3 (by simp [MapKept.IsKey]) _ 9999;have hz:(zeroValue 305).run prog W=.ok .nilFunc W:=by kernel_rfl
 rcases a with _ | ⟨i,v⟩ <;>
 simp [Instr.lookup,run_underlying underlying274,MapKept.run_getObj_map hb,hc,MapKept.run_findKey underlying3 hf,Result.andThen,hz]
theorem Zsw:Instr.findNow (.int .i64) (.int .i64 1) Zal.toList 0=some (some (0,.func (.func 250) #[] #[])):=by kernel_rfl
theorem ZsA:Instr.findNow (.int .i64) (.int .i64 2) Zal.toList 0=some (some (1,.func (.func 251) #[] #[])):=by kernel_rfl
theorem Zst:Instr.findNow (.int .i64) (.int .i64 3) Zal.toList 0=some (some (2,.func (.func 252) #[] #[])):=by kernel_rfl
theorem ZsN:Instr.findNow (.int .i64) (.int .i64 4) Zal.toList 0=some (some (3,.func (.func 253) #[] #[])):=by kernel_rfl
theorem ZsB {k:Int} (h1:k≠1) (h2:k≠2) (h3:k≠3) (h4:k≠4):Instr.findNow (.int .i64) (.int .i64 k) Zal.toList 0=some none:=by
 simp [Zal,Instr.findNow,Instr.sameNow,beq_eq_false_iff_ne.2 h1,beq_eq_false_iff_ne.2 h2,beq_eq_false_iff_ne.2 h3,beq_eq_false_iff_ne.2 h4]
section
variable (nm to df we:Zy_) (kd le mo ro:Int) (mu fx:Bool) (a:Option Addr) (n cap:Nat) (s:Zy_) (w:World)
theorem Zsu:Calls prog 250 #[.agg #[.string nm,.int .i64 kd,.int .i64 le,.int .i64 mo,.slice a n cap,.string to,.int .i64 ro,.bool mu,.bool fx,.string df,.string we]] w
 fun e w'=>e=.returned (.iface 332 (.agg #[.int .i64 le,.int .i64 mo,.string we]))/\Zw_ w w':=by
 go_enter func250,ntmps250;go_wp2;go_ret;exact⟨rfl,Zb_.alloc Zl_ _⟩
theorem Zsy:Calls prog 251 #[.agg #[.string nm,.int .i64 kd,.int .i64 le,.int .i64 mo,.slice a n cap,.string to,.int .i64 ro,.bool mu,.bool fx,.string df,.string we]] w
 fun e w'=>e=.returned (.iface 334 (.agg #[.slice a n cap]))/\Zw_ w w':=by
 go_enter func251,ntmps251;go_wp2;go_ret;exact⟨rfl,Zb_.alloc Zl_ _⟩
theorem ZsL:Calls prog 252 #[.agg #[.string nm,.int .i64 kd,.int .i64 le,.int .i64 mo,.slice a n cap,.string to,.int .i64 ro,.bool mu,.bool fx,.string df,.string we]] w
 fun e w'=>e=.returned (.iface 336 (.agg #[.int .i64 le,.int .i64 mo]))/\Zw_ w w':=by
 go_enter func252,ntmps252;go_wp2;go_ret;exact⟨rfl,Zb_.alloc Zl_ _⟩
theorem Zsq:Calls prog 253 #[.agg #[.string nm,.int .i64 kd,.int .i64 le,.int .i64 mo,.slice a n cap,.string to,.int .i64 ro,.bool mu,.bool fx,.string df,.string we]] w
 fun e w'=>e=.returned (.iface 338 (.agg #[.string to,.int .i64 ro,.bool mu,.string df]))/\Zw_ w w':=by
 go_enter func253,ntmps253;go_wp2;go_ret;exact⟨rfl,Zb_.alloc Zl_ _⟩
theorem Zn2 (hs:s.size<=maxLen):Calls prog 335 #[.agg #[.int .i64 le,.int .i64 mo,.string we],.string s] w
 fun e w'=>e=.returned (.bool (Zer s&&inB le mo (ZpE s)))/\Zw_ w w':=by
 have HW:∀ o,Hd (Zw_ w (w.alloc o)):=fun o=>Zb_.alloc Zl_ _
 have hdec:=fun u=>Zdl s u hs
 by_cases hd:Zer s=true
 . have HR:=Zab (Zje hd)
   rw [ZdF];generalize ZpE s=v at*
   by_cases h1:le<=v
   . by_cases h2:v<=mo
     all_goals
      go_enter func335,ntmps335;go_wp2_with fail;refine (hdec _).mono ?_;rintro e w1 ⟨rfl,rfl⟩;rw [HR.o,hd];go_wp2;go_ret;exact⟨Zaa (by simp [h1,h2,hd]),(HW _).o⟩
   . go_enter func335,ntmps335
     go_wp2_with fail;refine (hdec _).mono ?_;rintro e w1 ⟨rfl,rfl⟩;rw [HR.o,hd];go_wp2;go_ret;exact⟨Zaa (by rw [Bool.eq_iff_iff];simp;omega),(HW _).o⟩
 . have hd':Zer s=false:=by simpa using hd
   go_enter func335,ntmps335;go_wp2_with fail;refine (hdec _).mono ?_;rintro e w1 ⟨rfl,rfl⟩;rw [hd'];go_wp2;go_ret;exact⟨Zaa (by simp [hd']),(HW _).o⟩
theorem ZlX (L:List Zy_) (hv:Zag w (.slice a n cap) L):Calls prog 338 #[.agg #[.slice a n cap],.string s] w
 fun e w'=>e=.returned (.bool (decide (0 < s.size)&&ZeJ L s))/\Zw_ w w':=by
 have HV:=Zab hv;clear hv;have HW:∀ o,Hd (Zw_ w (w.alloc o)):=fun o=>Zb_.alloc Zl_ _
 by_cases hb0:0 < s.size
 . have he:=Zc9 hb0
   go_enter func338,ntmps338;go_wp2_with fail;refine (Zex _ L _ _ (HV.o.below (HW _).o)).mono ?_;rintro e w1 ⟨rfl,rfl⟩;go_wp2;go_ret;exact⟨Zaa (by simp [hb0]),(HW _).o⟩
 . have he:=Zeg (s:=s) (by omega)
   go_enter func338,ntmps338;go_wp2;go_ret;exact⟨Zaa (by simp [hb0]),(HW _).o⟩
theorem ZlN (hs:s.size<=maxLen):Calls prog 344 #[.agg #[.string to,.int .i64 ro,.bool mu,.string df],.string s] w
 fun e w'=>e=.returned (.bool (Zan s))/\Zw_ w w':=by
 have HW:∀ o,Hd (Zw_ w (w.alloc o)):=fun o=>Zb_.alloc Zl_ _
 go_enter func344,ntmps344;go_wp2_with fail;refine (Zao _ _ hs).mono ?_;rintro e w1 ⟨rfl,rfl⟩;go_wp2;go_ret;exact⟨rfl,(HW _).o⟩
end
section
variable (nm to df we:Zy_) (le mo ro:Int) (mu fx:Bool) (wv:Value) (L:List Zy_) (s:Zy_) (w:World) (r:Nat)
theorem ZrV (hr:w.heap[r]?=some (.map Zal 4)) (hv:Zag w wv L) (hs:s.size<=maxLen) :
 Calls prog 274 #[.map (some r),.agg #[.string nm,.int .i64 1,.int .i64 le,.int .i64 mo,wv,.string to,.int .i64 ro,.bool mu,.bool fx,.string df,.string we],.string s] w
  fun e w'=>e=.returned (.bool (ZaP 1 le mo L s))/\Zw_ w w':=by
 have HV:=Zab hv;have HS:=Zab hs;obtain⟨a,n,cap,rfl⟩:=hv.form;have HW:∀ o,Hd (Zw_ w (w.alloc o)):=fun o=>Zb_.alloc Zl_ _
 have hlk:=fun o=>Zdz (w.alloc o) r 1 _ (by rw [(HW o).o.block r (Array.getElem?_eq_some_iff.1 hr).1];exact hr) Zsw
 clear hv hr hs;rw [Zrt];have hm:∀ W:World,(method 479 332 (.agg #[.int .i64 le,.int .i64 mo,.string we]) "loop.example/wharfhall/impl.fits").run prog W=.ok (335,.agg #[.int .i64 le,.int .i64 mo,.string we]) W:=fun _=>by kernel_rfl
 go_enter func274,ntmps274;go_wp2_with fail;refine (Zsu _ _ _ _ _ _ _ _ _ _ _ _ _ _).mono ?_;rintro e w1 ⟨rfl,hb1⟩;have HB1:Hd (Zw_ w w1):=(HW _).o.trans (hb1.mono (by simp));clear hb1;go_wp2_with fail;refine (Zn2 _ _ _ _ _ HS.o).mono ?_;rintro e w2 ⟨rfl,hb2⟩;have HB2:Hd (Zw_ w w2):=HB1.o.trans (hb2.mono HB1.o.size);clear hb2;go_wp2;go_ret;exact⟨rfl,HB2.o⟩
theorem Zr4 (hr:w.heap[r]?=some (.map Zal 4)) (hv:Zag w wv L) (hs:s.size<=maxLen) :
 Calls prog 274 #[.map (some r),.agg #[.string nm,.int .i64 2,.int .i64 le,.int .i64 mo,wv,.string to,.int .i64 ro,.bool mu,.bool fx,.string df,.string we],.string s] w
  fun e w'=>e=.returned (.bool (ZaP 2 le mo L s))/\Zw_ w w':=by
 have HV:=Zab hv;have HS:=Zab hs;obtain⟨a,n,cap,rfl⟩:=hv.form;have HW:∀ o,Hd (Zw_ w (w.alloc o)):=fun o=>Zb_.alloc Zl_ _
 have hlk:=fun o=>Zdz (w.alloc o) r 2 _ (by rw [(HW o).o.block r (Array.getElem?_eq_some_iff.1 hr).1];exact hr) ZsA
 clear hv hr hs;rw [ZrP];have hm:∀ W:World,(method 479 334 (.agg #[.slice a n cap]) "loop.example/wharfhall/impl.fits").run prog W=.ok (338,.agg #[.slice a n cap]) W:=fun _=>by kernel_rfl
 go_enter func274,ntmps274;go_wp2_with fail;refine (Zsy _ _ _ _ _ _ _ _ _ _ _ _ _ _).mono ?_;rintro e w1 ⟨rfl,hb1⟩;have HB1:Hd (Zw_ w w1):=(HW _).o.trans (hb1.mono (by simp));clear hb1;go_wp2_with fail;refine (ZlX _ _ _ _ _ L (HV.o.below HB1.o)).mono ?_;rintro e w2 ⟨rfl,hb2⟩;have HB2:Hd (Zw_ w w2):=HB1.o.trans (hb2.mono HB1.o.size);clear hb2;go_wp2;go_ret;exact⟨rfl,HB2.o⟩
theorem ZrC (hr:w.heap[r]?=some (.map Zal 4)) (hv:Zag w wv L) (hs:s.size<=maxLen) :
 Calls prog 274 #[.map (some r),.agg #[.string nm,.int .i64 3,.int .i64 le,.int .i64 mo,wv,.string to,.int .i64 ro,.bool mu,.bool fx,.string df,.string we],.string s] w
  fun e w'=>e=.returned (.bool (ZaP 3 le mo L s))/\Zw_ w w':=by
 have HV:=Zab hv;have HS:=Zab hs;obtain⟨a,n,cap,rfl⟩:=hv.form;have HW:∀ o,Hd (Zw_ w (w.alloc o)):=fun o=>Zb_.alloc Zl_ _
 have hlk:=fun o=>Zdz (w.alloc o) r 3 _ (by rw [(HW o).o.block r (Array.getElem?_eq_some_iff.1 hr).1];exact hr) Zst
 clear hv hr hs;rw [ZrY];have hm:∀ W:World,(method 479 336 (.agg #[.int .i64 le,.int .i64 mo]) "loop.example/wharfhall/impl.fits").run prog W=.ok (341,.agg #[.int .i64 le,.int .i64 mo]) W:=fun _=>by kernel_rfl
 go_enter func274,ntmps274;go_wp2_with fail;refine (ZsL _ _ _ _ _ _ _ _ _ _ _ _ _ _).mono ?_;rintro e w1 ⟨rfl,hb1⟩;have HB1:Hd (Zw_ w w1):=(HW _).o.trans (hb1.mono (by simp));clear hb1;go_wp2_with fail;refine (Zgn _ _ _ _ HS.o).mono ?_;rintro e w2 ⟨rfl,hb2⟩;have HB2:Hd (Zw_ w w2):=HB1.o.trans (hb2.mono HB1.o.size);clear hb2;go_wp2;go_ret;exact⟨rfl,HB2.o⟩
theorem ZrI (hr:w.heap[r]?=some (.map Zal 4)) (hv:Zag w wv L) (hs:s.size<=maxLen) :
 Calls prog 274 #[.map (some r),.agg #[.string nm,.int .i64 4,.int .i64 le,.int .i64 mo,wv,.string to,.int .i64 ro,.bool mu,.bool fx,.string df,.string we],.string s] w
  fun e w'=>e=.returned (.bool (ZaP 4 le mo L s))/\Zw_ w w':=by
 have HV:=Zab hv;have HS:=Zab hs;obtain⟨a,n,cap,rfl⟩:=hv.form;have HW:∀ o,Hd (Zw_ w (w.alloc o)):=fun o=>Zb_.alloc Zl_ _
 have hlk:=fun o=>Zdz (w.alloc o) r 4 _ (by rw [(HW o).o.block r (Array.getElem?_eq_some_iff.1 hr).1];exact hr) ZsN
 clear hv hr hs;rw [ZrS];have hm:∀ W:World,(method 479 338 (.agg #[.string to,.int .i64 ro,.bool mu,.string df]) "loop.example/wharfhall/impl.fits").run prog W=.ok (344,.agg #[.string to,.int .i64 ro,.bool mu,.string df]) W:=fun _=>by kernel_rfl
 go_enter func274,ntmps274;go_wp2_with fail;refine (Zsq _ _ _ _ _ _ _ _ _ _ _ _ _ _).mono ?_;rintro e w1 ⟨rfl,hb1⟩;have HB1:Hd (Zw_ w w1):=(HW _).o.trans (hb1.mono (by simp));clear hb1;go_wp2_with fail;refine (ZlN _ _ _ _ _ _ HS.o).mono ?_;rintro e w2 ⟨rfl,hb2⟩;have HB2:Hd (Zw_ w w2):=HB1.o.trans (hb2.mono HB1.o.size);clear hb2;go_wp2;go_ret;exact⟨rfl,HB2.o⟩
theorem Zrz (kd:Int) (hr:w.heap[r]?=some (.map Zal 4)) (hv:Zag w wv L) (h1:kd≠1) (h2:kd≠2) (h3:kd≠3) (h4:kd≠4) :
 Calls prog 274 #[.map (some r),.agg #[.string nm,.int .i64 kd,.int .i64 le,.int .i64 mo,wv,.string to,.int .i64 ro,.bool mu,.bool fx,.string df,.string we],.string s] w
  fun e w'=>e=.returned (.bool (ZaP kd le mo L s))/\Zw_ w w':=by
 obtain⟨a,n,cap,rfl⟩:=hv.form;have HW:∀ o,Hd (Zw_ w (w.alloc o)):=fun o=>Zb_.alloc Zl_ _
 have hlk:∀ o,(Instr.lookup 274 (.map (some r)) (.int .i64 kd) true).run prog (w.alloc o)=.ok (.tuple #[.nilFunc,.bool false]) (w.alloc o):=
  fun o=>Zdz (w.alloc o) r kd _ (by rw [(HW o).o.block r (Array.getElem?_eq_some_iff.1 hr).1];exact hr) (ZsB h1 h2 h3 h4)
 rw [ZrX h1 h2 h3 h4];clear hv hr h1 h2 h3 h4;go_enter func274,ntmps274;go_wp2;go_ret;exact⟨rfl,(HW _).o⟩
theorem Zh0 (kd:Int) (hr:w.heap[r]?=some (.map Zal 4)) (hv:Zag w wv L) (hs:s.size<=maxLen) :
 Calls prog 274 #[.map (some r),.agg #[.string nm,.int .i64 kd,.int .i64 le,.int .i64 mo,wv,.string to,.int .i64 ro,.bool mu,.bool fx,.string df,.string we],.string s] w
  fun e w'=>e=.returned (.bool (ZaP kd le mo L s))/\Zw_ w w':=by
 by_cases h1:kd=1
 . subst h1;exact ZrV nm to df we le mo ro mu fx wv L s w r hr hv hs
 by_cases h2:kd=2
 . subst h2;exact Zr4 nm to df we le mo ro mu fx wv L s w r hr hv hs
 by_cases h3:kd=3
 . subst h3;exact ZrC nm to df we le mo ro mu fx wv L s w r hr hv hs
 by_cases h4:kd=4
 . subst h4;exact ZrI nm to df we le mo ro mu fx wv L s w r hr hv hs
 exact Zrz nm to df we le mo ro mu fx wv L s w r kd hr hv h1 h2 h3 h4
theorem Zby (kd:Int) (hv:Zag w wv L) (hs:s.size<=maxLen) :
 Calls prog 199 #[.agg #[.string nm,.int .i64 kd,.int .i64 le,.int .i64 mo,wv,.string to,.int .i64 ro,.bool mu,.bool fx,.string df,.string we],.string s] w
  fun e w'=>e=.returned (.bool (ZaP kd le mo L s))/\Zw_ w w':=by
 by_cases h1:kd=1
 . subst h1;exact Zoq nm to df we le mo ro mu fx wv L s w hv hs
 by_cases h2:kd=2
 . subst h2;exact Zom nm to df we le mo ro mu fx wv L s w hv hs
 by_cases h3:kd=3
 . subst h3;exact Zoa nm to df we le mo ro mu fx wv L s w hv hs
 by_cases h4:kd=4
 . subst h4;exact ZpA nm to df we le mo ro mu fx wv L s w hv hs
 exact ZnW nm to df we le mo ro mu fx wv L s w kd hv h1 h2 h3 h4
end
section
variable (nm to df we:Zy_) (le mo ro:Int) (mu fx:Bool) (wv:Value) (L:List Zy_) (s:Zy_) (w:World) (r:Nat)
theorem Zge (u:World) (o:Obj):(u.alloc o).heap[u.heap.size]?=some o:=(MapKept.heap_alloc u _).1
theorem Zf7 (kd:Int) (hv:Zag w wv L) (hs:s.size<=maxLen) :
 Calls prog 258 #[.agg #[.string nm,.int .i64 kd,.int .i64 le,.int .i64 mo,wv,.string to,.int .i64 ro,.bool mu,.bool fx,.string df,.string we],.string s] w
  fun e w'=>e=.returned (.bool (ZaP kd le mo L s))/\Zw_ w w':=by
 have HV:=Zab hv;have HS:=Zab hs;obtain⟨a,n,cap,rfl⟩:=hv.form;clear hv hs;have HW:∀ o,Hd (Zw_ w (w.alloc o)):=fun o=>Zb_.alloc Zl_ _
 have hr0:∀ o,Hd ((((w.alloc o).alloc (.map Zal 4)).drew).heap[w.heap.size+1]?=some (.map Zal 4)):=fun o=>by
  have:=Zge (w.alloc o) (.map Zal 4);rw [World.size_alloc] at this;exact this
 have hbw:∀ o o',Hd (Zw_ w (((w.alloc o).alloc o').drew)):=fun o o'=>((HW o).o.alloc (by simp) o').drew
 go_enter func258,ntmps258;go_wp2
 go_region_with (first
  | (go_at_call 224;refine (ZeH _).mono ?_;rintro e w' ⟨rfl,rfl⟩)
  | (go_at_call 274;refine (Zh0 _ _ _ _ _ _ _ _ _ _ L _ _ _ _ (hr0 _).o (HV.o.below (hbw _ _).o) HS.o).mono ?_;rintro e w' ⟨rfl,hb⟩;have HB:Hd (Zw_ w w'):=(hbw _ _).o.trans (hb.mono (hbw _ _).o.size);clear hb))
 all_goals go_wp2
 all_goals go_ret
 all_goals exact⟨rfl,HB.o⟩
end
end Go.Proofs.YtfohnageehneoaaGreat
