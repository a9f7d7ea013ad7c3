import Derived.Test.YtmappejlmapboaaGreatRows
import Derived.WalkKit
import Derived.WalkSpells
import Derived.WalkLawsBesides
import Derived.Deep.QuietTactic
import Derived.BigQuiet
import Derived.Deep.OwnRows
set_option maxHeartbeats 16000000
set_option maxRecDepth 100000
open Go.Proofs.Tryz
namespace Go.Proofs.YtmappejlmapboaaGreat
section
open Go.RowKit
variable {n k:Nat}
theorem Zl_:n<=n:=Nat.le_refl n
theorem Zb_{n:Nat} {w:World}:Below n w w:=Below.refl n w
theorem Zz_:0<=n:=Nat.zero_le n
theorem Zk_ {a b c:Nat}(h:a<b)(k:b<=c):a<c:=Nat.lt_of_lt_of_le h k
abbrev Zy_:=ByteArray
@[simp] abbrev Zw_(w w_1:World):Prop:=Below w.heap.size w w_1
def Hd (p:Prop):Prop:=p
theorem Hd.o {p:Prop} (h:Hd p):p:=h
theorem Zab {p:Prop} (h:p):Hd p:=h
def inB (lo hi n:Int):Bool:=decide (lo<=n/\n<=hi)
theorem Zg0 (lo hi n:Int):inB lo hi n=(decide (lo<=n)&&decide (n<=hi)):=by unfold inB;simp
theorem Zaa {a b:Bool} (h:a=b):Ending.returned (.bool a)=.returned (.bool b):=by rw [h]
theorem Zao (n lo hi:Int) (w:World) :
 Calls prog 82 #[.int .i64 n,.int .i64 lo,.int .i64 hi] w fun e w'=>e=.returned (.bool (inB lo hi n))/\w'=w:=by
 rw [Zg0]
 by_cases h1:lo<=n
 . by_cases h2:n<=hi
   all_goals
    go_enter func82,ntmps82;go_wp2;go_ret;exact⟨Zaa (by simp [h1,h2]),rfl⟩
 . go_enter func82,ntmps82
   go_wp2;go_ret;refine⟨Zaa ?_,rfl⟩;rw [Bool.eq_iff_iff];simp;omega
def Zaw (c:UInt8):Bool:=decide (97<=c.toNat/\c.toNat<=122\/48<=c.toNat/\c.toNat<=57\/c.toNat=45)
theorem ZcI (c:UInt8) (w:World) :
 Calls prog 175 #[.int .u8 c.toNat] w fun e w'=>e=.returned (.bool (Zaw c))/\w'=w:=by
 have hc:=c.toNat_lt;generalize hb:Zaw c=b;have hb':b=decide (97<=c.toNat/\c.toNat<=122\/48<=c.toNat/\c.toNat<=57\/c.toNat=45):=by rw [<- hb];rfl
 clear hb;generalize c.toNat=x at*;have H:Hd (b=decide (97<=x/\x<=122\/48<=x/\x<=57\/x=45)):=hb';clear hb';go_enter func175,ntmps175;go_wp2
 all_goals go_ret
 all_goals refine⟨Zaa ?_,rfl⟩
 all_goals rw [H.o]
 all_goals (rw [Bool.eq_iff_iff];simp;omega)
def Zgn (p:UInt8->Bool) (s:Zy_):Bool:=s.data.toList.all p
theorem Zif (s:Zy_) (k:Nat) (h:k < s.size):s.data.toList.take (k+1)=s.data.toList.take k ++ [s[k]]:=by
 rw [List.take_succ_eq_append_getElem (by simpa using h)];rfl
theorem Zcf {p:UInt8->Bool}{s:Zy_} (h:k < s.size) (hp:p s[k]=false):Zgn p s=false:=by
 unfold Zgn;rw [List.all_eq_false];exact⟨s[k],by simp only [Array.mem_toList_iff];exact Array.getElem_mem h,by simp [hp]⟩
theorem ZcV {p:UInt8->Bool}{s:Zy_} (h:(s.data.toList.take k).all p=true) (hk:s.size<=k):Zgn p s=true:=by
 unfold Zgn
 rwa [List.take_of_length_le (by simpa using hk)] at h
theorem Zce {p:UInt8->Bool}{s:Zy_} (h:(s.data.toList.take k).all p=true) (hk:k < s.size) (hp:p s[k]=true):(s.data.toList.take (k+1)).all p=true:=by
 rw [Zif s k hk,List.all_append,h];simp [hp]
theorem Zlb (c:UInt8):Zaw c=true↔(97<=(c.toNat:Int)/\(c.toNat:Int)<=122\/48<=(c.toNat:Int)/\(c.toNat:Int)<=57\/(c.toNat:Int)=45):=by
 unfold Zaw;simp;omega
theorem Zgb (s:Zy_) (w:World) (hs:s.size<=maxLen) :
 Calls prog 236 #[.string s] w fun e w'=>e=.returned (.bool (Zgn Zaw s))/\w'=w:=by
 unfold maxLen at hs;go_enter func236,ntmps236;go_wp2
 go_loop [7] (fun i=>∃ k:Nat,k<=s.size/\i=.int .i64 k/\(s.data.toList.take k).all Zaw=true) (fun i=>s.size - (intOf i).toNat)
 case atStart=>exact⟨0,Nat.zero_le _,rfl,rfl⟩
 case round=>
  obtain⟨k,hk,rfl,hall⟩:=hrel;have HA:Hd ((s.data.toList.take k).all Zaw=true):=hall;clear hall
  by_cases hlt:k < s.size
  . have hsn:=Zlb s[k]
    have HS:Hd (Zaw s[k]=true↔(97<=(s[k].toNat:Int)/\(s[k].toNat:Int)<=122\/48<=(s[k].toNat:Int)/\(s[k].toNat:Int)<=57\/(s[k].toNat:Int)=45)):=hsn;clear hsn;go_wp2
    all_goals try simp only [bne_iff_ne,ne_eq,bne_eq_false_iff_eq] at*
    all_goals first
     | (go_round
        . exact⟨k+1,by omega,by go_num,Zce HA.o hlt (HS.o.2 (by omega))⟩
        . simp [intOf];omega)
     | (go_ret
        exact⟨Zaa (Zcf hlt (Bool.eq_false_iff.2 fun h=>by have:=HS.o.1 h;omega)).symm,rfl⟩)
  . go_wp2
    go_ret;exact⟨Zaa (ZcV HA.o (by omega)).symm,rfl⟩
def Zap (s:Zy_):Bool:=inB 1 16 s.size&&Zgn Zaw s
theorem Zan (s:Zy_) (w:World) (hs:s.size<=maxLen) :
 Calls prog 206 #[.string s] w fun e w'=>e=.returned (.bool (Zap s))/\w'=w:=by
 have hk:=Zgb s w hs;unfold maxLen at hs
 by_cases h1:1<=(s.size:Int)
 . by_cases h2:(s.size:Int)<=16
   . have HB:Hd (Zap s=Zgn Zaw s):=by unfold Hd Zap inB;simp;intro h;omega
     go_enter func206,ntmps206;go_wp2_with (go_at_call 236;refine hk.mono ?_;rintro e w' ⟨rfl,rfl⟩);go_ret;exact⟨Zaa HB.o.symm,rfl⟩
   . have HB:Hd (Zap s=false):=by unfold Hd Zap inB;simp;intro h;omega
     go_enter func206,ntmps206;go_wp2;go_ret;exact⟨Zaa HB.o.symm,rfl⟩
 . have HB:Hd (Zap s=false):=by unfold Hd Zap inB;simp;intro h;omega
   go_enter func206,ntmps206;go_wp2;go_ret;exact⟨Zaa HB.o.symm,rfl⟩
theorem Zae (s:Zy_) (w:World) (hs:s.size<=maxLen) :
 Calls prog 132 #[.string s] w fun e w'=>e=.returned (.bool (Zap s))/\w'=w:=by
 unfold maxLen at hs
 by_cases h1:inB 1 16 s.size=true
 . have HB:Hd (Zap s=Zgn Zaw s):=by unfold Hd Zap;simp [h1]
   go_enter func132,ntmps132;go_wp2_with (go_at_call 82;refine (Zao _ _ _ _).mono ?_;rintro e w' ⟨rfl,rfl⟩)
   go_loop [3] (fun i=>∃ k:Nat,k<=s.size/\i=.int .i64 k/\(s.data.toList.take k).all Zaw=true) (fun i=>s.size - (intOf i).toNat)
   case atStart=>exact⟨0,Nat.zero_le _,rfl,rfl⟩
   case round=>
    obtain⟨k,hk,rfl,hall⟩:=hrel;have HA:Hd ((s.data.toList.take k).all Zaw=true):=hall;clear hall
    by_cases hlt:k < s.size
    . by_cases hn:Zaw s[k]=true
      . go_wp2_with (go_at_call 175;refine (ZcI _ _).mono ?_;rintro e w' ⟨rfl,rfl⟩)
        go_round
        . exact⟨k+1,by omega,by go_num,Zce HA.o hlt hn⟩
        . simp [intOf];omega
      . have hn':Zaw s[k]=false:=by simpa using hn
        go_wp2_with (go_at_call 175;refine (ZcI _ _).mono ?_;rintro e w' ⟨rfl,rfl⟩);go_ret;exact⟨Zaa (by rw [HB.o,Zcf hlt hn']),rfl⟩
    . go_wp2
      go_ret;exact⟨Zaa (by rw [HB.o,ZcV HA.o (by omega)]),rfl⟩
 . have h1':inB 1 16 s.size=false:=by simpa using h1
   have HB:Hd (Zap s=false):=by unfold Hd Zap;simp [h1']
   go_enter func132,ntmps132;go_wp2_with (go_at_call 82;refine (Zao _ _ _ _).mono ?_;rintro e w' ⟨rfl,rfl⟩);go_ret;exact⟨Zaa HB.o.symm,rfl⟩
end
section
open Go.RowKit
theorem ZaE {a b:Int} (h:a=b):Ending.returned (.int .i64 a)=.returned (.int .i64 b):=by rw [h]
def Zc6 (c:UInt8):Bool:=decide (48<=c.toNat/\c.toNat<=57)
theorem ZeR (c:UInt8):Zc6 c=true↔(48<=(c.toNat:Int)/\(c.toNat:Int)<=57):=by
 unfold Zc6;simp;omega
def ZcZ (l:List UInt8):Int:=l.foldl (fun n c=>10*n+((c.toNat:Int) - 48)) 0
theorem Zpn (l:List UInt8) (c:UInt8):ZcZ (l ++ [c])=10*ZcZ l+((c.toNat:Int) - 48):=by
 unfold ZcZ;rw [List.foldl_append];rfl
theorem ZbR (s:Zy_) (k:Nat) (h:k < s.size):ZcZ (s.data.toList.take (k+1))=10*ZcZ (s.data.toList.take k)+((s[k].toNat:Int) - 48):=by
 rw [Zif s k h,Zpn]
theorem Zfy (s:Zy_) (k:Nat):k<=s.size->(s.data.toList.take k).all Zc6=true->0<=ZcZ (s.data.toList.take k)/\ZcZ (s.data.toList.take k) < 10 ^ k:=by
 induction k with
 | zero=>intro _ _;simp [ZcZ]
 | succ k ih=>
  intro hk h;rw [Zif s k (by omega),List.all_append] at h;simp only [Bool.and_eq_true,List.all_cons,List.all_nil,Bool.and_true] at h;obtain⟨i1,i2⟩:=ih (by omega) h.1;have hd:=(ZeR _).1 h.2;rw [ZbR s k (by omega),Int.pow_succ]
  omega
theorem ZcD (s:Zy_) (k:Nat) (hk:k<=s.size) (h7:s.size<=7) (h:(s.data.toList.take k).all Zc6=true):0<=ZcZ (s.data.toList.take k)/\ZcZ (s.data.toList.take k) < 10000000:=by
 obtain⟨h0,h1⟩:=Zfy s k hk h;refine⟨h0,?_⟩;have:k=0\/k=1\/k=2\/k=3\/k=4\/k=5\/k=6\/k=7:=by omega
 generalize ZcZ (s.data.toList.take k)=v at*
 rcases this with rfl | rfl | rfl | rfl | rfl | rfl | rfl | rfl <;> simp at h1 <;> omega
def Zf6 (s:Zy_):Bool:=!(decide (1 < s.size)&&(s.data.toList.head? == some 48))
theorem Zqm (s:Zy_) (h:0 < s.size):s.data.toList.head?=some s[0]:=by
 have:0 < s.data.toList.length:=by simpa using h
 rw [List.head?_eq_getElem?,List.getElem?_eq_getElem this];rfl
theorem ZiX (s:Zy_) (h:0 < s.size) (h1:1 < s.size) (hz:((s[0].toNat:Int) == 48)=true):Zf6 s=false:=by
 have e:s[0]=48:=by
  have h48:(s[0].toNat:Int)=48:=by simpa using hz
  exact UInt8.toNat_inj.1 (by show s[0].toNat=48;omega)
 unfold Zf6;rw [Zqm s h,e];simp [h1]
theorem ZhQ (s:Zy_) (h:0 < s.size) (hz:((s[0].toNat:Int) == 48)=false):Zf6 s=true:=by
 have e:s[0]≠48:=by
  intro e;rw [e] at hz;simp at hz
 unfold Zf6;rw [Zqm s h];simp [e]
theorem ZiY (s:Zy_) (h:s.size<=1):Zf6 s=true:=by
 unfold Zf6;simp;omega
def ZeP (s:Zy_):Bool:=inB 1 7 s.size&&Zf6 s&&Zgn Zc6 s
def ZpR (s:Zy_):Int:=ZcZ s.data.toList
def Zm4 (s:Zy_):Int:=if ZeP s=true then ZpR s else -1
theorem ZlI {s:Zy_} (h1:inB 1 7 s.size=true) (h2:Zf6 s=true):ZeP s=Zgn Zc6 s:=by unfold ZeP;simp [h1,h2]
theorem Zh3 {s:Zy_} (h:ZeP s=false):Zm4 s= -1:=by unfold Zm4;simp [h]
theorem Zj6 {s:Zy_} (h:ZeP s=true):Zm4 s=ZpR s:=by unfold Zm4;simp [h]
theorem ZdO {s:Zy_}{k:Nat} (h:s.size<=k):ZcZ (s.data.toList.take k)=ZpR s:=by
 unfold ZpR;rw [List.take_of_length_le (by simpa using h)]
theorem Zbi (s:Zy_) (w:World) (hs:s.size<=maxLen) :
 Calls prog 193 #[.string s] w fun e w'=>e=.returned (.int .i64 (Zm4 s))/\w'=w:=by
 unfold maxLen at hs
 by_cases h1:inB 1 7 s.size=true
 . have hb:1<=s.size/\s.size<=7:=by have:=h1;unfold inB at this;simp at this;omega
   obtain⟨hb1,hb2⟩:=hb;have hb0:0 < s.size:=by omega
   have fin:∀ (hh:Hd (Zf6 s=true)),Hd (ZeP s=Zgn Zc6 s):=fun hh=>ZlI h1 hh.o
   by_cases hbad:1 < s.size/\((s[0].toNat:Int) == 48)=true
   . obtain⟨hb3,hz⟩:=hbad
     have HB:Hd (Zm4 s= -1):=Zh3 (by unfold ZeP;rw [ZiX s hb0 hb3 hz];simp);clear fin;go_enter func193,ntmps193;go_wp2_with (go_at_call 82;refine (Zao _ _ _ _).mono ?_;rintro e w' ⟨rfl,rfl⟩);go_ret;exact⟨ZaE HB.o.symm,rfl⟩
   . have HD:Hd (ZeP s=Zgn Zc6 s):=by
      refine fin ?_
      by_cases h2:1 < s.size
      . exact ZhQ s hb0 (by simpa [h2] using hbad)
      . exact ZiY s (by omega)
     clear fin
     have hq:s.size=1\/(1 < s.size/\((s[0].toNat:Int) == 48)=false):=by
      by_cases h2:1 < s.size
      . exact Or.inr ⟨h2,by simpa [h2] using hbad⟩
      . left;omega
     clear hbad
     have hq':Hd (¬ 1 < s.size)\/(1 < s.size/\((s[0].toNat:Int) == 48)=false):=by
      rcases hq with hq | hq
      . left;unfold Hd;omega
      . exact Or.inr hq
     clear hq
     rcases hq' with hq | ⟨hq,hz⟩
     . replace hq:¬ 1 < s.size:=hq.o
       go_enter func193,ntmps193;go_wp2_with (go_at_call 82;refine (Zao _ _ _ _).mono ?_;rintro e w' ⟨rfl,rfl⟩)
       go_loop [3,4] (fun n i=>∃ k:Nat,k<=s.size/\i=.int .i64 k/\n=.int .i64 (ZcZ (s.data.toList.take k))/\(s.data.toList.take k).all Zc6=true) (fun _ i=>s.size - (intOf i).toNat)
       case atStart=>exact⟨0,Nat.zero_le _,rfl,rfl,rfl⟩
       case round=>
        obtain⟨k,hk,rfl,rfl,hall⟩:=hrel;obtain⟨v0,v1⟩:=ZcD s k hk hb2 hall;have HA:Hd ((s.data.toList.take k).all Zc6=true):=hall;clear hall
        by_cases hlt:k < s.size
        . have HV:Hd (ZcZ (s.data.toList.take (k+1))=10*ZcZ (s.data.toList.take k)+((s[k].toNat:Int) - 48)):=ZbR s k hlt
          have HS:Hd (Zc6 s[k]=true↔(48<=(s[k].toNat:Int)/\(s[k].toNat:Int)<=57)):=ZeR s[k];go_wp2
          all_goals first
           | (go_round
              . exact⟨k+1,by omega,by go_num,by rw [HV.o];go_num,Zce HA.o hlt (HS.o.2 (by omega))⟩
              . simp [intOf];omega)
           | (go_ret
              exact⟨ZaE (Zh3 (by rw [HD.o];exact Zcf hlt (Bool.eq_false_iff.2 fun h=>by have:=HS.o.1 h;omega))).symm,rfl⟩)
        . go_wp2
          go_ret;exact⟨ZaE (by rw [Zj6 (by rw [HD.o];exact ZcV HA.o (by omega)),<- ZdO (k:=k) (by omega)]),rfl⟩
     . go_enter func193,ntmps193
       go_wp2_with (go_at_call 82;refine (Zao _ _ _ _).mono ?_;rintro e w' ⟨rfl,rfl⟩)
       go_loop [3,4] (fun n i=>∃ k:Nat,k<=s.size/\i=.int .i64 k/\n=.int .i64 (ZcZ (s.data.toList.take k))/\(s.data.toList.take k).all Zc6=true) (fun _ i=>s.size - (intOf i).toNat)
       case atStart=>exact⟨0,Nat.zero_le _,rfl,rfl,rfl⟩
       case round=>
        obtain⟨k,hk,rfl,rfl,hall⟩:=hrel;obtain⟨v0,v1⟩:=ZcD s k hk hb2 hall;have HA:Hd ((s.data.toList.take k).all Zc6=true):=hall;clear hall
        by_cases hlt:k < s.size
        . have HV:Hd (ZcZ (s.data.toList.take (k+1))=10*ZcZ (s.data.toList.take k)+((s[k].toNat:Int) - 48)):=ZbR s k hlt
          have HS:Hd (Zc6 s[k]=true↔(48<=(s[k].toNat:Int)/\(s[k].toNat:Int)<=57)):=ZeR s[k];go_wp2
          all_goals first
           | (go_round
              . exact⟨k+1,by omega,by go_num,by rw [HV.o];go_num,Zce HA.o hlt (HS.o.2 (by omega))⟩
              . simp [intOf];omega)
           | (go_ret
              exact⟨ZaE (Zh3 (by rw [HD.o];exact Zcf hlt (Bool.eq_false_iff.2 fun h=>by have:=HS.o.1 h;omega))).symm,rfl⟩)
        . go_wp2
          go_ret;exact⟨ZaE (by rw [Zj6 (by rw [HD.o];exact ZcV HA.o (by omega)),<- ZdO (k:=k) (by omega)]),rfl⟩
 . have h1':inB 1 7 s.size=false:=by simpa using h1
   have HB:Hd (Zm4 s= -1):=Zh3 (by unfold ZeP;simp [h1']);go_enter func193,ntmps193;go_wp2_with (go_at_call 82;refine (Zao _ _ _ _).mono ?_;rintro e w' ⟨rfl,rfl⟩);go_ret;exact⟨ZaE HB.o.symm,rfl⟩
end
section
open Go.RowKit
variable {lo hi:Int}
theorem ZeT {s:Zy_} (h:s.size=0):s.toList.isEmpty=true:=by
 rw [ByteArray.toList_eq,List.isEmpty_iff_length_eq_zero];simpa using h
theorem Zc7 {s:Zy_} (h:0 < s.size):s.toList.isEmpty=false:=by
 rw [ByteArray.toList_eq,List.isEmpty_eq_false_iff_exists_mem];exact⟨s[0],by simp only [Array.mem_toList_iff];exact Array.getElem_mem h⟩
def ZjF (s:Zy_):Int:=if ZeP s=true then ZpR s else 0
theorem ZhJ {s:Zy_} (h:ZeP s=false):ZjF s=0:=by unfold ZjF;simp [h]
theorem ZjH {s:Zy_} (h:ZeP s=true):ZjF s=ZpR s:=by unfold ZjF;simp [h]
theorem ZfJ {a c:Int}{b d:Bool} (h:a=c) (h':b=d):Ending.returned (.tuple #[.int .i64 a,.bool b])=.returned (.tuple #[.int .i64 c,.bool d]):=by rw [h,h']
theorem Zdl (s:Zy_) (w:World) (hs:s.size<=maxLen) :
 Calls prog 229 #[.string s] w fun e w'=>e=.returned (.tuple #[.int .i64 (ZjF s),.bool (ZeP s)])/\w'=w:=by
 unfold maxLen at hs
 by_cases hb0:0 < s.size
 . have he:=Zc7 hb0
   by_cases hb2:s.size<=7
   . have h1:Hd (inB 1 7 s.size=true):=by unfold Hd inB;simp;omega
     by_cases hz:((s[0].toNat:Int) == 48)=true
     . by_cases hb3:1 < s.size
       . have HB:Hd (ZeP s=false):=by unfold Hd ZeP;rw [ZiX s hb0 hb3 hz];simp
         go_enter func229,ntmps229;go_wp2
         go_ret2
         exact⟨ZfJ (ZhJ HB.o).symm HB.o.symm,rfl⟩
       . have HD:Hd (ZeP s=Zgn Zc6 s):=ZlI h1.o (ZiY s (by omega))
         clear h1;go_enter func229,ntmps229;go_wp2
         go_loop [4,25] (fun n i=>∃ k:Nat,k<=s.size/\i=.int .i64 k/\n=.int .i64 (ZcZ (s.data.toList.take k))/\(s.data.toList.take k).all Zc6=true) (fun _ i=>s.size - (intOf i).toNat)
         case atStart=>exact⟨0,Nat.zero_le _,rfl,rfl,rfl⟩
         case round=>
          obtain⟨k,hk,rfl,rfl,hall⟩:=hrel;obtain⟨v0,v1⟩:=ZcD s k hk hb2 hall;have HA:Hd ((s.data.toList.take k).all Zc6=true):=hall;clear hall
          by_cases hlt:k < s.size
          . have HV:Hd (ZcZ (s.data.toList.take (k+1))=10*ZcZ (s.data.toList.take k)+((s[k].toNat:Int) - 48)):=ZbR s k hlt
            have HS:Hd (Zc6 s[k]=true↔(48<=(s[k].toNat:Int)/\(s[k].toNat:Int)<=57)):=ZeR s[k];go_wp2
            all_goals first
             | (go_round
                . exact⟨k+1,by omega,by go_num,by rw [HV.o],Zce HA.o hlt (HS.o.2 (by omega))⟩
                . simp [intOf];omega)
             | (go_ret2
                have HN:ZeP s=false:=by rw [HD.o];exact Zcf hlt (Bool.eq_false_iff.2 fun h=>by have:=HS.o.1 h;omega)
                exact⟨ZfJ (ZhJ HN).symm HN.symm,rfl⟩)
          . go_wp2
            go_ret2
            have HN:ZeP s=true:=by rw [HD.o];exact ZcV HA.o (by omega)
            exact⟨ZfJ (by rw [ZjH HN,<- ZdO (k:=k) (by omega)]) HN.symm,rfl⟩
     . have hz':((s[0].toNat:Int) == 48)=false:=by simpa using hz
       have HD:Hd (ZeP s=Zgn Zc6 s):=ZlI h1.o (ZhQ s hb0 hz');clear h1 hz;go_enter func229,ntmps229;go_wp2
       go_loop [4,25] (fun n i=>∃ k:Nat,k<=s.size/\i=.int .i64 k/\n=.int .i64 (ZcZ (s.data.toList.take k))/\(s.data.toList.take k).all Zc6=true) (fun _ i=>s.size - (intOf i).toNat)
       case atStart=>exact⟨0,Nat.zero_le _,rfl,rfl,rfl⟩
       case round=>
        obtain⟨k,hk,rfl,rfl,hall⟩:=hrel;obtain⟨v0,v1⟩:=ZcD s k hk hb2 hall;have HA:Hd ((s.data.toList.take k).all Zc6=true):=hall;clear hall
        by_cases hlt:k < s.size
        . have HV:Hd (ZcZ (s.data.toList.take (k+1))=10*ZcZ (s.data.toList.take k)+((s[k].toNat:Int) - 48)):=ZbR s k hlt
          have HS:Hd (Zc6 s[k]=true↔(48<=(s[k].toNat:Int)/\(s[k].toNat:Int)<=57)):=ZeR s[k];go_wp2
          all_goals first
           | (go_round
              . exact⟨k+1,by omega,by go_num,by rw [HV.o],Zce HA.o hlt (HS.o.2 (by omega))⟩
              . simp [intOf];omega)
           | (go_ret2
              have HN:ZeP s=false:=by rw [HD.o];exact Zcf hlt (Bool.eq_false_iff.2 fun h=>by have:=HS.o.1 h;omega)
              exact⟨ZfJ (ZhJ HN).symm HN.symm,rfl⟩)
        . go_wp2
          go_ret2
          have HN:ZeP s=true:=by rw [HD.o];exact ZcV HA.o (by omega)
          exact⟨ZfJ (by rw [ZjH HN,<- ZdO (k:=k) (by omega)]) HN.symm,rfl⟩
   . have HB:Hd (ZeP s=false):=by unfold Hd ZeP inB;simp;intro h;omega
     go_enter func229,ntmps229;go_wp2
     go_ret2
     exact⟨ZfJ (ZhJ HB.o).symm HB.o.symm,rfl⟩
 . have he:=ZeT (s:=s) (by omega)
   have HB:Hd (ZeP s=false):=by unfold Hd ZeP inB;simp;intro h;omega
   go_enter func229,ntmps229;go_wp2
   go_ret2
   exact⟨ZfJ (ZhJ HB.o).symm HB.o.symm,rfl⟩
def ZbU (c:UInt8):Bool:=decide (33<=c.toNat/\c.toNat<=126)
theorem Zhc (c:UInt8):ZbU c=true↔(33<=(c.toNat:Int)/\(c.toNat:Int)<=126):=by
 unfold ZbU;simp;omega
def Zgg (lo hi:Int) (s:Zy_):Bool:=decide (0 < s.size)&&inB lo hi s.size&&Zgn ZbU s
theorem Zfe {s:Zy_} (h:¬ (0 < s.size/\lo<=s.size/\(s.size:Int)<=hi)):Zgg lo hi s=false:=by
 unfold Zgg inB;rw [Bool.eq_false_iff];simp;intro a b c;exact absurd ⟨a,b,c⟩ h
theorem Zre {s:Zy_} (h0:0 < s.size) (h1:lo<=s.size) (h2:(s.size:Int)<=hi):Zgg lo hi s=Zgn ZbU s:=by
 unfold Zgg inB;simp [h0,h1,h2]
theorem Zhd (lo hi:Int) (s:Zy_) (w:World) (hs:s.size<=maxLen) :
 Calls prog 321 #[.agg #[.int .i64 lo,.int .i64 hi],.string s] w fun e w'=>e=.returned (.bool (Zgg lo hi s))/\Zw_ w w':=by
 unfold maxLen at hs
 by_cases hb0:0 < s.size
 . have he:=Zc7 hb0
   by_cases h1:lo<=(s.size:Int)
   . by_cases h2:(s.size:Int)<=hi
     . have HD:Hd (Zgg lo hi s=Zgn ZbU s):=Zre hb0 h1 h2
       go_enter func321,ntmps321;go_wp2
       go_loop [24] (fun i=>∃ k:Nat,k<=s.size/\i=.int .i64 k/\(s.data.toList.take k).all ZbU=true) (fun i=>s.size - (intOf i).toNat)
       case atStart=>exact⟨0,Nat.zero_le _,rfl,rfl⟩
       case round=>
        obtain⟨k,hk,rfl,hall⟩:=hrel;have HA:Hd ((s.data.toList.take k).all ZbU=true):=hall;clear hall
        by_cases hlt:k < s.size
        . have HS:Hd (ZbU s[k]=true↔(33<=(s[k].toNat:Int)/\(s[k].toNat:Int)<=126)):=Zhc s[k]
          go_wp2
          all_goals first
           | (go_round
              . exact⟨k+1,by omega,by go_num,Zce HA.o hlt (HS.o.2 (by omega))⟩
              . simp [intOf];omega)
           | (go_ret
              exact⟨Zaa (by rw [HD.o];exact (Zcf hlt (Bool.eq_false_iff.2 fun h=>by have:=HS.o.1 h;omega)).symm),Zb_.alloc Zl_ _⟩)
        . go_wp2
          go_ret;exact⟨Zaa (by rw [HD.o];exact (ZcV HA.o (by omega)).symm),Zb_.alloc Zl_ _⟩
     . have HB:Hd (Zgg lo hi s=false):=Zfe (by omega)
       go_enter func321,ntmps321;go_wp2;go_ret;exact⟨Zaa HB.o.symm,Zb_.alloc Zl_ _⟩
   . have HB:Hd (Zgg lo hi s=false):=Zfe (by omega)
     go_enter func321,ntmps321;go_wp2;go_ret;exact⟨Zaa HB.o.symm,Zb_.alloc Zl_ _⟩
 . have he:=ZeT (s:=s) (by omega)
   have HB:Hd (Zgg lo hi s=false):=Zfe (by omega);go_enter func321,ntmps321;go_wp2;go_ret;exact⟨Zaa HB.o.symm,Zb_.alloc Zl_ _⟩
end
section
open Go.RowKit
variable {k:Nat}
def Zaf (w:World) (v:Value) (L:List Zy_):Prop:=
 (∃ (a:Option Addr) (cap:Nat),v=.slice a 0 cap/\L=[])\/
 ∃ (b off cap:Nat),v=.slice (some ⟨b,off,none⟩) L.length cap/\L≠[]/\L.length<=maxLen/\b < w.heap.size/\
  (∀ i (h:i < L.length),w.cell? ⟨b,off+i,none⟩=some (.string L[i]))/\∀ s ∈ L,s.size<=maxLen
theorem Zaf.below {w w':World}{v:Value}{L:List Zy_} (h:Zaf w v L) (hb:Zw_ w w'):Zaf w' v L:=by
 rcases h with h | ⟨b,off,cap,h1,h2,h3,h4,h5,h6⟩
 . exact Or.inl h
 . exact Or.inr ⟨b,off,cap,h1,h2,h3,Zk_ h4 hb.size,fun i hi=>by rw [hb.cell (p:=⟨b,off+i,none⟩) h4];exact h5 i hi,h6⟩
def Ztz (n:Nat) (left r:Int):Prop:= -1<=r/\r<=left/\(0<=r->(n:Int)<=left)
theorem ZgM (v:Value) (L:List Zy_) (left:Int) (w:World) (h0:0<=left) (h1:left<=1048576) (hv:Zaf w v L) :
 Calls prog 122 #[v,.int .i64 left] w fun e w'=>∃ r:Int,e=.returned (.int .i64 r)/\w'=w/\Ztz L.length left r:=by
 rcases hv with ⟨a,cap,rfl,rfl⟩ | ⟨b,off,cap,rfl,hne,hm,hbw,hc,hsz⟩
 . go_enter func122,ntmps122
   go_wp2
   go_loop [1,5] (fun l i=>∃ r:Int,l=.int .i64 r/\0<=r/\r<=left/\i=.int .i64 0) (fun _ _=>0)
   case atStart=>exact⟨_,rfl,by omega,by omega,rfl⟩
   case round=>
    obtain⟨r,rfl,hr0,hr1,rfl⟩:=hrel;go_wp2;go_ret;exact⟨r,rfl,rfl,by omega,by omega,fun _=>by simp;omega⟩
 . unfold maxLen at hm
   by_cases hle:(L.length:Int)<=left
   . go_enter func122,ntmps122
     go_wp2
     go_loop [1,5] (fun l i=>∃ (r:Int) (k:Nat),l=.int .i64 r/\0<=r/\r<=left/\i=.int .i64 k/\k<=L.length) (fun _ i=>L.length - (intOf i).toNat)
     case atStart=>exact⟨_,0,rfl,by omega,by omega,rfl,by omega⟩
     case round=>
      obtain⟨r,k,rfl,hr0,hr1,rfl,hk⟩:=hrel
      by_cases hlt:k < L.length
      . have hck:=hc k hlt
        have hsk:=hsz L[k] (List.getElem_mem hlt);unfold maxLen at hsk;go_wp2
        all_goals first
         | (go_round
            . exact⟨_,k+1,rfl,by omega,by omega,by go_num,by omega⟩
            . simp [intOf];omega)
         | (go_ret
            exact⟨-1,rfl,rfl,by omega,by omega,fun h=>by omega⟩)
      . go_wp2
        go_ret;exact⟨r,rfl,rfl,by omega,by omega,fun _=>hle⟩
   . go_enter func122,ntmps122
     go_wp2;go_ret;exact⟨-1,rfl,rfl,by omega,by omega,fun h=>by omega⟩
def Ze8 (L:List Zy_) (s:Zy_):Bool:=L.any fun x=>x.toList == s.toList
theorem ZmX {L:List Zy_}{s:Zy_} (h:k < L.length) (hp:(L[k].toList == s.toList)=true):Ze8 L s=true:=by
 unfold Ze8;rw [List.any_eq_true];exact⟨L[k],List.getElem_mem h,hp⟩
theorem ZmW {L:List Zy_}{s:Zy_} (h:Ze8 (L.take k) s=false) (hk:k < L.length) (hp:(L[k].toList == s.toList)=false):Ze8 (L.take (k+1)) s=false:=by
 unfold Ze8 at*;rw [List.take_succ_eq_append_getElem hk,List.any_append,h];simp [hp]
theorem Zqk {L:List Zy_}{s:Zy_} (h:Ze8 (L.take k) s=false) (hk:L.length<=k):Ze8 L s=false:=by
 rwa [List.take_of_length_le hk] at h
theorem ZeX (v:Value) (L:List Zy_) (s:Zy_) (w:World) (hv:Zaf w v L) :
 Calls prog 201 #[v,.string s] w fun e w'=>e=.returned (.bool (Ze8 L s))/\w'=w:=by
 rcases hv with ⟨a,cap,rfl,rfl⟩ | ⟨b,off,cap,rfl,hne,hm,hbw,hc,hsz⟩
 . go_enter func201,ntmps201
   go_wp2
   go_loop [5] (fun i=>i=.int .i64 0) (fun _=>0)
   case atStart=>rfl
   case round=>
    subst hrel;go_wp2;go_ret;exact⟨rfl,rfl⟩
 . unfold maxLen at hm
   go_enter func201,ntmps201;go_wp2
   go_loop [5] (fun i=>∃ k:Nat,i=.int .i64 k/\k<=L.length/\Ze8 (L.take k) s=false) (fun i=>L.length - (intOf i).toNat)
   case atStart=>exact⟨0,rfl,by omega,rfl⟩
   case round=>
    obtain⟨k,rfl,hk,hh⟩:=hrel;have HH:Hd (Ze8 (L.take k) s=false):=hh;clear hh
    by_cases hlt:k < L.length
    . have hck:=hc k hlt
      by_cases he:(L[k].toList == s.toList)=true
      . go_wp2
        go_ret;exact⟨Zaa (ZmX hlt he).symm,rfl⟩
      . have he':(L[k].toList == s.toList)=false:=by simpa using he
        clear he;go_wp2
        go_round
        . exact⟨k+1,by go_num,by omega,ZmW HH.o hlt he'⟩
        . simp [intOf];omega
    . go_wp2
      go_ret;exact⟨Zaa (Zqk HH.o (by omega)).symm,rfl⟩
theorem Zqo (v:Value) (L:List Zy_) (s:Zy_) (w:World) (hv:Zaf w v L) :
 Calls prog 296 #[v,.string s] w fun e w'=>∃ r:Int,e=.returned (.int .i64 r)/\w'=w/\decide (0<=r)=Ze8 L s:=by
 rcases hv with ⟨a,cap,rfl,rfl⟩ | ⟨b,off,cap,rfl,hne,hm,hbw,hc,hsz⟩
 . go_enter func296,ntmps296
   go_wp2
   go_loop [8] (fun i=>i=.int .i64 0) (fun _=>0)
   case atStart=>rfl
   case round=>
    subst hrel;go_wp2;go_ret;exact⟨-1,rfl,rfl,rfl⟩
 . unfold maxLen at hm
   go_enter func296,ntmps296;go_wp2
   go_loop [8] (fun i=>∃ k:Nat,i=.int .i64 k/\k<=L.length/\Ze8 (L.take k) s=false) (fun i=>L.length - (intOf i).toNat)
   case atStart=>exact⟨0,rfl,by omega,rfl⟩
   case round=>
    obtain⟨k,rfl,hk,hh⟩:=hrel;have HH:Hd (Ze8 (L.take k) s=false):=hh;clear hh
    by_cases hlt:k < L.length
    . have hck:=hc k hlt
      by_cases he:(s.toList == L[k].toList)=true
      . go_wp2
        go_ret;exact⟨k,rfl,rfl,by rw [ZmX hlt (by rw [Bool.beq_comm];exact he)];simp⟩
      . have he':(s.toList == L[k].toList)=false:=by simpa using he
        clear he;go_wp2
        go_round
        . exact⟨k+1,by go_num,by omega,ZmW HH.o hlt (by rw [Bool.beq_comm];exact he')⟩
        . simp [intOf];omega
    . go_wp2
      go_ret;exact⟨-1,rfl,rfl,by rw [Zqk HH.o (by omega)];rfl⟩
theorem ZeN (v:Value) (L:List Zy_) (s:Zy_) (w:World) (hv:Zaf w v L) :
 Calls prog 285 #[v,.string s] w fun e w'=>e=.returned (.bool (Ze8 L s))/\w'=w:=by
 go_enter func285,ntmps285;go_wp2_with fail;refine (Zqo v L s _ hv).mono ?_;rintro e w1 ⟨r,rfl,rfl,hr⟩;have HR:Hd (decide (0<=r)=Ze8 L s):=hr;clear hr;go_wp2;go_ret;exact⟨Zaa HR.o,rfl⟩
end
section
open Go.RowKit Go.Deep
variable {wr w:World} {B k lo:Nat} {v:Value}
theorem ZfF (v v':Value) (L:List Zy_) (w:World) (hv:Zaf w v L) (hv':Zaf w v' L) :
 Calls prog 147 #[v,v'] w fun e w'=>e=.returned (.bool true)/\Zw_ w w':=by
 by_cases hL:L=[]
 . subst hL
   obtain⟨a,cap,rfl⟩:∃ a cap,v=.slice a 0 cap:=by
    rcases hv with ⟨a,cap,h,_⟩ | ⟨b,off,cap,h,hne,_⟩
    . exact⟨a,cap,h⟩
    . exact absurd rfl hne
   obtain⟨a',cap',rfl⟩:∃ a cap,v'=.slice a 0 cap:=by
    rcases hv' with ⟨a,cap,h,_⟩ | ⟨b,off,cap,h,hne,_⟩
    . exact⟨a,cap,h⟩
    . exact absurd rfl hne
   clear hv hv';go_enter func147,ntmps147;go_wp2
   go_loop [5] (fun i=>i=.int .i64 0) (fun _=>0)
   case atStart=>rfl
   case round=>
    subst hrel;go_wp2;go_ret;exact⟨rfl,Below.refl _ _⟩
 . obtain⟨b,off,cap,rfl,hm,hbw,hc⟩:∃ b off cap,v=.slice (some ⟨b,off,none⟩) L.length cap/\L.length<=maxLen/\b < w.heap.size/\∀ i (h:i < L.length),w.cell? ⟨b,off+i,none⟩=some (.string L[i]):=by
    rcases hv with ⟨a,cap,h,h'⟩ | ⟨b,off,cap,h,hne,hm,hbw,hc,_⟩
    . exact absurd h' hL
    . exact⟨b,off,cap,h,hm,hbw,hc⟩
   obtain⟨b',off',cap',rfl,_,hbw',hc'⟩:∃ b off cap,v'=.slice (some ⟨b,off,none⟩) L.length cap/\L.length<=maxLen/\b < w.heap.size/\∀ i (h:i < L.length),w.cell? ⟨b,off+i,none⟩=some (.string L[i]):=by
    rcases hv' with ⟨a,cap,h,h'⟩ | ⟨b,off,cap,h,hne,hm,hbw,hc,_⟩
    . exact absurd h' hL
    . exact⟨b,off,cap,h,hm,hbw,hc⟩
   clear hv hv';unfold maxLen at hm;go_enter func147,ntmps147;go_wp2
   go_loopw [5] (fun i wr=>∃ k:Nat,i=.int .i64 k/\k<=L.length/\Zw_ w wr) (fun i _=>L.length - (intOf i).toNat)
   case atStart=>exact⟨0,rfl,by omega,Below.refl _ _⟩
   case round=>
    obtain⟨k,rfl,hk,hb⟩:=hrel
    by_cases hlt:k < L.length
    . have hck:wr.cell? ⟨b,off+k,none⟩=some (.string L[k]):=by rw [hb.cell (p:=⟨b,off+k,none⟩) hbw];exact hc k hlt
      have hck':wr.cell? ⟨b',off'+k,none⟩=some (.string L[k]):=by rw [hb.cell (p:=⟨b',off'+k,none⟩) hbw'];exact hc' k hlt
      go_wp2
      go_quiet (fail)
      go_wp2;go_roundw
      . exact⟨k+1,by go_num,by omega,below_drewN hb _⟩
      . simp [intOf];omega
    . go_wp2
      go_ret;exact⟨rfl,hb⟩
theorem Tryz.info9:(prog.info? 9).map (fun i=>(i.zero,i.size,i.bytes))=some (some (.string ⟨#[]⟩),1,16):=by kernel_rfl
def ZrN (L:List Zy_) (k i:Nat):Value:=if i < k then .string (L.getD i ⟨#[]⟩) else .string ⟨#[]⟩
def Zb7 (wr:World) (B:Nat) (L:List Zy_) (k:Nat):Prop:=wr.rowIs B 9 L.length (ZrN L k)
theorem Zb7.step {L:List Zy_} (h:Zb7 wr B L k) (hk:k < L.length):Zb7 (wr.setCell ⟨B,k,none⟩ (.string L[k])) B L (k+1):=by
 unfold Zb7 at*;refine (h.set k (.string L[k])).congr fun i hi=>?_
 unfold ZrN
 by_cases e:i=k
 . subst e;simp [hk]
 . by_cases e2:i < k
   . simp [e,e2,Nat.lt_succ_of_lt e2]
   . have:¬ i < k+1:=by omega
     simp [e,e2,this]
theorem Zb7.old {L:List Zy_} (h:Zb7 wr B L k) (hk:k < L.length):∃ v,wr.cell? ⟨B,k,none⟩=some v:=⟨_,World.rowIs.cell h hk⟩
theorem Zb7.frozen {L:List Zy_} (h:Zb7 wr B L k) (i:Nat):wr.frozen? ⟨B,i,none⟩=false:=World.rowIs.frozen h i
def Zaq (lo:Nat) (w:World) (v:Value) (L:List Zy_):Prop:=
 (∃ (a:Option Addr) (cap:Nat),v=.slice a 0 cap/\L=[])\/
 ∃ (b off cap:Nat),v=.slice (some ⟨b,off,none⟩) L.length cap/\L≠[]/\L.length<=maxLen/\b < w.heap.size/\
  (∀ i (h:i < L.length),w.cell? ⟨b,off+i,none⟩=some (.string L[i]))/\(∀ s ∈ L,s.size<=maxLen)/\lo<=b
theorem Zaq.at {L:List Zy_} (h:Zaq lo w v L):Zaf w v L:=by
 rcases h with h | ⟨b,off,cap,h1,h2,h3,h4,h5,h6,_⟩
 . exact Or.inl h
 . exact Or.inr ⟨b,off,cap,h1,h2,h3,h4,h5,h6⟩
theorem Zaq.mono {lo':Nat}{L:List Zy_} (h:Zaq lo w v L) (hl:lo'<=lo):Zaq lo' w v L:=by
 rcases h with h | ⟨b,off,cap,h1,h2,h3,h4,h5,h6,h7⟩
 . exact Or.inl h
 . exact Or.inr ⟨b,off,cap,h1,h2,h3,h4,h5,h6,Nat.le_trans hl h7⟩
theorem Zaq.below {w':World}{L:List Zy_} (h:Zaq lo w v L) (hb:Zw_ w w'):Zaq lo w' v L:=by
 rcases h with h | ⟨b,off,cap,h1,h2,h3,h4,h5,h6,h7⟩
 . exact Or.inl h
 . exact Or.inr ⟨b,off,cap,h1,h2,h3,Zk_ h4 hb.size,fun i hi=>by rw [hb.cell (p:=⟨b,off+i,none⟩) h4];exact h5 i hi,h6,h7⟩
theorem Zar (w:World) (p q:Addr) (u:Value) (h:q.block≠p.block):(w.setCell p u).cell? q=w.cell? q:=
 World.cell?_of_block (w:=w) (Below.heap_setCell w p u q.block h)
theorem Zaq.setCell {L:List Zy_} (h:Zaq lo w v L) {p:Addr} (hp:p.block < lo) (u:Value):Zaq lo (w.setCell p u) v L:=by
 rcases h with h | ⟨b,off,cap,h1,h2,h3,h4,h5,h6,h7⟩
 . exact Or.inl h
 . exact Or.inr ⟨b,off,cap,h1,h2,h3,by simpa [World.setCell] using h4,fun i hi=>by rw [Zar _ _ _ _ (by show b≠p.block;omega)];exact h5 i hi,h6,h7⟩
theorem Zaq.form {L:List Zy_} (h:Zaq lo w v L):∃ a n cap,v=.slice a n cap:=by
 rcases h with ⟨a,cap,h,_⟩ | ⟨b,off,cap,h,_⟩
 . exact⟨a,_,cap,h⟩
 . exact⟨_,_,cap,h⟩
theorem Zaf.form {L:List Zy_} (h:Zaf w v L):∃ a n cap,v=.slice a n cap:=by
 rcases h with ⟨a,cap,h,_⟩ | ⟨b,off,cap,h,_⟩
 . exact⟨a,_,cap,h⟩
 . exact⟨_,_,cap,h⟩
theorem Zb7.done {L:List Zy_} (h:Zb7 wr B L k) (hk:L.length<=k) (hne:L≠[]) (hm:L.length<=maxLen) (hs:∀ s ∈ L,s.size<=maxLen):Zaq B wr (.slice (some ⟨B,0,none⟩) L.length L.length) L:=by
 refine Or.inr ⟨B,0,L.length,rfl,hne,hm,World.rowIs.lt h,fun i hi=>?_,hs,Nat.le_refl _⟩;rw [Nat.zero_add,World.rowIs.cell h hi];unfold ZrN;rw [if_pos (by omega),List.getD_eq_getElem?_getD,List.getElem?_eq_getElem hi];rfl
theorem ZgQ (v:Value) (L:List Zy_) (w:World) (hv:Zaf w v L) (hn:L.length<=1048576) :
 Calls prog 139 #[v] w fun e w'=>∃ v',e=.returned v'/\Zw_ w w'/\Zaq w.heap.size w' v' L:=by
 rcases hv with ⟨a,cap,rfl,rfl⟩ | ⟨b,off,cap,rfl,hne,hm,hbw,hc,hsz⟩
 . have hmk:∀ u:World,(Instr.makeSlice 111 (.int .i64 0) (.int .i64 0)).run prog u=.ok (.slice (some ⟨u.heap.size,0,none⟩) 0 0) (u.alloc (.cells (madeCells #[.string ⟨#[]⟩] 0) 9)):=
    fun u=>run_make_row' 111 9 (.string ⟨#[]⟩) 16 underlying111 Tryz.info9 rfl .i64 .i64 0 (by omega) (by omega) u
   go_enter func139,ntmps139;go_wp2
   go_loop [4] (fun i=>i=.int .i64 0) (fun _=>0)
   case atStart=>rfl
   case round=>
    subst hrel;go_wp2;go_ret;exact⟨_,rfl,Zb_.alloc Zl_ _,Or.inl ⟨_,_,rfl,rfl⟩⟩
 . have HM:Hd (L.length<=maxLen):=hm
   unfold maxLen at hm
   have hmk:∀ u:World,(Instr.makeSlice 111 (.int .i64 (L.length:Int)) (.int .i64 (L.length:Int))).run prog u=.ok (.slice (some ⟨u.heap.size,0,none⟩) L.length L.length) (u.alloc (.cells (madeCells #[.string ⟨#[]⟩] L.length) 9)):=
    fun u=>run_make_row' 111 9 (.string ⟨#[]⟩) 16 underlying111 Tryz.info9 rfl .i64 .i64 L.length (by omega) (by omega) u
   go_enter func139,ntmps139;go_wp2;clear hmk
   go_loopw [4] (fun i wr=>∃ k:Nat,i=.int .i64 k/\k<=L.length/\Zw_ w wr/\Zb7 wr w.heap.size L k) (fun i _=>L.length - (intOf i).toNat)
   case atStart=>exact⟨0,rfl,by omega,Zb_.alloc Zl_ _,World.rowIs_made w (.string ⟨#[]⟩) L.length 9⟩
   case round=>
    obtain⟨k,rfl,hk,hb,hf⟩:=hrel
    by_cases hlt:k < L.length
    . have hck:wr.cell? ⟨b,off+k,none⟩=some (.string L[k]):=by rw [hb.cell (p:=⟨b,off+k,none⟩) hbw];exact hc k hlt
      obtain⟨old,hold⟩:=hf.old hlt;have hfz:=hf.frozen k;go_wp2;go_roundw
      . exact⟨k+1,by go_num,by omega,hb.setCell Zl_ _,hf.step hlt⟩
      . simp [intOf];omega
    . go_wp2
      go_ret;exact⟨_,rfl,hb,hf.done (by omega) hne HM.o hsz⟩
end
section
open Go.RowKit Go.Deep
theorem Zgu {W w1:World} (hb:Below W.heap.size W w1):(∀ b o,b < W.heap.size->w1.cell? ⟨b,o,none⟩=W.cell? ⟨b,o,none⟩)/\(∀ b o,b < W.heap.size->w1.frozen? ⟨b,o,none⟩=W.frozen? ⟨b,o,none⟩):=
 ⟨fun b o h=>hb.cell (p:=⟨b,o,none⟩) h,fun b o h=>hb.frozen (p:=⟨b,o,none⟩) h⟩
theorem ZmK (nm to df we:Zy_) (kd le mo ro:Int) (mu fx:Bool) (wv:Value) (L:List Zy_) (w:World) (hv:Zaf w wv L) (hn:L.length<=1048576) :
 Calls prog 176 #[.agg #[.string nm,.int .i64 kd,.int .i64 le,.int .i64 mo,wv,.string to,.int .i64 ro,.bool mu,.bool fx,.string df,.string we]] w
  fun e w'=>∃ wv',e=.returned (.agg #[.string nm,.int .i64 kd,.int .i64 le,.int .i64 mo,wv',.string to,.int .i64 ro,.bool mu,.bool fx,.string df,.string we])/\Zw_ w w'/\Zaq w.heap.size w' wv' L:=by
 have HV:Hd (Zaf w wv L):=hv;obtain⟨a,n,cap,rfl⟩:=hv.form;clear hv;go_enter func176,ntmps176;go_wp2_with fail;refine (ZgQ _ L _ (HV.o.below ?_) hn).mono ?_
 . exact ((Zb_.alloc Zl_ _).alloc (by simp) _).alloc (by simp;omega) _
 rintro e w1 ⟨wv',rfl,hb,hs⟩;obtain⟨a',n',cap',rfl⟩:=hs.form;have HS:Hd (Zaq (w.heap.size+3) w1 (.slice a' n' cap') L):=hs.mono (by simp);clear hs;have hz:w.heap.size+2 < w1.heap.size:=by have:=hb.size;simp at this;omega
 obtain⟨hc,hf⟩:=Zgu hb;have HB:Hd (Zw_ w w1):=(((Zb_.alloc Zl_ _).alloc (by simp) _).alloc (by simp;omega) _).trans (hb.mono (by simp;omega));clear hb;go_wp2;refine bodyPost_ret (v:=.agg #[.string nm,.int .i64 kd,.int .i64 le,.int .i64 mo,.slice a' n' cap',.string to,.int .i64 ro,.bool mu,.bool fx,.string df,.string we]) (by simp [results,results176,go_sem,hc]) rfl ⟨_,rfl,?_,?_⟩
 . repeat (refine Below.setCell ?_ (by simp only [];omega) _)
   exact HB.o
 . refine Zaq.mono (lo:=w.heap.size+3) ?_ (by omega)
   repeat (refine Zaq.setCell ?_ (by simp only [];omega) _)
   exact HS.o
theorem ZmF (nm to df we:Zy_) (kd le mo ro:Int) (mu fx:Bool) (wv:Value) (L:List Zy_) (left:Int) (w:World) (hv:Zaf w wv L) (h0:0<=left) (h1:left<=1048576)
 (s1:nm.size<=maxLen) (s2:to.size<=maxLen) (s3:df.size<=maxLen) (s4:we.size<=maxLen) :
 Calls prog 164 #[.agg #[.string nm,.int .i64 kd,.int .i64 le,.int .i64 mo,wv,.string to,.int .i64 ro,.bool mu,.bool fx,.string df,.string we],.int .i64 left] w
  fun e w'=>∃ r:Int,e=.returned (.int .i64 r)/\Zw_ w w'/\Ztz L.length left r:=by
 have HV:Hd (Zaf w wv L):=hv;obtain⟨a,n,cap,rfl⟩:=hv.form;clear hv;unfold maxLen at s1 s2 s3 s4;have HW:∀ o,Hd (Zw_ w (w.alloc o)):=fun o=>Zb_.alloc Zl_ _
 by_cases c1:(nm.size:Int)<=left
 . go_enter func164,ntmps164
   go_wp2_with fail;refine (ZgM _ L _ _ (by omega) (by omega) (HV.o.below (HW _).o)).mono ?_;rintro e w1 ⟨r,rfl,rfl,hr0,hr1,hr2⟩;go_wp2
   all_goals go_ret
   all_goals refine⟨_,rfl,(HW _).o,by omega,by omega,fun _=>?_⟩
   all_goals have:=hr2 (by omega)
   all_goals omega
 . go_enter func164,ntmps164
   go_wp2;go_ret;exact⟨-1,rfl,(HW _).o,by omega,by omega,fun h=>by omega⟩
theorem ZkC (nm to df we:Zy_) (kd le mo ro:Int) (mu fx:Bool) (wv wv':Value) (L:List Zy_) (w:World) (hv:Zaf w wv L) (hv':Zaf w wv' L) :
 Calls prog 191 #[.agg #[.string nm,.int .i64 kd,.int .i64 le,.int .i64 mo,wv,.string to,.int .i64 ro,.bool mu,.bool fx,.string df,.string we],
  .agg #[.string nm,.int .i64 kd,.int .i64 le,.int .i64 mo,wv',.string to,.int .i64 ro,.bool mu,.bool fx,.string df,.string we]] w
  fun e w'=>e=.returned (.bool true)/\Zw_ w w':=by
 have HV:=Zab hv;have HV':=Zab hv';obtain⟨a,n,cap,rfl⟩:=hv.form;obtain⟨a',n',cap',rfl⟩:=hv'.form;clear hv hv';have HW:∀ o o',Hd (Zw_ w ((w.alloc o).alloc o')):=fun o o'=>(Zb_.alloc Zl_ _).alloc (by simp) _
 go_enter func191,ntmps191;go_wp2_with fail;refine (ZfF _ _ L _ (HV.o.below (HW _ _).o) (HV'.o.below (HW _ _).o)).mono ?_;rintro e w1 ⟨rfl,hb⟩;have hz:w.heap.size+1 < w1.heap.size:=by have:=hb.size;simp at this;omega
 have HB:Hd (Zw_ w w1):=(HW _ _).o.trans (hb.mono (by simp;omega));obtain⟨hc,hf⟩:=Zgu hb;clear hb;go_wp2;go_ret;exact⟨rfl,HB.o⟩
end
open Go.RowKit Go.Deep
def ZaM (kd le mo:Int) (L:List Zy_) (s:Zy_):Bool:=
 if kd=1 then ZeP s&&inB le mo (ZpR s) else if kd=2 then decide (0 < s.size)&&Ze8 L s else if kd=3 then Zgg le mo s else if kd=4 then Zap s else false
theorem ZsM {le mo:Int}{L:List Zy_}{s:Zy_}:ZaM 1 le mo L s=(ZeP s&&inB le mo (ZpR s)):=by simp [ZaM]
theorem ZsN {le mo:Int}{L:List Zy_}{s:Zy_}:ZaM 2 le mo L s=(decide (0 < s.size)&&Ze8 L s):=by simp [ZaM]
theorem ZsO {le mo:Int}{L:List Zy_}{s:Zy_}:ZaM 3 le mo L s=Zgg le mo s:=by simp [ZaM]
theorem ZsP {le mo:Int}{L:List Zy_}{s:Zy_}:ZaM 4 le mo L s=Zap s:=by simp [ZaM]
theorem ZsL {kd le mo:Int}{L:List Zy_}{s:Zy_} (h1:kd≠1) (h2:kd≠2) (h3:kd≠3) (h4:kd≠4):ZaM kd le mo L s=false:=by simp [ZaM,h1,h2,h3,h4]
theorem ZlJ {s:Zy_} (h:ZeP s=true):0<=ZpR s:=by
 have h3:Zgn Zc6 s=true:=by unfold ZeP at h;simp at h;exact h.2
 have:=Zfy s s.size Zl_ (by rw [List.take_of_length_le (by simp)];exact h3);rw [ZdO Zl_] at this;exact this.1
theorem ZmR (c:UInt8):wrap64 (c.toNat:Int)=c.toNat:=by
 have:=c.toNat_lt;unfold wrap64
 omega
theorem Zrf {lo hi:Int}{s:Zy_} (h:Zgn ZbU s=false):Zgg lo hi s=false:=by unfold Zgg;simp [h]
section
variable (nm to df we:Zy_) (le mo ro:Int) (mu fx:Bool) (wv:Value) (L:List Zy_) (s:Zy_) (w:World)
theorem ZqZ (hv:Zaf w wv L) (hs:s.size<=maxLen) :
 Calls prog 171 #[.agg #[.string nm,.int .i64 1,.int .i64 le,.int .i64 mo,wv,.string to,.int .i64 ro,.bool mu,.bool fx,.string df,.string we],.string s] w
  fun e w'=>e=.returned (.bool (ZaM 1 le mo L s))/\Zw_ w w':=by
 obtain⟨a,n,cap,rfl⟩:=hv.form;clear hv;have HW:∀ o,Hd (Zw_ w (w.alloc o)):=fun o=>Zb_.alloc Zl_ _
 rw [ZsM];have hnum:=fun u=>Zbi s u hs
 by_cases hd:ZeP s=true
 . have h0:=ZlJ hd
   have HN:=Zab (Zj6 hd);go_enter func171,ntmps171;go_wp2_with fail;refine (hnum _).mono ?_;rintro e w1 ⟨rfl,rfl⟩;rw [HN.o];go_wp2_with fail;refine (Zao _ _ _ _).mono ?_;rintro e w1 ⟨rfl,rfl⟩;go_wp2;go_ret;exact⟨Zaa (by rw [hd];rfl),(HW _).o⟩
 . have hd':ZeP s=false:=by simpa using hd
   have HN:=Zab (Zh3 hd');go_enter func171,ntmps171;go_wp2_with fail;refine (hnum _).mono ?_;rintro e w1 ⟨rfl,rfl⟩;rw [HN.o];go_wp2;go_ret;exact⟨Zaa (by rw [hd'];rfl),(HW _).o⟩
theorem Zq0 (hv:Zaf w wv L) (_hs:s.size<=maxLen) :
 Calls prog 171 #[.agg #[.string nm,.int .i64 2,.int .i64 le,.int .i64 mo,wv,.string to,.int .i64 ro,.bool mu,.bool fx,.string df,.string we],.string s] w
  fun e w'=>e=.returned (.bool (ZaM 2 le mo L s))/\Zw_ w w':=by
 have HV:=Zab hv;obtain⟨a,n,cap,rfl⟩:=hv.form;clear hv;have HW:∀ o,Hd (Zw_ w (w.alloc o)):=fun o=>Zb_.alloc Zl_ _
 rw [ZsN]
 by_cases hb0:0 < s.size
 . have he:=Zc7 hb0
   go_enter func171,ntmps171;go_wp2_with fail;refine (ZeX _ L _ _ (HV.o.below (HW _).o)).mono ?_;rintro e w1 ⟨rfl,rfl⟩;go_wp2;go_ret;exact⟨Zaa (by simp [hb0]),(HW _).o⟩
 . have he:=ZeT (s:=s) (by omega)
   go_enter func171,ntmps171;go_wp2;go_ret;exact⟨Zaa (by simp [hb0]),(HW _).o⟩
theorem Zq1 (hv:Zaf w wv L) (hs:s.size<=maxLen) :
 Calls prog 171 #[.agg #[.string nm,.int .i64 3,.int .i64 le,.int .i64 mo,wv,.string to,.int .i64 ro,.bool mu,.bool fx,.string df,.string we],.string s] w
  fun e w'=>e=.returned (.bool (ZaM 3 le mo L s))/\Zw_ w w':=by
 obtain⟨a,n,cap,rfl⟩:=hv.form;clear hv;have HW:∀ o,Hd (Zw_ w (w.alloc o)):=fun o=>Zb_.alloc Zl_ _
 rw [ZsO];unfold maxLen at hs;go_enter func171,ntmps171;go_wp2_with fail
 go_loop [6] (fun i=>∃ k:Nat,k<=s.size/\i=.int .i64 k/\(s.data.toList.take k).all ZbU=true) (fun i=>s.size - (intOf i).toNat)
 case atStart=>exact⟨0,Nat.zero_le _,rfl,rfl⟩
 case round=>
  obtain⟨k,hk,rfl,hall⟩:=hrel;have HA:Hd ((s.data.toList.take k).all ZbU=true):=hall;clear hall
  by_cases hlt:k < s.size
  . have HS:Hd (ZbU s[k]=true↔(33<=(s[k].toNat:Int)/\(s[k].toNat:Int)<=126)):=Zhc s[k]
    go_wp2_with fail;simp only [ZmR];refine (Zao _ _ _ _).mono ?_;rintro e w1 ⟨rfl,rfl⟩
    by_cases hin:inB 33 126 (s[k].toNat:Int)=true
    . go_wp2
      go_round
      . exact⟨k+1,by omega,by go_num,Zce HA.o hlt (HS.o.2 (by unfold inB at hin;simpa using hin))⟩
      . simp [intOf];omega
    . have hin':inB 33 126 (s[k].toNat:Int)=false:=by simpa using hin
      go_wp2;go_ret;exact⟨Zaa (Zrf (Zcf hlt (Bool.eq_false_iff.2 fun h=>by have:=HS.o.1 h;unfold inB at hin;simp at hin;omega))).symm,(HW _).o⟩
  . have HE:Hd (Zgn ZbU s=true):=ZcV HA.o (by omega)
    by_cases hb0:0 < s.size
    . have he:=Zc7 hb0
      go_wp2_with fail;refine (Zao _ _ _ _).mono ?_;rintro e w1 ⟨rfl,rfl⟩;go_wp2;go_ret;exact⟨Zaa (by unfold Zgg;rw [HE.o];simp [hb0]),(HW _).o⟩
    . have he:=ZeT (s:=s) (by omega)
      go_wp2;go_ret;exact⟨Zaa (Zfe (by omega)).symm,(HW _).o⟩
theorem Zq2 (hv:Zaf w wv L) (hs:s.size<=maxLen) :
 Calls prog 171 #[.agg #[.string nm,.int .i64 4,.int .i64 le,.int .i64 mo,wv,.string to,.int .i64 ro,.bool mu,.bool fx,.string df,.string we],.string s] w
  fun e w'=>e=.returned (.bool (ZaM 4 le mo L s))/\Zw_ w w':=by
 obtain⟨a,n,cap,rfl⟩:=hv.form;clear hv;have HW:∀ o,Hd (Zw_ w (w.alloc o)):=fun o=>Zb_.alloc Zl_ _
 rw [ZsP];go_enter func171,ntmps171;go_wp2_with fail;refine (Zae _ _ hs).mono ?_;rintro e w1 ⟨rfl,rfl⟩;go_wp2;go_ret;exact⟨rfl,(HW _).o⟩
theorem ZqY (kd:Int) (hv:Zaf w wv L) (h1:kd≠1) (h2:kd≠2) (h3:kd≠3) (h4:kd≠4) :
 Calls prog 171 #[.agg #[.string nm,.int .i64 kd,.int .i64 le,.int .i64 mo,wv,.string to,.int .i64 ro,.bool mu,.bool fx,.string df,.string we],.string s] w
  fun e w'=>e=.returned (.bool (ZaM kd le mo L s))/\Zw_ w w':=by
 obtain⟨a,n,cap,rfl⟩:=hv.form;clear hv;have HW:∀ o,Hd (Zw_ w (w.alloc o)):=fun o=>Zb_.alloc Zl_ _
 rw [ZsL h1 h2 h3 h4];have b1:(kd == 1)=false:=beq_eq_false_iff_ne.2 h1;have b2:(kd == 2)=false:=beq_eq_false_iff_ne.2 h2;have b3:(kd == 3)=false:=beq_eq_false_iff_ne.2 h3;have b4:(kd == 4)=false:=beq_eq_false_iff_ne.2 h4;clear h1 h2 h3 h4;go_enter func171,ntmps171;go_wp2;go_ret;exact⟨rfl,(HW _).o⟩
end
end Go.Proofs.YtmappejlmapboaaGreat
