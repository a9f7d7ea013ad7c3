import Derived.Test.YtmappejlmapboaaGreatRows
import Derived.WalkKit
import Derived.WalkSpells
import Derived.WalkLawsBesides
import Derived.Deep.QuietTactic
import Derived.BigQuiet
set_option maxHeartbeats 16000000
set_option maxRecDepth 100000
open Go.Proofs.Tryz
namespace Go.Proofs.YtmappejlmapboaaGreat
open Go.RowKit
section
variable {n k:Nat}
theorem Zl_:n<=n:=Nat.le_refl n
theorem Zb_{n:Nat} {w:World}:Below n w w:=Below.refl n w
theorem Zz_:0<=n:=Nat.zero_le n
theorem Zk_ {a b c:Nat}(h:a<b)(k:b<=c):a<c:=Nat.lt_of_lt_of_le h k
abbrev Zy_:=ByteArray
@[simp] abbrev Zw_(w w_1:World):Prop:=Below w.heap.size w w_1
def Hd (p:Prop):Prop:=p
theorem Hd.o {p:Prop} (h:Hd p):p:=h
theorem Zab {p:Prop} (h:p):Hd p:=h
def inB (lo hi n:Int):Bool:=decide (lo<=n/\n<=hi)
theorem ZgC (lo hi n:Int):inB lo hi n=(decide (lo<=n)&&decide (n<=hi)):=by unfold inB;simp
theorem Zaa {a b:Bool} (h:a=b):Ending.returned (.bool a)=.returned (.bool b):=by rw [h]
theorem Zao (n lo hi:Int) (w:World) :
 Calls prog 82 #[.int .i64 n,.int .i64 lo,.int .i64 hi] w fun e w'=>e=.returned (.bool (inB lo hi n))/\w'=w:=by
 rw [ZgC]
 by_cases h1:lo<=n
 . by_cases h2:n<=hi
   all_goals
    go_enter func82,ntmps82;go_wp2;go_ret;exact⟨Zaa (by simp [h1,h2]),rfl⟩
 . go_enter func82,ntmps82
   go_wp2;go_ret;refine⟨Zaa ?_,rfl⟩;rw [Bool.eq_iff_iff];simp;omega
def Zaw (c:UInt8):Bool:=decide (97<=c.toNat/\c.toNat<=122\/48<=c.toNat/\c.toNat<=57\/c.toNat=45)
theorem ZcA (c:UInt8) (w:World) :
 Calls prog 175 #[.int .u8 c.toNat] w fun e w'=>e=.returned (.bool (Zaw c))/\w'=w:=by
 have hc:=c.toNat_lt;generalize hb:Zaw c=b;have hb':b=decide (97<=c.toNat/\c.toNat<=122\/48<=c.toNat/\c.toNat<=57\/c.toNat=45):=by rw [<- hb];rfl
 clear hb;generalize c.toNat=x at*;have H:Hd (b=decide (97<=x/\x<=122\/48<=x/\x<=57\/x=45)):=hb';clear hb';go_enter func175,ntmps175;go_wp2
 all_goals go_ret
 all_goals refine⟨Zaa ?_,rfl⟩
 all_goals rw [H.o]
 all_goals (rw [Bool.eq_iff_iff];simp;omega)
def Zf1 (p:UInt8->Bool) (s:Zy_):Bool:=s.data.toList.all p
theorem ZhI (s:Zy_) (k:Nat) (h:k < s.size):s.data.toList.take (k+1)=s.data.toList.take k ++ [s[k]]:=by
 rw [List.take_succ_eq_append_getElem (by simpa using h)];rfl
theorem Zcc {p:UInt8->Bool}{s:Zy_} (h:k < s.size) (hp:p s[k]=false):Zf1 p s=false:=by
 unfold Zf1;rw [List.all_eq_false];exact⟨s[k],by simp only [Array.mem_toList_iff];exact Array.getElem_mem h,by simp [hp]⟩
theorem ZcP {p:UInt8->Bool}{s:Zy_} (h:(s.data.toList.take k).all p=true) (hk:s.size<=k):Zf1 p s=true:=by
 unfold Zf1
 rwa [List.take_of_length_le (by simpa using hk)] at h
theorem Zcb {p:UInt8->Bool}{s:Zy_} (h:(s.data.toList.take k).all p=true) (hk:k < s.size) (hp:p s[k]=true):(s.data.toList.take (k+1)).all p=true:=by
 rw [ZhI s k hk,List.all_append,h];simp [hp]
theorem ZkC (c:UInt8):Zaw c=true↔(97<=(c.toNat:Int)/\(c.toNat:Int)<=122\/48<=(c.toNat:Int)/\(c.toNat:Int)<=57\/(c.toNat:Int)=45):=by
 unfold Zaw;simp;omega
theorem ZfR (s:Zy_) (w:World) (hs:s.size<=maxLen) :
 Calls prog 236 #[.string s] w fun e w'=>e=.returned (.bool (Zf1 Zaw s))/\w'=w:=by
 unfold maxLen at hs;go_enter func236,ntmps236;go_wp2
 go_loop [7] (fun i=>∃ k:Nat,k<=s.size/\i=.int .i64 k/\(s.data.toList.take k).all Zaw=true) (fun i=>s.size - (intOf i).toNat)
 case atStart=>exact⟨0,Nat.zero_le _,rfl,rfl⟩
 case round=>
  obtain⟨k,hk,rfl,hall⟩:=hrel;have HA:Hd ((s.data.toList.take k).all Zaw=true):=hall;clear hall
  by_cases hlt:k < s.size
  . have hsn:=ZkC s[k]
    have HS:Hd (Zaw s[k]=true↔(97<=(s[k].toNat:Int)/\(s[k].toNat:Int)<=122\/48<=(s[k].toNat:Int)/\(s[k].toNat:Int)<=57\/(s[k].toNat:Int)=45)):=hsn;clear hsn;go_wp2
    all_goals try simp only [bne_iff_ne,ne_eq,bne_eq_false_iff_eq] at*
    all_goals first
     | (go_round
        . exact⟨k+1,by omega,by go_num,Zcb HA.o hlt (HS.o.2 (by omega))⟩
        . simp [intOf];omega)
     | (go_ret
        exact⟨Zaa (Zcc hlt (Bool.eq_false_iff.2 fun h=>by have:=HS.o.1 h;omega)).symm,rfl⟩)
  . go_wp2
    go_ret;exact⟨Zaa (ZcP HA.o (by omega)).symm,rfl⟩
def Zap (s:Zy_):Bool:=inB 1 16 s.size&&Zf1 Zaw s
theorem Zan (s:Zy_) (w:World) (hs:s.size<=maxLen) :
 Calls prog 206 #[.string s] w fun e w'=>e=.returned (.bool (Zap s))/\w'=w:=by
 have hk:=ZfR s w hs;unfold maxLen at hs
 by_cases h1:1<=(s.size:Int)
 . by_cases h2:(s.size:Int)<=16
   . have HB:Hd (Zap s=Zf1 Zaw s):=by unfold Hd Zap inB;simp;intro h;omega
     go_enter func206,ntmps206;go_wp2_with (go_at_call 236;refine hk.mono ?_;rintro e w' ⟨rfl,rfl⟩);go_ret;exact⟨Zaa HB.o.symm,rfl⟩
   . have HB:Hd (Zap s=false):=by unfold Hd Zap inB;simp;intro h;omega
     go_enter func206,ntmps206;go_wp2;go_ret;exact⟨Zaa HB.o.symm,rfl⟩
 . have HB:Hd (Zap s=false):=by unfold Hd Zap inB;simp;intro h;omega
   go_enter func206,ntmps206;go_wp2;go_ret;exact⟨Zaa HB.o.symm,rfl⟩
theorem Zae (s:Zy_) (w:World) (hs:s.size<=maxLen) :
 Calls prog 132 #[.string s] w fun e w'=>e=.returned (.bool (Zap s))/\w'=w:=by
 unfold maxLen at hs
 by_cases h1:inB 1 16 s.size=true
 . have HB:Hd (Zap s=Zf1 Zaw s):=by unfold Hd Zap;simp [h1]
   go_enter func132,ntmps132;go_wp2_with (go_at_call 82;refine (Zao _ _ _ _).mono ?_;rintro e w' ⟨rfl,rfl⟩)
   go_loop [3] (fun i=>∃ k:Nat,k<=s.size/\i=.int .i64 k/\(s.data.toList.take k).all Zaw=true) (fun i=>s.size - (intOf i).toNat)
   case atStart=>exact⟨0,Nat.zero_le _,rfl,rfl⟩
   case round=>
    obtain⟨k,hk,rfl,hall⟩:=hrel;have HA:Hd ((s.data.toList.take k).all Zaw=true):=hall;clear hall
    by_cases hlt:k < s.size
    . by_cases hn:Zaw s[k]=true
      . go_wp2_with (go_at_call 175;refine (ZcA _ _).mono ?_;rintro e w' ⟨rfl,rfl⟩)
        go_round
        . exact⟨k+1,by omega,by go_num,Zcb HA.o hlt hn⟩
        . simp [intOf];omega
      . have hn':Zaw s[k]=false:=by simpa using hn
        go_wp2_with (go_at_call 175;refine (ZcA _ _).mono ?_;rintro e w' ⟨rfl,rfl⟩);go_ret;exact⟨Zaa (by rw [HB.o,Zcc hlt hn']),rfl⟩
    . go_wp2
      go_ret;exact⟨Zaa (by rw [HB.o,ZcP HA.o (by omega)]),rfl⟩
 . have h1':inB 1 16 s.size=false:=by simpa using h1
   have HB:Hd (Zap s=false):=by unfold Hd Zap;simp [h1']
   go_enter func132,ntmps132;go_wp2_with (go_at_call 82;refine (Zao _ _ _ _).mono ?_;rintro e w' ⟨rfl,rfl⟩);go_ret;exact⟨Zaa HB.o.symm,rfl⟩
end
theorem ZaD {a b:Int} (h:a=b):Ending.returned (.int .i64 a)=.returned (.int .i64 b):=by rw [h]
def ZcX (c:UInt8):Bool:=decide (48<=c.toNat/\c.toNat<=57)
theorem ZeC (c:UInt8):ZcX c=true↔(48<=(c.toNat:Int)/\(c.toNat:Int)<=57):=by
 unfold ZcX;simp;omega
def ZcS (l:List UInt8):Int:=l.foldl (fun n c=>10*n+((c.toNat:Int) - 48)) 0
theorem Zoj (l:List UInt8) (c:UInt8):ZcS (l ++ [c])=10*ZcS l+((c.toNat:Int) - 48):=by
 unfold ZcS;rw [List.foldl_append];rfl
theorem ZbP (s:Zy_) (k:Nat) (h:k < s.size):ZcS (s.data.toList.take (k+1))=10*ZcS (s.data.toList.take k)+((s[k].toNat:Int) - 48):=by
 rw [ZhI s k h,Zoj]
theorem Zfi (s:Zy_) (k:Nat):k<=s.size->(s.data.toList.take k).all ZcX=true->0<=ZcS (s.data.toList.take k)/\ZcS (s.data.toList.take k) < 10 ^ k:=by
 induction k with
 | zero=>intro _ _;simp [ZcS]
 | succ k ih=>
  intro hk h;rw [ZhI s k (by omega),List.all_append] at h;simp only [Bool.and_eq_true,List.all_cons,List.all_nil,Bool.and_true] at h;obtain⟨i1,i2⟩:=ih (by omega) h.1;have hd:=(ZeC _).1 h.2;rw [ZbP s k (by omega),Int.pow_succ]
  omega
theorem Zcv (s:Zy_) (k:Nat) (hk:k<=s.size) (h7:s.size<=7) (h:(s.data.toList.take k).all ZcX=true):0<=ZcS (s.data.toList.take k)/\ZcS (s.data.toList.take k) < 10000000:=by
 obtain⟨h0,h1⟩:=Zfi s k hk h;refine⟨h0,?_⟩;have:k=0\/k=1\/k=2\/k=3\/k=4\/k=5\/k=6\/k=7:=by omega
 generalize ZcS (s.data.toList.take k)=v at*
 rcases this with rfl | rfl | rfl | rfl | rfl | rfl | rfl | rfl <;> simp at h1 <;> omega
def ZfL (s:Zy_):Bool:=!(decide (1 < s.size)&&(s.data.toList.head? == some 48))
theorem Zpr (s:Zy_) (h:0 < s.size):s.data.toList.head?=some s[0]:=by
 have:0 < s.data.toList.length:=by simpa using h
 rw [List.head?_eq_getElem?,List.getElem?_eq_getElem this];rfl
theorem Zio (s:Zy_) (h:0 < s.size) (h1:1 < s.size) (hz:((s[0].toNat:Int) == 48)=true):ZfL s=false:=by
 have e:s[0]=48:=by
  have h48:(s[0].toNat:Int)=48:=by simpa using hz
  exact UInt8.toNat_inj.1 (by show s[0].toNat=48;omega)
 unfold ZfL;rw [Zpr s h,e];simp [h1]
theorem Zhn (s:Zy_) (h:0 < s.size) (hz:((s[0].toNat:Int) == 48)=false):ZfL s=true:=by
 have e:s[0]≠48:=by
  intro e;rw [e] at hz;simp at hz
 unfold ZfL;rw [Zpr s h];simp [e]
theorem Zip (s:Zy_) (h:s.size<=1):ZfL s=true:=by
 unfold ZfL;simp;omega
def ZeA (s:Zy_):Bool:=inB 1 7 s.size&&ZfL s&&Zf1 ZcX s
def ZoN (s:Zy_):Int:=ZcS s.data.toList
def Zmm (s:Zy_):Int:=if ZeA s=true then ZoN s else -1
theorem Zk7 {s:Zy_} (h1:inB 1 7 s.size=true) (h2:ZfL s=true):ZeA s=Zf1 ZcX s:=by unfold ZeA;simp [h1,h2]
theorem Zhz {s:Zy_} (h:ZeA s=false):Zmm s= -1:=by unfold Zmm;simp [h]
theorem Zjs {s:Zy_} (h:ZeA s=true):Zmm s=ZoN s:=by unfold Zmm;simp [h]
theorem ZdE {s:Zy_}{k:Nat} (h:s.size<=k):ZcS (s.data.toList.take k)=ZoN s:=by
 unfold ZoN;rw [List.take_of_length_le (by simpa using h)]
theorem Zbf (s:Zy_) (w:World) (hs:s.size<=maxLen) :
 Calls prog 193 #[.string s] w fun e w'=>e=.returned (.int .i64 (Zmm s))/\w'=w:=by
 unfold maxLen at hs
 by_cases h1:inB 1 7 s.size=true
 . have hb:1<=s.size/\s.size<=7:=by have:=h1;unfold inB at this;simp at this;omega
   obtain⟨hb1,hb2⟩:=hb;have hb0:0 < s.size:=by omega
   have fin:∀ (hh:Hd (ZfL s=true)),Hd (ZeA s=Zf1 ZcX s):=fun hh=>Zk7 h1 hh.o
   by_cases hbad:1 < s.size/\((s[0].toNat:Int) == 48)=true
   . obtain⟨hb3,hz⟩:=hbad
     have HB:Hd (Zmm s= -1):=Zhz (by unfold ZeA;rw [Zio s hb0 hb3 hz];simp);clear fin;go_enter func193,ntmps193;go_wp2_with (go_at_call 82;refine (Zao _ _ _ _).mono ?_;rintro e w' ⟨rfl,rfl⟩);go_ret;exact⟨ZaD HB.o.symm,rfl⟩
   . have HD:Hd (ZeA s=Zf1 ZcX s):=by
      refine fin ?_
      by_cases h2:1 < s.size
      . exact Zhn s hb0 (by simpa [h2] using hbad)
      . exact Zip s (by omega)
     clear fin
     have hq:s.size=1\/(1 < s.size/\((s[0].toNat:Int) == 48)=false):=by
      by_cases h2:1 < s.size
      . exact Or.inr ⟨h2,by simpa [h2] using hbad⟩
      . left;omega
     clear hbad
     have hq':Hd (¬ 1 < s.size)\/(1 < s.size/\((s[0].toNat:Int) == 48)=false):=by
      rcases hq with hq | hq
      . left;unfold Hd;omega
      . exact Or.inr hq
     clear hq
     rcases hq' with hq | ⟨hq,hz⟩
     . replace hq:¬ 1 < s.size:=hq.o
       go_enter func193,ntmps193;go_wp2_with (go_at_call 82;refine (Zao _ _ _ _).mono ?_;rintro e w' ⟨rfl,rfl⟩)
       go_loop [3,4] (fun n i=>∃ k:Nat,k<=s.size/\i=.int .i64 k/\n=.int .i64 (ZcS (s.data.toList.take k))/\(s.data.toList.take k).all ZcX=true) (fun _ i=>s.size - (intOf i).toNat)
       case atStart=>exact⟨0,Nat.zero_le _,rfl,rfl,rfl⟩
       case round=>
        obtain⟨k,hk,rfl,rfl,hall⟩:=hrel;obtain⟨v0,v1⟩:=Zcv s k hk hb2 hall;have HA:Hd ((s.data.toList.take k).all ZcX=true):=hall;clear hall
        by_cases hlt:k < s.size
        . have HV:Hd (ZcS (s.data.toList.take (k+1))=10*ZcS (s.data.toList.take k)+((s[k].toNat:Int) - 48)):=ZbP s k hlt
          have HS:Hd (ZcX s[k]=true↔(48<=(s[k].toNat:Int)/\(s[k].toNat:Int)<=57)):=ZeC s[k];go_wp2
          all_goals first
           | (go_round
              . exact⟨k+1,by omega,by go_num,by rw [HV.o];go_num,Zcb HA.o hlt (HS.o.2 (by omega))⟩
              . simp [intOf];omega)
           | (go_ret
              exact⟨ZaD (Zhz (by rw [HD.o];exact Zcc hlt (Bool.eq_false_iff.2 fun h=>by have:=HS.o.1 h;omega))).symm,rfl⟩)
        . go_wp2
          go_ret;exact⟨ZaD (by rw [Zjs (by rw [HD.o];exact ZcP HA.o (by omega)),<- ZdE (k:=k) (by omega)]),rfl⟩
     . go_enter func193,ntmps193
       go_wp2_with (go_at_call 82;refine (Zao _ _ _ _).mono ?_;rintro e w' ⟨rfl,rfl⟩)
       go_loop [3,4] (fun n i=>∃ k:Nat,k<=s.size/\i=.int .i64 k/\n=.int .i64 (ZcS (s.data.toList.take k))/\(s.data.toList.take k).all ZcX=true) (fun _ i=>s.size - (intOf i).toNat)
       case atStart=>exact⟨0,Nat.zero_le _,rfl,rfl,rfl⟩
       case round=>
        obtain⟨k,hk,rfl,rfl,hall⟩:=hrel;obtain⟨v0,v1⟩:=Zcv s k hk hb2 hall;have HA:Hd ((s.data.toList.take k).all ZcX=true):=hall;clear hall
        by_cases hlt:k < s.size
        . have HV:Hd (ZcS (s.data.toList.take (k+1))=10*ZcS (s.data.toList.take k)+((s[k].toNat:Int) - 48)):=ZbP s k hlt
          have HS:Hd (ZcX s[k]=true↔(48<=(s[k].toNat:Int)/\(s[k].toNat:Int)<=57)):=ZeC s[k];go_wp2
          all_goals first
           | (go_round
              . exact⟨k+1,by omega,by go_num,by rw [HV.o];go_num,Zcb HA.o hlt (HS.o.2 (by omega))⟩
              . simp [intOf];omega)
           | (go_ret
              exact⟨ZaD (Zhz (by rw [HD.o];exact Zcc hlt (Bool.eq_false_iff.2 fun h=>by have:=HS.o.1 h;omega))).symm,rfl⟩)
        . go_wp2
          go_ret;exact⟨ZaD (by rw [Zjs (by rw [HD.o];exact ZcP HA.o (by omega)),<- ZdE (k:=k) (by omega)]),rfl⟩
 . have h1':inB 1 7 s.size=false:=by simpa using h1
   have HB:Hd (Zmm s= -1):=Zhz (by unfold ZeA;simp [h1']);go_enter func193,ntmps193;go_wp2_with (go_at_call 82;refine (Zao _ _ _ _).mono ?_;rintro e w' ⟨rfl,rfl⟩);go_ret;exact⟨ZaD HB.o.symm,rfl⟩
section
variable {lo hi:Int}
theorem ZeD {s:Zy_} (h:s.size=0):s.toList.isEmpty=true:=by
 rw [ByteArray.toList_eq,List.isEmpty_iff_length_eq_zero];simpa using h
theorem ZcY {s:Zy_} (h:0 < s.size):s.toList.isEmpty=false:=by
 rw [ByteArray.toList_eq,List.isEmpty_eq_false_iff_exists_mem];exact⟨s[0],by simp only [Array.mem_toList_iff];exact Array.getElem_mem h⟩
def Zi5 (s:Zy_):Int:=if ZeA s=true then ZoN s else 0
theorem Zhh {s:Zy_} (h:ZeA s=false):Zi5 s=0:=by unfold Zi5;simp [h]
theorem Zi7 {s:Zy_} (h:ZeA s=true):Zi5 s=ZoN s:=by unfold Zi5;simp [h]
theorem Zfp {a c:Int}{b d:Bool} (h:a=c) (h':b=d):Ending.returned (.tuple #[.int .i64 a,.bool b])=.returned (.tuple #[.int .i64 c,.bool d]):=by rw [h,h']
theorem Zda (s:Zy_) (w:World) (hs:s.size<=maxLen) :
 Calls prog 229 #[.string s] w fun e w'=>e=.returned (.tuple #[.int .i64 (Zi5 s),.bool (ZeA s)])/\w'=w:=by
 unfold maxLen at hs
 by_cases hb0:0 < s.size
 . have he:=ZcY hb0
   by_cases hb2:s.size<=7
   . have h1:Hd (inB 1 7 s.size=true):=by unfold Hd inB;simp;omega
     by_cases hz:((s[0].toNat:Int) == 48)=true
     . by_cases hb3:1 < s.size
       . have HB:Hd (ZeA s=false):=by unfold Hd ZeA;rw [Zio s hb0 hb3 hz];simp
         go_enter func229,ntmps229;go_wp2
         go_ret2
         exact⟨Zfp (Zhh HB.o).symm HB.o.symm,rfl⟩
       . have HD:Hd (ZeA s=Zf1 ZcX s):=Zk7 h1.o (Zip s (by omega))
         clear h1;go_enter func229,ntmps229;go_wp2
         go_loop [4,25] (fun n i=>∃ k:Nat,k<=s.size/\i=.int .i64 k/\n=.int .i64 (ZcS (s.data.toList.take k))/\(s.data.toList.take k).all ZcX=true) (fun _ i=>s.size - (intOf i).toNat)
         case atStart=>exact⟨0,Nat.zero_le _,rfl,rfl,rfl⟩
         case round=>
          obtain⟨k,hk,rfl,rfl,hall⟩:=hrel;obtain⟨v0,v1⟩:=Zcv s k hk hb2 hall;have HA:Hd ((s.data.toList.take k).all ZcX=true):=hall;clear hall
          by_cases hlt:k < s.size
          . have HV:Hd (ZcS (s.data.toList.take (k+1))=10*ZcS (s.data.toList.take k)+((s[k].toNat:Int) - 48)):=ZbP s k hlt
            have HS:Hd (ZcX s[k]=true↔(48<=(s[k].toNat:Int)/\(s[k].toNat:Int)<=57)):=ZeC s[k];go_wp2
            all_goals first
             | (go_round
                . exact⟨k+1,by omega,by go_num,by rw [HV.o],Zcb HA.o hlt (HS.o.2 (by omega))⟩
                . simp [intOf];omega)
             | (go_ret2
                have HN:ZeA s=false:=by rw [HD.o];exact Zcc hlt (Bool.eq_false_iff.2 fun h=>by have:=HS.o.1 h;omega)
                exact⟨Zfp (Zhh HN).symm HN.symm,rfl⟩)
          . go_wp2
            go_ret2
            have HN:ZeA s=true:=by rw [HD.o];exact ZcP HA.o (by omega)
            exact⟨Zfp (by rw [Zi7 HN,<- ZdE (k:=k) (by omega)]) HN.symm,rfl⟩
     . have hz':((s[0].toNat:Int) == 48)=false:=by simpa using hz
       have HD:Hd (ZeA s=Zf1 ZcX s):=Zk7 h1.o (Zhn s hb0 hz');clear h1 hz;go_enter func229,ntmps229;go_wp2
       go_loop [4,25] (fun n i=>∃ k:Nat,k<=s.size/\i=.int .i64 k/\n=.int .i64 (ZcS (s.data.toList.take k))/\(s.data.toList.take k).all ZcX=true) (fun _ i=>s.size - (intOf i).toNat)
       case atStart=>exact⟨0,Nat.zero_le _,rfl,rfl,rfl⟩
       case round=>
        obtain⟨k,hk,rfl,rfl,hall⟩:=hrel;obtain⟨v0,v1⟩:=Zcv s k hk hb2 hall;have HA:Hd ((s.data.toList.take k).all ZcX=true):=hall;clear hall
        by_cases hlt:k < s.size
        . have HV:Hd (ZcS (s.data.toList.take (k+1))=10*ZcS (s.data.toList.take k)+((s[k].toNat:Int) - 48)):=ZbP s k hlt
          have HS:Hd (ZcX s[k]=true↔(48<=(s[k].toNat:Int)/\(s[k].toNat:Int)<=57)):=ZeC s[k];go_wp2
          all_goals first
           | (go_round
              . exact⟨k+1,by omega,by go_num,by rw [HV.o],Zcb HA.o hlt (HS.o.2 (by omega))⟩
              . simp [intOf];omega)
           | (go_ret2
              have HN:ZeA s=false:=by rw [HD.o];exact Zcc hlt (Bool.eq_false_iff.2 fun h=>by have:=HS.o.1 h;omega)
              exact⟨Zfp (Zhh HN).symm HN.symm,rfl⟩)
        . go_wp2
          go_ret2
          have HN:ZeA s=true:=by rw [HD.o];exact ZcP HA.o (by omega)
          exact⟨Zfp (by rw [Zi7 HN,<- ZdE (k:=k) (by omega)]) HN.symm,rfl⟩
   . have HB:Hd (ZeA s=false):=by unfold Hd ZeA inB;simp;intro h;omega
     go_enter func229,ntmps229;go_wp2
     go_ret2
     exact⟨Zfp (Zhh HB.o).symm HB.o.symm,rfl⟩
 . have he:=ZeD (s:=s) (by omega)
   have HB:Hd (ZeA s=false):=by unfold Hd ZeA inB;simp;intro h;omega
   go_enter func229,ntmps229;go_wp2
   go_ret2
   exact⟨Zfp (Zhh HB.o).symm HB.o.symm,rfl⟩
def ZbS (c:UInt8):Bool:=decide (33<=c.toNat/\c.toNat<=126)
theorem ZgL (c:UInt8):ZbS c=true↔(33<=(c.toNat:Int)/\(c.toNat:Int)<=126):=by
 unfold ZbS;simp;omega
def ZfX (lo hi:Int) (s:Zy_):Bool:=decide (0 < s.size)&&inB lo hi s.size&&Zf1 ZbS s
theorem ZeZ {s:Zy_} (h:¬ (0 < s.size/\lo<=s.size/\(s.size:Int)<=hi)):ZfX lo hi s=false:=by
 unfold ZfX inB;rw [Bool.eq_false_iff];simp;intro a b c;exact absurd ⟨a,b,c⟩ h
theorem Zqh {s:Zy_} (h0:0 < s.size) (h1:lo<=s.size) (h2:(s.size:Int)<=hi):ZfX lo hi s=Zf1 ZbS s:=by
 unfold ZfX inB;simp [h0,h1,h2]
theorem ZgM (lo hi:Int) (s:Zy_) (w:World) (hs:s.size<=maxLen) :
 Calls prog 321 #[.agg #[.int .i64 lo,.int .i64 hi],.string s] w fun e w'=>e=.returned (.bool (ZfX lo hi s))/\Zw_ w w':=by
 unfold maxLen at hs
 by_cases hb0:0 < s.size
 . have he:=ZcY hb0
   by_cases h1:lo<=(s.size:Int)
   . by_cases h2:(s.size:Int)<=hi
     . have HD:Hd (ZfX lo hi s=Zf1 ZbS s):=Zqh hb0 h1 h2
       go_enter func321,ntmps321;go_wp2
       go_loop [24] (fun i=>∃ k:Nat,k<=s.size/\i=.int .i64 k/\(s.data.toList.take k).all ZbS=true) (fun i=>s.size - (intOf i).toNat)
       case atStart=>exact⟨0,Nat.zero_le _,rfl,rfl⟩
       case round=>
        obtain⟨k,hk,rfl,hall⟩:=hrel;have HA:Hd ((s.data.toList.take k).all ZbS=true):=hall;clear hall
        by_cases hlt:k < s.size
        . have HS:Hd (ZbS s[k]=true↔(33<=(s[k].toNat:Int)/\(s[k].toNat:Int)<=126)):=ZgL s[k]
          go_wp2
          all_goals first
           | (go_round
              . exact⟨k+1,by omega,by go_num,Zcb HA.o hlt (HS.o.2 (by omega))⟩
              . simp [intOf];omega)
           | (go_ret
              exact⟨Zaa (by rw [HD.o];exact (Zcc hlt (Bool.eq_false_iff.2 fun h=>by have:=HS.o.1 h;omega)).symm),Zb_.alloc Zl_ _⟩)
        . go_wp2
          go_ret;exact⟨Zaa (by rw [HD.o];exact (ZcP HA.o (by omega)).symm),Zb_.alloc Zl_ _⟩
     . have HB:Hd (ZfX lo hi s=false):=ZeZ (by omega)
       go_enter func321,ntmps321;go_wp2;go_ret;exact⟨Zaa HB.o.symm,Zb_.alloc Zl_ _⟩
   . have HB:Hd (ZfX lo hi s=false):=ZeZ (by omega)
     go_enter func321,ntmps321;go_wp2;go_ret;exact⟨Zaa HB.o.symm,Zb_.alloc Zl_ _⟩
 . have he:=ZeD (s:=s) (by omega)
   have HB:Hd (ZfX lo hi s=false):=ZeZ (by omega);go_enter func321,ntmps321;go_wp2;go_ret;exact⟨Zaa HB.o.symm,Zb_.alloc Zl_ _⟩
end
variable {k:Nat}
def Zaf (w:World) (v:Value) (L:List Zy_):Prop:=
 (∃ (a:Option Addr) (cap:Nat),v=.slice a 0 cap/\L=[])\/
 ∃ (b off cap:Nat),v=.slice (some ⟨b,off,none⟩) L.length cap/\L≠[]/\L.length<=maxLen/\b < w.heap.size/\
  (∀ i (h:i < L.length),w.cell? ⟨b,off+i,none⟩=some (.string L[i]))/\∀ s ∈ L,s.size<=maxLen
theorem Zaf.below {w w':World}{v:Value}{L:List Zy_} (h:Zaf w v L) (hb:Zw_ w w'):Zaf w' v L:=by
 rcases h with h | ⟨b,off,cap,h1,h2,h3,h4,h5,h6⟩
 . exact Or.inl h
 . exact Or.inr ⟨b,off,cap,h1,h2,h3,Zk_ h4 hb.size,fun i hi=>by rw [hb.cell (p:=⟨b,off+i,none⟩) h4];exact h5 i hi,h6⟩
def ZsN (n:Nat) (left r:Int):Prop:= -1<=r/\r<=left/\(0<=r->(n:Int)<=left)
theorem Zgn (v:Value) (L:List Zy_) (left:Int) (w:World) (h0:0<=left) (h1:left<=1048576) (hv:Zaf w v L) :
 Calls prog 122 #[v,.int .i64 left] w fun e w'=>∃ r:Int,e=.returned (.int .i64 r)/\w'=w/\ZsN L.length left r:=by
 rcases hv with ⟨a,cap,rfl,rfl⟩ | ⟨b,off,cap,rfl,hne,hm,hbw,hc,hsz⟩
 . go_enter func122,ntmps122
   go_wp2
   go_loop [1,5] (fun l i=>∃ r:Int,l=.int .i64 r/\0<=r/\r<=left/\i=.int .i64 0) (fun _ _=>0)
   case atStart=>exact⟨_,rfl,by omega,by omega,rfl⟩
   case round=>
    obtain⟨r,rfl,hr0,hr1,rfl⟩:=hrel;go_wp2;go_ret;exact⟨r,rfl,rfl,by omega,by omega,fun _=>by simp;omega⟩
 . unfold maxLen at hm
   by_cases hle:(L.length:Int)<=left
   . go_enter func122,ntmps122
     go_wp2
     go_loop [1,5] (fun l i=>∃ (r:Int) (k:Nat),l=.int .i64 r/\0<=r/\r<=left/\i=.int .i64 k/\k<=L.length) (fun _ i=>L.length - (intOf i).toNat)
     case atStart=>exact⟨_,0,rfl,by omega,by omega,rfl,by omega⟩
     case round=>
      obtain⟨r,k,rfl,hr0,hr1,rfl,hk⟩:=hrel
      by_cases hlt:k < L.length
      . have hck:=hc k hlt
        have hsk:=hsz L[k] (List.getElem_mem hlt);unfold maxLen at hsk;go_wp2
        all_goals first
         | (go_round
            . exact⟨_,k+1,rfl,by omega,by omega,by go_num,by omega⟩
            . simp [intOf];omega)
         | (go_ret
            exact⟨-1,rfl,rfl,by omega,by omega,fun h=>by omega⟩)
      . go_wp2
        go_ret;exact⟨r,rfl,rfl,by omega,by omega,fun _=>hle⟩
   . go_enter func122,ntmps122
     go_wp2;go_ret;exact⟨-1,rfl,rfl,by omega,by omega,fun h=>by omega⟩
def ZeS (L:List Zy_) (s:Zy_):Bool:=L.any fun x=>x.toList == s.toList
theorem Zmg {L:List Zy_}{s:Zy_} (h:k < L.length) (hp:(L[k].toList == s.toList)=true):ZeS L s=true:=by
 unfold ZeS;rw [List.any_eq_true];exact⟨L[k],List.getElem_mem h,hp⟩
theorem Zmf {L:List Zy_}{s:Zy_} (h:ZeS (L.take k) s=false) (hk:k < L.length) (hp:(L[k].toList == s.toList)=false):ZeS (L.take (k+1)) s=false:=by
 unfold ZeS at*;rw [List.take_succ_eq_append_getElem hk,List.any_append,h];simp [hp]
theorem Zpq {L:List Zy_}{s:Zy_} (h:ZeS (L.take k) s=false) (hk:L.length<=k):ZeS L s=false:=by
 rwa [List.take_of_length_le hk] at h
theorem ZeH (v:Value) (L:List Zy_) (s:Zy_) (w:World) (hv:Zaf w v L) :
 Calls prog 201 #[v,.string s] w fun e w'=>e=.returned (.bool (ZeS L s))/\w'=w:=by
 rcases hv with ⟨a,cap,rfl,rfl⟩ | ⟨b,off,cap,rfl,hne,hm,hbw,hc,hsz⟩
 . go_enter func201,ntmps201
   go_wp2
   go_loop [5] (fun i=>i=.int .i64 0) (fun _=>0)
   case atStart=>rfl
   case round=>
    subst hrel;go_wp2;go_ret;exact⟨rfl,rfl⟩
 . unfold maxLen at hm
   go_enter func201,ntmps201;go_wp2
   go_loop [5] (fun i=>∃ k:Nat,i=.int .i64 k/\k<=L.length/\ZeS (L.take k) s=false) (fun i=>L.length - (intOf i).toNat)
   case atStart=>exact⟨0,rfl,by omega,rfl⟩
   case round=>
    obtain⟨k,rfl,hk,hh⟩:=hrel;have HH:Hd (ZeS (L.take k) s=false):=hh;clear hh
    by_cases hlt:k < L.length
    . have hck:=hc k hlt
      by_cases he:(L[k].toList == s.toList)=true
      . go_wp2
        go_ret;exact⟨Zaa (Zmg hlt he).symm,rfl⟩
      . have he':(L[k].toList == s.toList)=false:=by simpa using he
        clear he;go_wp2
        go_round
        . exact⟨k+1,by go_num,by omega,Zmf HH.o hlt he'⟩
        . simp [intOf];omega
    . go_wp2
      go_ret;exact⟨Zaa (Zpq HH.o (by omega)).symm,rfl⟩
theorem Zpt (v:Value) (L:List Zy_) (s:Zy_) (w:World) (hv:Zaf w v L) :
 Calls prog 296 #[v,.string s] w fun e w'=>∃ r:Int,e=.returned (.int .i64 r)/\w'=w/\decide (0<=r)=ZeS L s:=by
 rcases hv with ⟨a,cap,rfl,rfl⟩ | ⟨b,off,cap,rfl,hne,hm,hbw,hc,hsz⟩
 . go_enter func296,ntmps296
   go_wp2
   go_loop [8] (fun i=>i=.int .i64 0) (fun _=>0)
   case atStart=>rfl
   case round=>
    subst hrel;go_wp2;go_ret;exact⟨-1,rfl,rfl,rfl⟩
 . unfold maxLen at hm
   go_enter func296,ntmps296;go_wp2
   go_loop [8] (fun i=>∃ k:Nat,i=.int .i64 k/\k<=L.length/\ZeS (L.take k) s=false) (fun i=>L.length - (intOf i).toNat)
   case atStart=>exact⟨0,rfl,by omega,rfl⟩
   case round=>
    obtain⟨k,rfl,hk,hh⟩:=hrel;have HH:Hd (ZeS (L.take k) s=false):=hh;clear hh
    by_cases hlt:k < L.length
    . have hck:=hc k hlt
      by_cases he:(s.toList == L[k].toList)=true
      . go_wp2
        go_ret;exact⟨k,rfl,rfl,by rw [Zmg hlt (by rw [Bool.beq_comm];exact he)];simp⟩
      . have he':(s.toList == L[k].toList)=false:=by simpa using he
        clear he;go_wp2
        go_round
        . exact⟨k+1,by go_num,by omega,Zmf HH.o hlt (by rw [Bool.beq_comm];exact he')⟩
        . simp [intOf];omega
    . go_wp2
      go_ret;exact⟨-1,rfl,rfl,by rw [Zpq HH.o (by omega)];rfl⟩
theorem Zex (v:Value) (L:List Zy_) (s:Zy_) (w:World) (hv:Zaf w v L) :
 Calls prog 285 #[v,.string s] w fun e w'=>e=.returned (.bool (ZeS L s))/\w'=w:=by
 go_enter func285,ntmps285;go_wp2_with fail;refine (Zpt v L s _ hv).mono ?_;rintro e w1 ⟨r,rfl,rfl,hr⟩;have HR:Hd (decide (0<=r)=ZeS L s):=hr;clear hr;go_wp2;go_ret;exact⟨Zaa HR.o,rfl⟩
end Go.Proofs.YtmappejlmapboaaGreat
