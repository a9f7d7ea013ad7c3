import Derived.Test.YtmappejlmapboaaGreatRows
import Derived.WalkKit
import Derived.WalkSpells
import Derived.WalkLawsBesides
import Derived.Deep.QuietTactic
import Derived.BigQuiet
set_option maxHeartbeats 16000000
set_option maxRecDepth 100000
open Go.Proofs.Tryz
namespace Go.Proofs.YtmappejlmapboaaGreat
open Go.RowKit
section
variable {n k:Nat}
theorem Zl_:n<=n:=Nat.le_refl n
theorem Zb_{n:Nat} {w:World}:Below n w w:=Below.refl n w
theorem Zz_:0<=n:=Nat.zero_le n
theorem Zk_ {a b c:Nat}(h:a<b)(k:b<=c):a<c:=Nat.lt_of_lt_of_le h k
abbrev Zy_:=ByteArray
@[simp] abbrev Zw_(w w_1:World):Prop:=Below w.heap.size w w_1
def Hd (p:Prop):Prop:=p
theorem Hd.o {p:Prop} (h:Hd p):p:=h
theorem Zab {p:Prop} (h:p):Hd p:=h
def inB (lo hi n:Int):Bool:=decide (lo<=n/\n<=hi)
theorem Zf2 (lo hi n:Int):inB lo hi n=(decide (lo<=n)&&decide (n<=hi)):=by unfold inB;simp
theorem Zaa {a b:Bool} (h:a=b):Ending.returned (.bool a)=.returned (.bool b):=by rw [h]
theorem Zao (n lo hi:Int) (w:World) :
 Calls prog 82 #[.int .i64 n,.int .i64 lo,.int .i64 hi] w fun e w'=>e=.returned (.bool (inB lo hi n))/\w'=w:=by
 rw [Zf2]
 by_cases h1:lo<=n
 . by_cases h2:n<=hi
   all_goals
    go_enter func82,ntmps82;go_wp2;go_ret;exact⟨Zaa (by simp [h1,h2]),rfl⟩
 . go_enter func82,ntmps82
   go_wp2;go_ret;refine⟨Zaa ?_,rfl⟩;rw [Bool.eq_iff_iff];simp;omega
def Zav (c:UInt8):Bool:=decide (97<=c.toNat/\c.toNat<=122\/48<=c.toNat/\c.toNat<=57\/c.toNat=45)
theorem Zcp (c:UInt8) (w:World) :
 Calls prog 175 #[.int .u8 c.toNat] w fun e w'=>e=.returned (.bool (Zav c))/\w'=w:=by
 have hc:=c.toNat_lt;generalize hb:Zav c=b;have hb':b=decide (97<=c.toNat/\c.toNat<=122\/48<=c.toNat/\c.toNat<=57\/c.toNat=45):=by rw [<- hb];rfl
 clear hb;generalize c.toNat=x at*;have H:Hd (b=decide (97<=x/\x<=122\/48<=x/\x<=57\/x=45)):=hb';clear hb';go_enter func175,ntmps175;go_wp2
 all_goals go_ret
 all_goals refine⟨Zaa ?_,rfl⟩
 all_goals rw [H.o]
 all_goals (rw [Bool.eq_iff_iff];simp;omega)
def Zfv (p:UInt8->Bool) (s:Zy_):Bool:=s.data.toList.all p
theorem Zg4 (s:Zy_) (k:Nat) (h:k < s.size):s.data.toList.take (k+1)=s.data.toList.take k ++ [s[k]]:=by
 rw [List.take_succ_eq_append_getElem (by simpa using h)];rfl
theorem Zb0 {p:UInt8->Bool}{s:Zy_} (h:k < s.size) (hp:p s[k]=false):Zfv p s=false:=by
 unfold Zfv;rw [List.all_eq_false];exact⟨s[k],by simp only [Array.mem_toList_iff];exact Array.getElem_mem h,by simp [hp]⟩
theorem ZcA {p:UInt8->Bool}{s:Zy_} (h:(s.data.toList.take k).all p=true) (hk:s.size<=k):Zfv p s=true:=by
 unfold Zfv
 rwa [List.take_of_length_le (by simpa using hk)] at h
theorem ZbZ {p:UInt8->Bool}{s:Zy_} (h:(s.data.toList.take k).all p=true) (hk:k < s.size) (hp:p s[k]=true):(s.data.toList.take (k+1)).all p=true:=by
 rw [Zg4 s k hk,List.all_append,h];simp [hp]
theorem Zjy (c:UInt8):Zav c=true↔(97<=(c.toNat:Int)/\(c.toNat:Int)<=122\/48<=(c.toNat:Int)/\(c.toNat:Int)<=57\/(c.toNat:Int)=45):=by
 unfold Zav;simp;omega
theorem Zfl (s:Zy_) (w:World) (hs:s.size<=maxLen) :
 Calls prog 236 #[.string s] w fun e w'=>e=.returned (.bool (Zfv Zav s))/\w'=w:=by
 unfold maxLen at hs;go_enter func236,ntmps236;go_wp2
 go_loop [7] (fun i=>∃ k:Nat,k<=s.size/\i=.int .i64 k/\(s.data.toList.take k).all Zav=true) (fun i=>s.size - (intOf i).toNat)
 case atStart=>exact⟨0,Nat.zero_le _,rfl,rfl⟩
 case round=>
  obtain⟨k,hk,rfl,hall⟩:=hrel;have HA:Hd ((s.data.toList.take k).all Zav=true):=hall;clear hall
  by_cases hlt:k < s.size
  . have hsn:=Zjy s[k]
    have HS:Hd (Zav s[k]=true↔(97<=(s[k].toNat:Int)/\(s[k].toNat:Int)<=122\/48<=(s[k].toNat:Int)/\(s[k].toNat:Int)<=57\/(s[k].toNat:Int)=45)):=hsn;clear hsn;go_wp2
    all_goals try simp only [bne_iff_ne,ne_eq,bne_eq_false_iff_eq] at*
    all_goals first
     | (go_round
        . exact⟨k+1,by omega,by go_num,ZbZ HA.o hlt (HS.o.2 (by omega))⟩
        . simp [intOf];omega)
     | (go_ret
        exact⟨Zaa (Zb0 hlt (Bool.eq_false_iff.2 fun h=>by have:=HS.o.1 h;omega)).symm,rfl⟩)
  . go_wp2
    go_ret;exact⟨Zaa (ZcA HA.o (by omega)).symm,rfl⟩
def Zap (s:Zy_):Bool:=inB 1 16 s.size&&Zfv Zav s
theorem Zan (s:Zy_) (w:World) (hs:s.size<=maxLen) :
 Calls prog 206 #[.string s] w fun e w'=>e=.returned (.bool (Zap s))/\w'=w:=by
 have hk:=Zfl s w hs;unfold maxLen at hs
 by_cases h1:1<=(s.size:Int)
 . by_cases h2:(s.size:Int)<=16
   . have HB:Hd (Zap s=Zfv Zav s):=by unfold Hd Zap inB;simp;intro h;omega
     go_enter func206,ntmps206;go_wp2_with (go_at_call 236;refine hk.mono ?_;rintro e w' ⟨rfl,rfl⟩);go_ret;exact⟨Zaa HB.o.symm,rfl⟩
   . have HB:Hd (Zap s=false):=by unfold Hd Zap inB;simp;intro h;omega
     go_enter func206,ntmps206;go_wp2;go_ret;exact⟨Zaa HB.o.symm,rfl⟩
 . have HB:Hd (Zap s=false):=by unfold Hd Zap inB;simp;intro h;omega
   go_enter func206,ntmps206;go_wp2;go_ret;exact⟨Zaa HB.o.symm,rfl⟩
theorem Zae (s:Zy_) (w:World) (hs:s.size<=maxLen) :
 Calls prog 132 #[.string s] w fun e w'=>e=.returned (.bool (Zap s))/\w'=w:=by
 unfold maxLen at hs
 by_cases h1:inB 1 16 s.size=true
 . have HB:Hd (Zap s=Zfv Zav s):=by unfold Hd Zap;simp [h1]
   go_enter func132,ntmps132;go_wp2_with (go_at_call 82;refine (Zao _ _ _ _).mono ?_;rintro e w' ⟨rfl,rfl⟩)
   go_loop [3] (fun i=>∃ k:Nat,k<=s.size/\i=.int .i64 k/\(s.data.toList.take k).all Zav=true) (fun i=>s.size - (intOf i).toNat)
   case atStart=>exact⟨0,Nat.zero_le _,rfl,rfl⟩
   case round=>
    obtain⟨k,hk,rfl,hall⟩:=hrel;have HA:Hd ((s.data.toList.take k).all Zav=true):=hall;clear hall
    by_cases hlt:k < s.size
    . by_cases hn:Zav s[k]=true
      . go_wp2_with (go_at_call 175;refine (Zcp _ _).mono ?_;rintro e w' ⟨rfl,rfl⟩)
        go_round
        . exact⟨k+1,by omega,by go_num,ZbZ HA.o hlt hn⟩
        . simp [intOf];omega
      . have hn':Zav s[k]=false:=by simpa using hn
        go_wp2_with (go_at_call 175;refine (Zcp _ _).mono ?_;rintro e w' ⟨rfl,rfl⟩);go_ret;exact⟨Zaa (by rw [HB.o,Zb0 hlt hn']),rfl⟩
    . go_wp2
      go_ret;exact⟨Zaa (by rw [HB.o,ZcA HA.o (by omega)]),rfl⟩
 . have h1':inB 1 16 s.size=false:=by simpa using h1
   have HB:Hd (Zap s=false):=by unfold Hd Zap;simp [h1']
   go_enter func132,ntmps132;go_wp2_with (go_at_call 82;refine (Zao _ _ _ _).mono ?_;rintro e w' ⟨rfl,rfl⟩);go_ret;exact⟨Zaa HB.o.symm,rfl⟩
end
theorem ZaB {a b:Int} (h:a=b):Ending.returned (.int .i64 a)=.returned (.int .i64 b):=by rw [h]
def ZcG (c:UInt8):Bool:=decide (48<=c.toNat/\c.toNat<=57)
theorem Zd8 (c:UInt8):ZcG c=true↔(48<=(c.toNat:Int)/\(c.toNat:Int)<=57):=by
 unfold ZcG;simp;omega
def ZcC (l:List UInt8):Int:=l.foldl (fun n c=>10*n+((c.toNat:Int) - 48)) 0
theorem Zm0 (l:List UInt8) (c:UInt8):ZcC (l ++ [c])=10*ZcC l+((c.toNat:Int) - 48):=by
 unfold ZcC;rw [List.foldl_append];rfl
theorem ZbE (s:Zy_) (k:Nat) (h:k < s.size):ZcC (s.data.toList.take (k+1))=10*ZcC (s.data.toList.take k)+((s[k].toNat:Int) - 48):=by
 rw [Zg4 s k h,Zm0]
theorem ZeL (s:Zy_) (k:Nat):k<=s.size->(s.data.toList.take k).all ZcG=true->0<=ZcC (s.data.toList.take k)/\ZcC (s.data.toList.take k) < 10 ^ k:=by
 induction k with
 | zero=>intro _ _;simp [ZcC]
 | succ k ih=>
  intro hk h;rw [Zg4 s k (by omega),List.all_append] at h;simp only [Bool.and_eq_true,List.all_cons,List.all_nil,Bool.and_true] at h;obtain⟨i1,i2⟩:=ih (by omega) h.1;have hd:=(Zd8 _).1 h.2;rw [ZbE s k (by omega),Int.pow_succ]
  omega
theorem Zci (s:Zy_) (k:Nat) (hk:k<=s.size) (h7:s.size<=7) (h:(s.data.toList.take k).all ZcG=true):0<=ZcC (s.data.toList.take k)/\ZcC (s.data.toList.take k) < 10000000:=by
 obtain⟨h0,h1⟩:=ZeL s k hk h;refine⟨h0,?_⟩;have:k=0\/k=1\/k=2\/k=3\/k=4\/k=5\/k=6\/k=7:=by omega
 generalize ZcC (s.data.toList.take k)=v at*
 rcases this with rfl | rfl | rfl | rfl | rfl | rfl | rfl | rfl <;> simp at h1 <;> omega
def Zfe (s:Zy_):Bool:=!(decide (1 < s.size)&&(s.data.toList.head? == some 48))
theorem ZnJ (s:Zy_) (h:0 < s.size):s.data.toList.head?=some s[0]:=by
 have:0 < s.data.toList.length:=by simpa using h
 rw [List.head?_eq_getElem?,List.getElem?_eq_getElem this];rfl
theorem ZhE (s:Zy_) (h:0 < s.size) (h1:1 < s.size) (hz:((s[0].toNat:Int) == 48)=true):Zfe s=false:=by
 have e:s[0]=48:=by
  have h48:(s[0].toNat:Int)=48:=by simpa using hz
  exact UInt8.toNat_inj.1 (by show s[0].toNat=48;omega)
 unfold Zfe;rw [ZnJ s h,e];simp [h1]
theorem ZgM (s:Zy_) (h:0 < s.size) (hz:((s[0].toNat:Int) == 48)=false):Zfe s=true:=by
 have e:s[0]≠48:=by
  intro e;rw [e] at hz;simp at hz
 unfold Zfe;rw [ZnJ s h];simp [e]
theorem ZhF (s:Zy_) (h:s.size<=1):Zfe s=true:=by
 unfold Zfe;simp;omega
def Zd6 (s:Zy_):Bool:=inB 1 7 s.size&&Zfe s&&Zfv ZcG s
def Zns (s:Zy_):Int:=ZcC s.data.toList
def Zk8 (s:Zy_):Int:=if Zd6 s=true then Zns s else -1
theorem Zj1 {s:Zy_} (h1:inB 1 7 s.size=true) (h2:Zfe s=true):Zd6 s=Zfv ZcG s:=by unfold Zd6;simp [h1,h2]
theorem ZgX {s:Zy_} (h:Zd6 s=false):Zk8 s= -1:=by unfold Zk8;simp [h]
theorem Ziy {s:Zy_} (h:Zd6 s=true):Zk8 s=Zns s:=by unfold Zk8;simp [h]
theorem Zdh {s:Zy_}{k:Nat} (h:s.size<=k):ZcC (s.data.toList.take k)=Zns s:=by
 unfold Zns;rw [List.take_of_length_le (by simpa using h)]
theorem Zba (s:Zy_) (w:World) (hs:s.size<=maxLen) :
 Calls prog 193 #[.string s] w fun e w'=>e=.returned (.int .i64 (Zk8 s))/\w'=w:=by
 unfold maxLen at hs
 by_cases h1:inB 1 7 s.size=true
 . have hb:1<=s.size/\s.size<=7:=by have:=h1;unfold inB at this;simp at this;omega
   obtain⟨hb1,hb2⟩:=hb;have hb0:0 < s.size:=by omega
   have fin:∀ (hh:Hd (Zfe s=true)),Hd (Zd6 s=Zfv ZcG s):=fun hh=>Zj1 h1 hh.o
   by_cases hbad:1 < s.size/\((s[0].toNat:Int) == 48)=true
   . obtain⟨hb3,hz⟩:=hbad
     have HB:Hd (Zk8 s= -1):=ZgX (by unfold Zd6;rw [ZhE s hb0 hb3 hz];simp);clear fin;go_enter func193,ntmps193;go_wp2_with (go_at_call 82;refine (Zao _ _ _ _).mono ?_;rintro e w' ⟨rfl,rfl⟩);go_ret;exact⟨ZaB HB.o.symm,rfl⟩
   . have HD:Hd (Zd6 s=Zfv ZcG s):=by
      refine fin ?_
      by_cases h2:1 < s.size
      . exact ZgM s hb0 (by simpa [h2] using hbad)
      . exact ZhF s (by omega)
     clear fin
     have hq:s.size=1\/(1 < s.size/\((s[0].toNat:Int) == 48)=false):=by
      by_cases h2:1 < s.size
      . exact Or.inr ⟨h2,by simpa [h2] using hbad⟩
      . left;omega
     clear hbad
     have hq':Hd (¬ 1 < s.size)\/(1 < s.size/\((s[0].toNat:Int) == 48)=false):=by
      rcases hq with hq | hq
      . left;unfold Hd;omega
      . exact Or.inr hq
     clear hq
     rcases hq' with hq | ⟨hq,hz⟩
     . replace hq:¬ 1 < s.size:=hq.o
       go_enter func193,ntmps193;go_wp2_with (go_at_call 82;refine (Zao _ _ _ _).mono ?_;rintro e w' ⟨rfl,rfl⟩)
       go_loop [3,4] (fun n i=>∃ k:Nat,k<=s.size/\i=.int .i64 k/\n=.int .i64 (ZcC (s.data.toList.take k))/\(s.data.toList.take k).all ZcG=true) (fun _ i=>s.size - (intOf i).toNat)
       case atStart=>exact⟨0,Nat.zero_le _,rfl,rfl,rfl⟩
       case round=>
        obtain⟨k,hk,rfl,rfl,hall⟩:=hrel;obtain⟨v0,v1⟩:=Zci s k hk hb2 hall;have HA:Hd ((s.data.toList.take k).all ZcG=true):=hall;clear hall
        by_cases hlt:k < s.size
        . have HV:Hd (ZcC (s.data.toList.take (k+1))=10*ZcC (s.data.toList.take k)+((s[k].toNat:Int) - 48)):=ZbE s k hlt
          have HS:Hd (ZcG s[k]=true↔(48<=(s[k].toNat:Int)/\(s[k].toNat:Int)<=57)):=Zd8 s[k];go_wp2
          all_goals first
           | (go_round
              . exact⟨k+1,by omega,by go_num,by rw [HV.o];go_num,ZbZ HA.o hlt (HS.o.2 (by omega))⟩
              . simp [intOf];omega)
           | (go_ret
              exact⟨ZaB (ZgX (by rw [HD.o];exact Zb0 hlt (Bool.eq_false_iff.2 fun h=>by have:=HS.o.1 h;omega))).symm,rfl⟩)
        . go_wp2
          go_ret;exact⟨ZaB (by rw [Ziy (by rw [HD.o];exact ZcA HA.o (by omega)),<- Zdh (k:=k) (by omega)]),rfl⟩
     . go_enter func193,ntmps193
       go_wp2_with (go_at_call 82;refine (Zao _ _ _ _).mono ?_;rintro e w' ⟨rfl,rfl⟩)
       go_loop [3,4] (fun n i=>∃ k:Nat,k<=s.size/\i=.int .i64 k/\n=.int .i64 (ZcC (s.data.toList.take k))/\(s.data.toList.take k).all ZcG=true) (fun _ i=>s.size - (intOf i).toNat)
       case atStart=>exact⟨0,Nat.zero_le _,rfl,rfl,rfl⟩
       case round=>
        obtain⟨k,hk,rfl,rfl,hall⟩:=hrel;obtain⟨v0,v1⟩:=Zci s k hk hb2 hall;have HA:Hd ((s.data.toList.take k).all ZcG=true):=hall;clear hall
        by_cases hlt:k < s.size
        . have HV:Hd (ZcC (s.data.toList.take (k+1))=10*ZcC (s.data.toList.take k)+((s[k].toNat:Int) - 48)):=ZbE s k hlt
          have HS:Hd (ZcG s[k]=true↔(48<=(s[k].toNat:Int)/\(s[k].toNat:Int)<=57)):=Zd8 s[k];go_wp2
          all_goals first
           | (go_round
              . exact⟨k+1,by omega,by go_num,by rw [HV.o];go_num,ZbZ HA.o hlt (HS.o.2 (by omega))⟩
              . simp [intOf];omega)
           | (go_ret
              exact⟨ZaB (ZgX (by rw [HD.o];exact Zb0 hlt (Bool.eq_false_iff.2 fun h=>by have:=HS.o.1 h;omega))).symm,rfl⟩)
        . go_wp2
          go_ret;exact⟨ZaB (by rw [Ziy (by rw [HD.o];exact ZcA HA.o (by omega)),<- Zdh (k:=k) (by omega)]),rfl⟩
 . have h1':inB 1 7 s.size=false:=by simpa using h1
   have HB:Hd (Zk8 s= -1):=ZgX (by unfold Zd6;simp [h1']);go_enter func193,ntmps193;go_wp2_with (go_at_call 82;refine (Zao _ _ _ _).mono ?_;rintro e w' ⟨rfl,rfl⟩);go_ret;exact⟨ZaB HB.o.symm,rfl⟩
section
variable {lo hi:Int}
theorem Zd9 {s:Zy_} (h:s.size=0):s.toList.isEmpty=true:=by
 rw [ByteArray.toList_eq,List.isEmpty_iff_length_eq_zero];simpa using h
theorem ZcH {s:Zy_} (h:0 < s.size):s.toList.isEmpty=false:=by
 rw [ByteArray.toList_eq,List.isEmpty_eq_false_iff_exists_mem];exact⟨s[0],by simp only [Array.mem_toList_iff];exact Array.getElem_mem h⟩
def Zid (s:Zy_):Int:=if Zd6 s=true then Zns s else 0
theorem ZgG {s:Zy_} (h:Zd6 s=false):Zid s=0:=by unfold Zid;simp [h]
theorem Zif {s:Zy_} (h:Zd6 s=true):Zid s=Zns s:=by unfold Zid;simp [h]
theorem ZeT {a c:Int}{b d:Bool} (h:a=c) (h':b=d):Ending.returned (.tuple #[.int .i64 a,.bool b])=.returned (.tuple #[.int .i64 c,.bool d]):=by rw [h,h']
theorem ZcR (s:Zy_) (w:World) (hs:s.size<=maxLen) :
 Calls prog 229 #[.string s] w fun e w'=>e=.returned (.tuple #[.int .i64 (Zid s),.bool (Zd6 s)])/\w'=w:=by
 unfold maxLen at hs
 by_cases hb0:0 < s.size
 . have he:=ZcH hb0
   by_cases hb2:s.size<=7
   . have h1:Hd (inB 1 7 s.size=true):=by unfold Hd inB;simp;omega
     by_cases hz:((s[0].toNat:Int) == 48)=true
     . by_cases hb3:1 < s.size
       . have HB:Hd (Zd6 s=false):=by unfold Hd Zd6;rw [ZhE s hb0 hb3 hz];simp
         go_enter func229,ntmps229;go_wp2
         go_ret2
         exact⟨ZeT (ZgG HB.o).symm HB.o.symm,rfl⟩
       . have HD:Hd (Zd6 s=Zfv ZcG s):=Zj1 h1.o (ZhF s (by omega))
         clear h1;go_enter func229,ntmps229;go_wp2
         go_loop [4,25] (fun n i=>∃ k:Nat,k<=s.size/\i=.int .i64 k/\n=.int .i64 (ZcC (s.data.toList.take k))/\(s.data.toList.take k).all ZcG=true) (fun _ i=>s.size - (intOf i).toNat)
         case atStart=>exact⟨0,Nat.zero_le _,rfl,rfl,rfl⟩
         case round=>
          obtain⟨k,hk,rfl,rfl,hall⟩:=hrel;obtain⟨v0,v1⟩:=Zci s k hk hb2 hall;have HA:Hd ((s.data.toList.take k).all ZcG=true):=hall;clear hall
          by_cases hlt:k < s.size
          . have HV:Hd (ZcC (s.data.toList.take (k+1))=10*ZcC (s.data.toList.take k)+((s[k].toNat:Int) - 48)):=ZbE s k hlt
            have HS:Hd (ZcG s[k]=true↔(48<=(s[k].toNat:Int)/\(s[k].toNat:Int)<=57)):=Zd8 s[k];go_wp2
            all_goals first
             | (go_round
                . exact⟨k+1,by omega,by go_num,by rw [HV.o],ZbZ HA.o hlt (HS.o.2 (by omega))⟩
                . simp [intOf];omega)
             | (go_ret2
                have HN:Zd6 s=false:=by rw [HD.o];exact Zb0 hlt (Bool.eq_false_iff.2 fun h=>by have:=HS.o.1 h;omega)
                exact⟨ZeT (ZgG HN).symm HN.symm,rfl⟩)
          . go_wp2
            go_ret2
            have HN:Zd6 s=true:=by rw [HD.o];exact ZcA HA.o (by omega)
            exact⟨ZeT (by rw [Zif HN,<- Zdh (k:=k) (by omega)]) HN.symm,rfl⟩
     . have hz':((s[0].toNat:Int) == 48)=false:=by simpa using hz
       have HD:Hd (Zd6 s=Zfv ZcG s):=Zj1 h1.o (ZgM s hb0 hz');clear h1 hz;go_enter func229,ntmps229;go_wp2
       go_loop [4,25] (fun n i=>∃ k:Nat,k<=s.size/\i=.int .i64 k/\n=.int .i64 (ZcC (s.data.toList.take k))/\(s.data.toList.take k).all ZcG=true) (fun _ i=>s.size - (intOf i).toNat)
       case atStart=>exact⟨0,Nat.zero_le _,rfl,rfl,rfl⟩
       case round=>
        obtain⟨k,hk,rfl,rfl,hall⟩:=hrel;obtain⟨v0,v1⟩:=Zci s k hk hb2 hall;have HA:Hd ((s.data.toList.take k).all ZcG=true):=hall;clear hall
        by_cases hlt:k < s.size
        . have HV:Hd (ZcC (s.data.toList.take (k+1))=10*ZcC (s.data.toList.take k)+((s[k].toNat:Int) - 48)):=ZbE s k hlt
          have HS:Hd (ZcG s[k]=true↔(48<=(s[k].toNat:Int)/\(s[k].toNat:Int)<=57)):=Zd8 s[k];go_wp2
          all_goals first
           | (go_round
              . exact⟨k+1,by omega,by go_num,by rw [HV.o],ZbZ HA.o hlt (HS.o.2 (by omega))⟩
              . simp [intOf];omega)
           | (go_ret2
              have HN:Zd6 s=false:=by rw [HD.o];exact Zb0 hlt (Bool.eq_false_iff.2 fun h=>by have:=HS.o.1 h;omega)
              exact⟨ZeT (ZgG HN).symm HN.symm,rfl⟩)
        . go_wp2
          go_ret2
          have HN:Zd6 s=true:=by rw [HD.o];exact ZcA HA.o (by omega)
          exact⟨ZeT (by rw [Zif HN,<- Zdh (k:=k) (by omega)]) HN.symm,rfl⟩
   . have HB:Hd (Zd6 s=false):=by unfold Hd Zd6 inB;simp;intro h;omega
     go_enter func229,ntmps229;go_wp2
     go_ret2
     exact⟨ZeT (ZgG HB.o).symm HB.o.symm,rfl⟩
 . have he:=Zd9 (s:=s) (by omega)
   have HB:Hd (Zd6 s=false):=by unfold Hd Zd6 inB;simp;intro h;omega
   go_enter func229,ntmps229;go_wp2
   go_ret2
   exact⟨ZeT (ZgG HB.o).symm HB.o.symm,rfl⟩
def ZbH (c:UInt8):Bool:=decide (33<=c.toNat/\c.toNat<=126)
theorem Zga (c:UInt8):ZbH c=true↔(33<=(c.toNat:Int)/\(c.toNat:Int)<=126):=by
 unfold ZbH;simp;omega
def Zfr (lo hi:Int) (s:Zy_):Bool:=decide (0 < s.size)&&inB lo hi s.size&&Zfv ZbH s
theorem Zet {s:Zy_} (h:¬ (0 < s.size/\lo<=s.size/\(s.size:Int)<=hi)):Zfr lo hi s=false:=by
 unfold Zfr inB;rw [Bool.eq_false_iff];simp;intro a b c;exact absurd ⟨a,b,c⟩ h
theorem ZoA {s:Zy_} (h0:0 < s.size) (h1:lo<=s.size) (h2:(s.size:Int)<=hi):Zfr lo hi s=Zfv ZbH s:=by
 unfold Zfr inB;simp [h0,h1,h2]
theorem Zgb (lo hi:Int) (s:Zy_) (w:World) (hs:s.size<=maxLen) :
 Calls prog 321 #[.agg #[.int .i64 lo,.int .i64 hi],.string s] w fun e w'=>e=.returned (.bool (Zfr lo hi s))/\Zw_ w w':=by
 unfold maxLen at hs
 by_cases hb0:0 < s.size
 . have he:=ZcH hb0
   by_cases h1:lo<=(s.size:Int)
   . by_cases h2:(s.size:Int)<=hi
     . have HD:Hd (Zfr lo hi s=Zfv ZbH s):=ZoA hb0 h1 h2
       go_enter func321,ntmps321;go_wp2
       go_loop [24] (fun i=>∃ k:Nat,k<=s.size/\i=.int .i64 k/\(s.data.toList.take k).all ZbH=true) (fun i=>s.size - (intOf i).toNat)
       case atStart=>exact⟨0,Nat.zero_le _,rfl,rfl⟩
       case round=>
        obtain⟨k,hk,rfl,hall⟩:=hrel;have HA:Hd ((s.data.toList.take k).all ZbH=true):=hall;clear hall
        by_cases hlt:k < s.size
        . have HS:Hd (ZbH s[k]=true↔(33<=(s[k].toNat:Int)/\(s[k].toNat:Int)<=126)):=Zga s[k]
          go_wp2
          all_goals first
           | (go_round
              . exact⟨k+1,by omega,by go_num,ZbZ HA.o hlt (HS.o.2 (by omega))⟩
              . simp [intOf];omega)
           | (go_ret
              exact⟨Zaa (by rw [HD.o];exact (Zb0 hlt (Bool.eq_false_iff.2 fun h=>by have:=HS.o.1 h;omega)).symm),Zb_.alloc Zl_ _⟩)
        . go_wp2
          go_ret;exact⟨Zaa (by rw [HD.o];exact (ZcA HA.o (by omega)).symm),Zb_.alloc Zl_ _⟩
     . have HB:Hd (Zfr lo hi s=false):=Zet (by omega)
       go_enter func321,ntmps321;go_wp2;go_ret;exact⟨Zaa HB.o.symm,Zb_.alloc Zl_ _⟩
   . have HB:Hd (Zfr lo hi s=false):=Zet (by omega)
     go_enter func321,ntmps321;go_wp2;go_ret;exact⟨Zaa HB.o.symm,Zb_.alloc Zl_ _⟩
 . have he:=Zd9 (s:=s) (by omega)
   have HB:Hd (Zfr lo hi s=false):=Zet (by omega);go_enter func321,ntmps321;go_wp2;go_ret;exact⟨Zaa HB.o.symm,Zb_.alloc Zl_ _⟩
end
variable {k:Nat}
def Zaf (w:World) (v:Value) (L:List Zy_):Prop:=
 (∃ (a:Option Addr) (cap:Nat),v=.slice a 0 cap/\L=[])\/
 ∃ (b off cap:Nat),v=.slice (some ⟨b,off,none⟩) L.length cap/\L≠[]/\L.length<=maxLen/\b < w.heap.size/\
  (∀ i (h:i < L.length),w.cell? ⟨b,off+i,none⟩=some (.string L[i]))/\∀ s ∈ L,s.size<=maxLen
theorem Zaf.below {w w':World}{v:Value}{L:List Zy_} (h:Zaf w v L) (hb:Zw_ w w'):Zaf w' v L:=by
 rcases h with h | ⟨b,off,cap,h1,h2,h3,h4,h5,h6⟩
 . exact Or.inl h
 . exact Or.inr ⟨b,off,cap,h1,h2,h3,Zk_ h4 hb.size,fun i hi=>by rw [hb.cell (p:=⟨b,off+i,none⟩) h4];exact h5 i hi,h6⟩
def Zro (n:Nat) (left r:Int):Prop:= -1<=r/\r<=left/\(0<=r->(n:Int)<=left)
theorem ZfO (v:Value) (L:List Zy_) (left:Int) (w:World) (h0:0<=left) (h1:left<=1048576) (hv:Zaf w v L) :
 Calls prog 122 #[v,.int .i64 left] w fun e w'=>∃ r:Int,e=.returned (.int .i64 r)/\w'=w/\Zro L.length left r:=by
 rcases hv with ⟨a,cap,rfl,rfl⟩ | ⟨b,off,cap,rfl,hne,hm,hbw,hc,hsz⟩
 . go_enter func122,ntmps122
   go_wp2
   go_loop [1,5] (fun l i=>∃ r:Int,l=.int .i64 r/\0<=r/\r<=left/\i=.int .i64 0) (fun _ _=>0)
   case atStart=>exact⟨_,rfl,by omega,by omega,rfl⟩
   case round=>
    obtain⟨r,rfl,hr0,hr1,rfl⟩:=hrel;go_wp2;go_ret;exact⟨r,rfl,rfl,by omega,by omega,fun _=>by simp;omega⟩
 . unfold maxLen at hm
   by_cases hle:(L.length:Int)<=left
   . go_enter func122,ntmps122
     go_wp2
     go_loop [1,5] (fun l i=>∃ (r:Int) (k:Nat),l=.int .i64 r/\0<=r/\r<=left/\i=.int .i64 k/\k<=L.length) (fun _ i=>L.length - (intOf i).toNat)
     case atStart=>exact⟨_,0,rfl,by omega,by omega,rfl,by omega⟩
     case round=>
      obtain⟨r,k,rfl,hr0,hr1,rfl,hk⟩:=hrel
      by_cases hlt:k < L.length
      . have hck:=hc k hlt
        have hsk:=hsz L[k] (List.getElem_mem hlt);unfold maxLen at hsk;go_wp2
        all_goals first
         | (go_round
            . exact⟨_,k+1,rfl,by omega,by omega,by go_num,by omega⟩
            . simp [intOf];omega)
         | (go_ret
            exact⟨-1,rfl,rfl,by omega,by omega,fun h=>by omega⟩)
      . go_wp2
        go_ret;exact⟨r,rfl,rfl,by omega,by omega,fun _=>hle⟩
   . go_enter func122,ntmps122
     go_wp2;go_ret;exact⟨-1,rfl,rfl,by omega,by omega,fun h=>by omega⟩
def Zen (L:List Zy_) (s:Zy_):Bool:=L.any fun x=>x.toList == s.toList
theorem Zk2 {L:List Zy_}{s:Zy_} (h:k < L.length) (hp:(L[k].toList == s.toList)=true):Zen L s=true:=by
 unfold Zen;rw [List.any_eq_true];exact⟨L[k],List.getElem_mem h,hp⟩
theorem Zk1 {L:List Zy_}{s:Zy_} (h:Zen (L.take k) s=false) (hk:k < L.length) (hp:(L[k].toList == s.toList)=false):Zen (L.take (k+1)) s=false:=by
 unfold Zen at*;rw [List.take_succ_eq_append_getElem hk,List.any_append,h];simp [hp]
theorem ZnI {L:List Zy_}{s:Zy_} (h:Zen (L.take k) s=false) (hk:L.length<=k):Zen L s=false:=by
 rwa [List.take_of_length_le hk] at h
theorem Zec (v:Value) (L:List Zy_) (s:Zy_) (w:World) (hv:Zaf w v L) :
 Calls prog 201 #[v,.string s] w fun e w'=>e=.returned (.bool (Zen L s))/\w'=w:=by
 rcases hv with ⟨a,cap,rfl,rfl⟩ | ⟨b,off,cap,rfl,hne,hm,hbw,hc,hsz⟩
 . go_enter func201,ntmps201
   go_wp2
   go_loop [5] (fun i=>i=.int .i64 0) (fun _=>0)
   case atStart=>rfl
   case round=>
    subst hrel;go_wp2;go_ret;exact⟨rfl,rfl⟩
 . unfold maxLen at hm
   go_enter func201,ntmps201;go_wp2
   go_loop [5] (fun i=>∃ k:Nat,i=.int .i64 k/\k<=L.length/\Zen (L.take k) s=false) (fun i=>L.length - (intOf i).toNat)
   case atStart=>exact⟨0,rfl,by omega,rfl⟩
   case round=>
    obtain⟨k,rfl,hk,hh⟩:=hrel;have HH:Hd (Zen (L.take k) s=false):=hh;clear hh
    by_cases hlt:k < L.length
    . have hck:=hc k hlt
      by_cases he:(L[k].toList == s.toList)=true
      . go_wp2
        go_ret;exact⟨Zaa (Zk2 hlt he).symm,rfl⟩
      . have he':(L[k].toList == s.toList)=false:=by simpa using he
        clear he;go_wp2
        go_round
        . exact⟨k+1,by go_num,by omega,Zk1 HH.o hlt he'⟩
        . simp [intOf];omega
    . go_wp2
      go_ret;exact⟨Zaa (ZnI HH.o (by omega)).symm,rfl⟩
theorem ZnK (v:Value) (L:List Zy_) (s:Zy_) (w:World) (hv:Zaf w v L) :
 Calls prog 296 #[v,.string s] w fun e w'=>∃ r:Int,e=.returned (.int .i64 r)/\w'=w/\decide (0<=r)=Zen L s:=by
 rcases hv with ⟨a,cap,rfl,rfl⟩ | ⟨b,off,cap,rfl,hne,hm,hbw,hc,hsz⟩
 . go_enter func296,ntmps296
   go_wp2
   go_loop [8] (fun i=>i=.int .i64 0) (fun _=>0)
   case atStart=>rfl
   case round=>
    subst hrel;go_wp2;go_ret;exact⟨-1,rfl,rfl,rfl⟩
 . unfold maxLen at hm
   go_enter func296,ntmps296;go_wp2
   go_loop [8] (fun i=>∃ k:Nat,i=.int .i64 k/\k<=L.length/\Zen (L.take k) s=false) (fun i=>L.length - (intOf i).toNat)
   case atStart=>exact⟨0,rfl,by omega,rfl⟩
   case round=>
    obtain⟨k,rfl,hk,hh⟩:=hrel;have HH:Hd (Zen (L.take k) s=false):=hh;clear hh
    by_cases hlt:k < L.length
    . have hck:=hc k hlt
      by_cases he:(s.toList == L[k].toList)=true
      . go_wp2
        go_ret;exact⟨k,rfl,rfl,by rw [Zk2 hlt (by rw [Bool.beq_comm];exact he)];simp⟩
      . have he':(s.toList == L[k].toList)=false:=by simpa using he
        clear he;go_wp2
        go_round
        . exact⟨k+1,by go_num,by omega,Zk1 HH.o hlt (by rw [Bool.beq_comm];exact he')⟩
        . simp [intOf];omega
    . go_wp2
      go_ret;exact⟨-1,rfl,rfl,by rw [ZnI HH.o (by omega)];rfl⟩
theorem Zd2 (v:Value) (L:List Zy_) (s:Zy_) (w:World) (hv:Zaf w v L) :
 Calls prog 285 #[v,.string s] w fun e w'=>e=.returned (.bool (Zen L s))/\w'=w:=by
 go_enter func285,ntmps285;go_wp2_with fail;refine (ZnK v L s _ hv).mono ?_;rintro e w1 ⟨r,rfl,rfl,hr⟩;have HR:Hd (decide (0<=r)=Zen L s):=hr;clear hr;go_wp2;go_ret;exact⟨Zaa HR.o,rfl⟩
end Go.Proofs.YtmappejlmapboaaGreat
