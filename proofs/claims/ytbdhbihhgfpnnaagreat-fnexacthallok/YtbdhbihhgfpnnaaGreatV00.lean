import Derived.Test.YtbdhbihhgfpnnaaGreatRows
import Derived.Deep.RegionHeld3
import Derived.WalkKit
import Derived.WalkSpells
import Derived.WalkLawsBesides
import Derived.Deep.QuietTactic
import Derived.BigQuiet
import Derived.Deep.OwnRows
import Derived.WideMake
import Derived.Deep.RegionWith
set_option maxHeartbeats 16000000
set_option maxRecDepth 100000
open Go.Proofs.Tryz
namespace Go.Proofs.YtbdhbihhgfpnnaaGreat
section
open Go.RowKit
variable {n k:Nat} {P:Program}
theorem Zl_:n<=n:=Nat.le_refl n
theorem Zb_{n:Nat} {w:World}:Below n w w:=Below.refl n w
theorem Zz_:0<=n:=Nat.zero_le n
theorem Zk_ {a b c:Nat}(h:a<b)(k:b<=c):a<c:=Nat.lt_of_lt_of_le h k
abbrev Zy_:=ByteArray
@[simp] abbrev Zw_(w w_1:World):Prop:=Below w.heap.size w w_1
theorem sLs {α:Type}:(∀ (l:List α) (i:Nat) (h:i < l.toArray.size),l.toArray[i]=l[i]'(by simpa using h))/\(∀ (a:α) (l:List α) (i:Nat) (h:i+1 < (a :: l).length),(a :: l)[i+1]=l[i]'(by simpa using h))/\(∀ (a:α) (l:List α) (h:0 < (a :: l).length),(a :: l)[0]=a)/\(∀ (l:List α) (i:Nat) (a:α),l.toArray.setIfInBounds i a=(l.set i a).toArray)/\(∀ (a b:α) (l:List α),(a :: l).set 0 b=b :: l)/\(∀ (a b:α) (l:List α) (i:Nat),(a :: l).set (i+1) b=a :: l.set i b):=
 ⟨fun _ _ _=>rfl,fun _ _ _ _=>rfl,fun _ _ _=>rfl,fun _ _ _=>by simp,fun _ _ _=>rfl,fun _ _ _ _=>rfl⟩
theorem tH {ops:Array Oper}{Q:Exit->Act->World->Prop}{md:Region.Mode}{S:World->Prop} (i:Nat) (v:Value) {oi:Oper} {fuel:Nat} {listed:Array Bool} {a:Act} {w:World} (hi:ops[i]?=some oi) (hS:S w)
 (h:wpAnyH P md ops Q S fuel (listed.setIfInBounds i true) (a.put oi.dst v) w)
 (hs:Region.noSelect ops=true:=by kernel_rfl) (hf:Region.free md ops listed i=true:=by kernel_rfl) (hr:(Region.ready md ops listed).contains i=true:=by kernel_rfl)
 (hQ:∀ c a w,Q (.panic c) (a.put oi.dst v) w->Q (.panic c) a w:=by exact fun _ _ _ h=>h)
 (hy:YieldsIf P ops S oi v a:=by exact Or.inl ⟨by rfl,fun W hW=>by (repeat obtain⟨_,hW⟩:_/\_:=hW);go_simp⟩):wpAnyH P md ops Q S (fuel+1) listed a w:=
 wpAnyH_take hi hs hf hr hQ hy hS h
theorem tS {ops:Array Oper}{Q:Exit->Act->World->Prop}{md:Region.Mode}{S:World->Prop} (i:Nat) (v:Value) {oi:Oper} {fuel:Nat} {listed:Array Bool} {a:Act} {w:World} (hi:ops[i]?=some oi) (hS:S w)
 (h:wpAnyH P md ops Q S fuel (listed.setIfInBounds i true) (a.put oi.dst v) w)
 (hs:Region.noSelect ops=true:=by kernel_rfl) (hf:Region.free md ops listed i=true:=by kernel_rfl) (hr:(Region.ready md ops listed).contains i=true:=by kernel_rfl)
 (hQ:∀ c a w,Q (.panic c) (a.put oi.dst v) w->Q (.panic c) a w:=by exact fun _ _ _ h=>h)
 (hy:YieldsIf P ops S oi v a:=by exact Or.inl ⟨by rfl,fun W hW=>by obtain⟨hq,c0,c1,c2,c3,c4⟩:=hW;go_simp⟩):wpAnyH P md ops Q S (fuel+1) listed a w:=
 wpAnyH_take hi hs hf hr hQ hy hS h
theorem tN {ops:Array Oper}{Q:Exit->Act->World->Prop}{md:Region.Mode}{S:World->Prop} (i:Nat) {oi:Oper} {fuel:Nat} {listed:Array Bool} {a:Act} {w:World} (hi:ops[i]?=some oi) (hS:S w)
 (h:wpAnyH P md ops Q S fuel (listed.setIfInBounds i true) (a.put oi.dst undef) w)
 (hs:Region.noSelect ops=true:=by kernel_rfl) (hf:Region.free md ops listed i=true:=by kernel_rfl) (hr:(Region.ready md ops listed).contains i=true:=by kernel_rfl)
 (hQ:∀ c a w,Q (.panic c) (a.put oi.dst undef) w->Q (.panic c) a w:=by exact fun _ _ _ h=>h)
 (hy:YieldsIf P ops S oi undef a:=by exact Or.inr ⟨by rfl,rfl⟩):wpAnyH P md ops Q S (fuel+1) listed a w:=
 wpAnyH_take hi hs hf hr hQ hy hS h
def Hd (p:Prop):Prop:=p
theorem Hd.o {p:Prop} (h:Hd p):p:=h
theorem Zab {p:Prop} (h:p):Hd p:=h
def inB (lo hi n:Int):Bool:=decide (lo<=n/\n<=hi)
theorem Ze9 (lo hi n:Int):inB lo hi n=(decide (lo<=n)&&decide (n<=hi)):=by unfold inB;simp
theorem Zaa {a b:Bool} (h:a=b):Ending.returned (.bool a)=.returned (.bool b):=by rw [h]
theorem Zap (n lo hi:Int) (w:World) :
 Calls prog 46 #[.int .i64 n,.int .i64 lo,.int .i64 hi] w fun e w'=>e=.returned (.bool (inB lo hi n))/\w'=w:=by
 rw [Ze9]
 by_cases h1:lo<=n
 . by_cases h2:n<=hi
   all_goals
    go_enter func46,ntmps46;go_wp2;go_ret;exact⟨Zaa (by simp [h1,h2]),rfl⟩
 . go_enter func46,ntmps46
   go_wp2;go_ret;refine⟨Zaa ?_,rfl⟩;rw [Bool.eq_iff_iff];simp;omega
def Zam (c:UInt8):Bool:=decide (97<=c.toNat/\c.toNat<=122\/48<=c.toNat/\c.toNat<=57\/c.toNat=45)
theorem Zcs (c:UInt8) (w:World) :
 Calls prog 97 #[.int .u8 c.toNat] w fun e w'=>e=.returned (.bool (Zam c))/\w'=w:=by
 have hc:=c.toNat_lt;generalize hb:Zam c=b;have hb':b=decide (97<=c.toNat/\c.toNat<=122\/48<=c.toNat/\c.toNat<=57\/c.toNat=45):=by rw [<- hb];rfl
 clear hb;generalize c.toNat=x at*;have H:Hd (b=decide (97<=x/\x<=122\/48<=x/\x<=57\/x=45)):=hb';clear hb';go_enter func97,ntmps97;go_wp2
 all_goals go_ret
 all_goals refine⟨Zaa ?_,rfl⟩
 all_goals rw [H.o]
 all_goals (rw [Bool.eq_iff_iff];simp;omega)
def Zey (p:UInt8->Bool) (s:Zy_):Bool:=s.data.toList.all p
theorem Zg0 (s:Zy_) (k:Nat) (h:k < s.size):s.data.toList.take (k+1)=s.data.toList.take k ++ [s[k]]:=by
 rw [List.take_succ_eq_append_getElem (by simpa using h)];rfl
theorem ZbI {p:UInt8->Bool}{s:Zy_} (h:k < s.size) (hp:p s[k]=false):Zey p s=false:=by
 unfold Zey;rw [List.all_eq_false];exact⟨s[k],by simp only [Array.mem_toList_iff];exact Array.getElem_mem h,by simp [hp]⟩
theorem Zco {p:UInt8->Bool}{s:Zy_} (h:(s.data.toList.take k).all p=true) (hk:s.size<=k):Zey p s=true:=by
 unfold Zey
 rwa [List.take_of_length_le (by simpa using hk)] at h
theorem ZbH {p:UInt8->Bool}{s:Zy_} (h:(s.data.toList.take k).all p=true) (hk:k < s.size) (hp:p s[k]=true):(s.data.toList.take (k+1)).all p=true:=by
 rw [Zg0 s k hk,List.all_append,h];simp [hp]
theorem ZfJ (c:UInt8):Zam c=true↔(97<=(c.toNat:Int)/\(c.toNat:Int)<=122\/48<=(c.toNat:Int)/\(c.toNat:Int)<=57\/(c.toNat:Int)=45):=by
 unfold Zam;simp;omega
theorem ZdF (s:Zy_) (w:World) (hs:s.size<=maxLen) :
 Calls prog 120 #[.string s] w fun e w'=>e=.returned (.bool (Zey Zam s))/\w'=w:=by
 unfold maxLen at hs;go_enter func120,ntmps120;go_wp2
 go_loop [7] (fun i=>∃ k:Nat,k<=s.size/\i=.int .i64 k/\(s.data.toList.take k).all Zam=true) (fun i=>s.size - (intOf i).toNat)
 case atStart=>exact⟨0,Nat.zero_le _,rfl,rfl⟩
 case round=>
  obtain⟨k,hk,rfl,hall⟩:=hrel;have HA:Hd ((s.data.toList.take k).all Zam=true):=hall;clear hall
  by_cases hlt:k < s.size
  . have hsn:=ZfJ s[k]
    have HS:Hd (Zam s[k]=true↔(97<=(s[k].toNat:Int)/\(s[k].toNat:Int)<=122\/48<=(s[k].toNat:Int)/\(s[k].toNat:Int)<=57\/(s[k].toNat:Int)=45)):=hsn;clear hsn;go_wp2
    all_goals try simp only [bne_iff_ne,ne_eq,bne_eq_false_iff_eq] at*
    all_goals first
     | (go_round
        . exact⟨k+1,by omega,by go_num,ZbH HA.o hlt (HS.o.2 (by omega))⟩
        . simp [intOf];omega)
     | (go_ret
        exact⟨Zaa (ZbI hlt (Bool.eq_false_iff.2 fun h=>by have:=HS.o.1 h;omega)).symm,rfl⟩)
  . go_wp2
    go_ret;exact⟨Zaa (Zco HA.o (by omega)).symm,rfl⟩
def Zan (s:Zy_):Bool:=inB 1 16 s.size&&Zey Zam s
theorem Zak (s:Zy_) (w:World) (hs:s.size<=maxLen) :
 Calls prog 68 #[.string s] w fun e w'=>e=.returned (.bool (Zan s))/\w'=w:=by
 have hk:=ZdF s w hs;unfold maxLen at hs
 by_cases h1:1<=(s.size:Int)
 . by_cases h2:(s.size:Int)<=16
   . have HB:Hd (Zan s=Zey Zam s):=by unfold Hd Zan inB;simp;intro h;omega
     go_enter func68,ntmps68;go_wp2_with (go_at_call 120;refine hk.mono ?_;rintro e w' ⟨rfl,rfl⟩);go_ret;exact⟨Zaa HB.o.symm,rfl⟩
   . have HB:Hd (Zan s=false):=by unfold Hd Zan inB;simp;intro h;omega
     go_enter func68,ntmps68;go_wp2;go_ret;exact⟨Zaa HB.o.symm,rfl⟩
 . have HB:Hd (Zan s=false):=by unfold Hd Zan inB;simp;intro h;omega
   go_enter func68,ntmps68;go_wp2;go_ret;exact⟨Zaa HB.o.symm,rfl⟩
theorem Zad (s:Zy_) (w:World) (hs:s.size<=maxLen) :
 Calls prog 43 #[.string s] w fun e w'=>e=.returned (.bool (Zan s))/\w'=w:=by
 unfold maxLen at hs
 by_cases h1:inB 1 16 s.size=true
 . have HB:Hd (Zan s=Zey Zam s):=by unfold Hd Zan;simp [h1]
   go_enter func43,ntmps43;go_wp2_with (go_at_call 46;refine (Zap _ _ _ _).mono ?_;rintro e w' ⟨rfl,rfl⟩)
   go_loop [3] (fun i=>∃ k:Nat,k<=s.size/\i=.int .i64 k/\(s.data.toList.take k).all Zam=true) (fun i=>s.size - (intOf i).toNat)
   case atStart=>exact⟨0,Nat.zero_le _,rfl,rfl⟩
   case round=>
    obtain⟨k,hk,rfl,hall⟩:=hrel;have HA:Hd ((s.data.toList.take k).all Zam=true):=hall;clear hall
    by_cases hlt:k < s.size
    . by_cases hn:Zam s[k]=true
      . go_wp2_with (go_at_call 97;refine (Zcs _ _).mono ?_;rintro e w' ⟨rfl,rfl⟩)
        go_round
        . exact⟨k+1,by omega,by go_num,ZbH HA.o hlt hn⟩
        . simp [intOf];omega
      . have hn':Zam s[k]=false:=by simpa using hn
        go_wp2_with (go_at_call 97;refine (Zcs _ _).mono ?_;rintro e w' ⟨rfl,rfl⟩);go_ret;exact⟨Zaa (by rw [HB.o,ZbI hlt hn']),rfl⟩
    . go_wp2
      go_ret;exact⟨Zaa (by rw [HB.o,Zco HA.o (by omega)]),rfl⟩
 . have h1':inB 1 16 s.size=false:=by simpa using h1
   have HB:Hd (Zan s=false):=by unfold Hd Zan;simp [h1']
   go_enter func43,ntmps43;go_wp2_with (go_at_call 46;refine (Zap _ _ _ _).mono ?_;rintro e w' ⟨rfl,rfl⟩);go_ret;exact⟨Zaa HB.o.symm,rfl⟩
end
section
open Go.RowKit
theorem ZaB {a b:Int} (h:a=b):Ending.returned (.int .i64 a)=.returned (.int .i64 b):=by rw [h]
def ZcA (c:UInt8):Bool:=decide (48<=c.toNat/\c.toNat<=57)
theorem Zd1 (c:UInt8):ZcA c=true↔(48<=(c.toNat:Int)/\(c.toNat:Int)<=57):=by
 unfold ZcA;simp;omega
def ZcC (l:List UInt8):Int:=l.foldl (fun n c=>10*n+((c.toNat:Int) - 48)) 0
theorem ZmP (l:List UInt8) (c:UInt8):ZcC (l ++ [c])=10*ZcC l+((c.toNat:Int) - 48):=by
 unfold ZcC;rw [List.foldl_append];rfl
theorem ZbF (s:Zy_) (k:Nat) (h:k < s.size):ZcC (s.data.toList.take (k+1))=10*ZcC (s.data.toList.take k)+((s[k].toNat:Int) - 48):=by
 rw [Zg0 s k h,ZmP]
theorem ZeF (s:Zy_) (k:Nat):k<=s.size->(s.data.toList.take k).all ZcA=true->0<=ZcC (s.data.toList.take k)/\ZcC (s.data.toList.take k) < 10 ^ k:=by
 induction k with
 | zero=>intro _ _;simp [ZcC]
 | succ k ih=>
  intro hk h;rw [Zg0 s k (by omega),List.all_append] at h;simp only [Bool.and_eq_true,List.all_cons,List.all_nil,Bool.and_true] at h;obtain⟨i1,i2⟩:=ih (by omega) h.1;have hd:=(Zd1 _).1 h.2;rw [ZbF s k (by omega),Int.pow_succ]
  omega
theorem ZbM (s:Zy_) (k:Nat) (hk:k<=s.size) (h7:s.size<=7) (h:(s.data.toList.take k).all ZcA=true):0<=ZcC (s.data.toList.take k)/\ZcC (s.data.toList.take k) < 10000000:=by
 obtain⟨h0,h1⟩:=ZeF s k hk h;refine⟨h0,?_⟩;have:k=0\/k=1\/k=2\/k=3\/k=4\/k=5\/k=6\/k=7:=by omega
 generalize ZcC (s.data.toList.take k)=v at*
 rcases this with rfl | rfl | rfl | rfl | rfl | rfl | rfl | rfl <;> simp at h1 <;> omega
def Ze7 (s:Zy_):Bool:=!(decide (1 < s.size)&&(s.data.toList.head? == some 48))
theorem ZnI (s:Zy_) (h:0 < s.size):s.data.toList.head?=some s[0]:=by
 have:0 < s.data.toList.length:=by simpa using h
 rw [List.head?_eq_getElem?,List.getElem?_eq_getElem this];rfl
theorem ZhB (s:Zy_) (h:0 < s.size) (h1:1 < s.size) (hz:((s[0].toNat:Int) == 48)=true):Ze7 s=false:=by
 have e:s[0]=48:=by
  have h48:(s[0].toNat:Int)=48:=by simpa using hz
  exact UInt8.toNat_inj.1 (by show s[0].toNat=48;omega)
 unfold Ze7;rw [ZnI s h,e];simp [h1]
theorem Zgz (s:Zy_) (h:0 < s.size) (hz:((s[0].toNat:Int) == 48)=false):Ze7 s=true:=by
 have e:s[0]≠48:=by
  intro e;rw [e] at hz;simp at hz
 unfold Ze7;rw [ZnI s h];simp [e]
theorem ZhC (s:Zy_) (h:s.size<=1):Ze7 s=true:=by
 unfold Ze7;simp;omega
def ZdS (s:Zy_):Bool:=inB 1 7 s.size&&Ze7 s&&Zey ZcA s
def Znl (s:Zy_):Int:=ZcC s.data.toList
def ZiP (s:Zy_):Int:=if ZdS s=true then Znl s else -1
theorem Zkd {s:Zy_} (h1:inB 1 7 s.size=true) (h2:Ze7 s=true):ZdS s=Zey ZcA s:=by unfold ZdS;simp [h1,h2]
theorem ZgL {s:Zy_} (h:ZdS s=false):ZiP s= -1:=by unfold ZiP;simp [h]
theorem Zix {s:Zy_} (h:ZdS s=true):ZiP s=Znl s:=by unfold ZiP;simp [h]
theorem ZcT {s:Zy_}{k:Nat} (h:s.size<=k):ZcC (s.data.toList.take k)=Znl s:=by
 unfold Znl;rw [List.take_of_length_le (by simpa using h)]
theorem Za4 (s:Zy_) (w:World) (hs:s.size<=maxLen) :
 Calls prog 159 #[.string s] w fun e w'=>e=.returned (.int .i64 (ZiP s))/\w'=w:=by
 unfold maxLen at hs
 by_cases h1:inB 1 7 s.size=true
 . have hb:1<=s.size/\s.size<=7:=by have:=h1;unfold inB at this;simp at this;omega
   obtain⟨hb1,hb2⟩:=hb;have hb0:0 < s.size:=by omega
   have fin:∀ (hh:Hd (Ze7 s=true)),Hd (ZdS s=Zey ZcA s):=fun hh=>Zkd h1 hh.o
   by_cases hbad:1 < s.size/\((s[0].toNat:Int) == 48)=true
   . obtain⟨hb3,hz⟩:=hbad
     have HB:Hd (ZiP s= -1):=ZgL (by unfold ZdS;rw [ZhB s hb0 hb3 hz];simp);clear fin;go_enter func159,ntmps159;go_wp2_with (go_at_call 46;refine (Zap _ _ _ _).mono ?_;rintro e w' ⟨rfl,rfl⟩);go_ret;exact⟨ZaB HB.o.symm,rfl⟩
   . have HD:Hd (ZdS s=Zey ZcA s):=by
      refine fin ?_
      by_cases h2:1 < s.size
      . exact Zgz s hb0 (by simpa [h2] using hbad)
      . exact ZhC s (by omega)
     clear fin
     have hq:s.size=1\/(1 < s.size/\((s[0].toNat:Int) == 48)=false):=by
      by_cases h2:1 < s.size
      . exact Or.inr ⟨h2,by simpa [h2] using hbad⟩
      . left;omega
     clear hbad
     have hq':Hd (¬ 1 < s.size)\/(1 < s.size/\((s[0].toNat:Int) == 48)=false):=by
      rcases hq with hq | hq
      . left;unfold Hd;omega
      . exact Or.inr hq
     clear hq
     rcases hq' with hq | ⟨hq,hz⟩
     . replace hq:¬ 1 < s.size:=hq.o
       go_enter func159,ntmps159;go_wp2_with (go_at_call 46;refine (Zap _ _ _ _).mono ?_;rintro e w' ⟨rfl,rfl⟩)
       go_loop [3,4] (fun n i=>∃ k:Nat,k<=s.size/\i=.int .i64 k/\n=.int .i64 (ZcC (s.data.toList.take k))/\(s.data.toList.take k).all ZcA=true) (fun _ i=>s.size - (intOf i).toNat)
       case atStart=>exact⟨0,Nat.zero_le _,rfl,rfl,rfl⟩
       case round=>
        obtain⟨k,hk,rfl,rfl,hall⟩:=hrel;obtain⟨v0,v1⟩:=ZbM s k hk hb2 hall;have HA:Hd ((s.data.toList.take k).all ZcA=true):=hall;clear hall
        by_cases hlt:k < s.size
        . have HV:Hd (ZcC (s.data.toList.take (k+1))=10*ZcC (s.data.toList.take k)+((s[k].toNat:Int) - 48)):=ZbF s k hlt
          have HS:Hd (ZcA s[k]=true↔(48<=(s[k].toNat:Int)/\(s[k].toNat:Int)<=57)):=Zd1 s[k];go_wp2
          all_goals first
           | (go_round
              . exact⟨k+1,by omega,by go_num,by rw [HV.o];go_num,ZbH HA.o hlt (HS.o.2 (by omega))⟩
              . simp [intOf];omega)
           | (go_ret
              exact⟨ZaB (ZgL (by rw [HD.o];exact ZbI hlt (Bool.eq_false_iff.2 fun h=>by have:=HS.o.1 h;omega))).symm,rfl⟩)
        . go_wp2
          go_ret;exact⟨ZaB (by rw [Zix (by rw [HD.o];exact Zco HA.o (by omega)),<- ZcT (k:=k) (by omega)]),rfl⟩
     . go_enter func159,ntmps159
       go_wp2_with (go_at_call 46;refine (Zap _ _ _ _).mono ?_;rintro e w' ⟨rfl,rfl⟩)
       go_loop [3,4] (fun n i=>∃ k:Nat,k<=s.size/\i=.int .i64 k/\n=.int .i64 (ZcC (s.data.toList.take k))/\(s.data.toList.take k).all ZcA=true) (fun _ i=>s.size - (intOf i).toNat)
       case atStart=>exact⟨0,Nat.zero_le _,rfl,rfl,rfl⟩
       case round=>
        obtain⟨k,hk,rfl,rfl,hall⟩:=hrel;obtain⟨v0,v1⟩:=ZbM s k hk hb2 hall;have HA:Hd ((s.data.toList.take k).all ZcA=true):=hall;clear hall
        by_cases hlt:k < s.size
        . have HV:Hd (ZcC (s.data.toList.take (k+1))=10*ZcC (s.data.toList.take k)+((s[k].toNat:Int) - 48)):=ZbF s k hlt
          have HS:Hd (ZcA s[k]=true↔(48<=(s[k].toNat:Int)/\(s[k].toNat:Int)<=57)):=Zd1 s[k];go_wp2
          all_goals first
           | (go_round
              . exact⟨k+1,by omega,by go_num,by rw [HV.o];go_num,ZbH HA.o hlt (HS.o.2 (by omega))⟩
              . simp [intOf];omega)
           | (go_ret
              exact⟨ZaB (ZgL (by rw [HD.o];exact ZbI hlt (Bool.eq_false_iff.2 fun h=>by have:=HS.o.1 h;omega))).symm,rfl⟩)
        . go_wp2
          go_ret;exact⟨ZaB (by rw [Zix (by rw [HD.o];exact Zco HA.o (by omega)),<- ZcT (k:=k) (by omega)]),rfl⟩
 . have h1':inB 1 7 s.size=false:=by simpa using h1
   have HB:Hd (ZiP s= -1):=ZgL (by unfold ZdS;simp [h1']);go_enter func159,ntmps159;go_wp2_with (go_at_call 46;refine (Zap _ _ _ _).mono ?_;rintro e w' ⟨rfl,rfl⟩);go_ret;exact⟨ZaB HB.o.symm,rfl⟩
end
section
open Go.RowKit
variable {lo hi:Int}
theorem Zd2 {s:Zy_} (h:s.size=0):s.toList.isEmpty=true:=by
 rw [ByteArray.toList_eq,List.isEmpty_iff_length_eq_zero];simpa using h
theorem ZcH {s:Zy_} (h:0 < s.size):s.toList.isEmpty=false:=by
 rw [ByteArray.toList_eq,List.isEmpty_eq_false_iff_exists_mem];exact⟨s[0],by simp only [Array.mem_toList_iff];exact Array.getElem_mem h⟩
def Zaq (s:Zy_):Int:=if ZdS s=true then Znl s else 0
theorem Zgs {s:Zy_} (h:ZdS s=false):Zaq s=0:=by unfold Zaq;simp [h]
theorem Zid {s:Zy_} (h:ZdS s=true):Zaq s=Znl s:=by unfold Zaq;simp [h]
theorem ZeO {a c:Int}{b d:Bool} (h:a=c) (h':b=d):Ending.returned (.tuple #[.int .i64 a,.bool b])=.returned (.tuple #[.int .i64 c,.bool d]):=by rw [h,h']
theorem Za0 (s:Zy_) (w:World) (hs:s.size<=maxLen) :
 Calls prog 225 #[.string s] w fun e w'=>e=.returned (.tuple #[.int .i64 (Zaq s),.bool (ZdS s)])/\w'=w:=by
 unfold maxLen at hs
 by_cases hb0:0 < s.size
 . have he:=ZcH hb0
   by_cases hb2:s.size<=7
   . have h1:Hd (inB 1 7 s.size=true):=by unfold Hd inB;simp;omega
     by_cases hz:((s[0].toNat:Int) == 48)=true
     . by_cases hb3:1 < s.size
       . have HB:Hd (ZdS s=false):=by unfold Hd ZdS;rw [ZhB s hb0 hb3 hz];simp
         go_enter func225,ntmps225;go_wp2
         go_ret2
         exact⟨ZeO (Zgs HB.o).symm HB.o.symm,rfl⟩
       . have HD:Hd (ZdS s=Zey ZcA s):=Zkd h1.o (ZhC s (by omega))
         clear h1;go_enter func225,ntmps225;go_wp2
         go_loop [4,25] (fun n i=>∃ k:Nat,k<=s.size/\i=.int .i64 k/\n=.int .i64 (ZcC (s.data.toList.take k))/\(s.data.toList.take k).all ZcA=true) (fun _ i=>s.size - (intOf i).toNat)
         case atStart=>exact⟨0,Nat.zero_le _,rfl,rfl,rfl⟩
         case round=>
          obtain⟨k,hk,rfl,rfl,hall⟩:=hrel;obtain⟨v0,v1⟩:=ZbM s k hk hb2 hall;have HA:Hd ((s.data.toList.take k).all ZcA=true):=hall;clear hall
          by_cases hlt:k < s.size
          . have HV:Hd (ZcC (s.data.toList.take (k+1))=10*ZcC (s.data.toList.take k)+((s[k].toNat:Int) - 48)):=ZbF s k hlt
            have HS:Hd (ZcA s[k]=true↔(48<=(s[k].toNat:Int)/\(s[k].toNat:Int)<=57)):=Zd1 s[k];go_wp2
            all_goals first
             | (go_round
                . exact⟨k+1,by omega,by go_num,by rw [HV.o],ZbH HA.o hlt (HS.o.2 (by omega))⟩
                . simp [intOf];omega)
             | (go_ret2
                have HN:ZdS s=false:=by rw [HD.o];exact ZbI hlt (Bool.eq_false_iff.2 fun h=>by have:=HS.o.1 h;omega)
                exact⟨ZeO (Zgs HN).symm HN.symm,rfl⟩)
          . go_wp2
            go_ret2
            have HN:ZdS s=true:=by rw [HD.o];exact Zco HA.o (by omega)
            exact⟨ZeO (by rw [Zid HN,<- ZcT (k:=k) (by omega)]) HN.symm,rfl⟩
     . have hz':((s[0].toNat:Int) == 48)=false:=by simpa using hz
       have HD:Hd (ZdS s=Zey ZcA s):=Zkd h1.o (Zgz s hb0 hz');clear h1 hz;go_enter func225,ntmps225;go_wp2
       go_loop [4,25] (fun n i=>∃ k:Nat,k<=s.size/\i=.int .i64 k/\n=.int .i64 (ZcC (s.data.toList.take k))/\(s.data.toList.take k).all ZcA=true) (fun _ i=>s.size - (intOf i).toNat)
       case atStart=>exact⟨0,Nat.zero_le _,rfl,rfl,rfl⟩
       case round=>
        obtain⟨k,hk,rfl,rfl,hall⟩:=hrel;obtain⟨v0,v1⟩:=ZbM s k hk hb2 hall;have HA:Hd ((s.data.toList.take k).all ZcA=true):=hall;clear hall
        by_cases hlt:k < s.size
        . have HV:Hd (ZcC (s.data.toList.take (k+1))=10*ZcC (s.data.toList.take k)+((s[k].toNat:Int) - 48)):=ZbF s k hlt
          have HS:Hd (ZcA s[k]=true↔(48<=(s[k].toNat:Int)/\(s[k].toNat:Int)<=57)):=Zd1 s[k];go_wp2
          all_goals first
           | (go_round
              . exact⟨k+1,by omega,by go_num,by rw [HV.o],ZbH HA.o hlt (HS.o.2 (by omega))⟩
              . simp [intOf];omega)
           | (go_ret2
              have HN:ZdS s=false:=by rw [HD.o];exact ZbI hlt (Bool.eq_false_iff.2 fun h=>by have:=HS.o.1 h;omega)
              exact⟨ZeO (Zgs HN).symm HN.symm,rfl⟩)
        . go_wp2
          go_ret2
          have HN:ZdS s=true:=by rw [HD.o];exact Zco HA.o (by omega)
          exact⟨ZeO (by rw [Zid HN,<- ZcT (k:=k) (by omega)]) HN.symm,rfl⟩
   . have HB:Hd (ZdS s=false):=by unfold Hd ZdS inB;simp;intro h;omega
     go_enter func225,ntmps225;go_wp2
     go_ret2
     exact⟨ZeO (Zgs HB.o).symm HB.o.symm,rfl⟩
 . have he:=Zd2 (s:=s) (by omega)
   have HB:Hd (ZdS s=false):=by unfold Hd ZdS inB;simp;intro h;omega
   go_enter func225,ntmps225;go_wp2
   go_ret2
   exact⟨ZeO (Zgs HB.o).symm HB.o.symm,rfl⟩
def ZbL (c:UInt8):Bool:=decide (33<=c.toNat/\c.toNat<=126)
theorem ZfO (c:UInt8):ZbL c=true↔(33<=(c.toNat:Int)/\(c.toNat:Int)<=126):=by
 unfold ZbL;simp;omega
def Zfg (lo hi:Int) (s:Zy_):Bool:=decide (0 < s.size)&&inB lo hi s.size&&Zey ZbL s
theorem Zem {s:Zy_} (h:¬ (0 < s.size/\lo<=s.size/\(s.size:Int)<=hi)):Zfg lo hi s=false:=by
 unfold Zfg inB;rw [Bool.eq_false_iff];simp;intro a b c;exact absurd ⟨a,b,c⟩ h
theorem Zop {s:Zy_} (h0:0 < s.size) (h1:lo<=s.size) (h2:(s.size:Int)<=hi):Zfg lo hi s=Zey ZbL s:=by
 unfold Zfg inB;simp [h0,h1,h2]
theorem ZfP (lo hi:Int) (s:Zy_) (w:World) (hs:s.size<=maxLen) :
 Calls prog 300 #[.agg #[.int .i64 lo,.int .i64 hi],.string s] w fun e w'=>e=.returned (.bool (Zfg lo hi s))/\Zw_ w w':=by
 unfold maxLen at hs
 by_cases hb0:0 < s.size
 . have he:=ZcH hb0
   by_cases h1:lo<=(s.size:Int)
   . by_cases h2:(s.size:Int)<=hi
     . have HD:Hd (Zfg lo hi s=Zey ZbL s):=Zop hb0 h1 h2
       go_enter func300,ntmps300;go_wp2
       go_loop [24] (fun i=>∃ k:Nat,k<=s.size/\i=.int .i64 k/\(s.data.toList.take k).all ZbL=true) (fun i=>s.size - (intOf i).toNat)
       case atStart=>exact⟨0,Nat.zero_le _,rfl,rfl⟩
       case round=>
        obtain⟨k,hk,rfl,hall⟩:=hrel;have HA:Hd ((s.data.toList.take k).all ZbL=true):=hall;clear hall
        by_cases hlt:k < s.size
        . have HS:Hd (ZbL s[k]=true↔(33<=(s[k].toNat:Int)/\(s[k].toNat:Int)<=126)):=ZfO s[k]
          go_wp2
          all_goals first
           | (go_round
              . exact⟨k+1,by omega,by go_num,ZbH HA.o hlt (HS.o.2 (by omega))⟩
              . simp [intOf];omega)
           | (go_ret
              exact⟨Zaa (by rw [HD.o];exact (ZbI hlt (Bool.eq_false_iff.2 fun h=>by have:=HS.o.1 h;omega)).symm),Zb_.alloc Zl_ _⟩)
        . go_wp2
          go_ret;exact⟨Zaa (by rw [HD.o];exact (Zco HA.o (by omega)).symm),Zb_.alloc Zl_ _⟩
     . have HB:Hd (Zfg lo hi s=false):=Zem (by omega)
       go_enter func300,ntmps300;go_wp2;go_ret;exact⟨Zaa HB.o.symm,Zb_.alloc Zl_ _⟩
   . have HB:Hd (Zfg lo hi s=false):=Zem (by omega)
     go_enter func300,ntmps300;go_wp2;go_ret;exact⟨Zaa HB.o.symm,Zb_.alloc Zl_ _⟩
 . have he:=Zd2 (s:=s) (by omega)
   have HB:Hd (Zfg lo hi s=false):=Zem (by omega);go_enter func300,ntmps300;go_wp2;go_ret;exact⟨Zaa HB.o.symm,Zb_.alloc Zl_ _⟩
end
section
open Go.RowKit
variable {k:Nat}
def Zae (w:World) (v:Value) (L:List Zy_):Prop:=
 (∃ (a:Option Addr) (cap:Nat),v=.slice a 0 cap/\L=[])\/
 ∃ (b off cap:Nat),v=.slice (some ⟨b,off,none⟩) L.length cap/\L≠[]/\L.length<=maxLen/\b < w.heap.size/\
  (∀ i (h:i < L.length),w.cell? ⟨b,off+i,none⟩=some (.string L[i]))/\∀ s ∈ L,s.size<=maxLen
theorem Zae.below {w w':World}{v:Value}{L:List Zy_} (h:Zae w v L) (hb:Zw_ w w'):Zae w' v L:=by
 rcases h with h | ⟨b,off,cap,h1,h2,h3,h4,h5,h6⟩
 . exact Or.inl h
 . exact Or.inr ⟨b,off,cap,h1,h2,h3,Zk_ h4 hb.size,fun i hi=>by rw [hb.cell (p:=⟨b,off+i,none⟩) h4];exact h5 i hi,h6⟩
def Zss (n:Nat) (left r:Int):Prop:= -1<=r/\r<=left/\(0<=r->(n:Int)<=left)
theorem ZhQ (v:Value) (L:List Zy_) (left:Int) (w:World) (h0:0<=left) (h1:left<=1048576) (hv:Zae w v L) :
 Calls prog 147 #[v,.int .i64 left] w fun e w'=>∃ r:Int,e=.returned (.int .i64 r)/\w'=w/\Zss L.length left r:=by
 rcases hv with ⟨a,cap,rfl,rfl⟩ | ⟨b,off,cap,rfl,hne,hm,hbw,hc,hsz⟩
 . go_enter func147,ntmps147
   go_wp2
   go_loop [1,5] (fun l i=>∃ r:Int,l=.int .i64 r/\0<=r/\r<=left/\i=.int .i64 0) (fun _ _=>0)
   case atStart=>exact⟨_,rfl,by omega,by omega,rfl⟩
   case round=>
    obtain⟨r,rfl,hr0,hr1,rfl⟩:=hrel;go_wp2;go_ret;exact⟨r,rfl,rfl,by omega,by omega,fun _=>by simp;omega⟩
 . unfold maxLen at hm
   by_cases hle:(L.length:Int)<=left
   . go_enter func147,ntmps147
     go_wp2
     go_loop [1,5] (fun l i=>∃ (r:Int) (k:Nat),l=.int .i64 r/\0<=r/\r<=left/\i=.int .i64 k/\k<=L.length) (fun _ i=>L.length - (intOf i).toNat)
     case atStart=>exact⟨_,0,rfl,by omega,by omega,rfl,by omega⟩
     case round=>
      obtain⟨r,k,rfl,hr0,hr1,rfl,hk⟩:=hrel
      by_cases hlt:k < L.length
      . have hck:=hc k hlt
        have hsk:=hsz L[k] (List.getElem_mem hlt);unfold maxLen at hsk;go_wp2
        all_goals first
         | (go_round
            . exact⟨_,k+1,rfl,by omega,by omega,by go_num,by omega⟩
            . simp [intOf];omega)
         | (go_ret
            exact⟨-1,rfl,rfl,by omega,by omega,fun h=>by omega⟩)
      . go_wp2
        go_ret;exact⟨r,rfl,rfl,by omega,by omega,fun _=>hle⟩
   . go_enter func147,ntmps147
     go_wp2;go_ret;exact⟨-1,rfl,rfl,by omega,by omega,fun h=>by omega⟩
def ZdC (L:List Zy_) (s:Zy_):Bool:=L.any fun x=>x.toList == s.toList
theorem Zla {L:List Zy_}{s:Zy_} (h:k < L.length) (hp:(L[k].toList == s.toList)=true):ZdC L s=true:=by
 unfold ZdC;rw [List.any_eq_true];exact⟨L[k],List.getElem_mem h,hp⟩
theorem Zk9 {L:List Zy_}{s:Zy_} (h:ZdC (L.take k) s=false) (hk:k < L.length) (hp:(L[k].toList == s.toList)=false):ZdC (L.take (k+1)) s=false:=by
 unfold ZdC at*;rw [List.take_succ_eq_append_getElem hk,List.any_append,h];simp [hp]
theorem ZnH {L:List Zy_}{s:Zy_} (h:ZdC (L.take k) s=false) (hk:L.length<=k):ZdC L s=false:=by
 rwa [List.take_of_length_le hk] at h
theorem ZcV (v:Value) (L:List Zy_) (s:Zy_) (w:World) (hv:Zae w v L) :
 Calls prog 57 #[v,.string s] w fun e w'=>e=.returned (.bool (ZdC L s))/\w'=w:=by
 rcases hv with ⟨a,cap,rfl,rfl⟩ | ⟨b,off,cap,rfl,hne,hm,hbw,hc,hsz⟩
 . go_enter func57,ntmps57
   go_wp2
   go_loop [5] (fun i=>i=.int .i64 0) (fun _=>0)
   case atStart=>rfl
   case round=>
    subst hrel;go_wp2;go_ret;exact⟨rfl,rfl⟩
 . unfold maxLen at hm
   go_enter func57,ntmps57;go_wp2
   go_loop [5] (fun i=>∃ k:Nat,i=.int .i64 k/\k<=L.length/\ZdC (L.take k) s=false) (fun i=>L.length - (intOf i).toNat)
   case atStart=>exact⟨0,rfl,by omega,rfl⟩
   case round=>
    obtain⟨k,rfl,hk,hh⟩:=hrel;have HH:Hd (ZdC (L.take k) s=false):=hh;clear hh
    by_cases hlt:k < L.length
    . have hck:=hc k hlt
      by_cases he:(L[k].toList == s.toList)=true
      . go_wp2
        go_ret;exact⟨Zaa (Zla hlt he).symm,rfl⟩
      . have he':(L[k].toList == s.toList)=false:=by simpa using he
        clear he;go_wp2
        go_round
        . exact⟨k+1,by go_num,by omega,Zk9 HH.o hlt he'⟩
        . simp [intOf];omega
    . go_wp2
      go_ret;exact⟨Zaa (ZnH HH.o (by omega)).symm,rfl⟩
theorem ZnN (v:Value) (L:List Zy_) (s:Zy_) (w:World) (hv:Zae w v L) :
 Calls prog 188 #[v,.string s] w fun e w'=>∃ r:Int,e=.returned (.int .i64 r)/\w'=w/\decide (0<=r)=ZdC L s:=by
 rcases hv with ⟨a,cap,rfl,rfl⟩ | ⟨b,off,cap,rfl,hne,hm,hbw,hc,hsz⟩
 . go_enter func188,ntmps188
   go_wp2
   go_loop [8] (fun i=>i=.int .i64 0) (fun _=>0)
   case atStart=>rfl
   case round=>
    subst hrel;go_wp2;go_ret;exact⟨-1,rfl,rfl,rfl⟩
 . unfold maxLen at hm
   go_enter func188,ntmps188;go_wp2
   go_loop [8] (fun i=>∃ k:Nat,i=.int .i64 k/\k<=L.length/\ZdC (L.take k) s=false) (fun i=>L.length - (intOf i).toNat)
   case atStart=>exact⟨0,rfl,by omega,rfl⟩
   case round=>
    obtain⟨k,rfl,hk,hh⟩:=hrel;have HH:Hd (ZdC (L.take k) s=false):=hh;clear hh
    by_cases hlt:k < L.length
    . have hck:=hc k hlt
      by_cases he:(s.toList == L[k].toList)=true
      . go_wp2
        go_ret;exact⟨k,rfl,rfl,by rw [Zla hlt (by rw [Bool.beq_comm];exact he)];simp⟩
      . have he':(s.toList == L[k].toList)=false:=by simpa using he
        clear he;go_wp2
        go_round
        . exact⟨k+1,by go_num,by omega,Zk9 HH.o hlt (by rw [Bool.beq_comm];exact he')⟩
        . simp [intOf];omega
    . go_wp2
      go_ret;exact⟨-1,rfl,rfl,by rw [ZnH HH.o (by omega)];rfl⟩
theorem Zc8 (v:Value) (L:List Zy_) (s:Zy_) (w:World) (hv:Zae w v L) :
 Calls prog 137 #[v,.string s] w fun e w'=>e=.returned (.bool (ZdC L s))/\w'=w:=by
 go_enter func137,ntmps137;go_wp2_with fail;refine (ZnN v L s _ hv).mono ?_;rintro e w1 ⟨r,rfl,rfl,hr⟩;have HR:Hd (decide (0<=r)=ZdC L s):=hr;clear hr;go_wp2;go_ret;exact⟨Zaa HR.o,rfl⟩
end
section
open Go.RowKit Go.Deep
variable {wr w:World} {B k lo:Nat} {v:Value}
theorem Zgt (v v':Value) (L:List Zy_) (w:World) (hv:Zae w v L) (hv':Zae w v' L) :
 Calls prog 191 #[v,v'] w fun e w'=>e=.returned (.bool true)/\Zw_ w w':=by
 by_cases hL:L=[]
 . subst hL
   obtain⟨a,cap,rfl⟩:∃ a cap,v=.slice a 0 cap:=by
    rcases hv with ⟨a,cap,h,_⟩ | ⟨b,off,cap,h,hne,_⟩
    . exact⟨a,cap,h⟩
    . exact absurd rfl hne
   obtain⟨a',cap',rfl⟩:∃ a cap,v'=.slice a 0 cap:=by
    rcases hv' with ⟨a,cap,h,_⟩ | ⟨b,off,cap,h,hne,_⟩
    . exact⟨a,cap,h⟩
    . exact absurd rfl hne
   clear hv hv';go_enter func191,ntmps191;go_wp2
   go_loop [5] (fun i=>i=.int .i64 0) (fun _=>0)
   case atStart=>rfl
   case round=>
    subst hrel;go_wp2;go_ret;exact⟨rfl,Below.refl _ _⟩
 . obtain⟨b,off,cap,rfl,hm,hbw,hc⟩:∃ b off cap,v=.slice (some ⟨b,off,none⟩) L.length cap/\L.length<=maxLen/\b < w.heap.size/\∀ i (h:i < L.length),w.cell? ⟨b,off+i,none⟩=some (.string L[i]):=by
    rcases hv with ⟨a,cap,h,h'⟩ | ⟨b,off,cap,h,hne,hm,hbw,hc,_⟩
    . exact absurd h' hL
    . exact⟨b,off,cap,h,hm,hbw,hc⟩
   obtain⟨b',off',cap',rfl,_,hbw',hc'⟩:∃ b off cap,v'=.slice (some ⟨b,off,none⟩) L.length cap/\L.length<=maxLen/\b < w.heap.size/\∀ i (h:i < L.length),w.cell? ⟨b,off+i,none⟩=some (.string L[i]):=by
    rcases hv' with ⟨a,cap,h,h'⟩ | ⟨b,off,cap,h,hne,hm,hbw,hc,_⟩
    . exact absurd h' hL
    . exact⟨b,off,cap,h,hm,hbw,hc⟩
   clear hv hv';unfold maxLen at hm;go_enter func191,ntmps191;go_wp2
   go_loopw [5] (fun i wr=>∃ k:Nat,i=.int .i64 k/\k<=L.length/\Zw_ w wr) (fun i _=>L.length - (intOf i).toNat)
   case atStart=>exact⟨0,rfl,by omega,Below.refl _ _⟩
   case round=>
    obtain⟨k,rfl,hk,hb⟩:=hrel
    by_cases hlt:k < L.length
    . have hck:wr.cell? ⟨b,off+k,none⟩=some (.string L[k]):=by rw [hb.cell (p:=⟨b,off+k,none⟩) hbw];exact hc k hlt
      have hck':wr.cell? ⟨b',off'+k,none⟩=some (.string L[k]):=by rw [hb.cell (p:=⟨b',off'+k,none⟩) hbw'];exact hc' k hlt
      go_wp2
      go_quiet (fail)
      go_wp2;go_roundw
      . exact⟨k+1,by go_num,by omega,below_drewN hb _⟩
      . simp [intOf];omega
    . go_wp2
      go_ret;exact⟨rfl,hb⟩
theorem Tryz.info9:(prog.info? 9).map (fun i=>(i.zero,i.size,i.bytes))=some (some (.string ⟨#[]⟩),1,16):=by kernel_rfl
def Zqp (L:List Zy_) (k i:Nat):Value:=if i < k then .string (L.getD i ⟨#[]⟩) else .string ⟨#[]⟩
def Zck (wr:World) (B:Nat) (L:List Zy_) (k:Nat):Prop:=wr.rowIs B 9 L.length (Zqp L k)
theorem Zck.step {L:List Zy_} (h:Zck wr B L k) (hk:k < L.length):Zck (wr.setCell ⟨B,k,none⟩ (.string L[k])) B L (k+1):=by
 unfold Zck at*;refine (h.set k (.string L[k])).congr fun i hi=>?_
 unfold Zqp
 by_cases e:i=k
 . subst e;simp [hk]
 . by_cases e2:i < k
   . simp [e,e2,Nat.lt_succ_of_lt e2]
   . have:¬ i < k+1:=by omega
     simp [e,e2,this]
theorem Zck.old {L:List Zy_} (h:Zck wr B L k) (hk:k < L.length):∃ v,wr.cell? ⟨B,k,none⟩=some v:=⟨_,World.rowIs.cell h hk⟩
theorem Zck.frozen {L:List Zy_} (h:Zck wr B L k) (i:Nat):wr.frozen? ⟨B,i,none⟩=false:=World.rowIs.frozen h i
def Zas (lo:Nat) (w:World) (v:Value) (L:List Zy_):Prop:=
 (∃ (a:Option Addr) (cap:Nat),v=.slice a 0 cap/\L=[])\/
 ∃ (b off cap:Nat),v=.slice (some ⟨b,off,none⟩) L.length cap/\L≠[]/\L.length<=maxLen/\b < w.heap.size/\
  (∀ i (h:i < L.length),w.cell? ⟨b,off+i,none⟩=some (.string L[i]))/\(∀ s ∈ L,s.size<=maxLen)/\lo<=b
theorem Zas.at {L:List Zy_} (h:Zas lo w v L):Zae w v L:=by
 rcases h with h | ⟨b,off,cap,h1,h2,h3,h4,h5,h6,_⟩
 . exact Or.inl h
 . exact Or.inr ⟨b,off,cap,h1,h2,h3,h4,h5,h6⟩
theorem Zas.mono {lo':Nat}{L:List Zy_} (h:Zas lo w v L) (hl:lo'<=lo):Zas lo' w v L:=by
 rcases h with h | ⟨b,off,cap,h1,h2,h3,h4,h5,h6,h7⟩
 . exact Or.inl h
 . exact Or.inr ⟨b,off,cap,h1,h2,h3,h4,h5,h6,Nat.le_trans hl h7⟩
theorem Zas.below {w':World}{L:List Zy_} (h:Zas lo w v L) (hb:Zw_ w w'):Zas lo w' v L:=by
 rcases h with h | ⟨b,off,cap,h1,h2,h3,h4,h5,h6,h7⟩
 . exact Or.inl h
 . exact Or.inr ⟨b,off,cap,h1,h2,h3,Zk_ h4 hb.size,fun i hi=>by rw [hb.cell (p:=⟨b,off+i,none⟩) h4];exact h5 i hi,h6,h7⟩
theorem ZaA (w:World) (p q:Addr) (u:Value) (h:q.block≠p.block):(w.setCell p u).cell? q=w.cell? q:=
 World.cell?_of_block (w:=w) (Below.heap_setCell w p u q.block h)
theorem Zas.setCell {L:List Zy_} (h:Zas lo w v L) {p:Addr} (hp:p.block < lo) (u:Value):Zas lo (w.setCell p u) v L:=by
 rcases h with h | ⟨b,off,cap,h1,h2,h3,h4,h5,h6,h7⟩
 . exact Or.inl h
 . exact Or.inr ⟨b,off,cap,h1,h2,h3,by simpa [World.setCell] using h4,fun i hi=>by rw [ZaA _ _ _ _ (by show b≠p.block;omega)];exact h5 i hi,h6,h7⟩
theorem Zas.form {L:List Zy_} (h:Zas lo w v L):∃ a n cap,v=.slice a n cap:=by
 rcases h with ⟨a,cap,h,_⟩ | ⟨b,off,cap,h,_⟩
 . exact⟨a,_,cap,h⟩
 . exact⟨_,_,cap,h⟩
theorem Zae.form {L:List Zy_} (h:Zae w v L):∃ a n cap,v=.slice a n cap:=by
 rcases h with ⟨a,cap,h,_⟩ | ⟨b,off,cap,h,_⟩
 . exact⟨a,_,cap,h⟩
 . exact⟨_,_,cap,h⟩
theorem Zck.done {L:List Zy_} (h:Zck wr B L k) (hk:L.length<=k) (hne:L≠[]) (hm:L.length<=maxLen) (hs:∀ s ∈ L,s.size<=maxLen):Zas B wr (.slice (some ⟨B,0,none⟩) L.length L.length) L:=by
 refine Or.inr ⟨B,0,L.length,rfl,hne,hm,World.rowIs.lt h,fun i hi=>?_,hs,Nat.le_refl _⟩;rw [Nat.zero_add,World.rowIs.cell h hi];unfold Zqp;rw [if_pos (by omega),List.getD_eq_getElem?_getD,List.getElem?_eq_getElem hi];rfl
theorem ZhS (v:Value) (L:List Zy_) (w:World) (hv:Zae w v L) (hn:L.length<=1048576) :
 Calls prog 161 #[v] w fun e w'=>∃ v',e=.returned v'/\Zw_ w w'/\Zas w.heap.size w' v' L:=by
 rcases hv with ⟨a,cap,rfl,rfl⟩ | ⟨b,off,cap,rfl,hne,hm,hbw,hc,hsz⟩
 . have hmk:∀ u:World,(Instr.makeSlice 107 (.int .i64 0) (.int .i64 0)).run prog u=.ok (.slice (some ⟨u.heap.size,0,none⟩) 0 0) (u.alloc (.cells (madeCells #[.string ⟨#[]⟩] 0) 9)):=
    fun u=>run_make_row' 107 9 (.string ⟨#[]⟩) 16 underlying107 Tryz.info9 rfl .i64 .i64 0 (by omega) (by omega) u
   go_enter func161,ntmps161;go_wp2
   go_loop [4] (fun i=>i=.int .i64 0) (fun _=>0)
   case atStart=>rfl
   case round=>
    subst hrel;go_wp2;go_ret;exact⟨_,rfl,Zb_.alloc Zl_ _,Or.inl ⟨_,_,rfl,rfl⟩⟩
 . have HM:Hd (L.length<=maxLen):=hm
   unfold maxLen at hm
   have hmk:∀ u:World,(Instr.makeSlice 107 (.int .i64 (L.length:Int)) (.int .i64 (L.length:Int))).run prog u=.ok (.slice (some ⟨u.heap.size,0,none⟩) L.length L.length) (u.alloc (.cells (madeCells #[.string ⟨#[]⟩] L.length) 9)):=
    fun u=>run_make_row' 107 9 (.string ⟨#[]⟩) 16 underlying107 Tryz.info9 rfl .i64 .i64 L.length (by omega) (by omega) u
   go_enter func161,ntmps161;go_wp2;clear hmk
   go_loopw [4] (fun i wr=>∃ k:Nat,i=.int .i64 k/\k<=L.length/\Zw_ w wr/\Zck wr w.heap.size L k) (fun i _=>L.length - (intOf i).toNat)
   case atStart=>exact⟨0,rfl,by omega,Zb_.alloc Zl_ _,World.rowIs_made w (.string ⟨#[]⟩) L.length 9⟩
   case round=>
    obtain⟨k,rfl,hk,hb,hf⟩:=hrel
    by_cases hlt:k < L.length
    . have hck:wr.cell? ⟨b,off+k,none⟩=some (.string L[k]):=by rw [hb.cell (p:=⟨b,off+k,none⟩) hbw];exact hc k hlt
      obtain⟨old,hold⟩:=hf.old hlt;have hfz:=hf.frozen k;go_wp2;go_roundw
      . exact⟨k+1,by go_num,by omega,hb.setCell Zl_ _,hf.step hlt⟩
      . simp [intOf];omega
    . go_wp2
      go_ret;exact⟨_,rfl,hb,hf.done (by omega) hne HM.o hsz⟩
end
section
open Go.RowKit Go.Deep
theorem Zkb {W w1:World} (hb:Below W.heap.size W w1):(∀ b o,b < W.heap.size->w1.cell? ⟨b,o,none⟩=W.cell? ⟨b,o,none⟩)/\(∀ b o,b < W.heap.size->w1.frozen? ⟨b,o,none⟩=W.frozen? ⟨b,o,none⟩):=
 ⟨fun b o h=>hb.cell (p:=⟨b,o,none⟩) h,fun b o h=>hb.frozen (p:=⟨b,o,none⟩) h⟩
end
section
open Go.RowKit Go.Deep
def ZaN (kd le mo:Int) (L:List Zy_) (s:Zy_):Bool:=
 if kd=1 then ZdS s&&inB le mo (Znl s) else if kd=2 then decide (0 < s.size)&&ZdC L s else if kd=3 then Zfg le mo s else if kd=4 then Zan s else false
theorem Zqs {le mo:Int}{L:List Zy_}{s:Zy_}:ZaN 1 le mo L s=(ZdS s&&inB le mo (Znl s)):=by simp [ZaN]
theorem Zqt {le mo:Int}{L:List Zy_}{s:Zy_}:ZaN 2 le mo L s=(decide (0 < s.size)&&ZdC L s):=by simp [ZaN]
theorem Zqu {le mo:Int}{L:List Zy_}{s:Zy_}:ZaN 3 le mo L s=Zfg le mo s:=by simp [ZaN]
theorem Zqv {le mo:Int}{L:List Zy_}{s:Zy_}:ZaN 4 le mo L s=Zan s:=by simp [ZaN]
theorem Zqr {kd le mo:Int}{L:List Zy_}{s:Zy_} (h1:kd≠1) (h2:kd≠2) (h3:kd≠3) (h4:kd≠4):ZaN kd le mo L s=false:=by simp [ZaN,h1,h2,h3,h4]
theorem Zke {s:Zy_} (h:ZdS s=true):0<=Znl s:=by
 have h3:Zey ZcA s=true:=by unfold ZdS at h;simp at h;exact h.2
 have:=ZeF s s.size Zl_ (by rw [List.take_of_length_le (by simp)];exact h3);rw [ZcT Zl_] at this;exact this.1
theorem ZkS (c:UInt8):wrap64 (c.toNat:Int)=c.toNat:=by
 have:=c.toNat_lt;unfold wrap64
 omega
theorem Zoq {lo hi:Int}{s:Zy_} (h:Zey ZbL s=false):Zfg lo hi s=false:=by unfold Zfg;simp [h]
section
variable (nm to df we:Zy_) (le mo ro:Int) (mu fx:Bool) (wv:Value) (L:List Zy_) (s:Zy_) (w:World)
theorem Zob (hv:Zae w wv L) (hs:s.size<=maxLen) :
 Calls prog 152 #[.agg #[.string nm,.int .i64 1,.int .i64 le,.int .i64 mo,wv,.string to,.int .i64 ro,.bool mu,.bool fx,.string df,.string we],.string s] w
  fun e w'=>e=.returned (.bool (ZaN 1 le mo L s))/\Zw_ w w':=by
 obtain⟨a,n,cap,rfl⟩:=hv.form;clear hv;have HW:∀ o,Hd (Zw_ w (w.alloc o)):=fun o=>Zb_.alloc Zl_ _
 rw [Zqs];have hnum:=fun u=>Za4 s u hs
 by_cases hd:ZdS s=true
 . have h0:=Zke hd
   have HN:=Zab (Zix hd);go_enter func152,ntmps152;go_wp2_with fail;refine (hnum _).mono ?_;rintro e w1 ⟨rfl,rfl⟩;rw [HN.o];go_wp2_with fail;refine (Zap _ _ _ _).mono ?_;rintro e w1 ⟨rfl,rfl⟩;go_wp2;go_ret;exact⟨Zaa (by rw [hd];rfl),(HW _).o⟩
 . have hd':ZdS s=false:=by simpa using hd
   have HN:=Zab (ZgL hd');go_enter func152,ntmps152;go_wp2_with fail;refine (hnum _).mono ?_;rintro e w1 ⟨rfl,rfl⟩;rw [HN.o];go_wp2;go_ret;exact⟨Zaa (by rw [hd'];rfl),(HW _).o⟩
theorem Zoc (hv:Zae w wv L) (_hs:s.size<=maxLen) :
 Calls prog 152 #[.agg #[.string nm,.int .i64 2,.int .i64 le,.int .i64 mo,wv,.string to,.int .i64 ro,.bool mu,.bool fx,.string df,.string we],.string s] w
  fun e w'=>e=.returned (.bool (ZaN 2 le mo L s))/\Zw_ w w':=by
 have HV:=Zab hv;obtain⟨a,n,cap,rfl⟩:=hv.form;clear hv;have HW:∀ o,Hd (Zw_ w (w.alloc o)):=fun o=>Zb_.alloc Zl_ _
 rw [Zqt]
 by_cases hb0:0 < s.size
 . have he:=ZcH hb0
   go_enter func152,ntmps152;go_wp2_with fail;refine (ZcV _ L _ _ (HV.o.below (HW _).o)).mono ?_;rintro e w1 ⟨rfl,rfl⟩;go_wp2;go_ret;exact⟨Zaa (by simp [hb0]),(HW _).o⟩
 . have he:=Zd2 (s:=s) (by omega)
   go_enter func152,ntmps152;go_wp2;go_ret;exact⟨Zaa (by simp [hb0]),(HW _).o⟩
theorem Zod (hv:Zae w wv L) (hs:s.size<=maxLen) :
 Calls prog 152 #[.agg #[.string nm,.int .i64 3,.int .i64 le,.int .i64 mo,wv,.string to,.int .i64 ro,.bool mu,.bool fx,.string df,.string we],.string s] w
  fun e w'=>e=.returned (.bool (ZaN 3 le mo L s))/\Zw_ w w':=by
 obtain⟨a,n,cap,rfl⟩:=hv.form;clear hv;have HW:∀ o,Hd (Zw_ w (w.alloc o)):=fun o=>Zb_.alloc Zl_ _
 rw [Zqu];unfold maxLen at hs;go_enter func152,ntmps152;go_wp2_with fail
 go_loop [6] (fun i=>∃ k:Nat,k<=s.size/\i=.int .i64 k/\(s.data.toList.take k).all ZbL=true) (fun i=>s.size - (intOf i).toNat)
 case atStart=>exact⟨0,Nat.zero_le _,rfl,rfl⟩
 case round=>
  obtain⟨k,hk,rfl,hall⟩:=hrel;have HA:Hd ((s.data.toList.take k).all ZbL=true):=hall;clear hall
  by_cases hlt:k < s.size
  . have HS:Hd (ZbL s[k]=true↔(33<=(s[k].toNat:Int)/\(s[k].toNat:Int)<=126)):=ZfO s[k]
    go_wp2_with fail;simp only [ZkS];refine (Zap _ _ _ _).mono ?_;rintro e w1 ⟨rfl,rfl⟩
    by_cases hin:inB 33 126 (s[k].toNat:Int)=true
    . go_wp2
      go_round
      . exact⟨k+1,by omega,by go_num,ZbH HA.o hlt (HS.o.2 (by unfold inB at hin;simpa using hin))⟩
      . simp [intOf];omega
    . have hin':inB 33 126 (s[k].toNat:Int)=false:=by simpa using hin
      go_wp2;go_ret;exact⟨Zaa (Zoq (ZbI hlt (Bool.eq_false_iff.2 fun h=>by have:=HS.o.1 h;unfold inB at hin;simp at hin;omega))).symm,(HW _).o⟩
  . have HE:Hd (Zey ZbL s=true):=Zco HA.o (by omega)
    by_cases hb0:0 < s.size
    . have he:=ZcH hb0
      go_wp2_with fail;refine (Zap _ _ _ _).mono ?_;rintro e w1 ⟨rfl,rfl⟩;go_wp2;go_ret;exact⟨Zaa (by unfold Zfg;rw [HE.o];simp [hb0]),(HW _).o⟩
    . have he:=Zd2 (s:=s) (by omega)
      go_wp2;go_ret;exact⟨Zaa (Zem (by omega)).symm,(HW _).o⟩
theorem Zoe (hv:Zae w wv L) (hs:s.size<=maxLen) :
 Calls prog 152 #[.agg #[.string nm,.int .i64 4,.int .i64 le,.int .i64 mo,wv,.string to,.int .i64 ro,.bool mu,.bool fx,.string df,.string we],.string s] w
  fun e w'=>e=.returned (.bool (ZaN 4 le mo L s))/\Zw_ w w':=by
 obtain⟨a,n,cap,rfl⟩:=hv.form;clear hv;have HW:∀ o,Hd (Zw_ w (w.alloc o)):=fun o=>Zb_.alloc Zl_ _
 rw [Zqv];go_enter func152,ntmps152;go_wp2_with fail;refine (Zad _ _ hs).mono ?_;rintro e w1 ⟨rfl,rfl⟩;go_wp2;go_ret;exact⟨rfl,(HW _).o⟩
theorem Zoa (kd:Int) (hv:Zae w wv L) (h1:kd≠1) (h2:kd≠2) (h3:kd≠3) (h4:kd≠4) :
 Calls prog 152 #[.agg #[.string nm,.int .i64 kd,.int .i64 le,.int .i64 mo,wv,.string to,.int .i64 ro,.bool mu,.bool fx,.string df,.string we],.string s] w
  fun e w'=>e=.returned (.bool (ZaN kd le mo L s))/\Zw_ w w':=by
 obtain⟨a,n,cap,rfl⟩:=hv.form;clear hv;have HW:∀ o,Hd (Zw_ w (w.alloc o)):=fun o=>Zb_.alloc Zl_ _
 rw [Zqr h1 h2 h3 h4];have b1:(kd == 1)=false:=beq_eq_false_iff_ne.2 h1;have b2:(kd == 2)=false:=beq_eq_false_iff_ne.2 h2;have b3:(kd == 3)=false:=beq_eq_false_iff_ne.2 h3;have b4:(kd == 4)=false:=beq_eq_false_iff_ne.2 h4;clear h1 h2 h3 h4;go_enter func152,ntmps152;go_wp2;go_ret;exact⟨rfl,(HW _).o⟩
end
end
section
open Go.RowKit Go.Deep
theorem Zpp {α:Type} (a:Array α) (x y:α):(a.push x).setIfInBounds a.size y=a.push y:=by
 apply Array.ext';simp
theorem ZiN (u:World) (es:Array MapEntry) (c:Nat) (k:Int) (v:Value) (hf:Instr.findNow (.int .i64) (.int .i64 k) es.toList 0=some none) :
 (Instr.mapUpdate 266 (.map (some u.heap.size)) (.int .i64 k) v).run prog (u.alloc (.map es c))=.ok () (u.alloc (.map (es.push { key:=.int .i64 k,val:=v,born:=c }) (c+1))):=by
 have hb:(u.alloc (.map es c)).heap[u.heap.size]?=some (.map es c):=(MapKept.heap_alloc u _).1;have hc:(Instr.checkKey false 10000 3 (.int .i64 k)).run prog (u.alloc (.map es c))=.ok () (u.alloc (.map es c)):=MapKept.run_checkKey (k:=.int .i64 k) underlying3 (by simp [MapKept.IsKey]) false 9999;simp [Instr.mapUpdate,run_underlying underlying266,MapKept.run_getObj_map hb,hc,MapKept.run_findKey underlying3 hf,MapKept.run_setObj_map _ hb,Result.andThen]
 show ({ u with heap:=(u.heap.push (.map es c)).setIfInBounds u.heap.size (.map (es.push { key:=.int .i64 k,val:=v,born:=c }) (c+1)) }:World)=_
 rw [Zpp]
 rfl
def Zaj:Array MapEntry:=#[⟨.int .i64 1,.func (.func 227) #[] #[],0⟩,⟨.int .i64 2,.func (.func 228) #[] #[],1⟩,⟨.int .i64 3,.func (.func 229) #[] #[],2⟩,⟨.int .i64 4,.func (.func 230) #[] #[],3⟩]
theorem Zej (w:World) :
 Calls prog 198 #[] w fun e w'=>e=.returned (.map (some w.heap.size))/\w'=w.alloc (.map Zaj 4):=by
 have hmm:=@run_makeMap prog;have h1:=ZiN w #[] 0 1 (.func (.func 227) #[] #[]) rfl;have h2:=ZiN w #[⟨.int .i64 1,.func (.func 227) #[] #[],0⟩] 1 2 (.func (.func 228) #[] #[]) rfl;have h3:=ZiN w #[⟨.int .i64 1,.func (.func 227) #[] #[],0⟩,⟨.int .i64 2,.func (.func 228) #[] #[],1⟩] 2 3 (.func (.func 229) #[] #[]) rfl;have h4:=ZiN w #[⟨.int .i64 1,.func (.func 227) #[] #[],0⟩,⟨.int .i64 2,.func (.func 228) #[] #[],1⟩,⟨.int .i64 3,.func (.func 229) #[] #[],2⟩] 3 4 (.func (.func 230) #[] #[]) rfl;go_enter func198,ntmps198;go_wp2;go_ret;exact⟨rfl,rfl⟩
theorem Zdj (W:World) (r:Nat) (k:Int) (a:Option (Nat×Value)) (hb:W.heap[r]?=some (.map Zaj 4)) (hf:Instr.findNow (.int .i64) (.int .i64 k) Zaj.toList 0=some a) :
 (Instr.lookup 266 (.map (some r)) (.int .i64 k) true).run prog W=.ok (.tuple (match a with | some (_,v)=>#[v,.bool true] | none=>#[.nilFunc,.bool false])) W:=by
 have hc:(Instr.checkKey Zaj.isEmpty 10000 3 (.int .i64 k)).run prog W=.ok () W:=MapKept.run_checkKey (k:=.int .i64 k) underlying3 (by simp [MapKept.IsKey]) _ 9999;have hz:(zeroValue 307).run prog W=.ok .nilFunc W:=by kernel_rfl
 rcases a with _ | ⟨i,v⟩ <;>
 simp [Instr.lookup,run_underlying underlying266,MapKept.run_getObj_map hb,hc,MapKept.run_findKey underlying3 hf,Result.andThen,hz]
theorem ZrT:Instr.findNow (.int .i64) (.int .i64 1) Zaj.toList 0=some (some (0,.func (.func 227) #[] #[])):=by kernel_rfl
theorem ZrU:Instr.findNow (.int .i64) (.int .i64 2) Zaj.toList 0=some (some (1,.func (.func 228) #[] #[])):=by kernel_rfl
theorem ZrV:Instr.findNow (.int .i64) (.int .i64 3) Zaj.toList 0=some (some (2,.func (.func 229) #[] #[])):=by kernel_rfl
theorem ZrW:Instr.findNow (.int .i64) (.int .i64 4) Zaj.toList 0=some (some (3,.func (.func 230) #[] #[])):=by kernel_rfl
theorem ZrS {k:Int} (h1:k≠1) (h2:k≠2) (h3:k≠3) (h4:k≠4):Instr.findNow (.int .i64) (.int .i64 k) Zaj.toList 0=some none:=by
 simp [Zaj,Instr.findNow,Instr.sameNow,beq_eq_false_iff_ne.2 h1,beq_eq_false_iff_ne.2 h2,beq_eq_false_iff_ne.2 h3,beq_eq_false_iff_ne.2 h4]
section
variable (nm to df we:Zy_) (kd le mo ro:Int) (mu fx:Bool) (a:Option Addr) (n cap:Nat) (s:Zy_) (w:World)
theorem Zsa:Calls prog 227 #[.agg #[.string nm,.int .i64 kd,.int .i64 le,.int .i64 mo,.slice a n cap,.string to,.int .i64 ro,.bool mu,.bool fx,.string df,.string we]] w
 fun e w'=>e=.returned (.iface 329 (.agg #[.int .i64 le,.int .i64 mo,.string we]))/\Zw_ w w':=by
 go_enter func227,ntmps227;go_wp2;go_ret;exact⟨rfl,Zb_.alloc Zl_ _⟩
theorem Zsb:Calls prog 228 #[.agg #[.string nm,.int .i64 kd,.int .i64 le,.int .i64 mo,.slice a n cap,.string to,.int .i64 ro,.bool mu,.bool fx,.string df,.string we]] w
 fun e w'=>e=.returned (.iface 331 (.agg #[.slice a n cap]))/\Zw_ w w':=by
 go_enter func228,ntmps228;go_wp2;go_ret;exact⟨rfl,Zb_.alloc Zl_ _⟩
theorem Zsc:Calls prog 229 #[.agg #[.string nm,.int .i64 kd,.int .i64 le,.int .i64 mo,.slice a n cap,.string to,.int .i64 ro,.bool mu,.bool fx,.string df,.string we]] w
 fun e w'=>e=.returned (.iface 333 (.agg #[.int .i64 le,.int .i64 mo]))/\Zw_ w w':=by
 go_enter func229,ntmps229;go_wp2;go_ret;exact⟨rfl,Zb_.alloc Zl_ _⟩
theorem Zsd:Calls prog 230 #[.agg #[.string nm,.int .i64 kd,.int .i64 le,.int .i64 mo,.slice a n cap,.string to,.int .i64 ro,.bool mu,.bool fx,.string df,.string we]] w
 fun e w'=>e=.returned (.iface 335 (.agg #[.string to,.int .i64 ro,.bool mu,.string df]))/\Zw_ w w':=by
 go_enter func230,ntmps230;go_wp2;go_ret;exact⟨rfl,Zb_.alloc Zl_ _⟩
theorem ZnU (hs:s.size<=maxLen):Calls prog 294 #[.agg #[.int .i64 le,.int .i64 mo,.string we],.string s] w
 fun e w'=>e=.returned (.bool (ZdS s&&inB le mo (Znl s)))/\Zw_ w w':=by
 have HW:∀ o,Hd (Zw_ w (w.alloc o)):=fun o=>Zb_.alloc Zl_ _
 have hdec:=fun u=>Za0 s u hs
 by_cases hd:ZdS s=true
 . have HR:=Zab (Zid hd)
   rw [Ze9];generalize Znl s=v at*
   by_cases h1:le<=v
   . by_cases h2:v<=mo
     all_goals
      go_enter func294,ntmps294;go_wp2_with fail;refine (hdec _).mono ?_;rintro e w1 ⟨rfl,rfl⟩;rw [HR.o,hd];go_wp2;go_ret;exact⟨Zaa (by simp [h1,h2,hd]),(HW _).o⟩
   . go_enter func294,ntmps294
     go_wp2_with fail;refine (hdec _).mono ?_;rintro e w1 ⟨rfl,rfl⟩;rw [HR.o,hd];go_wp2;go_ret;exact⟨Zaa (by rw [Bool.eq_iff_iff];simp;omega),(HW _).o⟩
 . have hd':ZdS s=false:=by simpa using hd
   go_enter func294,ntmps294;go_wp2_with fail;refine (hdec _).mono ?_;rintro e w1 ⟨rfl,rfl⟩;rw [hd'];go_wp2;go_ret;exact⟨Zaa (by simp [hd']),(HW _).o⟩
theorem Zlu (L:List Zy_) (hv:Zae w (.slice a n cap) L):Calls prog 297 #[.agg #[.slice a n cap],.string s] w
 fun e w'=>e=.returned (.bool (decide (0 < s.size)&&ZdC L s))/\Zw_ w w':=by
 have HV:=Zab hv;clear hv;have HW:∀ o,Hd (Zw_ w (w.alloc o)):=fun o=>Zb_.alloc Zl_ _
 by_cases hb0:0 < s.size
 . have he:=ZcH hb0
   go_enter func297,ntmps297;go_wp2_with fail;refine (Zc8 _ L _ _ (HV.o.below (HW _).o)).mono ?_;rintro e w1 ⟨rfl,rfl⟩;go_wp2;go_ret;exact⟨Zaa (by simp [hb0]),(HW _).o⟩
 . have he:=Zd2 (s:=s) (by omega)
   go_enter func297,ntmps297;go_wp2;go_ret;exact⟨Zaa (by simp [hb0]),(HW _).o⟩
theorem Zle (hs:s.size<=maxLen):Calls prog 303 #[.agg #[.string to,.int .i64 ro,.bool mu,.string df],.string s] w
 fun e w'=>e=.returned (.bool (Zan s))/\Zw_ w w':=by
 have HW:∀ o,Hd (Zw_ w (w.alloc o)):=fun o=>Zb_.alloc Zl_ _
 go_enter func303,ntmps303;go_wp2_with fail;refine (Zak _ _ hs).mono ?_;rintro e w1 ⟨rfl,rfl⟩;go_wp2;go_ret;exact⟨rfl,(HW _).o⟩
end
end
section
open Go.RowKit Go.Deep
section
variable (nm to df we:Zy_) (le mo ro:Int) (mu fx:Bool) (wv:Value) (L:List Zy_) (s:Zy_) (w:World) (r:Nat)
theorem Zqx (hr:w.heap[r]?=some (.map Zaj 4)) (hv:Zae w wv L) (hs:s.size<=maxLen) :
 Calls prog 259 #[.map (some r),.agg #[.string nm,.int .i64 1,.int .i64 le,.int .i64 mo,wv,.string to,.int .i64 ro,.bool mu,.bool fx,.string df,.string we],.string s] w
  fun e w'=>e=.returned (.bool (ZaN 1 le mo L s))/\Zw_ w w':=by
 have HV:=Zab hv;have HS:=Zab hs;obtain⟨a,n,cap,rfl⟩:=hv.form;have HW:∀ o,Hd (Zw_ w (w.alloc o)):=fun o=>Zb_.alloc Zl_ _
 have hlk:=fun o=>Zdj (w.alloc o) r 1 _ (by rw [(HW o).o.block r (Array.getElem?_eq_some_iff.1 hr).1];exact hr) ZrT
 clear hv hr hs;rw [Zqs];have hm:∀ W:World,(method 467 329 (.agg #[.int .i64 le,.int .i64 mo,.string we]) "loop.example/wharfhall/impl.fits").run prog W=.ok (294,.agg #[.int .i64 le,.int .i64 mo,.string we]) W:=fun _=>by kernel_rfl
 go_enter func259,ntmps259;go_wp2_with fail;refine (Zsa _ _ _ _ _ _ _ _ _ _ _ _ _ _).mono ?_;rintro e w1 ⟨rfl,hb1⟩;have HB1:Hd (Zw_ w w1):=(HW _).o.trans (hb1.mono (by simp));clear hb1;go_wp2_with fail;refine (ZnU _ _ _ _ _ HS.o).mono ?_;rintro e w2 ⟨rfl,hb2⟩;have HB2:Hd (Zw_ w w2):=HB1.o.trans (hb2.mono HB1.o.size);clear hb2;go_wp2;go_ret;exact⟨rfl,HB2.o⟩
theorem Zqy (hr:w.heap[r]?=some (.map Zaj 4)) (hv:Zae w wv L) (hs:s.size<=maxLen) :
 Calls prog 259 #[.map (some r),.agg #[.string nm,.int .i64 2,.int .i64 le,.int .i64 mo,wv,.string to,.int .i64 ro,.bool mu,.bool fx,.string df,.string we],.string s] w
  fun e w'=>e=.returned (.bool (ZaN 2 le mo L s))/\Zw_ w w':=by
 have HV:=Zab hv;have HS:=Zab hs;obtain⟨a,n,cap,rfl⟩:=hv.form;have HW:∀ o,Hd (Zw_ w (w.alloc o)):=fun o=>Zb_.alloc Zl_ _
 have hlk:=fun o=>Zdj (w.alloc o) r 2 _ (by rw [(HW o).o.block r (Array.getElem?_eq_some_iff.1 hr).1];exact hr) ZrU
 clear hv hr hs;rw [Zqt];have hm:∀ W:World,(method 467 331 (.agg #[.slice a n cap]) "loop.example/wharfhall/impl.fits").run prog W=.ok (297,.agg #[.slice a n cap]) W:=fun _=>by kernel_rfl
 go_enter func259,ntmps259;go_wp2_with fail;refine (Zsb _ _ _ _ _ _ _ _ _ _ _ _ _ _).mono ?_;rintro e w1 ⟨rfl,hb1⟩;have HB1:Hd (Zw_ w w1):=(HW _).o.trans (hb1.mono (by simp));clear hb1;go_wp2_with fail;refine (Zlu _ _ _ _ _ L (HV.o.below HB1.o)).mono ?_;rintro e w2 ⟨rfl,hb2⟩;have HB2:Hd (Zw_ w w2):=HB1.o.trans (hb2.mono HB1.o.size);clear hb2;go_wp2;go_ret;exact⟨rfl,HB2.o⟩
theorem Zqz (hr:w.heap[r]?=some (.map Zaj 4)) (hv:Zae w wv L) (hs:s.size<=maxLen) :
 Calls prog 259 #[.map (some r),.agg #[.string nm,.int .i64 3,.int .i64 le,.int .i64 mo,wv,.string to,.int .i64 ro,.bool mu,.bool fx,.string df,.string we],.string s] w
  fun e w'=>e=.returned (.bool (ZaN 3 le mo L s))/\Zw_ w w':=by
 have HV:=Zab hv;have HS:=Zab hs;obtain⟨a,n,cap,rfl⟩:=hv.form;have HW:∀ o,Hd (Zw_ w (w.alloc o)):=fun o=>Zb_.alloc Zl_ _
 have hlk:=fun o=>Zdj (w.alloc o) r 3 _ (by rw [(HW o).o.block r (Array.getElem?_eq_some_iff.1 hr).1];exact hr) ZrV
 clear hv hr hs;rw [Zqu];have hm:∀ W:World,(method 467 333 (.agg #[.int .i64 le,.int .i64 mo]) "loop.example/wharfhall/impl.fits").run prog W=.ok (300,.agg #[.int .i64 le,.int .i64 mo]) W:=fun _=>by kernel_rfl
 go_enter func259,ntmps259;go_wp2_with fail;refine (Zsc _ _ _ _ _ _ _ _ _ _ _ _ _ _).mono ?_;rintro e w1 ⟨rfl,hb1⟩;have HB1:Hd (Zw_ w w1):=(HW _).o.trans (hb1.mono (by simp));clear hb1;go_wp2_with fail;refine (ZfP _ _ _ _ HS.o).mono ?_;rintro e w2 ⟨rfl,hb2⟩;have HB2:Hd (Zw_ w w2):=HB1.o.trans (hb2.mono HB1.o.size);clear hb2;go_wp2;go_ret;exact⟨rfl,HB2.o⟩
theorem ZqA (hr:w.heap[r]?=some (.map Zaj 4)) (hv:Zae w wv L) (hs:s.size<=maxLen) :
 Calls prog 259 #[.map (some r),.agg #[.string nm,.int .i64 4,.int .i64 le,.int .i64 mo,wv,.string to,.int .i64 ro,.bool mu,.bool fx,.string df,.string we],.string s] w
  fun e w'=>e=.returned (.bool (ZaN 4 le mo L s))/\Zw_ w w':=by
 have HV:=Zab hv;have HS:=Zab hs;obtain⟨a,n,cap,rfl⟩:=hv.form;have HW:∀ o,Hd (Zw_ w (w.alloc o)):=fun o=>Zb_.alloc Zl_ _
 have hlk:=fun o=>Zdj (w.alloc o) r 4 _ (by rw [(HW o).o.block r (Array.getElem?_eq_some_iff.1 hr).1];exact hr) ZrW
 clear hv hr hs;rw [Zqv];have hm:∀ W:World,(method 467 335 (.agg #[.string to,.int .i64 ro,.bool mu,.string df]) "loop.example/wharfhall/impl.fits").run prog W=.ok (303,.agg #[.string to,.int .i64 ro,.bool mu,.string df]) W:=fun _=>by kernel_rfl
 go_enter func259,ntmps259;go_wp2_with fail;refine (Zsd _ _ _ _ _ _ _ _ _ _ _ _ _ _).mono ?_;rintro e w1 ⟨rfl,hb1⟩;have HB1:Hd (Zw_ w w1):=(HW _).o.trans (hb1.mono (by simp));clear hb1;go_wp2_with fail;refine (Zle _ _ _ _ _ _ HS.o).mono ?_;rintro e w2 ⟨rfl,hb2⟩;have HB2:Hd (Zw_ w w2):=HB1.o.trans (hb2.mono HB1.o.size);clear hb2;go_wp2;go_ret;exact⟨rfl,HB2.o⟩
theorem Zqw (kd:Int) (hr:w.heap[r]?=some (.map Zaj 4)) (hv:Zae w wv L) (h1:kd≠1) (h2:kd≠2) (h3:kd≠3) (h4:kd≠4) :
 Calls prog 259 #[.map (some r),.agg #[.string nm,.int .i64 kd,.int .i64 le,.int .i64 mo,wv,.string to,.int .i64 ro,.bool mu,.bool fx,.string df,.string we],.string s] w
  fun e w'=>e=.returned (.bool (ZaN kd le mo L s))/\Zw_ w w':=by
 obtain⟨a,n,cap,rfl⟩:=hv.form;have HW:∀ o,Hd (Zw_ w (w.alloc o)):=fun o=>Zb_.alloc Zl_ _
 have hlk:∀ o,(Instr.lookup 266 (.map (some r)) (.int .i64 kd) true).run prog (w.alloc o)=.ok (.tuple #[.nilFunc,.bool false]) (w.alloc o):=
  fun o=>Zdj (w.alloc o) r kd _ (by rw [(HW o).o.block r (Array.getElem?_eq_some_iff.1 hr).1];exact hr) (ZrS h1 h2 h3 h4)
 rw [Zqr h1 h2 h3 h4];clear hv hr h1 h2 h3 h4;go_enter func259,ntmps259;go_wp2;go_ret;exact⟨rfl,(HW _).o⟩
theorem ZhA (kd:Int) (hr:w.heap[r]?=some (.map Zaj 4)) (hv:Zae w wv L) (hs:s.size<=maxLen) :
 Calls prog 259 #[.map (some r),.agg #[.string nm,.int .i64 kd,.int .i64 le,.int .i64 mo,wv,.string to,.int .i64 ro,.bool mu,.bool fx,.string df,.string we],.string s] w
  fun e w'=>e=.returned (.bool (ZaN kd le mo L s))/\Zw_ w w':=by
 by_cases h1:kd=1
 . subst h1;exact Zqx nm to df we le mo ro mu fx wv L s w r hr hv hs
 by_cases h2:kd=2
 . subst h2;exact Zqy nm to df we le mo ro mu fx wv L s w r hr hv hs
 by_cases h3:kd=3
 . subst h3;exact Zqz nm to df we le mo ro mu fx wv L s w r hr hv hs
 by_cases h4:kd=4
 . subst h4;exact ZqA nm to df we le mo ro mu fx wv L s w r hr hv hs
 exact Zqw nm to df we le mo ro mu fx wv L s w r kd hr hv h1 h2 h3 h4
theorem Zbp (kd:Int) (hv:Zae w wv L) (hs:s.size<=maxLen) :
 Calls prog 152 #[.agg #[.string nm,.int .i64 kd,.int .i64 le,.int .i64 mo,wv,.string to,.int .i64 ro,.bool mu,.bool fx,.string df,.string we],.string s] w
  fun e w'=>e=.returned (.bool (ZaN kd le mo L s))/\Zw_ w w':=by
 by_cases h1:kd=1
 . subst h1;exact Zob nm to df we le mo ro mu fx wv L s w hv hs
 by_cases h2:kd=2
 . subst h2;exact Zoc nm to df we le mo ro mu fx wv L s w hv hs
 by_cases h3:kd=3
 . subst h3;exact Zod nm to df we le mo ro mu fx wv L s w hv hs
 by_cases h4:kd=4
 . subst h4;exact Zoe nm to df we le mo ro mu fx wv L s w hv hs
 exact Zoa nm to df we le mo ro mu fx wv L s w kd hv h1 h2 h3 h4
end
end
section
open Go.RowKit Go.Deep
section
variable (nm to df we:Zy_) (le mo ro:Int) (mu fx:Bool) (wv:Value) (L:List Zy_) (s:Zy_) (w:World) (r:Nat)
theorem ZfH (u:World) (o:Obj):(u.alloc o).heap[u.heap.size]?=some o:=(MapKept.heap_alloc u _).1
theorem ZfF (kd:Int) (hv:Zae w wv L) (hs:s.size<=maxLen) :
 Calls prog 235 #[.agg #[.string nm,.int .i64 kd,.int .i64 le,.int .i64 mo,wv,.string to,.int .i64 ro,.bool mu,.bool fx,.string df,.string we],.string s] w
  fun e w'=>e=.returned (.bool (ZaN kd le mo L s))/\Zw_ w w':=by
 have HV:=Zab hv;have HS:=Zab hs;obtain⟨a,n,cap,rfl⟩:=hv.form;clear hv hs;have HW:∀ o,Hd (Zw_ w (w.alloc o)):=fun o=>Zb_.alloc Zl_ _
 have hr0:∀ o,Hd ((((w.alloc o).alloc (.map Zaj 4)).drew).heap[w.heap.size+1]?=some (.map Zaj 4)):=fun o=>by
  have:=ZfH (w.alloc o) (.map Zaj 4);rw [World.size_alloc] at this;exact this
 have hbw:∀ o o',Hd (Zw_ w (((w.alloc o).alloc o').drew)):=fun o o'=>((HW o).o.alloc (by simp) o').drew
 go_enter func235,ntmps235;go_wp2
 go_region_with (first
  | (go_at_call 198;refine (Zej _).mono ?_;rintro e w' ⟨rfl,rfl⟩)
  | (go_at_call 259;refine (ZhA _ _ _ _ _ _ _ _ _ _ L _ _ _ _ (hr0 _).o (HV.o.below (hbw _ _).o) HS.o).mono ?_;rintro e w' ⟨rfl,hb⟩;have HB:Hd (Zw_ w w'):=(hbw _ _).o.trans (hb.mono (hbw _ _).o.size);clear hb))
 all_goals go_wp2
 all_goals go_ret
 all_goals exact⟨rfl,HB.o⟩
end
end
section
open Go.RowKit Go.Deep
variable {w w':World} {lo lo':Nat} {v:Value}
structure Fd where
 nm:Zy_
 kd:Int
 le:Int
 mo:Int
 words:List Zy_
 to:Zy_
 ro:Int
 mu:Bool
 fx:Bool
 df:Zy_
 we:Zy_
variable {Fs:List Fd}
structure Zdx (w:World) (b o:Nat) (f:Fd) (wv:Value):Prop where
 c0:w.cell? ⟨b,o,none⟩=some (.string f.nm)
 c1:w.cell? ⟨b,o+1,none⟩=some (.int .i64 f.kd)
 c2:w.cell? ⟨b,o+2,none⟩=some (.int .i64 f.le)
 c3:w.cell? ⟨b,o+3,none⟩=some (.int .i64 f.mo)
 c4:w.cell? ⟨b,o+4,none⟩=some wv
 c5:w.cell? ⟨b,o+5,none⟩=some (.string f.to)
 c6:w.cell? ⟨b,o+6,none⟩=some (.int .i64 f.ro)
 c7:w.cell? ⟨b,o+7,none⟩=some (.bool f.mu)
 c8:w.cell? ⟨b,o+8,none⟩=some (.bool f.fx)
 c9:w.cell? ⟨b,o+9,none⟩=some (.string f.df)
 c10:w.cell? ⟨b,o+10,none⟩=some (.string f.we)
structure Zew (f:Fd):Prop where
 s0:f.nm.size<=maxLen
 s5:f.to.size<=maxLen
 s9:f.df.size<=maxLen
 s10:f.we.size<=maxLen
theorem Zdx.below {b o:Nat}{f:Fd}{wv:Value} (h:Zdx w b o f wv) (hb:Zw_ w w') (hlt:b < w.heap.size):Zdx w' b o f wv:=by
 have e:∀ o,w'.cell? ⟨b,o,none⟩=w.cell? ⟨b,o,none⟩:=fun o=>hb.cell (p:=⟨b,o,none⟩) hlt
 exact⟨by rw [e];exact h.c0,by rw [e];exact h.c1,by rw [e];exact h.c2,by rw [e];exact h.c3,by rw [e];exact h.c4,by rw [e];exact h.c5,by rw [e];exact h.c6,by rw [e];exact h.c7,by rw [e];exact h.c8,by rw [e];exact h.c9,by rw [e];exact h.c10⟩
def ZaU (lo:Nat) (w:World) (v:Value) (Fs:List Fd):Prop:=
 (∃ (a:Option Addr) (cap:Nat),v=.slice a 0 cap/\Fs=[])\/
 ∃ (b off cap:Nat),v=.slice (some ⟨b,off,none⟩) Fs.length cap/\Fs≠[]/\Fs.length<=maxLen/\b < w.heap.size/\lo<=b/\Fs.length<=cap/\
  ∀ i (h:i < Fs.length),Zew Fs[i]/\∃ wv,Zdx w b (off+i*11) Fs[i] wv/\Zas lo w wv Fs[i].words
theorem ZaU.below (h:ZaU lo w v Fs) (hb:Zw_ w w'):ZaU lo w' v Fs:=by
 rcases h with h | ⟨b,off,cap,h1,h2,h3,h4,h5,h6,h7⟩
 . exact Or.inl h
 . refine Or.inr ⟨b,off,cap,h1,h2,h3,Zk_ h4 hb.size,h5,h6,fun i hi=>?_⟩
   obtain⟨hs,wv,hc,hw⟩:=h7 i hi;exact⟨hs,wv,hc.below hb h4,hw.below hb⟩
theorem ZaU.mono (h:ZaU lo w v Fs) (hl:lo'<=lo):ZaU lo' w v Fs:=by
 rcases h with h | ⟨b,off,cap,h1,h2,h3,h4,h5,h6,h7⟩
 . exact Or.inl h
 . refine Or.inr ⟨b,off,cap,h1,h2,h3,h4,Nat.le_trans hl h5,h6,fun i hi=>?_⟩
   obtain⟨hs,wv,hc,hw⟩:=h7 i hi;exact⟨hs,wv,hc,hw.mono hl⟩
theorem ZaU.form (h:ZaU lo w v Fs):∃ a cap,v=.slice a Fs.length cap:=by
 rcases h with ⟨a,cap,h,rfl⟩ | ⟨b,off,cap,h,_⟩
 . exact⟨a,cap,h⟩
 . exact⟨_,cap,h⟩
structure Sh where
 kind:Zy_
 fields:List Fd
variable {Ss:List Sh}
def Zba (lo:Nat) (w:World) (v:Value) (Ss:List Sh):Prop:=
 (∃ (a:Option Addr) (cap:Nat),v=.slice a 0 cap/\Ss=[])\/
 ∃ (b off cap:Nat),v=.slice (some ⟨b,off,none⟩) Ss.length cap/\Ss≠[]/\Ss.length<=maxLen/\b < w.heap.size/\lo<=b/\
  ∀ i (h:i < Ss.length),Ss[i].kind.size<=maxLen/\∃ fv,w.cell? ⟨b,off+i*2,none⟩=some (.string Ss[i].kind)/\w.cell? ⟨b,off+i*2+1,none⟩=some fv/\ZaU lo w fv Ss[i].fields
theorem Zba.below (h:Zba lo w v Ss) (hb:Zw_ w w'):Zba lo w' v Ss:=by
 rcases h with h | ⟨b,off,cap,h1,h2,h3,h4,h5,h7⟩
 . exact Or.inl h
 . refine Or.inr ⟨b,off,cap,h1,h2,h3,Zk_ h4 hb.size,h5,fun i hi=>?_⟩
   obtain⟨hs,fv,hc,hc',hw⟩:=h7 i hi;exact⟨hs,fv,by rw [hb.cell (p:=⟨b,_,none⟩) h4];exact hc,by rw [hb.cell (p:=⟨b,_,none⟩) h4];exact hc',hw.below hb⟩
theorem Zba.mono (h:Zba lo w v Ss) (hl:lo'<=lo):Zba lo' w v Ss:=by
 rcases h with h | ⟨b,off,cap,h1,h2,h3,h4,h5,h7⟩
 . exact Or.inl h
 . refine Or.inr ⟨b,off,cap,h1,h2,h3,h4,Nat.le_trans hl h5,fun i hi=>?_⟩
   obtain⟨hs,fv,hc,hc',hw⟩:=h7 i hi;exact⟨hs,fv,hc,hc',hw.mono hl⟩
theorem Zba.form (h:Zba lo w v Ss):∃ a cap,v=.slice a Ss.length cap:=by
 rcases h with ⟨a,cap,h,rfl⟩ | ⟨b,off,cap,h,_⟩
 . exact⟨a,cap,h⟩
 . exact⟨_,cap,h⟩
end
open Go.RowKit Go.Deep
variable {lo:Nat} {w:World} {v:Value}
theorem Zf9 (h:ZaU lo w v []):∃ a cap,v=.slice a 0 cap:=h.form
theorem ZaU.full {Fs:List Fd} (h:ZaU lo w v Fs) (hne:Fs≠[]):∃ (b off cap:Nat),v=.slice (some ⟨b,off,none⟩) Fs.length cap/\Fs.length<=maxLen/\b < w.heap.size/\Fs.length<=cap/\
 ∀ i (h:i < Fs.length),Zew Fs[i]/\∃ wv,Zdx w b (off+i*11) Fs[i] wv/\Zas lo w wv Fs[i].words:=by
 rcases h with ⟨_,_,_,h⟩ | ⟨b,off,cap,h1,_,h3,h4,_,h6,h7⟩
 . exact absurd h hne
 . exact⟨b,off,cap,h1,h3,h4,h6,h7⟩
theorem Zba.full {Ss:List Sh} (h:Zba lo w v Ss) (hne:Ss≠[]):∃ (b off cap:Nat),v=.slice (some ⟨b,off,none⟩) Ss.length cap/\Ss.length<=maxLen/\b < w.heap.size/\
 ∀ i (h:i < Ss.length),Ss[i].kind.size<=maxLen/\∃ fv,w.cell? ⟨b,off+i*2,none⟩=some (.string Ss[i].kind)/\w.cell? ⟨b,off+i*2+1,none⟩=some fv/\ZaU lo w fv Ss[i].fields:=by
 rcases h with ⟨_,_,_,h⟩ | ⟨b,off,cap,h1,_,h3,h4,_,h7⟩
 . exact absurd h hne
 . exact⟨b,off,cap,h1,h3,h4,h7⟩
end Go.Proofs.YtbdhbihhgfpnnaaGreat
