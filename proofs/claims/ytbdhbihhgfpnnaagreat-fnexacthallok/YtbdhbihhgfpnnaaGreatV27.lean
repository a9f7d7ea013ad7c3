import Derived.Test.YtbdhbihhgfpnnaaGreatV25
import Derived.Lib.SliceRun
import Derived.Deep.RegionLaw
import Derived.Deep.RegionHeldLaw
set_option maxHeartbeats 16000000
set_option maxRecDepth 100000
open Go.Proofs.Tryz
namespace Go.Proofs.YtbdhbihhgfpnnaaGreat
open Go.RowKit Go.Deep
section
variable {lo hi n:Int}
theorem ZnM (h:inB lo hi n=true):lo<=n:=by unfold inB at h;simp at h;exact h.1
theorem ZnK (h:inB lo hi n=true):n<=hi:=by unfold inB at h;simp at h;exact h.2
def nmB (s:Zy_):Bool:=inB 1 20 s.size&&Zey Zam s
def Zsi (x:Sv):Bool:=if x.pr == 0 then (x.ls == 0)&&((x.ms == 0)&&((x.ld == 0)&&(x.cl == 0))) else inB 0 1000000 x.pr&&(inB 0 1000000 x.ld&&(inB 0 10 x.ls&&(inB x.ls 10 x.ms&&inB 0 3 x.cl)))
def svB (now:Int) (x:Sv):Bool:=(nmB x.nm&&(inB 1 now x.ve&&(inB 1 1000000 x.im&&(inB 1 1000000 x.nx&&(inB 0 10 x.wa&&(inB 0 10 x.dn&&(inB 0 10 x.ov&&(!(x.dn+x.ov == 0)&&Zsi x))))))))
end
theorem ZaP (n lo hi:Int) (w:World) :
 Calls prog 51 #[.int .i64 n,.int .i64 lo,.int .i64 hi] w fun e w'=>e=.returned (.bool (inB lo hi n))/\w'=w:=by
 rw [Ze9]
 by_cases h1:lo<=n
 . by_cases h2:n<=hi
   all_goals
    go_enter func51,ntmps51;go_wp2;go_ret;exact⟨Zaa (by simp [h1,h2]),rfl⟩
 . go_enter func51,ntmps51
   go_wp2;go_ret;refine⟨Zaa ?_,rfl⟩;rw [Bool.eq_iff_iff];simp;omega
theorem Zau (s:Zy_) (w:World) (hs:s.size<=maxLen) :
 Calls prog 53 #[.string s] w fun e w'=>e=.returned (.bool (nmB s))/\w'=w:=by
 unfold maxLen at hs
 by_cases h1:inB 1 20 s.size=true
 . have HB:Hd (nmB s=Zey Zam s):=by unfold Hd nmB;simp [h1]
   go_enter func53,ntmps53;go_wp2_with (go_at_call 51;refine (ZaP _ _ _ _).mono ?_;rintro e w' ⟨rfl,rfl⟩)
   go_loop [3] (fun i=>∃ k:Nat,k<=s.size/\i=.int .i64 k/\(s.data.toList.take k).all Zam=true) (fun i=>s.size - (intOf i).toNat)
   case atStart=>exact⟨0,Nat.zero_le _,rfl,rfl⟩
   case round=>
    obtain⟨k,hk,rfl,hall⟩:=hrel;have HA:Hd ((s.data.toList.take k).all Zam=true):=hall;clear hall
    by_cases hlt:k < s.size
    . have HYES:Hd (Zam s[k]=true->(s.data.toList.take (k+1)).all Zam=true):=fun h=>ZbH HA.o hlt h
      have HNO:Hd (Zam s[k]=false->nmB s=false):=fun h=>by rw [HB.o,ZbI hlt h]
      have HIF:Hd (Zam s[k]=true↔_):=ZfJ s[k]
      have HNF:Hd (∀ {p:Prop},(Zam s[k]=true↔p)->¬p->Zam s[k]=false):=fun h hp=>by
       cases hq:Zam s[k] with
       | false=>rfl
       | true=>exact absurd (h.1 hq) hp
      by_cases b1:97<=(s[k].toNat:Int)
      . by_cases b2:(s[k].toNat:Int)<=122
        . have HS:=Zab (HYES.o (HIF.o.2 (by omega)))
          go_wp2
          go_round
          . exact⟨k+1,by omega,by go_num,HS.o⟩
          . simp [intOf];omega
        . have b3:48<=(s[k].toNat:Int):=by omega
          have b4:¬(s[k].toNat:Int)<=57:=by omega
          have b5:((s[k].toNat:Int) == 45)=false:=by rw [beq_eq_false_iff_ne];omega
          have HS:=Zab (HNO.o (HNF.o HIF.o (by omega)));go_wp2;go_ret;exact⟨Zaa HS.o.symm,rfl⟩
      . by_cases b3:48<=(s[k].toNat:Int)
        . by_cases b4:(s[k].toNat:Int)<=57
          . have HS:=Zab (HYES.o (HIF.o.2 (by omega)))
            go_wp2
            go_round
            . exact⟨k+1,by omega,by go_num,HS.o⟩
            . simp [intOf];omega
          . have b5:((s[k].toNat:Int) == 45)=false:=by rw [beq_eq_false_iff_ne];omega
            have HS:=Zab (HNO.o (HNF.o HIF.o (by omega)));go_wp2;go_ret;exact⟨Zaa HS.o.symm,rfl⟩
        . by_cases b5:(s[k].toNat:Int)=45
          . have HS:=Zab (HYES.o (HIF.o.2 (by omega)))
            have b6:((s[k].toNat:Int) == 45)=true:=by rw [beq_iff_eq];exact b5
            clear b5;go_wp2
            go_round
            . exact⟨k+1,by omega,by go_num,HS.o⟩
            . simp [intOf];omega
          . have HS:=Zab (HNO.o (HNF.o HIF.o (by omega)))
            have b6:((s[k].toNat:Int) == 45)=false:=by rw [beq_eq_false_iff_ne];exact b5
            go_wp2;go_ret;exact⟨Zaa HS.o.symm,rfl⟩
    . go_wp2
      go_ret;exact⟨Zaa (by rw [HB.o,Zco HA.o (by omega)]),rfl⟩
 . have h1':inB 1 20 s.size=false:=by simpa using h1
   have HB:Hd (nmB s=false):=by unfold Hd nmB;simp [h1']
   go_enter func53,ntmps53;go_wp2_with (go_at_call 51;refine (ZaP _ _ _ _).mono ?_;rintro e w' ⟨rfl,rfl⟩);go_ret;exact⟨Zaa HB.o.symm,rfl⟩
theorem Zbi (x:Sv) (now:Int) (w:World) (hz:ZdV x) :
 Calls prog 52 #[.agg #[.string x.nm,.int .i64 x.ve,.bool x.gn,.int .i64 x.im,.int .i64 x.wa,.int .i64 x.dn,.int .i64 x.ov,.int .i64 x.nx,.int .i64 x.pr,.int .i64 x.ls,.int .i64 x.ms,.int .i64 x.ld,.int .i64 x.cl],.int .i64 now] w fun e w'=>e=.returned (.bool (svB now x))/\Zw_ w w':=by
 have HI:Hd (svB now x=((nmB x.nm&&(inB 1 now x.ve&&(inB 1 1000000 x.im&&(inB 1 1000000 x.nx&&(inB 0 10 x.wa&&(inB 0 10 x.dn&&(inB 0 10 x.ov&&(!(x.dn+x.ov == 0)&&Zsi x)))))))))):=rfl;have s0:=hz.s0;have HO:∀ o,Hd (Zw_ w (w.alloc o)):=fun o=>Zac w o
 go_enter func52,ntmps52
 cases h0:nmB x.nm with
 | false=>
  have HE:Hd (svB now x=false):=by unfold Hd;rw [HI.o,h0];rfl
  go_wp2_with (first|(go_at_call 51;refine (ZaP _ _ _ _).mono ?_;rintro e w' ⟨rfl,rfl⟩)|(go_at_call 53;refine (Zau _ _ (by with_reducible assumption)).mono ?_;rintro e w' ⟨rfl,rfl⟩));go_ret;exact⟨Zaa HE.o.symm,(HO _).o⟩
 | true=>
 cases h1:inB 1 now x.ve with
 | false=>
  have HE:Hd (svB now x=false):=by unfold Hd;rw [HI.o,h0,h1];rfl
  go_wp2_with (first|(go_at_call 51;refine (ZaP _ _ _ _).mono ?_;rintro e w' ⟨rfl,rfl⟩)|(go_at_call 53;refine (Zau _ _ (by with_reducible assumption)).mono ?_;rintro e w' ⟨rfl,rfl⟩));go_ret;exact⟨Zaa HE.o.symm,(HO _).o⟩
 | true=>
 cases h2:inB 1 1000000 x.im with
 | false=>
  have HE:Hd (svB now x=false):=by unfold Hd;rw [HI.o,h0,h1,h2];rfl
  go_wp2_with (first|(go_at_call 51;refine (ZaP _ _ _ _).mono ?_;rintro e w' ⟨rfl,rfl⟩)|(go_at_call 53;refine (Zau _ _ (by with_reducible assumption)).mono ?_;rintro e w' ⟨rfl,rfl⟩));go_ret;exact⟨Zaa HE.o.symm,(HO _).o⟩
 | true=>
 cases h3:inB 1 1000000 x.nx with
 | false=>
  have HE:Hd (svB now x=false):=by unfold Hd;rw [HI.o,h0,h1,h2,h3];rfl
  go_wp2_with (first|(go_at_call 51;refine (ZaP _ _ _ _).mono ?_;rintro e w' ⟨rfl,rfl⟩)|(go_at_call 53;refine (Zau _ _ (by with_reducible assumption)).mono ?_;rintro e w' ⟨rfl,rfl⟩));go_ret;exact⟨Zaa HE.o.symm,(HO _).o⟩
 | true=>
 cases h4:inB 0 10 x.wa with
 | false=>
  have HE:Hd (svB now x=false):=by unfold Hd;rw [HI.o,h0,h1,h2,h3,h4];rfl
  go_wp2_with (first|(go_at_call 51;refine (ZaP _ _ _ _).mono ?_;rintro e w' ⟨rfl,rfl⟩)|(go_at_call 53;refine (Zau _ _ (by with_reducible assumption)).mono ?_;rintro e w' ⟨rfl,rfl⟩));go_ret;exact⟨Zaa HE.o.symm,(HO _).o⟩
 | true=>
 cases h5:inB 0 10 x.dn with
 | false=>
  have HE:Hd (svB now x=false):=by unfold Hd;rw [HI.o,h0,h1,h2,h3,h4,h5];rfl
  go_wp2_with (first|(go_at_call 51;refine (ZaP _ _ _ _).mono ?_;rintro e w' ⟨rfl,rfl⟩)|(go_at_call 53;refine (Zau _ _ (by with_reducible assumption)).mono ?_;rintro e w' ⟨rfl,rfl⟩));go_ret;exact⟨Zaa HE.o.symm,(HO _).o⟩
 | true=>
 cases h6:inB 0 10 x.ov with
 | false=>
  have HE:Hd (svB now x=false):=by unfold Hd;rw [HI.o,h0,h1,h2,h3,h4,h5,h6];rfl
  go_wp2_with (first|(go_at_call 51;refine (ZaP _ _ _ _).mono ?_;rintro e w' ⟨rfl,rfl⟩)|(go_at_call 53;refine (Zau _ _ (by with_reducible assumption)).mono ?_;rintro e w' ⟨rfl,rfl⟩));go_ret;exact⟨Zaa HE.o.symm,(HO _).o⟩
 | true=>
 have hw:IntKind.i64.wrap (x.dn+x.ov)=x.dn+x.ov:=by
  have:=ZnM h5;have:=ZnK h5;have:=ZnM h6;have:=ZnK h6;rw [IntWalk.i64_left];unfold wrap64;omega
 cases h7:(x.dn+x.ov == 0) with
 | true=>
  have HE:Hd (svB now x=false):=by unfold Hd;rw [HI.o,h0,h1,h2,h3,h4,h5,h6,h7];rfl
  go_wp2_with (first|(go_at_call 51;refine (ZaP _ _ _ _).mono ?_;rintro e w' ⟨rfl,rfl⟩)|(go_at_call 53;refine (Zau _ _ (by with_reducible assumption)).mono ?_;rintro e w' ⟨rfl,rfl⟩));go_ret;exact⟨Zaa HE.o.symm,(HO _).o⟩
 | false=>
 have HE:Hd (svB now x=Zsi x):=by unfold Hd;rw [HI.o,h0,h1,h2,h3,h4,h5,h6,h7];rfl
 have HP:Hd (Zsi x=if x.pr == 0 then _ else _):=rfl
 cases h8:(x.pr == 0) with
 | true=>
  have HP2:Hd (svB now x=((x.ls == 0)&&((x.ms == 0)&&((x.ld == 0)&&(x.cl == 0))))):=by unfold Hd;rw [HE.o,HP.o,h8];rfl
  have HEZ:∀ o,Hd (Zw_ w (w.alloc o)):=HO
  cases p0:(x.ls == 0) with
  | false=>
   have HF:Hd (svB now x=false):=by unfold Hd;rw [HP2.o,p0];rfl
   go_wp2_with (first|(go_at_call 51;refine (ZaP _ _ _ _).mono ?_;rintro e w' ⟨rfl,rfl⟩)|(go_at_call 53;refine (Zau _ _ (by with_reducible assumption)).mono ?_;rintro e w' ⟨rfl,rfl⟩));go_ret;exact⟨Zaa HF.o.symm,(HO _).o⟩
  | true=>
  cases p1:(x.ms == 0) with
  | false=>
   have HF:Hd (svB now x=false):=by unfold Hd;rw [HP2.o,p0,p1];rfl
   go_wp2_with (first|(go_at_call 51;refine (ZaP _ _ _ _).mono ?_;rintro e w' ⟨rfl,rfl⟩)|(go_at_call 53;refine (Zau _ _ (by with_reducible assumption)).mono ?_;rintro e w' ⟨rfl,rfl⟩));go_ret;exact⟨Zaa HF.o.symm,(HO _).o⟩
  | true=>
  cases p2:(x.ld == 0) with
  | false=>
   have HF:Hd (svB now x=false):=by unfold Hd;rw [HP2.o,p0,p1,p2];rfl
   go_wp2_with (first|(go_at_call 51;refine (ZaP _ _ _ _).mono ?_;rintro e w' ⟨rfl,rfl⟩)|(go_at_call 53;refine (Zau _ _ (by with_reducible assumption)).mono ?_;rintro e w' ⟨rfl,rfl⟩));go_ret;exact⟨Zaa HF.o.symm,(HO _).o⟩
  | true=>
  have HF:Hd (svB now x=(x.cl == 0)):=by unfold Hd;rw [HP2.o,p0,p1,p2];rfl
  go_wp2_with (first|(go_at_call 51;refine (ZaP _ _ _ _).mono ?_;rintro e w' ⟨rfl,rfl⟩)|(go_at_call 53;refine (Zau _ _ (by with_reducible assumption)).mono ?_;rintro e w' ⟨rfl,rfl⟩));go_ret;exact⟨Zaa HF.o.symm,(HO _).o⟩
 | false=>
  have HP2:Hd (svB now x=(inB 0 1000000 x.pr&&(inB 0 1000000 x.ld&&(inB 0 10 x.ls&&(inB x.ls 10 x.ms&&inB 0 3 x.cl))))):=by unfold Hd;rw [HE.o,HP.o,h8];rfl
  cases p0:inB 0 1000000 x.pr with
  | false=>
   have HF:Hd (svB now x=false):=by unfold Hd;rw [HP2.o,p0];rfl
   go_wp2_with (first|(go_at_call 51;refine (ZaP _ _ _ _).mono ?_;rintro e w' ⟨rfl,rfl⟩)|(go_at_call 53;refine (Zau _ _ (by with_reducible assumption)).mono ?_;rintro e w' ⟨rfl,rfl⟩));go_ret;exact⟨Zaa HF.o.symm,(HO _).o⟩
  | true=>
  cases p1:inB 0 1000000 x.ld with
  | false=>
   have HF:Hd (svB now x=false):=by unfold Hd;rw [HP2.o,p0,p1];rfl
   go_wp2_with (first|(go_at_call 51;refine (ZaP _ _ _ _).mono ?_;rintro e w' ⟨rfl,rfl⟩)|(go_at_call 53;refine (Zau _ _ (by with_reducible assumption)).mono ?_;rintro e w' ⟨rfl,rfl⟩));go_ret;exact⟨Zaa HF.o.symm,(HO _).o⟩
  | true=>
  cases p2:inB 0 10 x.ls with
  | false=>
   have HF:Hd (svB now x=false):=by unfold Hd;rw [HP2.o,p0,p1,p2];rfl
   go_wp2_with (first|(go_at_call 51;refine (ZaP _ _ _ _).mono ?_;rintro e w' ⟨rfl,rfl⟩)|(go_at_call 53;refine (Zau _ _ (by with_reducible assumption)).mono ?_;rintro e w' ⟨rfl,rfl⟩));go_ret;exact⟨Zaa HF.o.symm,(HO _).o⟩
  | true=>
  cases p3:inB x.ls 10 x.ms with
  | false=>
   have HF:Hd (svB now x=false):=by unfold Hd;rw [HP2.o,p0,p1,p2,p3];rfl
   go_wp2_with (first|(go_at_call 51;refine (ZaP _ _ _ _).mono ?_;rintro e w' ⟨rfl,rfl⟩)|(go_at_call 53;refine (Zau _ _ (by with_reducible assumption)).mono ?_;rintro e w' ⟨rfl,rfl⟩));go_ret;exact⟨Zaa HF.o.symm,(HO _).o⟩
  | true=>
  have HF:Hd (svB now x=inB 0 3 x.cl):=by unfold Hd;rw [HP2.o,p0,p1,p2,p3];rfl
  go_wp2_with (first|(go_at_call 51;refine (ZaP _ _ _ _).mono ?_;rintro e w' ⟨rfl,rfl⟩)|(go_at_call 53;refine (Zau _ _ (by with_reducible assumption)).mono ?_;rintro e w' ⟨rfl,rfl⟩));go_ret;exact⟨Zaa HF.o.symm,(HO _).o⟩
theorem Zaw.ofBelow {m:Nat}{w w':World} (h:Below m w w'):Zaw m w.heap.size w w':=⟨h.os,h.tape,h.output,h.size,fun k hk ho=>h.block k (by omega)⟩
end Go.Proofs.YtbdhbihhgfpnnaaGreat
