import Derived.Test.YtcfjmagkinpaeaaGreatGAK
import Derived.Test.YtcfjmagkinpaeaaGreatGHA
import Derived.Test.YtcfjmagkinpaeaaGreatGOPB
import Derived.Handy
set_option maxHeartbeats 16000000
set_option maxRecDepth 100000
open Go.Proofs.Tryz
namespace Go.Proofs.YtcfjmagkinpaeaaGreat
open Go.RowKit Go.Deep
def Zs3 (n:Nat) (rk rt rp:Zy_):Bool:=decide (n=0)&&rk.toList.isEmpty&&rt.toList.isEmpty&&rp.toList.isEmpty
def noB (kd nm tm:Zy_) (n0 n1:Nat) (seen:Int) (hold tw:Zy_) (n2:Nat) (rk rt rp:Zy_) (num:Int):Bool:=
 kd.toList.isEmpty&&nm.toList.isEmpty&&tm.toList.isEmpty&&decide (n0=0)&&decide (n1=0)&&decide (seen=0)&&hold.toList.isEmpty&&tw.toList.isEmpty&&Zs3 n2 rk rt rp&&decide (num=0)
theorem Zer (n:Nat):((n:Int) == 0)=decide (n=0):=by
 by_cases h:n=0
 · subst h;rfl
 · rw [decide_eq_false h];simp;omega
theorem Zfi (n:Int):(n == 0)=decide (n=0):=by
 by_cases h:n=0
 · subst h;rfl
 · rw [decide_eq_false h];simp;omega
theorem Zf2 (a:Option Addr) (n c:Nat) (rk rt rp:Zy_) (w:World) :
 Calls prog 255 #[.agg #[.slice a n c,.string rk,.string rt,.string rp]] w fun e w'=>e=.returned (.bool (Zs3 n rk rt rp))∧Zw_ w w':=by
 have hz:=Zer n;go_enter func255,ntmps255;go_wp2
 all_goals go_ret
 all_goals exact⟨Zaa (by simp_all [Zs3]),Zac _ _⟩
section
variable (who:Zy_) (verb:Int) (kd nm tm:Zy_) (a0:Option Addr) (n0 k0:Nat) (a1:Option Addr) (n1 k1:Nat) (seen:Int) (hold tw:Zy_) (a2:Option Addr) (n2 k2:Nat) (rk rt rp:Zy_) (num:Int) (w:World)
theorem Zbq :
 Calls prog 243 #[.agg #[.string who,.int .i64 verb,.string kd,.string nm,.string tm,.slice a0 n0 k0,.slice a1 n1 k1,.int .i64 seen,.string hold,.string tw,.slice a2 n2 k2,.string rk,.string rt,.string rp,.int .i64 num]] w
  fun e w'=>e=.returned (.bool (noB kd nm tm n0 n1 seen hold tw n2 rk rt rp num))∧Zw_ w w':=by
 have hz0:=Zer n0;have hz1:=Zer n1;have hz2:=Zfi seen;have hz3:=Zfi num;go_enter func243,ntmps243;go_wp2_with (go_at_call 255;refine (Zf2 _ _ _ _ _ _ _).mono ?_;rintro e w1 ⟨rfl,hb1⟩;have HB1:Hid (Zw_ w w1):=(Zac _ _).trans (hb1.mono (by simp));have c14:w1.cell? ⟨w.heap.size,14,none⟩=some (.int .i64 num):=(hb1.cell (p:=⟨w.heap.size,14,none⟩) (by simp)).trans (by simp);clear hb1)
 all_goals go_ret
 all_goals first | exact⟨Zaa (by simp_all [noB]),HB1.out⟩ | exact⟨Zaa (by simp_all [noB]),Zac _ _⟩
theorem ZbN :
 Calls prog 165 #[.agg #[.string who,.int .i64 verb,.string kd,.string nm,.string tm,.slice a0 n0 k0,.slice a1 n1 k1,.int .i64 seen,.string hold,.string tw,.slice a2 n2 k2,.string rk,.string rt,.string rp,.int .i64 num]] w
  fun e w'=>e=.returned (.bool (noB kd nm tm n0 n1 seen hold tw n2 rk rt rp num))∧Zw_ w w':=by
 have hz0:=Zer n0;have hz1:=Zer n1;have hz2:=Zfi seen;have hz3:=Zfi num;have hz4:=Zer n2;go_enter func165,ntmps165;go_wp2
 all_goals go_ret
 all_goals exact⟨Zaa (by simp_all [noB,Zs3]),Zac _ _⟩
end
end Go.Proofs.YtcfjmagkinpaeaaGreat
