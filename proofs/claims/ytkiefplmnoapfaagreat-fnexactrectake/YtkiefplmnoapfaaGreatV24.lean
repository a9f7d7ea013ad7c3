import Derived.Test.YtkiefplmnoapfaaGreatV18
import Derived.Test.YtkiefplmnoapfaaGreatV19
set_option maxHeartbeats 16000000
set_option maxRecDepth 100000
open Go.Proofs.Tryz
namespace Go.Proofs.YtkiefplmnoapfaaGreat
open Go.RowKit Go.Deep
def nwL (n of:Int) (up:Bool):List Value:=[.int .i64 n,.int .i64 of,.bool up,.int .i64 0,.int .i64 0,.slice none 0 0,.int .i64 0,.int .i64 0,.slice none 0 0,.slice none 0 0,.slice none 0 0,.bool false,.bool false,.int .i64 0,.slice none 0 0,.slice none 0 0,.slice none 0 0,.int .i64 0]
def nwU (n of:Int) (up:Bool):Rr:=⟨n,of,up,⟨0,0,[]⟩,⟨0,0,[]⟩,[],[],false,false,0,[],[],[],0⟩
theorem ZcA (lo:Nat) (cs:List Value) (M:Rm) (of:Int) (w:World) (h:RmC lo w cs M) :
 Calls prog 40 #[.agg cs.toArray,.int .i64 of] w fun e w'=>e=.returned (.bool (ZcK M of))/\Zw_ w w':=by
 obtain⟨a0,k0,rfl,h⟩:=h
 show Calls prog 40 #[.agg #[.int .i64 M.kd,.int .i64 M.fr,.int .i64 M.tt,.int .i64 M.ba,.int .i64 M.ix,.int .i64 M.kn,.string M.tx,.slice a0 M.sl.length k0],.int .i64 of] w _
 have HK:=Zaa h;have hs:=h.s0;unfold maxLen at hs;clear h
 have HI:Hd (ZcK M of=(inB 1 9 M.kd&&(inB 1 of M.fr&&(inB 1 of M.tt&&(inB 0 1000000 M.ba&&(inB 0 120 M.ix&&(inB 0 120 M.kn&&(decide ((M.tx.size:Int)<=160)&&(ZaT M.sl))))))))):=by
  unfold Hd ZcK;have:decide (M.tx.size<=160)=decide ((M.tx.size:Int)<=160):=by rw [decide_eq_decide];omega
  rw [this]
 have HO:∀ o,Hd (Zw_ w (w.alloc o)):=fun o=>Zab w o
 go_enter func40,ntmps40
 cases h0:inB 1 9 M.kd with
 | false=>
  have HE:Hd (ZcK M of=false):=by unfold Hd;rw [HI.o,h0];rfl
  go_wp2_with (first
   | (go_at_call 89;refine (Zah _ _ _ _).mono ?_;rintro e w' ⟨rfl,rfl⟩)
   | (go_at_call 91;refine (Zau lo _ M.sl _ (HK.o.below (HO _).o).l0).mono ?_;rintro e w1 ⟨rfl,hb1⟩;have HB1:=Zaa hb1;clear hb1))
  go_ret;exact⟨Zac HE.o.symm,(HO _).o⟩
 | true=>
 cases h1:inB 1 of M.fr with
 | false=>
  have HE:Hd (ZcK M of=false):=by unfold Hd;rw [HI.o,h0,h1];rfl
  go_wp2_with (first
   | (go_at_call 89;refine (Zah _ _ _ _).mono ?_;rintro e w' ⟨rfl,rfl⟩)
   | (go_at_call 91;refine (Zau lo _ M.sl _ (HK.o.below (HO _).o).l0).mono ?_;rintro e w1 ⟨rfl,hb1⟩;have HB1:=Zaa hb1;clear hb1))
  go_ret;exact⟨Zac HE.o.symm,(HO _).o⟩
 | true=>
 cases h2:inB 1 of M.tt with
 | false=>
  have HE:Hd (ZcK M of=false):=by unfold Hd;rw [HI.o,h0,h1,h2];rfl
  go_wp2_with (first
   | (go_at_call 89;refine (Zah _ _ _ _).mono ?_;rintro e w' ⟨rfl,rfl⟩)
   | (go_at_call 91;refine (Zau lo _ M.sl _ (HK.o.below (HO _).o).l0).mono ?_;rintro e w1 ⟨rfl,hb1⟩;have HB1:=Zaa hb1;clear hb1))
  go_ret;exact⟨Zac HE.o.symm,(HO _).o⟩
 | true=>
 cases h3:inB 0 1000000 M.ba with
 | false=>
  have HE:Hd (ZcK M of=false):=by unfold Hd;rw [HI.o,h0,h1,h2,h3];rfl
  go_wp2_with (first
   | (go_at_call 89;refine (Zah _ _ _ _).mono ?_;rintro e w' ⟨rfl,rfl⟩)
   | (go_at_call 91;refine (Zau lo _ M.sl _ (HK.o.below (HO _).o).l0).mono ?_;rintro e w1 ⟨rfl,hb1⟩;have HB1:=Zaa hb1;clear hb1))
  go_ret;exact⟨Zac HE.o.symm,(HO _).o⟩
 | true=>
 cases h4:inB 0 120 M.ix with
 | false=>
  have HE:Hd (ZcK M of=false):=by unfold Hd;rw [HI.o,h0,h1,h2,h3,h4];rfl
  go_wp2_with (first
   | (go_at_call 89;refine (Zah _ _ _ _).mono ?_;rintro e w' ⟨rfl,rfl⟩)
   | (go_at_call 91;refine (Zau lo _ M.sl _ (HK.o.below (HO _).o).l0).mono ?_;rintro e w1 ⟨rfl,hb1⟩;have HB1:=Zaa hb1;clear hb1))
  go_ret;exact⟨Zac HE.o.symm,(HO _).o⟩
 | true=>
 cases h5:inB 0 120 M.kn with
 | false=>
  have HE:Hd (ZcK M of=false):=by unfold Hd;rw [HI.o,h0,h1,h2,h3,h4,h5];rfl
  go_wp2_with (first
   | (go_at_call 89;refine (Zah _ _ _ _).mono ?_;rintro e w' ⟨rfl,rfl⟩)
   | (go_at_call 91;refine (Zau lo _ M.sl _ (HK.o.below (HO _).o).l0).mono ?_;rintro e w1 ⟨rfl,hb1⟩;have HB1:=Zaa hb1;clear hb1))
  go_ret;exact⟨Zac HE.o.symm,(HO _).o⟩
 | true=>
 cases h6:decide ((M.tx.size:Int)<=160) with
 | false=>
  have HE:Hd (ZcK M of=false):=by unfold Hd;rw [HI.o,h0,h1,h2,h3,h4,h5,h6];rfl
  go_wp2_with (first
   | (go_at_call 89;refine (Zah _ _ _ _).mono ?_;rintro e w' ⟨rfl,rfl⟩)
   | (go_at_call 91;refine (Zau lo _ M.sl _ (HK.o.below (HO _).o).l0).mono ?_;rintro e w1 ⟨rfl,hb1⟩;have HB1:=Zaa hb1;clear hb1))
  go_ret;exact⟨Zac HE.o.symm,(HO _).o⟩
 | true=>
 have HE:Hd (ZcK M of=ZaT M.sl):=by unfold Hd;rw [HI.o,h0,h1,h2,h3,h4,h5,h6];rfl
 go_wp2_with (first
  | (go_at_call 89;refine (Zah _ _ _ _).mono ?_;rintro e w' ⟨rfl,rfl⟩)
  | (go_at_call 91;refine (Zau lo _ M.sl _ (HK.o.below (HO _).o).l0).mono ?_;rintro e w1 ⟨rfl,hb1⟩;have HB1:=Zaa hb1;clear hb1))
 go_ret;exact⟨Zac HE.o.symm,bt (HO _).o HB1.o⟩
end Go.Proofs.YtkiefplmnoapfaaGreat
