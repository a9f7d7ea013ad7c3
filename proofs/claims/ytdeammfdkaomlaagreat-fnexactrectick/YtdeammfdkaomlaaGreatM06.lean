import Derived.Test.YtdeammfdkaomlaaGreatM03
import Derived.Test.YtdeammfdkaomlaaGreatM05
open Go.Proofs.Tryz
namespace Go.Proofs.YtdeammfdkaomlaaGreat
open Go.RowKit Go.Deep
variable {lo hi:Nat} {w:World} {v:Value} {Xl:List Rs}
theorem Zap.wide {lo' hi':Nat} (h:Zap lo hi w v Xl) (h1:lo'<=lo) (h2:hi<=hi'):Zap lo' hi' w v Xl:=by
 rcases h with h | ⟨b,off,cap,c,X,e1,e2,e3,e4,e5,e6⟩
 . exact Or.inl h
 . exact Or.inr ⟨b,off,cap,c,X,e1,e2,e3,e4,e5,⟨e6.lt,Nat.le_trans h1 e6.low,e6.bc,Zk_ e6.bh h2,e6.mono,Nat.le_trans e6.top h2,e6.frz,e6.row⟩⟩
theorem Zap.set (h:Zap lo hi w v Xl) {p:Addr} (hp:p.block < lo) (u:Value):Zap lo hi (w.setCell p u) v Xl:=h.touch (Zad.setCell p.block (p.block+1) w p u ⟨Nat.le_refl _,Nat.lt_succ_self _⟩) (Or.inr hp)
theorem Zbm.set {Xl:List Rm} (h:Zbm lo hi w v Xl) {p:Addr} (hp:p.block < lo) (u:Value):Zbm lo hi (w.setCell p u) v Xl:=h.touch (Zad.setCell p.block (p.block+1) w p u ⟨Nat.le_refl _,Nat.lt_succ_self _⟩) (Or.inr hp)
theorem ZbV.set {Xl:List Ra} (h:ZbV lo hi w v Xl) {p:Addr} (hp:p.block < lo) (u:Value):ZbV lo hi (w.setCell p u) v Xl:=h.touch (Zad.setCell p.block (p.block+1) w p u ⟨Nat.le_refl _,Nat.lt_succ_self _⟩) (Or.inr hp)
theorem ZaX.set {Xl:List Zy_} (h:ZaX lo hi w v Xl) {p:Addr} (hp:p.block < lo) (u:Value):ZaX lo hi (w.setCell p u) v Xl:=h.touch (Zad.setCell p.block (p.block+1) w p u ⟨Nat.le_refl _,Nat.lt_succ_self _⟩) (Or.inr hp)
theorem ZaD.set {Xl:List Int} (h:ZaD lo hi w v Xl) {p:Addr} (hp:p.block < lo) (u:Value):ZaD lo hi (w.setCell p u) v Xl:=h.touch (Zad.setCell p.block (p.block+1) w p u ⟨Nat.le_refl _,Nat.lt_succ_self _⟩) (Or.inr hp)
end Go.Proofs.YtdeammfdkaomlaaGreat
