import Derived.Test.YtkiefplmnoapfaaGreatRows
import Derived.WalkKit
import Derived.WalkSpells
import Derived.WalkLawsBesides
import Derived.Deep.QuietTactic
import Derived.BigQuiet
import Derived.Deep.OwnRows
import Derived.Deep.RegionWith
import Derived.Deep.RegionHeld3
open Go.Proofs.Tryz
namespace Go.Proofs.YtkiefplmnoapfaaGreat
open Go.RowKit Go.Deep
variable {n β k:Nat} {w w':World} {cs:Array Value}
theorem Zl_:n<=n:=Nat.le_refl n
theorem Zb_{n:Nat}:Below n w w:=Below.refl n w
theorem Zz_:0<=n:=Nat.zero_le n
theorem Zk_ {a b c:Nat}(h:a<b)(k:b<=c):a<c:=Nat.lt_of_lt_of_le h k
abbrev Zy_:=ByteArray
@[simp] abbrev Zw_(w w_1:World):Prop:=Below w.heap.size w w_1
theorem sLs {α:Type}:(∀ (l:List α) (i:Nat) (h:i < l.toArray.size),l.toArray[i]=l[i]'(by simpa using h))/\(∀ (a:α) (l:List α) (i:Nat) (h:i+1 < (a :: l).length),(a :: l)[i+1]=l[i]'(by simpa using h))/\(∀ (a:α) (l:List α) (h:0 < (a :: l).length),(a :: l)[0]=a)/\(∀ (l:List α) (i:Nat) (a:α),l.toArray.setIfInBounds i a=(l.set i a).toArray)/\(∀ (a b:α) (l:List α),(a :: l).set 0 b=b :: l)/\(∀ (a b:α) (l:List α) (i:Nat),(a :: l).set (i+1) b=a :: l.set i b):=
 ⟨fun _ _ _=>rfl,fun _ _ _ _=>rfl,fun _ _ _=>rfl,fun _ _ _=>by simp,fun _ _ _=>rfl,fun _ _ _ _=>rfl⟩
theorem tH {P:Program}{ops:Array Oper}{Q:Exit->Act->World->Prop}{md:Region.Mode}{S:World->Prop} (i:Nat) (v:Value) {oi:Oper} {fuel:Nat} {listed:Array Bool} {a:Act} {w:World} (hi:ops[i]?=some oi) (hS:S w)
 (h:wpAnyH P md ops Q S fuel (listed.setIfInBounds i true) (a.put oi.dst v) w)
 (hs:Region.noSelect ops=true:=by kernel_rfl) (hf:Region.free md ops listed i=true:=by kernel_rfl) (hr:(Region.ready md ops listed).contains i=true:=by kernel_rfl)
 (hQ:∀ c a w,Q (.panic c) (a.put oi.dst v) w->Q (.panic c) a w:=by exact fun _ _ _ h=>h)
 (hy:YieldsIf P ops S oi v a:=by exact Or.inl ⟨by rfl,fun W hW=>by (repeat obtain⟨_,hW⟩:_/\_:=hW);go_simp⟩):wpAnyH P md ops Q S (fuel+1) listed a w:=
 wpAnyH_take hi hs hf hr hQ hy hS h
def Hd (p:Prop):Prop:=p
theorem Hd.o {p:Prop} (h:Hd p):p:=h
theorem Zaa {p:Prop} (h:p):Hd p:=h
def inB (lo hi n:Int):Bool:=decide (lo<=n/\n<=hi)
theorem ZdK (lo hi n:Int):inB lo hi n=(decide (lo<=n)&&decide (n<=hi)):=by unfold inB;simp
theorem Zac {a b:Bool} (h:a=b):Ending.returned (.bool a)=.returned (.bool b):=by rw [h]
theorem Zfe {a b:Int} (h:a=b):Ending.returned (.int .i64 a)=.returned (.int .i64 b):=by rw [h]
theorem Zjl {x y:Zy_}:(x.toList == y.toList)=true↔x=y:=by
 rw [beq_iff_eq];refine⟨fun h=>?_,fun h=>by rw [h]⟩;rw [ByteArray.toList_eq,ByteArray.toList_eq] at h;exact ByteArray.ext (Array.toList_inj.1 h)
theorem ZgX (x:Zy_):(x.toList == x.toList)=true:=Zjl.2 rfl
theorem ZbR (w:World) (p q:Addr) (u:Value) (h:q.block≠p.block):(w.setCell p u).cell? q=w.cell? q:=
 World.cell?_of_block (w:=w) (Below.heap_setCell w p u q.block h)
theorem Zju (X:World) (cs:Array Value) (t:TypeId) (g i:Nat) (hg:X.heap.size=g):(X.alloc (.cells cs t)).cell? ⟨g,i,none⟩=cs[i]?:=by subst hg;simp
theorem Zjv (X:World) (cs:Array Value) (t:TypeId) (g i:Nat) (hg:X.heap.size=g):(X.alloc (.cells cs t)).frozen? ⟨g,i,none⟩=false:=by subst hg;simp
structure Box (w:World) (β:Nat) (cs:Array Value):Prop where
 lt:β < w.heap.size
 cell:∀ i,w.cell? ⟨β,i,none⟩=cs[i]?
 free:∀ i,w.frozen? ⟨β,i,none⟩=false
theorem Box.new (X:World) (cs:Array Value) (t:TypeId) (β:Nat) (h:X.heap.size=β):Box (X.alloc (.cells cs t)) β cs:=⟨by subst h;simp,fun i=>Zju _ _ _ _ _ h,fun i=>Zjv _ _ _ _ _ h⟩
theorem Box.below {B:Nat} (h:Box w β cs) (hb:Below B w w') (hB:β < B):Box w' β cs:=
 ⟨Zk_ h.lt hb.size,fun i=>by rw [hb.cell (p:=⟨β,i,none⟩) hB];exact h.cell i,fun i=>by rw [hb.frozen (p:=⟨β,i,none⟩) hB];exact h.free i⟩
theorem Box.on (h:Box w β cs) (hb:Zw_ w w'):Box w' β cs:=h.below hb h.lt
theorem Box.drew (h:Box w β cs):Box w.drew β cs:=⟨h.lt,h.cell,h.free⟩
theorem Zab (X:World) (o:Obj):Below X.heap.size X (X.alloc o):=Zb_.alloc Zl_ _
theorem Zbk {p:Nat->Bool} (h:∀ i,i < n->p i=true):(List.range n).all p=true:=by
 rw [List.all_eq_true];intro i hi;exact h i (List.mem_range.1 hi)
theorem ZaR {p:Nat->Bool} (hk:k < n) (h:p k=false):(List.range n).all p=false:=by
 rw [List.all_eq_false];exact⟨k,List.mem_range.2 hk,by simp [h]⟩
theorem ZjD {p:Nat->Bool} (hk:k < n) (h:(List.range n).all p=true):p k=true:=by
 rw [List.all_eq_true] at h;exact h k (List.mem_range.2 hk)
theorem Zf2 (w:World) (p q:Addr) (u:Value) (h:p≠q):(w.setCell p u).cell? q=w.cell? q:=by
 apply World.cell?_setCell_other;exact h
theorem ZcQ (w:World) (b o o':Nat) (u:Value) (h:o≠o'):(w.setCell ⟨b,o,none⟩ u).cell? ⟨b,o',none⟩=w.cell? ⟨b,o',none⟩:=by
 rw [Zf2 _ _ _ _ (by simp only [ne_eq,Addr.mk.injEq,not_and];intro _ e;exact absurd e h)]
theorem Box.set (h:Box w β cs) (u:Value) (hk:k < cs.size):Box (w.setCell ⟨β,k,none⟩ u) β (cs.set k u):=by
 refine⟨by simpa [World.setCell] using h.lt,fun i=>?_,fun i=>by rw [World.frozen?_setCell];exact h.free i⟩;rw [Array.getElem?_set]
 by_cases hi:k=i
 . subst hi
   rw [if_pos rfl];have:(w.cell? ⟨β,k,none⟩)=some cs[k]:=by rw [h.cell];simp
   exact World.cell?_setCell_same' _ _ _ (by rw [this];rfl)
 . rw [if_neg hi,ZcQ _ _ _ _ _ hi];exact h.cell i
theorem Box.setFar (h:Box w β cs) {p:Addr} (hp:p.block≠β) (u:Value):Box (w.setCell p u) β cs:=
 ⟨by simpa [World.setCell] using h.lt,fun i=>by rw [World.cell?_setCell_far _ _ _ _ hp];exact h.cell i,fun i=>by rw [World.frozen?_setCell];exact h.free i⟩
theorem bt {W0 W W':World} (h:Below W0.heap.size W0 W) (hb:Below W.heap.size W W'):Below W0.heap.size W0 W':=h.trans (hb.mono h.size)
end Go.Proofs.YtkiefplmnoapfaaGreat
