import Derived.Test.YtdeammfdkaomlaaGreatRows
import Derived.WalkKit
import Derived.WalkSpells
import Derived.WalkLawsBesides
import Derived.Deep.QuietTactic
import Derived.BigQuiet
import Derived.Deep.OwnRows
import Derived.Deep.RegionWith
import Derived.Deep.RegionHeld3
import Derived.Deep.MidRow
import Derived.Deep.DeepCutAuto
set_option maxHeartbeats 16000000
set_option maxRecDepth 100000
open Go.Proofs.Tryz
namespace Go.Proofs.YtdeammfdkaomlaaGreat
open Go.RowKit Go.Deep
section
variable {n β k:Nat} {w w':World} {p:Prop} {cs:Array Value}
theorem Zl_:n<=n:=Nat.le_refl n
theorem Zb_{n:Nat}:Below n w w:=Below.refl n w
theorem Zz_:0<=n:=Nat.zero_le n
theorem Zk_ {a b c:Nat}(h:a<b)(k:b<=c):a<c:=Nat.lt_of_lt_of_le h k
abbrev Zy_:=ByteArray
@[simp] abbrev Zw_(w w_1:World):Prop:=Below w.heap.size w w_1
theorem sLs {α:Type}:(∀ (l:List α) (i:Nat) (h:i < l.toArray.size),l.toArray[i]=l[i]'(by simpa using h))/\(∀ (a:α) (l:List α) (i:Nat) (h:i+1 < (a :: l).length),(a :: l)[i+1]=l[i]'(by simpa using h))/\(∀ (a:α) (l:List α) (h:0 < (a :: l).length),(a :: l)[0]=a)/\(∀ (l:List α) (i:Nat) (a:α),l.toArray.setIfInBounds i a=(l.set i a).toArray)/\(∀ (a b:α) (l:List α),(a :: l).set 0 b=b :: l)/\(∀ (a b:α) (l:List α) (i:Nat),(a :: l).set (i+1) b=a :: l.set i b):=
 ⟨fun _ _ _=>rfl,fun _ _ _ _=>rfl,fun _ _ _=>rfl,fun _ _ _=>by simp,fun _ _ _=>rfl,fun _ _ _ _=>rfl⟩
theorem tH {P:Program}{ops:Array Oper}{Q:Exit->Act->World->Prop}{md:Region.Mode}{S:World->Prop} (i:Nat) (v:Value) {oi:Oper} {fuel:Nat} {listed:Array Bool} {a:Act} {w:World} (hi:ops[i]?=some oi) (hS:S w)
 (h:wpAnyH P md ops Q S fuel (listed.setIfInBounds i true) (a.put oi.dst v) w)
 (hs:Region.noSelect ops=true:=by kernel_rfl) (hf:Region.free md ops listed i=true:=by kernel_rfl) (hr:(Region.ready md ops listed).contains i=true:=by kernel_rfl)
 (hQ:∀ c a w,Q (.panic c) (a.put oi.dst v) w->Q (.panic c) a w:=by exact fun _ _ _ h=>h)
 (hy:YieldsIf P ops S oi v a:=by exact Or.inl ⟨by rfl,fun W hW=>by (repeat obtain⟨_,hW⟩:_/\_:=hW);go_simp⟩):wpAnyH P md ops Q S (fuel+1) listed a w:=
 wpAnyH_take hi hs hf hr hQ hy hS h
def Hd (p:Prop):Prop:=p
theorem Hd.o (h:Hd p):p:=h
theorem Zaa (h:p):Hd p:=h
def inB (lo hi n:Int):Bool:=decide (lo<=n/\n<=hi)
theorem ZgF (lo hi n:Int):inB lo hi n=(decide (lo<=n)&&decide (n<=hi)):=by unfold inB;simp
theorem Zac {a b:Bool} (h:a=b):Ending.returned (.bool a)=.returned (.bool b):=by rw [h]
theorem Zdx {a b:Int} (h:a=b):Ending.returned (.int .i64 a)=.returned (.int .i64 b):=by rw [h]
theorem ZhU {s:Zy_} (h:s.size=0):s.toList.isEmpty=true:=by
 rw [ByteArray.toList_eq,List.isEmpty_iff_length_eq_zero];simpa using h
theorem Zjg {s:Zy_} (h:0 < s.size):s.toList.isEmpty=false:=by
 rw [ByteArray.toList_eq,List.isEmpty_eq_false_iff_exists_mem];exact⟨s[0],by simp only [Array.mem_toList_iff];exact Array.getElem_mem h⟩
theorem Zjd {x y:Zy_}:(x.toList == y.toList)=true↔x=y:=by
 rw [beq_iff_eq];refine⟨fun h=>?_,fun h=>by rw [h]⟩;rw [ByteArray.toList_eq,ByteArray.toList_eq] at h;exact ByteArray.ext (Array.toList_inj.1 h)
theorem Zg0 (x:Zy_):(x.toList == x.toList)=true:=Zjd.2 rfl
theorem ZhT:((⟨#[]⟩:Zy_).toList.isEmpty)=true:=ZhU rfl
theorem Zd3 (w:World) (p q:Addr) (u:Value) (h:q.block≠p.block):(w.setCell p u).cell? q=w.cell? q:=
 World.cell?_of_block (w:=w) (Below.heap_setCell w p u q.block h)
theorem ZgN (X:World) (cs:Array Value) (t:TypeId) (g i:Nat) (hg:X.heap.size=g):(X.alloc (.cells cs t)).cell? ⟨g,i,none⟩=cs[i]?:=by subst hg;simp
theorem Zjo (X:World) (cs:Array Value) (t:TypeId) (g i:Nat) (hg:X.heap.size=g):(X.alloc (.cells cs t)).frozen? ⟨g,i,none⟩=false:=by subst hg;simp
theorem ZeV (X:World) (o:Obj) (b i:Nat) (h:b < X.heap.size):(X.alloc o).cell? ⟨b,i,none⟩=X.cell? ⟨b,i,none⟩:=((Below.refl X.heap.size X).alloc Zl_ o).cell (p:=⟨b,i,none⟩) h
structure Box (w:World) (β:Nat) (cs:Array Value):Prop where
 lt:β < w.heap.size
 cell:∀ i,w.cell? ⟨β,i,none⟩=cs[i]?
 free:∀ i,w.frozen? ⟨β,i,none⟩=false
theorem Box.new (X:World) (cs:Array Value) (t:TypeId) (β:Nat) (h:X.heap.size=β):Box (X.alloc (.cells cs t)) β cs:=⟨by subst h;simp,fun i=>ZgN _ _ _ _ _ h,fun i=>Zjo _ _ _ _ _ h⟩
theorem Box.below {B:Nat} (h:Box w β cs) (hb:Below B w w') (hB:β < B):Box w' β cs:=
 ⟨Zk_ h.lt hb.size,fun i=>by rw [hb.cell (p:=⟨β,i,none⟩) hB];exact h.cell i,fun i=>by rw [hb.frozen (p:=⟨β,i,none⟩) hB];exact h.free i⟩
theorem Box.on (h:Box w β cs) (hb:Zw_ w w'):Box w' β cs:=h.below hb h.lt
theorem Box.drew (h:Box w β cs):Box w.drew β cs:=⟨h.lt,h.cell,h.free⟩
theorem Zab (X:World) (o:Obj):Below X.heap.size X (X.alloc o):=Zb_.alloc Zl_ _
theorem Zbj {p:Nat->Bool} (h:∀ i,i < n->p i=true):(List.range n).all p=true:=by
 rw [List.all_eq_true];intro i hi;exact h i (List.mem_range.1 hi)
theorem ZaN {p:Nat->Bool} (hk:k < n) (h:p k=false):(List.range n).all p=false:=by
 rw [List.all_eq_false];exact⟨k,List.mem_range.2 hk,by simp [h]⟩
theorem ZfQ (w:World) (p q:Addr) (u:Value) (h:p≠q):(w.setCell p u).cell? q=w.cell? q:=by
 apply World.cell?_setCell_other;exact h
theorem ZcA (w:World) (b o o':Nat) (u:Value) (h:o≠o'):(w.setCell ⟨b,o,none⟩ u).cell? ⟨b,o',none⟩=w.cell? ⟨b,o',none⟩:=by
 rw [ZfQ _ _ _ _ (by simp only [ne_eq,Addr.mk.injEq,not_and];intro _ e;exact absurd e h)]
theorem Box.set (h:Box w β cs) (u:Value) (hk:k < cs.size):Box (w.setCell ⟨β,k,none⟩ u) β (cs.set k u):=by
 refine⟨by simpa [World.setCell] using h.lt,fun i=>?_,fun i=>by rw [World.frozen?_setCell];exact h.free i⟩;rw [Array.getElem?_set]
 by_cases hi:k=i
 . subst hi
   rw [if_pos rfl];have:(w.cell? ⟨β,k,none⟩)=some cs[k]:=by rw [h.cell];simp
   exact World.cell?_setCell_same' _ _ _ (by rw [this];rfl)
 . rw [if_neg hi,ZcA _ _ _ _ _ hi];exact h.cell i
theorem Box.setFar (h:Box w β cs) {p:Addr} (hp:p.block≠β) (u:Value):Box (w.setCell p u) β cs:=
 ⟨by simpa [World.setCell] using h.lt,fun i=>by rw [World.cell?_setCell_far _ _ _ _ hp];exact h.cell i,fun i=>by rw [World.frozen?_setCell];exact h.free i⟩
theorem bt {W0 W W':World} (h:Below W0.heap.size W0 W) (hb:Below W.heap.size W W'):Below W0.heap.size W0 W':=h.trans (hb.mono h.size)
end
section
variable {P:Program} {a:Act} {w W0:World} {b n β:Nat} {cs:Array Value} {rest:List Oper}
structure In (C:World->Prop) where
 w:World
 h:C w
theorem Zaf {id:Nat}{Q:Exit->Act->World->Prop}{l:List Oper} (C:World->Prop) (hm:P.follows .mixedOrders=true) (hB:Region.lexB .any l.toArray=true) (hC:C w.drew)
 (h:wpQuiet P l.toArray (fun w'=>∃ X:In C,w'=X.w) (fun a'=>∀ w',(∃ X:In C,w'=X.w)->Q .normal a' w') l a):(Code.region id l.toArray true).wp P Q a w:=
 wp_region_quiet (C:=fun w'=>∃ X:In C,w'=X.w) hm hB ⟨⟨_,hC⟩,rfl⟩ (by simpa using h)
theorem Zbc {C:World->Prop} (X:In C):(∃ Y:In C,X.w=Y.w)=True:=eq_true ⟨X,rfl⟩
abbrev Up (W0:World):World->Prop:=fun W=>Below W0.heap.size W0 W
theorem Up.cell (X:In (Up W0)) {p:Addr} {v:Value} (h:W0.cell? p=some v):X.w.cell? p=some v:=
 (Below.cell (show Below W0.heap.size W0 X.w from X.h) (World.block_lt_of_cell? W0 _ h)).trans h
theorem Up.next (X:In (Up W0)) {W':World} (h:Below X.w.heap.size X.w W'):∃ Y:In (Up W0),W'=Y.w:=
 ⟨⟨W',X.h.trans (h.mono X.h.size)⟩,rfl⟩
theorem Up.same (X:In (Up W0)) {W':World} (h:W'=X.w):∃ Y:In (Up W0),W'=Y.w:=⟨X,h⟩
theorem Zaz {w':World}{m o:Nat}{cs:List Value} (h:w.rangeAt b o cs) (hb:Below m w w') (hlt:b < m):w'.rangeAt b o cs:=fun j v hv=>by
 rw [hb.cell (p:=⟨b,o+j,none⟩) hlt];exact h j v hv
theorem Za6 (b:Nat):∀ (vs:List Value) (o:Nat) (w:World),(w.setCells b o vs).heap.size=w.heap.size
 | [],_,_=>rfl
 | v :: vs,o,w=>(Za6 b vs (o+1) (w.setCell ⟨b,o,none⟩ v)).trans (by simp [World.setCell])
theorem Below.sets (hb:n<=b):∀ (vs:List Value) (o:Nat) {a w:World},Below n a w->Below n a (w.setCells b o vs)
 | [],_,_,_,h=>h
 | v :: vs,o,_,_,h=>Below.sets hb vs (o+1) (h.setCell hb v)
theorem ZdF (w:World) (C:Array Value) (t:TypeId) (n:Nat) (hn:C.size=n):(w.alloc (.cells C t)).there w.heap.size 0 n:=fun j hj=>by
 have:=World.rowIs_alloc w C t (fun i=>C.getD i default) (fun i hi=>by simp [Array.getD,hi]);rw [Nat.zero_add];exact⟨by rw [this.cell (by omega)];rfl,this.frozen j⟩
theorem Zao {ops:Array Oper}{C:World->Prop}{Q:Act->Prop}{o:Oper} (hw:Region.wanted o (yielded ops a.tmps)=true) (ty:TypeId) (x:Operand) (ho:o.op=.load ty x)
 (b off:Nat) (hx:a.eval x=.pointer (some ⟨b,off,none⟩)) (cs:List Value) (d:TypeDesc) (hC:∀ w,C w->w.rangeAt b off cs)
 (hu:P.underlying ty=some d) (hd:d.isRow=true) (hi:(P.info? ty).map (·.size)=some cs.length)
 (h:wpQuiet P ops C Q rest (a.put o.dst (.agg cs.toArray))):wpQuiet P ops C Q (o :: rest) a:=
 BigFrame.wpQuiet_want hw fun K hK=>⟨.agg cs.toArray,fun w hw'=>by
  unfold Oper.quietAt execOp;simp only [ho,hx,Instr.loadAt,Instr.sureAddr,Sem.run_bind,Sem.run_pure,Result.andThen_ok,run_loadVar_mid w b off ty cs d (hC w hw') hu hd hi,Oper.quietUpon,and_self],hK _ h⟩
theorem ZaY {ops:Array Oper}{op:Oper}{Q:Exit->Act->World->Prop} (hw:Region.wanted op (yielded ops a.tmps)=true) (ty:TypeId) (x:Operand) (ho:op.op=.load ty x)
 (b o:Nat) (hx:a.eval x=.pointer (some ⟨b,o,none⟩)) (cs:List Value) (d:TypeDesc) (hc:w.rangeAt b o cs)
 (hu:P.underlying ty=some d) (hd:d.isRow=true) (hi:(P.info? ty).map (·.size)=some cs.length)
 (h:wpList P ops Q rest (a.put op.dst (.agg cs.toArray)) w):wpList P ops Q (op :: rest) a w:=
 BigFrame.wpList_want hw fun _ hK=>wp_load_mid ty x ho b o hx cs d hc hu hd hi (hK _ _ h)
theorem Box.there (h:Box w β cs) (hn:cs.size=n):w.there β 0 n:=fun j hj=>by
 rw [Nat.zero_add,h.cell j,h.free j];exact⟨by rw [Array.getElem?_eq_getElem (by omega)];rfl,rfl⟩
theorem Box.range (h:Box w β cs) {l:List Value} (hl:cs=l.toArray):w.rangeAt β 0 l:=fun j v hv=>by
 rw [Nat.zero_add,h.cell j,hl]
 simpa using hv
theorem Box.full {cs':Array Value} (h:Box w β cs) (hs:cs.size=cs'.size):Box (w.setCells β 0 cs'.toList) β cs':=by
 refine⟨by rw [Za6];exact h.lt,fun i=>?_,fun i=>by rw [World.frozen?_setCells];exact h.free i⟩
 by_cases hi:i < cs'.size
 . have:=World.cell?_setCells_in β cs'.toList 0 w (fun j hj=>(h.there rfl j (by rw [hs];simpa using hj)).1) i (by simpa using hi)
   rw [Nat.zero_add] at this;rw [this,Array.getElem?_eq_getElem hi];simp
 . rw [World.cell?_setCells_out β cs'.toList 0 w ⟨β,i,none⟩ (fun _ _=>Or.inr (by simp;omega)),h.cell i,Array.getElem?_eq_none (by omega),Array.getElem?_eq_none (by omega)]
end
variable {w w':World} {lo:Nat} {v:Value}
structure Rs where
 ba:Int
 tx:Zy_
variable {Xl:List Rs}
structure ZaJ (x:Rs):Prop where
 s0:x.tx.size<=maxLen
def ZeS (x:Rs):Prop:=x=x
structure Zcd (w:World) (b o:Nat) (x:Rs):Prop where
 c0:w.cell? ⟨b,o,none⟩=some (.int .i64 x.ba)
 c1:w.cell? ⟨b,o+1,none⟩=some (.string x.tx)
theorem Zcd.below {b o:Nat}{x:Rs} (h:Zcd w b o x ) {m:Nat} (hb:Below m w w') (hlt:b < m):Zcd w' b o x:=by
 have e:∀ o,w'.cell? ⟨b,o,none⟩=w.cell? ⟨b,o,none⟩:=fun o=>hb.cell (p:=⟨b,o,none⟩) hlt
 exact⟨by rw [e];exact h.c0,by rw [e];exact h.c1⟩
def Zat (lo:Nat) (w:World) (v:Value) (Xl:List Rs):Prop:=
 (∃ (a:Option Addr) (cap:Nat),v=.slice a 0 cap/\Xl=[])\/
 ∃ (b off cap:Nat),v=.slice (some ⟨b,off,none⟩) Xl.length cap/\Xl≠[]/\Xl.length<=maxLen/\b < w.heap.size/\lo<=b/\Xl.length<=cap/\
  ∀ i (h:i < Xl.length),ZaJ Xl[i]/\Zcd w b (off+i*2) Xl[i]
theorem Zat.below (h:Zat lo w v Xl) (hb:Zw_ w w'):Zat lo w' v Xl:=by
 rcases h with h | ⟨b,off,cap,h1,h2,h3,h4,h5,h6,h7⟩
 . exact Or.inl h
 . refine Or.inr ⟨b,off,cap,h1,h2,h3,Zk_ h4 hb.size,h5,h6,fun i hi=>?_⟩
   obtain⟨hs,hc⟩:=h7 i hi;exact⟨hs,hc.below hb h4⟩
theorem Zat.mono {lo':Nat} (h:Zat lo w v Xl) (hl:lo'<=lo):Zat lo' w v Xl:=by
 rcases h with h | ⟨b,off,cap,h1,h2,h3,h4,h5,h6,h7⟩
 . exact Or.inl h
 . refine Or.inr ⟨b,off,cap,h1,h2,h3,h4,Nat.le_trans hl h5,h6,fun i hi=>?_⟩
   obtain⟨hs,hc⟩:=h7 i hi;exact⟨hs,hc⟩
theorem Zat.form (h:Zat lo w v Xl):∃ a cap,v=.slice a Xl.length cap:=by
 rcases h with ⟨a,cap,h,rfl⟩ | ⟨b,off,cap,h,_⟩
 . exact⟨a,cap,h⟩
 . exact⟨_,cap,h⟩
theorem Zat.max (h:Zat lo w v Xl):Xl.length<=maxLen:=by
 rcases h with ⟨a,cap,h,rfl⟩ | ⟨b,off,cap,h,_,h3,_⟩
 . exact Nat.zero_le _
 . exact h3
theorem Zat.full (h:Zat lo w v Xl) (hne:Xl≠[]):∃ (b off cap:Nat),v=.slice (some ⟨b,off,none⟩) Xl.length cap/\Xl.length<=maxLen/\b < w.heap.size/\Xl.length<=cap/\
 ∀ i (h:i < Xl.length),ZaJ Xl[i]/\Zcd w b (off+i*2) Xl[i]:=by
 rcases h with ⟨_,_,_,h⟩ | ⟨b,off,cap,h1,_,h3,h4,_,h6,h7⟩
 . exact absurd h hne
 . exact⟨b,off,cap,h1,h3,h4,h6,h7⟩
theorem Zat.full' {a:Option Addr}{n cap:Nat} (h:Zat lo w (.slice a n cap) Xl) (hL:0 < Xl.length) :
 ∃ b off,a=some ⟨b,off,none⟩/\b < w.heap.size/\lo<=b/\∀ i (h:i < Xl.length),ZaJ Xl[i]/\Zcd w b (off+i*2) Xl[i]:=by
 rcases h with ⟨a',cap',h,rfl⟩ | ⟨b',off',cap',h1,h2,h3,h4,h5,h6,h7⟩
 . simp at hL
 . injection h1 with e1 e2 e3
   exact⟨b',off',e1,h4,h5,h7⟩
def Zbn (Xl:List Rs):Prop:=Xl.length<=1048576/\∀ i (h:i < Xl.length),ZeS Xl[i]
def Zk2 (Xl:List Rs) (left r:Int):Prop:= -1<=r/\r<=left/\(0<=r->Zbn Xl)
theorem ZjN (x:Rs) (left:Int) (w:World) (h0:0<=left) (h1:left<=1048576) (hz:ZaJ x) :
 Calls prog 118 #[.agg #[.int .i64 x.ba,.string x.tx],.int .i64 left] w
  fun e w'=>∃ r:Int,e=.returned (.int .i64 r)/\Zw_ w w'/\-1<=r/\r<=left/\(0<=r->ZeS x):=by
 obtain⟨s0⟩:=hz;unfold maxLen at s0;go_enter func118,ntmps118;go_wp2
 all_goals go_ret
 all_goals exact⟨_,rfl,Zb_.alloc Zl_ _,by omega,by omega,fun _=>rfl⟩
theorem ZjO (x:Rs) (w:World) :
 Calls prog 134 #[.agg #[.int .i64 x.ba,.string x.tx]] w fun e w'=>e=.returned (.agg #[.int .i64 x.ba,.string x.tx])/\Zw_ w w':=by
 go_enter func134,ntmps134;go_wp2;refine bodyPost_ret (v:=.agg #[.int .i64 x.ba,.string x.tx]) (by simp [results,results134,go_sem]) rfl ⟨rfl,?_⟩
 repeat (refine Below.setCell ?_ (by simp) _)
 exact ((Zb_.alloc Zl_ _).alloc (by simp) _).alloc (by simp;omega) _
theorem ZhV (x:Rs) (w:World) :
 Calls prog 154 #[.agg #[.int .i64 x.ba,.string x.tx],.agg #[.int .i64 x.ba,.string x.tx]] w fun e w'=>e=.returned (.bool true)/\Zw_ w w':=by
 go_enter func154,ntmps154;go_wp2;go_ret;exact⟨rfl,(Zb_.alloc Zl_ _).alloc (by simp) _⟩
theorem Zep (lo:Nat) (v:Value) (Xl:List Rs) (left:Int) (w:World) (h0:0<=left) (h1:left<=1048576) (hv:Zat lo w v Xl) :
 Calls prog 51 #[v,.int .i64 left] w fun e w'=>∃ r:Int,e=.returned (.int .i64 r)/\Zw_ w w'/\Zk2 Xl left r:=by
 rcases hv with ⟨a,cap,rfl,rfl⟩ | ⟨b,off,cap,rfl,hne,hm,hbw,_,_,hc⟩
 . go_enter func51,ntmps51
   go_wp2
   go_loop [1,5] (fun l i=>∃ r:Int,l=.int .i64 r/\0<=r/\r<=left/\i=.int .i64 0) (fun _ _=>0)
   case atStart=>exact⟨_,rfl,by omega,by omega,rfl⟩
   case round=>
    obtain⟨r,rfl,hr0,hr1,rfl⟩:=hrel;go_wp2;go_ret;exact⟨r,rfl,Below.refl _ _,by omega,by omega,fun _=>⟨by simp,fun i h=>by simp at h⟩⟩
 . unfold maxLen at hm
   by_cases hle:(Xl.length:Int)<=left
   . go_enter func51,ntmps51
     go_wp2
     go_loopw [1,5] (fun l i wr=>∃ (r:Int) (k:Nat),l=.int .i64 r/\0<=r/\r<=left/\i=.int .i64 k/\k<=Xl.length/\Zw_ w wr/\∀ j (hj:j < Xl.length),j < k->ZeS Xl[j]) (fun _ i _=>Xl.length - (intOf i).toNat)
     case atStart=>exact⟨_,0,rfl,by omega,by omega,rfl,by omega,Below.refl _ _,fun j _ h=>by omega⟩
     case round=>
      obtain⟨r,k,rfl,hr0,hr1,rfl,hk,hb,hall⟩:=hrel;have HA:=Zaa hall;clear hall
      by_cases hlt:k < Xl.length
      . obtain⟨hs,hc⟩:=hc k hlt
        obtain⟨c0,c1⟩:=hc.below hb hbw;clear hc;go_wp2_with fail;refine (ZjN _ _ _ hr0 (by omega) hs).mono ?_;rintro e w1 ⟨r1,rfl,hb1,q0,q1,q2⟩;have HQ2:=Zaa q2;have hB:Hd (Zw_ w w1):=hb.trans (hb1.mono hb.size);clear hb1 c0 c1 hb q2
        by_cases hneg:r1 < 0
        . go_wp2
          go_ret;exact⟨-1,rfl,hB.o,by omega,by omega,fun h=>by omega⟩
        . have HL:Hd (ZeS Xl[k]):=HQ2.o (by omega)
          clear HQ2;go_wp2;go_roundw
          case rel=>exact⟨_,k+1,rfl,by omega,by omega,by go_num,by omega,hB.o,fun j hj h=>by
                     by_cases e:j=k
                     . subst e;exact HL.o
                     . exact HA.o j hj (by omega)⟩
          . simp [intOf];omega
      . go_wp2
        go_ret;exact⟨r,rfl,hb,by omega,by omega,fun _=>⟨by omega,fun j hj=>HA.o j hj (by omega)⟩⟩
   . go_enter func51,ntmps51
     go_wp2;go_ret;exact⟨-1,rfl,Below.refl _ _,by omega,by omega,fun h=>by omega⟩
theorem Zdp (lo lo':Nat) (v v':Value) (Xl:List Rs) (w:World) (hv:Zat lo w v Xl) (hv':Zat lo' w v' Xl) :
 Calls prog 76 #[v,v'] w fun e w'=>e=.returned (.bool true)/\Zw_ w w':=by
 by_cases hL:Xl=[]
 . subst hL
   obtain⟨a,cap,rfl⟩:=hv.form;obtain⟨a',cap',rfl⟩:=hv'.form;clear hv hv';go_enter func76,ntmps76;go_wp2
   go_loop [5] (fun i=>i=.int .i64 0) (fun _=>0)
   case atStart=>rfl
   case round=>
    subst hrel;go_wp2;go_ret;exact⟨rfl,Below.refl _ _⟩
 . obtain⟨b,off,cap,rfl,hm,hbw,_,hc⟩:=hv.full hL
   obtain⟨b',off',cap',rfl,_,hbw',_,hc'⟩:=hv'.full hL;clear hv hv';unfold maxLen at hm;go_enter func76,ntmps76;go_wp2
   go_loopw [5] (fun i wr=>∃ k:Nat,i=.int .i64 k/\k<=Xl.length/\Zw_ w wr) (fun i _=>Xl.length - (intOf i).toNat)
   case atStart=>exact⟨0,rfl,by omega,Below.refl _ _⟩
   case round=>
    obtain⟨k,rfl,hk,hb⟩:=hrel
    by_cases hlt:k < Xl.length
    . obtain⟨hs,hc⟩:=hc k hlt
      obtain⟨ht,hd⟩:=hc' k hlt;obtain⟨c0,c1⟩:=hc.below hb hbw;obtain⟨d0,d1⟩:=hd.below hb hbw';clear hc hd hs ht;have HB:=Zaa hb;clear hb;go_wp2
      go_region_with (go_at_call 154;refine (ZhV _ _ ).mono ?_;rintro e w1 ⟨rfl,hb1⟩;have hB:Hd (Zw_ w w1):=(HB.o.drew).trans (hb1.mono HB.o.size);clear hb1)
      all_goals go_wp2
      all_goals go_roundw
      all_goals first
       | (case rel=>exact⟨k+1,by go_num,by omega,hB.o⟩)
       | (case measure=>simp [intOf];omega)
    . go_wp2
      go_ret;exact⟨rfl,hb⟩
theorem Tryz.info171:(prog.info? 171).map (fun i=>(i.zero,i.size,i.bytes))=some (some (.agg #[.int .i64 0,.string ⟨#[]⟩]),2,24):=by kernel_rfl
end Go.Proofs.YtdeammfdkaomlaaGreat
