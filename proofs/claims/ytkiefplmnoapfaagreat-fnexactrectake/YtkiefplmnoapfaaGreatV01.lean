import Derived.Test.YtkiefplmnoapfaaGreatV00
import Derived.Deep.MidRow
import Derived.Deep.DeepCutAuto
import Derived.Laws.IdiomStrings
import Derived.Laws.Concat
import Derived.OrdersHeld
set_option maxHeartbeats 16000000
set_option maxRecDepth 100000
open Go.Proofs.Tryz
namespace Go.Proofs.YtkiefplmnoapfaaGreat
open Go.RowKit Go.Deep
section
variable {P:Program} {a:Act} {w W0 w':World} {m b o n β:Nat} {cs:Array Value} {rest:List Oper}
structure In (C:World->Prop) where
 w:World
 h:C w
theorem Zaf {id:Nat}{Q:Exit->Act->World->Prop}{l:List Oper} (C:World->Prop) (hm:P.follows .mixedOrders=true) (hB:Region.lexB .any l.toArray=true) (hC:C w.drew)
 (h:wpQuiet P l.toArray (fun w'=>∃ X:In C,w'=X.w) (fun a'=>∀ w',(∃ X:In C,w'=X.w)->Q .normal a' w') l a):(Code.region id l.toArray true).wp P Q a w:=
 wp_region_quiet (C:=fun w'=>∃ X:In C,w'=X.w) hm hB ⟨⟨_,hC⟩,rfl⟩ (by simpa using h)
theorem Zbn {C:World->Prop} (X:In C):(∃ Y:In C,X.w=Y.w)=True:=eq_true ⟨X,rfl⟩
abbrev Up (W0:World):World->Prop:=fun W=>Below W0.heap.size W0 W
theorem Up.cell (X:In (Up W0)) {p:Addr} {v:Value} (h:W0.cell? p=some v):X.w.cell? p=some v:=
 (Below.cell (show Below W0.heap.size W0 X.w from X.h) (World.block_lt_of_cell? W0 _ h)).trans h
theorem Up.next (X:In (Up W0)) {W':World} (h:Below X.w.heap.size X.w W'):∃ Y:In (Up W0),W'=Y.w:=
 ⟨⟨W',X.h.trans (h.mono X.h.size)⟩,rfl⟩
theorem Up.same (X:In (Up W0)) {W':World} (h:W'=X.w):∃ Y:In (Up W0),W'=Y.w:=⟨X,h⟩
theorem Zas {cs:List Value} (h:w.rangeAt b o cs) (hb:Below m w w') (hlt:b < m):w'.rangeAt b o cs:=fun j v hv=>by
 rw [hb.cell (p:=⟨b,o+j,none⟩) hlt];exact h j v hv
theorem Zig {cs:List Value} (h:w.rangeAt b o cs) {p:Addr} (hp:b≠p.block) (u:Value):(w.setCell p u).rangeAt b o cs:=fun j v hv=>by
 rw [ZbR _ _ _ _ hp];exact h j v hv
theorem Zeo (h:w.there b o n) (hb:Below m w w') (hlt:b < m):w'.there b o n:=fun j hj=>by
 rw [hb.cell (p:=⟨b,o+j,none⟩) hlt,hb.frozen (p:=⟨b,o+j,none⟩) hlt];exact h j hj
theorem Zc4 (h:w.there b 0 n) (hle:o+m<=n):w.there b o m:=fun j hj=>by
 have:=h (o+j) (by omega)
 rwa [Nat.zero_add] at this
theorem Za8 (b:Nat):∀ (vs:List Value) (o:Nat) (w:World),(w.setCells b o vs).heap.size=w.heap.size
 | [],_,_=>rfl
 | v :: vs,o,w=>(Za8 b vs (o+1) (w.setCell ⟨b,o,none⟩ v)).trans (by simp [World.setCell])
theorem Below.sets (hb:n<=b):∀ (vs:List Value) (o:Nat) {a w:World},Below n a w->Below n a (w.setCells b o vs)
 | [],_,_,_,h=>h
 | v :: vs,o,_,_,h=>Below.sets hb vs (o+1) (h.setCell hb v)
theorem Zch (w:World) (C:Array Value) (t:TypeId) (n:Nat) (hn:C.size=n):(w.alloc (.cells C t)).there w.heap.size 0 n:=fun j hj=>by
 have:=World.rowIs_alloc w C t (fun i=>C.getD i default) (fun i hi=>by simp [Array.getD,hi]);rw [Nat.zero_add];exact⟨by rw [this.cell (by omega)];rfl,this.frozen j⟩
theorem Zan {ops:Array Oper}{C:World->Prop}{Q:Act->Prop}{o:Oper} (hw:Region.wanted o (yielded ops a.tmps)=true) (ty:TypeId) (x:Operand) (ho:o.op=.load ty x)
 (b off:Nat) (hx:a.eval x=.pointer (some ⟨b,off,none⟩)) (cs:List Value) (d:TypeDesc) (hC:∀ w,C w->w.rangeAt b off cs)
 (hu:P.underlying ty=some d) (hd:d.isRow=true) (hi:(P.info? ty).map (·.size)=some cs.length)
 (h:wpQuiet P ops C Q rest (a.put o.dst (.agg cs.toArray))):wpQuiet P ops C Q (o :: rest) a:=
 BigFrame.wpQuiet_want hw fun K hK=>⟨.agg cs.toArray,fun w hw'=>by
  unfold Oper.quietAt execOp;simp only [ho,hx,Instr.loadAt,Instr.sureAddr,Sem.run_bind,Sem.run_pure,Result.andThen_ok,run_loadVar_mid w b off ty cs d (hC w hw') hu hd hi,Oper.quietUpon,and_self],hK _ h⟩
theorem ZaC {ops:Array Oper}{op:Oper}{Q:Exit->Act->World->Prop} (hw:Region.wanted op (yielded ops a.tmps)=true) (ty:TypeId) (x:Operand) (ho:op.op=.load ty x)
 (b o:Nat) (hx:a.eval x=.pointer (some ⟨b,o,none⟩)) (cs:List Value) (d:TypeDesc) (hc:w.rangeAt b o cs)
 (hu:P.underlying ty=some d) (hd:d.isRow=true) (hi:(P.info? ty).map (·.size)=some cs.length)
 (h:wpList P ops Q rest (a.put op.dst (.agg cs.toArray)) w):wpList P ops Q (op :: rest) a w:=
 BigFrame.wpList_want hw fun _ hK=>wp_load_mid ty x ho b o hx cs d hc hu hd hi (hK _ _ h)
theorem Box.there (h:Box w β cs) (hn:cs.size=n):w.there β 0 n:=fun j hj=>by
 rw [Nat.zero_add,h.cell j,h.free j];exact⟨by rw [Array.getElem?_eq_getElem (by omega)];rfl,rfl⟩
theorem Box.range (h:Box w β cs) {l:List Value} (hl:cs=l.toArray):w.rangeAt β 0 l:=fun j v hv=>by
 rw [Nat.zero_add,h.cell j,hl]
 simpa using hv
theorem Box.full {cs':Array Value} (h:Box w β cs) (hs:cs.size=cs'.size):Box (w.setCells β 0 cs'.toList) β cs':=by
 refine⟨by rw [Za8];exact h.lt,fun i=>?_,fun i=>by rw [World.frozen?_setCells];exact h.free i⟩
 by_cases hi:i < cs'.size
 . have:=World.cell?_setCells_in β cs'.toList 0 w (fun j hj=>(h.there rfl j (by rw [hs];simpa using hj)).1) i (by simpa using hi)
   rw [Nat.zero_add] at this;rw [this,Array.getElem?_eq_getElem hi];simp
 . rw [World.cell?_setCells_out β cs'.toList 0 w ⟨β,i,none⟩ (fun _ _=>Or.inr (by simp;omega)),h.cell i,Array.getElem?_eq_none (by omega),Array.getElem?_eq_none (by omega)]
end
section
variable {lo hi b lo' hi' n:Nat} {a w w' v:World}
def ZdW:Nat->Nat->List UInt8->List UInt8
 | 0,_,acc=>acc
 | f+1,k,acc=>if k=0 then acc else ZdW f (k / 10) (UInt8.ofNat (48+k % 10) :: acc)
theorem Zd8 (f:Nat) (acc:List UInt8):ZdW f 0 acc=acc:=by cases f <;> simp [ZdW]
theorem ZhP (k:Nat):∀ f acc,k<=f->ZdW f k acc=ZdW k k acc:=by
 induction k using Nat.strongRecOn with
 | _ k ih=>
  intro f acc hf
  by_cases h0:k=0
  . subst h0;rw [Zd8,Zd8]
  . obtain⟨f',rfl⟩:∃ f',f=f'+1:=⟨f - 1,by omega⟩
    obtain⟨k',rfl⟩:∃ k',k=k'+1:=⟨k - 1,by omega⟩
    have h1:(k'+1) / 10 < k'+1:=by omega
    rw [show ZdW (f'+1) (k'+1) acc=ZdW f' ((k'+1) / 10) (UInt8.ofNat (48+(k'+1) % 10) :: acc) from by simp [ZdW],
     show ZdW (k'+1) (k'+1) acc=ZdW k' ((k'+1) / 10) (UInt8.ofNat (48+(k'+1) % 10) :: acc) from by simp [ZdW]]
    rw [ih _ h1 f' _ (by omega),ih _ h1 k' _ (by omega)]
theorem ZhQ (k:Nat) (acc:List UInt8) (h:0 < k):ZdW k k acc=ZdW (k / 10) (k / 10) (UInt8.ofNat (48+k % 10) :: acc):=by
 obtain⟨k',rfl⟩:∃ k',k=k'+1:=⟨k - 1,by omega⟩
 rw [show ZdW (k'+1) (k'+1) acc=ZdW k' ((k'+1) / 10) (UInt8.ofNat (48+(k'+1) % 10) :: acc) from by simp [ZdW]];exact ZhP _ _ _ (by omega)
def mtB (k:Int):Zy_:=if k<=0 then ⟨#[109,48]⟩ else ⟨(109 :: ZdW k.toNat k.toNat []).toArray⟩
theorem Zby (k:Int) (w:World) (hk:k<=4000000000000000000) :
 Calls prog 67 #[.int .i64 k] w fun e w'=>e=.returned (.string (mtB k))/\Zw_ w w':=by
 by_cases h0:k<=0
 . go_enter func67,ntmps67
   go_wp2;go_ret;exact⟨by unfold mtB;rw [if_pos h0];rfl,Below.refl _ _⟩
 . obtain⟨n,rfl⟩:=Int.eq_ofNat_of_zero_le (show 0<=k by omega)
   go_enter func67,ntmps67;go_wp2
   go_loopw [0,3] (fun q o wr=>∃ (j:Nat) (l:List UInt8),q=.int .i64 j/\o=.string ⟨l.toArray⟩/\l.length+j<=n/\Zw_ w wr/\Hd (ZdW j j l=ZdW n n [])) (fun q _ _=>(intOf q).toNat)
   case atStart=>exact⟨n,[],rfl,rfl,by simp,Below.refl _ _,rfl⟩
   case round=>
    obtain⟨j,l,rfl,rfl,hl,hb,hd⟩:=hrel
    by_cases hj:0 < j
    . have hn8:(UInt8.ofNat (48+j % 10)).toNat=48+j % 10:=by rw [UInt8.toNat_ofNat'];omega
      have hcv:(convert 135 9 (.slice (some ⟨wr.heap.size,0,none⟩) 1 1)).run prog (wr.alloc (.cells #[.int .u8 (48+(j:Int) % 10)] 5))=.ok (.string ⟨#[UInt8.ofNat (48+j % 10)]⟩) (wr.alloc (.cells #[.int .u8 (48+(j:Int) % 10)] 5)):=by
       have:=run_convert_bytes_back (P:=prog) (wr.alloc (.cells #[.int .u8 (48+(j:Int) % 10)] 5)) 135 9 5 ⟨wr.heap.size,0,none⟩ 1 [UInt8.ofNat (48+j % 10)] underlying135 underlying5 underlying9 (fun i hi=>by
        have e:i=0:=by simp at hi;omega
        subst e;simp only [List.getElem_cons_zero,hn8];simp [Addr.add])
       exact this
      have had:∀ W,(Op.stringOp .add ⟨#[UInt8.ofNat (48+j % 10)]⟩ ⟨l.toArray⟩).run prog W=.ok (.string ⟨(UInt8.ofNat (48+j % 10) :: l).toArray⟩) W:=fun W=>by
       have:=run_string_add_sum (P:=prog) (w:=W) ⟨#[UInt8.ofNat (48+j % 10)]⟩ ⟨l.toArray⟩ (by simp [ByteArray.size];omega);rw [this]
       rfl
      have HD:Hd (ZdW (j / 10) (j / 10) (UInt8.ofNat (48+j % 10) :: l)=ZdW n n []):=by unfold Hd;rw [<- ZhQ j l hj];exact hd
      have HB:=Zaa hb;clear hn8 hd hb;generalize UInt8.ofNat (48+j % 10)=dg at*;go_wp2;go_roundw
      . exact⟨j / 10,dg :: l,by go_num,rfl,by simp;omega,HB.o.alloc HB.o.size _,HD⟩
      . simp [intOf];omega
    . have had:∀ W,(Op.stringOp .add ⟨#[109]⟩ ⟨l.toArray⟩).run prog W=.ok (.string ⟨(109 :: l).toArray⟩) W:=fun W=>by
       have:=run_string_add_sum (P:=prog) (w:=W) ⟨#[109]⟩ ⟨l.toArray⟩ (by simp [ByteArray.size];omega);rw [this]
       rfl
      have HM:Hd (mtB n=⟨(109 :: l).toArray⟩):=by
       have e:j=0:=by omega
       subst e;unfold Hd mtB;rw [if_neg (by omega),Int.toNat_natCast,<- hd,Zd8]
      clear hd;go_wp2;go_ret;exact⟨by rw [HM.o];rfl,hb⟩
theorem Ze6 (k:Int) (hk:k<=4000000000000000000):(mtB k).size<=maxLen:=by
 unfold mtB
 by_cases h:k<=0
 . rw [if_pos h];simp [ByteArray.size,maxLen]
 . rw [if_neg h]
   have:∀ (f j:Nat) (l:List UInt8),(ZdW f j l).length<=l.length+f:=by
    intro f
    induction f with
    | zero=>intro j l;simp [ZdW]
    | succ f ih=>
     intro j l;rw [ZdW]
     by_cases h0:j=0
     . rw [if_pos h0];omega
     . rw [if_neg h0]
       have:=ih (j / 10) (UInt8.ofNat (48+j % 10) :: l);simp only [List.length_cons] at this;omega
   have:=this k.toNat k.toNat [];simp [ByteArray.size,maxLen] at*
   omega
structure Zad (lo hi:Nat) (w w':World):Prop where
 os:w'.os=w.os
 tape:w'.tape=w.tape
 output:w'.output=w.output
 size:w.heap.size<=w'.heap.size
 block:∀ k,k < w.heap.size->(k < lo\/hi<=k)->w'.heap[k]?=w.heap[k]?
theorem Zad.refl (lo hi:Nat) (w:World):Zad lo hi w w:=⟨rfl,rfl,rfl,Nat.le_refl _,fun _ _ _=>rfl⟩
theorem Zad.trans {b c:World} (h:Zad lo hi a b) (k:Zad lo hi b c):Zad lo hi a c:=
 ⟨k.os.trans h.os,k.tape.trans h.tape,k.output.trans h.output,Nat.le_trans h.size k.size,fun i hi' ho=>(k.block i (Zk_ hi' h.size) ho).trans (h.block i hi' ho)⟩
theorem Zad.below {b:World} (h:Below a.heap.size a b):Zad lo hi a b:=⟨h.os,h.tape,h.output,h.size,fun k hk _=>h.block k hk⟩
theorem Zad.setCell (lo hi:Nat) (w:World) (p:Addr) (u:Value) (h:lo<=p.block/\p.block < hi):Zad lo hi w (w.setCell p u):=
 ⟨rfl,rfl,rfl,by simp [World.setCell],fun k _ ho=>Below.heap_setCell _ _ _ _ (by omega)⟩
theorem Zad.cell (h:Zad lo hi w w') {p:Addr} (hp:p.block < w.heap.size) (ho:p.block < lo\/hi<=p.block):w'.cell? p=w.cell? p:=World.cell?_of_block (w:=w) (h.block p.block hp ho)
theorem Zad.frozen (h:Zad lo hi w w') {p:Addr} (hp:p.block < w.heap.size) (ho:p.block < lo\/hi<=p.block):w'.frozen? p=w.frozen? p:=World.frozen?_of_block (w:=w) (h.block p.block hp ho)
theorem Zad.wide {b:World} (h:Zad lo hi a b) (h1:lo'<=lo) (h2:hi<=hi'):Zad lo' hi' a b:=⟨h.os,h.tape,h.output,h.size,fun k hk ho=>h.block k hk (by omega)⟩
theorem Zad.under {b:World} (h:Zad lo hi a b) (hl:lo<=a.heap.size):Below lo a b:=⟨h.os,h.tape,h.output,h.size,fun k hk=>h.block k (by omega) (Or.inl hk)⟩
structure Zcc (b o n lo hi:Nat) (w w':World):Prop where
 os:w'.os=w.os
 tape:w'.tape=w.tape
 output:w'.output=w.output
 size:w.heap.size<=w'.heap.size
 block:∀ k,k < w.heap.size->k≠b->(k < lo\/hi<=k)->w'.heap[k]?=w.heap[k]?
 cell:∀ i,(i < o\/o+n<=i)->w'.cell? ⟨b,i,none⟩=w.cell? ⟨b,i,none⟩
 frz:∀ i,w'.frozen? ⟨b,i,none⟩=w.frozen? ⟨b,i,none⟩
theorem Zcc.refl (b o n lo hi:Nat) (w:World):Zcc b o n lo hi w w:=⟨rfl,rfl,rfl,Nat.le_refl _,fun _ _ _ _=>rfl,fun _ _=>rfl,fun _=>rfl⟩
theorem Zcc.trans {o:Nat}{u:World} (h:Zcc b o n lo hi u v) (k:Zcc b o n lo hi v w):Zcc b o n lo hi u w:=
 ⟨k.os.trans h.os,k.tape.trans h.tape,k.output.trans h.output,Nat.le_trans h.size k.size,fun i hi' hb ho=>(k.block i (Zk_ hi' h.size) hb ho).trans (h.block i hi' hb ho),fun i hi'=>(k.cell i hi').trans (h.cell i hi'),fun i=>(k.frz i).trans (h.frz i)⟩
theorem Zcc.below {o:Nat} (h:Zw_ w w') (hb:b < w.heap.size):Zcc b o n lo hi w w':=
 ⟨h.os,h.tape,h.output,h.size,fun k hk _ _=>h.block k hk,fun i _=>h.cell (p:=⟨b,i,none⟩) hb,fun i=>h.frozen (p:=⟨b,i,none⟩) hb⟩
theorem Zcc.touch {o:Nat} (h:Zad lo' hi' w w') (hb:b < w.heap.size) (h1:lo<=lo') (h2:hi'<=hi) (hx:b < lo'\/hi'<=b):Zcc b o n lo hi w w':=
 ⟨h.os,h.tape,h.output,h.size,fun k hk _ ho=>h.block k hk (by omega),fun i _=>h.cell (p:=⟨b,i,none⟩) hb hx,fun i=>h.frozen (p:=⟨b,i,none⟩) hb hx⟩
theorem Zcc.set (b o n lo hi:Nat) (w:World) (i:Nat) (u:Value) (h1:o<=i) (h2:i < o+n):Zcc b o n lo hi w (w.setCell ⟨b,i,none⟩ u):=
 ⟨rfl,rfl,rfl,by simp [World.setCell],fun k _ hb _=>Below.heap_setCell _ _ _ _ hb,fun j hj=>by apply World.cell?_setCell_other;simp only [ne_eq,Addr.mk.injEq,not_and];omega,fun j=>by rw [World.frozen?_setCell]⟩
theorem Zcc.wide {o:Nat} (h:Zcc b o n lo hi w w') (_hb:b < w.heap.size) (h1:lo'<=lo) (h2:hi<=hi') (hx:lo'<=b/\b < hi'):Zad lo' hi' w w':=
 ⟨h.os,h.tape,h.output,h.size,fun k hk ho=>h.block k hk (by omega) (by omega)⟩
theorem Zcc.o {o:Nat} (h:Zcc b o n lo hi w w') {p:Addr} (hp:p.block < w.heap.size) (hb:p.block≠b) (ho:p.block < lo\/hi<=p.block):w'.cell? p=w.cell? p/\w'.frozen? p=w.frozen? p:=
 ⟨World.cell?_of_block (w:=w) (h.block p.block hp hb ho),World.frozen?_of_block (w:=w) (h.block p.block hp hb ho)⟩
theorem cne {i j:Nat}{u:Value} (h:i≠j):(v.setCell ⟨b,i,none⟩ u).cell? ⟨b,j,none⟩=v.cell? ⟨b,j,none⟩:=by
 apply World.cell?_setCell_other;simp only [ne_eq,Addr.mk.injEq,not_and]
 omega
theorem Zad.setB (B:Nat) (w:World) (i:Nat) (u:Value):Zad B (B+1) w (w.setCell ⟨B,i,none⟩ u):=Zad.setCell _ _ _ _ _ ⟨Nat.le_refl _,Nat.lt_succ_self _⟩
end
section
variable {lo B k:Nat} {w wr:World} {v:Value} {Xl:List Int}
def ZeA (x:Int):Prop:=x=x
def ZaJ (lo:Nat) (w:World) (v:Value) (Xl:List Int):Prop:=
 (∃ (a:Option Addr) (cap:Nat),v=.slice a 0 cap/\Xl=[])\/
 ∃ (b off cap:Nat),v=.slice (some ⟨b,off,none⟩) Xl.length cap/\Xl≠[]/\Xl.length<=maxLen/\b < w.heap.size/\lo<=b/\Xl.length<=cap/\
  ∀ i (h:i < Xl.length),ZeA Xl[i]/\w.cell? ⟨b,off+i,none⟩=some (.int .i64 Xl[i])
theorem ZaJ.below {w':World} (h:ZaJ lo w v Xl) (hb:Zw_ w w'):ZaJ lo w' v Xl:=by
 rcases h with h | ⟨b,off,cap,h1,h2,h3,h4,h5,h6,h7⟩
 . exact Or.inl h
 . refine Or.inr ⟨b,off,cap,h1,h2,h3,Zk_ h4 hb.size,h5,h6,fun i hi=>⟨(h7 i hi).1,?_⟩⟩
   rw [hb.cell (p:=⟨b,_,none⟩) h4];exact (h7 i hi).2
theorem ZaJ.mono {lo':Nat} (h:ZaJ lo w v Xl) (hl:lo'<=lo):ZaJ lo' w v Xl:=by
 rcases h with h | ⟨b,off,cap,h1,h2,h3,h4,h5,h6,h7⟩
 . exact Or.inl h
 . exact Or.inr ⟨b,off,cap,h1,h2,h3,h4,Nat.le_trans hl h5,h6,h7⟩
theorem ZaJ.set (h:ZaJ lo w v Xl) {p:Addr} (hp:p.block < lo) (u:Value):ZaJ lo (w.setCell p u) v Xl:=by
 rcases h with h | ⟨b,off,cap,h1,h2,h3,h4,h5,h6,h7⟩
 . exact Or.inl h
 . refine Or.inr ⟨b,off,cap,h1,h2,h3,by simpa [World.setCell] using h4,h5,h6,fun i hi=>⟨(h7 i hi).1,?_⟩⟩
   rw [ZbR _ _ _ _ (by show b≠p.block;omega)];exact (h7 i hi).2
theorem ZaJ.form (h:ZaJ lo w v Xl):∃ a cap,v=.slice a Xl.length cap:=by
 rcases h with ⟨a,cap,h,rfl⟩ | ⟨b,off,cap,h,_⟩
 . exact⟨a,cap,h⟩
 . exact⟨_,cap,h⟩
theorem ZaJ.max (h:ZaJ lo w v Xl):Xl.length<=maxLen:=by
 rcases h with ⟨a,cap,h,rfl⟩ | ⟨b,off,cap,h,_,h3,_⟩
 . exact Nat.zero_le _
 . exact h3
theorem ZaJ.full (h:ZaJ lo w v Xl) (hne:Xl≠[]):∃ (b off cap:Nat),v=.slice (some ⟨b,off,none⟩) Xl.length cap/\Xl.length<=maxLen/\b < w.heap.size/\Xl.length<=cap/\
 ∀ i (h:i < Xl.length),ZeA Xl[i]/\w.cell? ⟨b,off+i,none⟩=some (.int .i64 Xl[i]):=by
 rcases h with ⟨_,_,_,h⟩ | ⟨b,off,cap,h1,_,h3,h4,_,h6,h7⟩
 . exact absurd h hne
 . exact⟨b,off,cap,h1,h3,h4,h6,h7⟩
theorem ZaJ.full' {a:Option Addr}{n cap:Nat} (h:ZaJ lo w (.slice a n cap) Xl) (hL:0 < Xl.length) :
 ∃ b off,a=some ⟨b,off,none⟩/\b < w.heap.size/\lo<=b/\∀ i (h:i < Xl.length),ZeA Xl[i]/\w.cell? ⟨b,off+i,none⟩=some (.int .i64 Xl[i]):=by
 rcases h with ⟨a',cap',h,rfl⟩ | ⟨b',off',cap',h1,h2,h3,h4,h5,h6,h7⟩
 . simp at hL
 . injection h1 with e1 e2 e3
   exact⟨b',off',e1,h4,h5,h7⟩
def ZaN (Xl:List Int):Prop:=Xl.length<=1048576
def ZkT (Xl:List Int) (left r:Int):Prop:= -1<=r/\r<=left/\(0<=r->ZaN Xl)
theorem ZfP (lo:Nat) (v:Value) (Xl:List Int) (left:Int) (w:World) (h0:0<=left) (h1:left<=1048576) (hv:ZaJ lo w v Xl) :
 Calls prog 24 #[v,.int .i64 left] w fun e w'=>∃ r:Int,e=.returned (.int .i64 r)/\Zw_ w w'/\ZkT Xl left r:=by
 have hm:=hv.max;unfold maxLen at hm;obtain⟨a,cap,rfl⟩:=hv.form;clear hv
 by_cases hle:(Xl.length:Int)<=left
 . go_enter func24,ntmps24
   go_wp2;go_ret;exact⟨_,rfl,Below.refl _ _,by omega,by omega,fun _=>by unfold ZaN;omega⟩
 . go_enter func24,ntmps24
   go_wp2;go_ret;exact⟨-1,rfl,Below.refl _ _,by omega,by omega,fun h=>by omega⟩
theorem ZeE (lo lo':Nat) (v v':Value) (Xl:List Int) (w:World) (hv:ZaJ lo w v Xl) (hv':ZaJ lo' w v' Xl) :
 Calls prog 44 #[v,v'] w fun e w'=>e=.returned (.bool true)/\Zw_ w w':=by
 by_cases hL:Xl=[]
 . subst hL
   obtain⟨a,cap,rfl⟩:=hv.form;obtain⟨a',cap',rfl⟩:=hv'.form;clear hv hv';go_enter func44,ntmps44;go_wp2
   go_loop [5] (fun i=>i=.int .i64 0) (fun _=>0)
   case atStart=>rfl
   case round=>
    subst hrel;go_wp2;go_ret;exact⟨rfl,Below.refl _ _⟩
 . obtain⟨b,off,cap,rfl,hm,hbw,_,hc⟩:=hv.full hL
   obtain⟨b',off',cap',rfl,_,hbw',_,hc'⟩:=hv'.full hL;clear hv hv';unfold maxLen at hm;go_enter func44,ntmps44;go_wp2
   go_loopw [5] (fun i wr=>∃ k:Nat,i=.int .i64 k/\k<=Xl.length/\Zw_ w wr) (fun i _=>Xl.length - (intOf i).toNat)
   case atStart=>exact⟨0,rfl,by omega,Below.refl _ _⟩
   case round=>
    obtain⟨k,rfl,hk,hb⟩:=hrel
    by_cases hlt:k < Xl.length
    . have c0:wr.cell? ⟨b,off+k,none⟩=some (.int .i64 Xl[k]):=by rw [hb.cell (p:=⟨b,_,none⟩) hbw];exact (hc k hlt).2
      have d0:wr.cell? ⟨b',off'+k,none⟩=some (.int .i64 Xl[k]):=by rw [hb.cell (p:=⟨b',_,none⟩) hbw'];exact (hc' k hlt).2
      have HB:=Zaa hb;clear hb;go_wp2
      try go_quiet (fail)
      try go_wp2
      go_roundw
      . exact⟨k+1,by go_num,by omega,by first | exact HB.o | exact below_drewN HB.o _⟩
      . simp [intOf];omega
    . go_wp2
      go_ret;exact⟨rfl,hb⟩
theorem Tryz.infoRis:(prog.info? 3).map (fun i=>(i.zero,i.size,i.bytes))=some (some (.int .i64 0),1,8):=by kernel_rfl
def ZbW (wr:World) (B:Nat) (Xl:List Int) (k:Nat):Prop:=∃ f,wr.rowIs B 3 Xl.length f/\∀ i (h:i < Xl.length),i < k->ZeA Xl[i]/\f i=.int .i64 Xl[i]
theorem ZbW.step (h:ZbW wr B Xl k) (hk:k < Xl.length) (hz:ZeA Xl[k]):ZbW (wr.setCell ⟨B,k,none⟩ (.int .i64 Xl[k])) B Xl (k+1):=by
 obtain⟨f,hr,hall⟩:=h;refine⟨_,hr.set _ _,fun i hi hik=>?_⟩
 by_cases e:i=k
 . subst e
   exact⟨hz,by simp⟩
 . obtain⟨hz',h0⟩:=hall i hi (by omega)
   exact⟨hz',by rw [if_neg e];exact h0⟩
theorem ZbW.done (h:ZbW wr B Xl k) (hk:Xl.length<=k) (hne:Xl≠[]) (hm:Xl.length<=maxLen):ZaJ B wr (.slice (some ⟨B,0,none⟩) Xl.length Xl.length) Xl:=by
 obtain⟨f,hr,hall⟩:=h;refine Or.inr ⟨B,0,Xl.length,rfl,hne,hm,hr.lt,Nat.le_refl _,Nat.le_refl _,fun i hi=>?_⟩;obtain⟨hz,h0⟩:=hall i hi (by omega);exact⟨hz,by rw [Nat.zero_add,hr.cell hi,h0]⟩
theorem ZbW.there (h:ZbW wr B Xl k) (i:Nat) (hi:i < Xl.length):∃ v,wr.cell? ⟨B,i,none⟩=some v:=by
 obtain⟨f,hr,_⟩:=h;exact⟨_,hr.cell hi⟩
theorem ZbW.free (h:ZbW wr B Xl k) (i:Nat):wr.frozen? ⟨B,i,none⟩=false:=by
 obtain⟨f,hr,_⟩:=h;exact hr.frozen i
theorem ZfR (lo:Nat) (v:Value) (Xl:List Int) (w:World) (hv:ZaJ lo w v Xl) (hn:ZaN Xl) :
 Calls prog 35 #[v] w fun e w'=>∃ v',e=.returned v'/\Zw_ w w'/\ZaJ w.heap.size w' v' Xl:=by
 unfold ZaN at hn
 by_cases hL:Xl=[]
 . subst hL
   obtain⟨a,cap,rfl⟩:=hv.form;clear hv
   have hmk:∀ u:World,(Instr.makeSlice 27 (.int .i64 0) (.int .i64 0)).run prog u=.ok (.slice (some ⟨u.heap.size,0,none⟩) 0 0) (u.alloc (.cells (madeCells #[.int .i64 0] 0) 3)):=
    fun u=>run_make_row' 27 3 (.int .i64 0) 8 underlying27 Tryz.infoRis rfl .i64 .i64 0 (by omega) (by omega) u
   go_enter func35,ntmps35;go_wp2
   go_loop [4] (fun i=>i=.int .i64 0) (fun _=>0)
   case atStart=>rfl
   case round=>
    subst hrel;go_wp2;go_ret;exact⟨_,rfl,Zb_.alloc Zl_ _,Or.inl ⟨_,_,rfl,rfl⟩⟩
 . obtain⟨b,off,cap,rfl,hm,hbw,_,hc⟩:=hv.full hL
   clear hv;have HM:Hd (Xl.length<=maxLen):=hm;unfold maxLen at hm
   have hmk:∀ u:World,(Instr.makeSlice 27 (.int .i64 (Xl.length:Int)) (.int .i64 (Xl.length:Int))).run prog u=.ok (.slice (some ⟨u.heap.size,0,none⟩) Xl.length Xl.length) (u.alloc (.cells (madeCells #[.int .i64 0] Xl.length) 3)):=
    fun u=>run_make_row' 27 3 (.int .i64 0) 8 underlying27 Tryz.infoRis rfl .i64 .i64 Xl.length (by omega) (by omega) u
   go_enter func35,ntmps35;go_wp2;clear hmk
   go_loopw [4] (fun i wr=>∃ k:Nat,i=.int .i64 k/\k<=Xl.length/\Zw_ w wr/\ZbW wr w.heap.size Xl k) (fun i _=>Xl.length - (intOf i).toNat)
   case atStart=>exact⟨0,rfl,by omega,Zb_.alloc Zl_ _,⟨_,World.rowIs_made w (.int .i64 0) Xl.length 3,fun i _ h=>by omega⟩⟩
   case round=>
    obtain⟨k,rfl,hk,hb,hf⟩:=hrel
    by_cases hlt:k < Xl.length
    . obtain⟨hz,hck⟩:=hc k hlt
      rw [<- hb.cell (p:=⟨b,off+k,none⟩) hbw] at hck;obtain⟨v0,hold⟩:=hf.there k hlt;have hfz:=hf.free k;have HZ:=Zaa hz;have HF:=Zaa hf;have HB:=Zaa hb;clear hz hf hb;go_wp2;go_roundw
      . exact⟨k+1,by go_num,by omega,HB.o.setCell Zl_ _,HF.o.step hlt HZ.o⟩
      . simp [intOf];omega
    . go_wp2
      go_ret;exact⟨_,rfl,hb,hf.done (by omega) hL HM.o⟩
end
section
variable {lo lo':Nat} {w w':World} {v0:Value} {cs:List Value}
structure Ra where
 ix:Int
 fr:List Int
variable {U:Ra}
def Zci (U:Ra):Prop:=ZaN U.fr
structure Zi8 (lo:Nat) (w:World) (v0:Value) (U:Ra):Prop where
 l0:ZaJ lo w v0 U.fr
theorem Zi8.below (h:Zi8 lo w v0 U) (hb:Zw_ w w'):Zi8 lo w' v0 U:=⟨h.l0.below hb⟩
theorem Zi8.mono (h:Zi8 lo w v0 U) (hl:lo'<=lo):Zi8 lo' w v0 U:=⟨h.l0.mono hl⟩
theorem Zi8.set (h:Zi8 lo w v0 U) {p:Addr} (hp:p.block < lo) (u:Value):Zi8 lo (w.setCell p u) v0 U:=⟨h.l0.set hp u⟩
def raL (U:Ra) (a0:Option Addr) (k0:Nat):List Value:=[.int .i64 U.ix,.slice a0 U.fr.length k0]
def RaC (lo:Nat) (w:World) (cs:List Value) (U:Ra):Prop:=∃ a0 k0,cs=raL U a0 k0/\Zi8 lo w (.slice a0 U.fr.length k0) U
theorem RaC.below (h:RaC lo w cs U) (hb:Zw_ w w'):RaC lo w' cs U:=by
 obtain⟨a0,k0,h1,h2⟩:=h;exact⟨a0,k0,h1,h2.below hb⟩
theorem RaC.mono (h:RaC lo w cs U) (hl:lo'<=lo):RaC lo' w cs U:=by
 obtain⟨a0,k0,h1,h2⟩:=h;exact⟨a0,k0,h1,h2.mono hl⟩
theorem RaC.set (h:RaC lo w cs U) {p:Addr} (hp:p.block < lo) (u:Value):RaC lo (w.setCell p u) cs U:=by
 obtain⟨a0,k0,h1,h2⟩:=h;exact⟨a0,k0,h1,h2.set hp u⟩
theorem RaC.len (h:RaC lo w cs U):cs.length=2:=by
 obtain⟨a0,k0,h1,h2⟩:=h;rw [h1];rfl
theorem RaC.one (h:RaC lo w cs U):Array.all cs.toArray (·.oneCell')=true:=by
 obtain⟨a0,k0,h1,h2⟩:=h;rw [h1];unfold raL;simp [Value.oneCell']
theorem ZkL (lo:Nat) (cs:List Value) (U:Ra) (left:Int) (w:World) (h0:0<=left) (h1:left<=1048576) (h:RaC lo w cs U) :
 Calls prog 69 #[.agg cs.toArray,.int .i64 left] w
  fun e w'=>∃ r:Int,e=.returned (.int .i64 r)/\Zw_ w w'/\-1<=r/\r<=left/\(0<=r->Zci U):=by
 obtain⟨a0,k0,rfl,h⟩:=h
 show Calls prog 69 #[.agg #[.int .i64 U.ix,.slice a0 U.fr.length k0],.int .i64 left] w _
 have HL:=Zaa h;clear h;go_enter func69,ntmps69;go_wp2_with fail;generalize hWa:w.alloc _=Wa;have HB:Hd (Zw_ w Wa):=by unfold Hd;rw [<- hWa];exact Zab _ _
 have FX:Hd (Box Wa w.heap.size #[.int .i64 U.ix,.slice a0 U.fr.length k0]):=by unfold Hd;rw [<- hWa];exact Box.new _ _ _ _ rfl
 clear hWa;refine (ZfP lo _ U.fr _ _ (by omega) (by omega) ((HL.o.below HB.o).l0)).mono ?_;rintro e w0 ⟨q0,rfl,hb,p0a,p0b,p0c⟩;have Q0:=Zaa p0c;replace HB:=Zaa (bt HB.o hb);replace FX:=Zaa (FX.o.on hb);clear hb p0c
 by_cases m0:q0 < 0
 . go_wp2
   go_ret;exact⟨-1,rfl,HB.o,by omega,by omega,fun h=>by omega⟩
 go_wp2;go_ret;exact⟨_,rfl,HB.o,by omega,by omega,fun h=>Q0.o (by omega)⟩
theorem ZkE (lo lo':Nat) (cs cs':List Value) (U:Ra) (w:World) (h:RaC lo w cs U) (h':RaC lo' w cs' U) :
 Calls prog 105 #[.agg cs.toArray,.agg cs'.toArray] w fun e w'=>e=.returned (.bool true)/\Zw_ w w':=by
 obtain⟨a0,k0,rfl,h⟩:=h;obtain⟨d0,e0,rfl,h'⟩:=h'
 show Calls prog 105 #[.agg #[.int .i64 U.ix,.slice a0 U.fr.length k0],.agg #[.int .i64 U.ix,.slice d0 U.fr.length e0]] w _
 have HL:=Zaa h;have HR:=Zaa h';clear h h';go_enter func105,ntmps105;go_wp2_with fail;generalize hWa:(World.alloc (w.alloc _) _)=Wa;have HB:Hd (Zw_ w Wa):=by unfold Hd;rw [<- hWa];exact (Zab w _).alloc (by simp) _
 have FX:Hd (Box Wa w.heap.size #[.int .i64 U.ix,.slice a0 U.fr.length k0]):=by unfold Hd;rw [<- hWa];exact (Box.new _ _ _ _ rfl).on (Zab _ _)
 have FY:Hd (Box Wa (w.heap.size+1) #[.int .i64 U.ix,.slice d0 U.fr.length e0]):=by unfold Hd;rw [<- hWa];exact Box.new _ _ _ _ (by simp)
 clear hWa;refine (ZeE lo lo' _ _ U.fr _ ((HL.o.below HB.o).l0) ((HR.o.below HB.o).l0)).mono ?_;rintro e w0 ⟨rfl,hb⟩;replace HB:=Zaa (bt HB.o hb);replace FX:=Zaa (FX.o.on hb);replace FY:=Zaa (FY.o.on hb);clear hb;have g0:=FX.o.cell;have g1:=FY.o.cell;go_wp2;go_ret;exact⟨rfl,HB.o⟩
theorem ZkN (lo:Nat) (cs:List Value) (U:Ra) (w:World) (h:RaC lo w cs U) (hn:Zci U) :
 Calls prog 84 #[.agg cs.toArray] w
  fun e w'=>∃ cs',e=.returned (.agg cs'.toArray)/\Zw_ w w'/\RaC w.heap.size w' cs' U:=by
 obtain⟨a0,k0,rfl,h⟩:=h
 show Calls prog 84 #[.agg #[.int .i64 U.ix,.slice a0 U.fr.length k0]] w _
 have HL:=Zaa h;have hn0:=hn;clear h;go_enter func84,ntmps84;go_wp2_with fail
 obtain⟨wz,hwz,FX,FR,FO,HB⟩:∃ wz,wz=((w.alloc (.cells #[.int .i64 U.ix,.slice a0 U.fr.length k0] 97)).alloc (.cells #[.int .i64 0,.slice none 0 0] 105)).alloc (.cells #[.int .i64 U.ix,.slice none 0 0] 105)/\
  Hd (Box wz w.heap.size #[.int .i64 U.ix,.slice a0 U.fr.length k0])/\Hd (Box wz (w.heap.size+1) #[.int .i64 0,.slice none 0 0])/\Hd (Box wz (w.heap.size+1+1) #[.int .i64 U.ix,.slice none 0 0])/\Hd (Zw_ w wz):=
  ⟨_,rfl,((Box.new w _ _ _ rfl).on (Zab _ _)).on (Zab _ _),(Box.new _ _ _ _ (by simp)).on (Zab _ _),Box.new _ _ _ _ (by simp),((Zab _ _).trans ((Zab _ _).mono (by simp))).trans ((Zab _ _).mono (by simp;omega))⟩
 rw [<- hwz];clear hwz;generalize wz=v0 at*;have hz0:w.heap.size+3<=v0.heap.size:=by have:=FO.o.lt;omega
 refine (ZfR lo _ U.fr _ ((HL.o.below HB.o).l0) hn0).mono ?_;rintro e x0 ⟨u,rfl,hb,hs⟩;obtain⟨b0,m0,rfl⟩:=hs.form;have N0:=Zaa (hs.mono hz0);replace FX:=Zaa (FX.o.on hb);replace FR:=Zaa (FR.o.on hb);replace FO:=Zaa (FO.o.on hb);replace HB:=Zaa (bt HB.o hb);clear hb hs hz0;have g0:=FO.o.cell;have g1:=FO.o.free;have g2:=FR.o.cell;have g3:=FR.o.free;have g4:=FX.o.cell;go_wp2;refine bodyPost_ret (v:=.agg #[.int .i64 U.ix,.slice b0 U.fr.length m0]) (by simp [results,results84,go_sem,g2]) rfl ⟨raL U b0 m0,rfl,?_,b0,m0,rfl,⟨?_⟩⟩
 . repeat (refine Below.setCell ?_ (by simp only [];omega) _)
   exact HB.o
 . refine ZaJ.mono (lo:=w.heap.size+3) ?_ (by omega)
   repeat (refine ZaJ.set ?_ (by simp only [];omega) _)
   exact N0.o
end
variable {i fuel:Nat} {D:List Nat} {o:Oper} {a:Act} {w:World}
section
variable {P:Program} {ops:Array Oper} {Q:Exit->Act->World->Prop} {md:Region.Mode} {S:World->Prop} {B:List Nat}
def Zb5 (P:Program) (md:Region.Mode) (ops:Array Oper) (Q:Exit->Act->World->Prop) (S:World->Prop) (B:List Nat):Nat->Array Bool->Act->World->Prop
 | 0,listed,a,w=>Region.ready md ops listed=[]/\Q .normal a w
 | fuel+1,listed,a,w=>
  (Region.ready md ops listed=[]->Q .normal a w)/\
  ∀ i ∈ Region.ready md ops listed,wpOp P ops Q i (fun a' w'=>(i ∉ B->S w')/\Zb5 P md ops Q S B fuel (listed.setIfInBounds i true) a' w') a w
theorem ZeQ:∀ (fuel:Nat) (listed:Array Bool) (a:Act) (w:World),Zb5 P md ops Q S B fuel listed a w->wpAny P md ops Q fuel listed a w
 | 0,_,_,_,h=>h
 | fuel+1,_,_,_,h=>⟨h.1,fun i hi=>wpOp_mono (fun a' w' h'=>ZeQ fuel _ a' w' h'.2) (h.2 i hi)⟩
def ZfU (md:Region.Mode) (ops:Array Oper) (i:Nat) (D:List Nat):Bool:=D.all fun j=>match ops[j]? with
 | some oj=>oj.after.any fun e=>Region.binds md e&&((e.on == i) || D.contains e.on)
 | none=>false
theorem Zi4 {listed:Array Bool} (hD:ZfU md ops i D=true) (hi:listed.getD i true=false) (hun:∀ j ∈ D,listed.getD j true=false) {j:Nat} (hj:j ∈ Region.ready md ops listed):j ∉ D:=by
 intro hjD;unfold ZfU at hD;rw [List.all_eq_true] at hD;have h1:=hD j hjD;obtain⟨-,oj,hoj,hall⟩:=mem_ready.1 hj;rw [hoj] at h1;simp only [Array.any_eq_true] at h1;obtain⟨k,hk,he⟩:=h1;rw [Bool.and_eq_true,Bool.or_eq_true,beq_iff_eq] at he;have h2:=hall _ (Array.getElem_mem hk) he.1
 have h3:listed.getD (oj.after[k]).on true=false:=by
  rcases he.2 with h | h
  . rw [h];exact hi
  . exact hun _ (by simpa using h)
 rcases Nat.lt_or_ge (oj.after[k]).on listed.size with h' | h'
 . simp [h'] at h2 h3;rw [h3] at h2;cases h2
 . simp [Array.getElem?_eq_none h'] at h2
theorem ZfW {oi:Oper}{v:Value} (hi:ops[i]?=some oi) (hsel:∀ (j:Nat) (o:Oper) cs b,ops[j]?=some o->o.op≠.select cs b)
 (hQ:∀ c a w,Q (.panic c) (a.put oi.dst v) w->Q (.panic c) a w) (hD:ZfU md ops i D=true) (hl:∀ b ∈ B,b ∈ D) (hil:i ∉ B) (hiD:i ∉ D) :
 ∀ (fuel:Nat) (listed:Array Bool) (a:Act) (w:World),
  (∀ j oj,ops[j]?=some oj->j≠i->listed.getD j true=false->(∀ e ∈ oj.after,Region.binds md e=true->e.on≠i)->oi.apart ops oj=true)->
  (∀ j ∈ D,listed.getD j true=false)->
  i ∈ Region.ready md ops listed->YieldsIf P ops S oi v a->S w->
  Zb5 P md ops Q S B fuel (listed.setIfInBounds i true) (a.put oi.dst v) w->Zb5 P md ops Q S B (fuel+1) listed a w:=by
 intro fuel
 induction fuel with
 | zero=>
  intro listed a w _ _ hr hy hS H;refine⟨fun h=>(by rw [h] at hr;cases hr),fun j hj=>?_⟩
  by_cases hji:j=i
  . subst hji;exact hy.wpOp hi hS ⟨fun _=>hS,H⟩
  . have:=ready_mono hj hji
    rw [H.1] at this
    cases this
 | succ fuel ih=>
  intro listed a w hfree hun hr hy hS H;refine⟨fun h=>(by rw [h] at hr;cases hr),fun j hj=>?_⟩
  by_cases hji:j=i
  . subst hji;exact hy.wpOp hi hS ⟨fun _=>hS,H⟩
  . have hjD:j ∉ D:=Zi4 hD (mem_ready.1 hr).1 hun hj
    have hjl:j ∉ B:=fun e=>hjD (hl j e)
    have h1:=H.2 j (ready_mono hj hji);obtain⟨hjun,oj,hoj,hall⟩:=mem_ready.1 hj
    have hnot:∀ e ∈ oj.after,Region.binds md e=true->e.on≠i:=fun e he hb heq=>by
     have h1:=hall e he hb;have h0:=(mem_ready.1 hr).1;rw [heq] at h1
     rcases Nat.lt_or_ge i listed.size with h' | h'
     . simp [h'] at h0 h1;rw [h0] at h1;cases h1
     . simp [Array.getElem?_eq_none h'] at h1
    have h2:=wpOp_putIf hoj (hfree j oj hoj hji hjun hnot) (fun cs b=>hsel i oi cs b hi) (fun cs b=>hsel j oj cs b hoj) hQ hy h1
    have hfree':∀ k ok,ops[k]?=some ok->k≠i->(listed.setIfInBounds j true).getD k true=false->
     (∀ e ∈ ok.after,Region.binds md e=true->e.on≠i)->oi.apart ops ok=true:=fun k ok hk hki hun hno=>by
     refine hfree k ok hk hki ?_ hno
     by_cases hjk:j=k
     . subst hjk;exact hjun
     . rw [getD_set_ne true hjk] at hun;exact hun
    have hun':∀ k ∈ D,(listed.setIfInBounds j true).getD k true=false:=fun k hk=>by
     rw [getD_set_ne true (fun e=>hjD (by rw [e];exact hk))];exact hun k hk
    refine wpOp_mono (fun a' w' h3=>⟨h3.2.1,ih (listed.setIfInBounds j true) a' w' hfree' hun' (ready_mono hr (Ne.symm hji)) h3.1 (h3.2.1 hjl) ?_⟩) h2;rw [Array.setIfInBounds_comm _ _ hji];exact h3.2.2
theorem Zbh (D:List Nat) {i:Nat} {oi:Oper} {v:Value} {fuel:Nat} {listed:Array Bool} {a:Act} {w:World} (hi:ops[i]?=some oi)
 (hs:Region.noSelect ops=true) (hf:Region.free md ops listed i=true) (hr:(Region.ready md ops listed).contains i=true)
 (hD:(ZfU md ops i D&&(B.all fun b=>D.contains b)&&!(B.contains i)&&!D.contains i&&D.all fun j=>!listed.getD j true)=true)
 (hQ:∀ c a w,Q (.panic c) (a.put oi.dst v) w->Q (.panic c) a w) (hy:YieldsIf P ops S oi v a) (hS:S w)
 (h:Zb5 P md ops Q S B fuel (listed.setIfInBounds i true) (a.put oi.dst v) w):Zb5 P md ops Q S B (fuel+1) listed a w:=by
 simp only [Bool.and_eq_true,Bool.not_eq_true',List.all_eq_true] at hD;obtain⟨⟨⟨⟨h1,h2⟩,h3⟩,h4⟩,h5⟩:=hD;exact ZfW hi (Region.noSelect_spec hs) hQ h1 (fun b hb=>by simpa using h2 b hb) (by simpa using h3) (by simpa using h4) fuel listed a w (Region.free_spec hi hf) h5 (by simpa using hr) hy hS h
theorem tB (i:Nat) (v:Value) (D:List Nat) {oi:Oper} {fuel:Nat} {listed:Array Bool} {a:Act} {w:World} (hi:ops[i]?=some oi) (hS:S w)
 (h:Zb5 P md ops Q S B fuel (listed.setIfInBounds i true) (a.put oi.dst v) w)
 (hs:Region.noSelect ops=true:=by kernel_rfl) (hf:Region.free md ops listed i=true:=by kernel_rfl) (hr:(Region.ready md ops listed).contains i=true:=by kernel_rfl)
 (hD:(ZfU md ops i D&&(B.all fun b=>D.contains b)&&!(B.contains i)&&!D.contains i&&D.all fun j=>!listed.getD j true)=true:=by kernel_rfl)
 (hQ:∀ c a w,Q (.panic c) (a.put oi.dst v) w->Q (.panic c) a w:=by exact fun _ _ _ h=>h)
 (hy:YieldsIf P ops S oi v a:=by exact Or.inl ⟨by rfl,fun W hW=>by (repeat obtain⟨_,hW⟩:_/\_:=hW);go_simp⟩):Zb5 P md ops Q S B (fuel+1) listed a w:=
 Zbh D hi hs hf hr hD hQ hy hS h
theorem ZhA {listed:Array Bool} (hr:Region.ready md ops listed=[i]) (ho:ops[i]?=some o)
 (h:∀ K':Act->World->Prop,Shut (∀ a w,(i ∉ B->S w)->((i ∉ B->S w)->Zb5 P md ops Q S B fuel (listed.setIfInBounds i true) a w)->K' a w)->if Region.wanted o (yielded ops a.tmps)=true then Oper.wp P o a w K' Q else K' (a.put o.dst undef) w):Zb5 P md ops Q S B (fuel+1) listed a w:=by
 refine⟨fun h0=>(by rw [hr] at h0;cases h0),fun j hj=>?_⟩;rw [hr] at hj;have:=List.mem_singleton.1 hj;subst this;exact wpOp_step ho fun K' hK=>h K' fun a w hS hW=>hK a w ⟨hS,hW hS⟩
theorem oB (i:Nat) {o:Oper} {fuel:Nat} {listed:Array Bool} {a:Act} {w:World} (ho:ops[i]?=some o)
 (h:∀ K':Act->World->Prop,Shut (∀ a w,(i ∉ B->S w)->((i ∉ B->S w)->Zb5 P md ops Q S B fuel (listed.setIfInBounds i true) a w)->K' a w)->if Region.wanted o (yielded ops a.tmps)=true then Oper.wp P o a w K' Q else K' (a.put o.dst undef) w)
 (hr:Region.ready md ops listed=[i]:=by kernel_rfl):Zb5 P md ops Q S B (fuel+1) listed a w:=ZhA hr ho h
theorem ZbM {i':Nat}{o':Oper}{listed:Array Bool} (hr:Region.ready md ops listed=[i,i']) (ho:ops[i]?=some o) (ho':ops[i']?=some o')
 (h:∀ K':Act->World->Prop,Shut (∀ a w,(i ∉ B->S w)->((i ∉ B->S w)->Zb5 P md ops Q S B fuel (listed.setIfInBounds i true) a w)->K' a w)->if Region.wanted o (yielded ops a.tmps)=true then Oper.wp P o a w K' Q else K' (a.put o.dst undef) w)
 (h':∀ K':Act->World->Prop,Shut (∀ a w,(i' ∉ B->S w)->((i' ∉ B->S w)->Zb5 P md ops Q S B fuel (listed.setIfInBounds i' true) a w)->K' a w)->if Region.wanted o' (yielded ops a.tmps)=true then Oper.wp P o' a w K' Q else K' (a.put o'.dst undef) w):Zb5 P md ops Q S B (fuel+1) listed a w:=by
 refine⟨fun h0=>(by rw [hr] at h0;cases h0),fun j hj=>?_⟩;rw [hr] at hj
 rcases List.mem_cons.1 hj with rfl | hj
 . exact wpOp_step ho fun K' hK=>h K' fun a w hS hW=>hK a w ⟨hS,hW hS⟩
 . have:=List.mem_singleton.1 hj
   subst this;exact wpOp_step ho' fun K' hK=>h' K' fun a w hS hW=>hK a w ⟨hS,hW hS⟩
theorem Zak {listed:Array Bool} (hr:Region.ready md ops listed=[]) (h:Q .normal a w):∀ fuel,Zb5 P md ops Q S B fuel listed a w
 | 0=>⟨hr,h⟩
 | _+1=>⟨fun _=>h,by rw [hr];simp⟩
theorem Zao (B:List Nat) {id:Nat} {a:Act} {w:World} (hm:P.follows .mixedOrders=true) (hS:S w.drew)
 (h:S w.drew->Zb5 P .any ops Q S B ops.size (Array.replicate ops.size false) a w.drew):(Code.region id ops true).wp P Q a w:=
 wp_region_any hm (ZeQ _ _ _ _ (h hS))
end
end Go.Proofs.YtkiefplmnoapfaaGreat
