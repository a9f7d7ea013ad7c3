import Derived.Test.YtdeammfdkaomlaaGreatM00
import Derived.Maps.AppendAt
import Derived.ArgAppend
import Derived.Laws.IdiomStrings
import Derived.Laws.Concat
set_option maxHeartbeats 16000000
set_option maxRecDepth 100000
open Go.Proofs.Tryz
namespace Go.Proofs.YtdeammfdkaomlaaGreat
open Go.RowKit Go.Deep
section
variable {n g:Nat} {w:World} {cur:Array Value} {e:TypeId}
def Zai {X:Type} (f:X->List Value):List X->List Value
 | []=>[]
 | x :: r=>f x ++ Zai f r
theorem Zaw {X:Type}{f:X->List Value} (h:∀ x,(f x).length=n):∀ L:List X,(Zai f L).length=L.length*n
 | []=>by simp [Zai]
 | x :: r=>by rw [Zai,List.length_append,h,Zaw h r,List.length_cons,Nat.succ_mul,Nat.add_comm]
theorem Zbt {X:Type}{f:X->List Value} (h:∀ x,(f x).length=n):∀ (L:List X) (i t:Nat) (hi:i < L.length),t < n->(Zai f L)[i*n+t]?=(f L[i])[t]?
 | [],i,t,hi,_=>by simp at hi
 | x :: r,0,t,hi,ht=>by
  rw [Zai,Nat.zero_mul,Nat.zero_add,List.getElem?_append_left (by rw [h];exact ht)]
  rfl
 | x :: r,i+1,t,hi,ht=>by
  rw [Zai,List.getElem?_append_right (by rw [h,Nat.succ_mul];omega),h,show (i+1)*n+t - n=i*n+t by rw [Nat.succ_mul];omega,Zbt h r i t (by simpa using hi) ht]
  rfl
theorem Zbg {X:Type}{f:X->List Value}:∀ A B:List X,Zai f (A ++ B)=Zai f A ++ Zai f B
 | [],B=>rfl
 | x :: r,B=>by rw [List.cons_append,Zai,Zai,Zbg r B,List.append_assoc]
theorem ZcB {X:Type}{f:X->List Value}{L:List X}{u:Value} (hu:u ∈ Zai f L):∃ x ∈ L,u ∈ f x:=by
 induction L with
 | nil=>cases hu
 | cons x r ih=>
  rw [Zai,List.mem_append] at hu
  rcases hu with hu | hu
  . exact⟨x,List.mem_cons_self ..,hu⟩
  . obtain⟨y,hy,h⟩:=ih hu
    exact⟨y,List.mem_cons_of_mem _ hy,h⟩
theorem Zd8 (h:w.heap[g]?=some (.cells cur e (0,0))) (i:Nat):w.frozen? ⟨g,i,none⟩=false:=by
 simp [World.frozen?,h]
theorem Zda {fz:Nat×Nat} (h:w.heap[g]?=some (.cells cur e fz)) (i:Nat):w.cell? ⟨g,i,none⟩=cur[i]?:=by
 simp [World.cell?,h]
theorem Zdq {X:Type}{f:X->List Value}{s:Nat} (hs:∀ x,(f x).length=s) {L:List X} {n j:Nat} {u:Value} (hn:n<=L.length) (h:(Zai f (L.drop n))[j]?=some u):(Zai f L)[n*s+j]?=some u:=by
 have e:Zai f L=Zai f (L.take n) ++ Zai f (L.drop n):=by rw [<- Zbg,List.take_append_drop]
 have hl:(Zai f (L.take n)).length=n*s:=by rw [Zaw hs,List.length_take,Nat.min_eq_left hn]
 rw [e,List.getElem?_append_right (by omega),hl,show n*s+j - n*s=j by omega];exact h
theorem wpList_append_run {P:Program}{w':World}{v v1 v2:Value}{ops:Array Oper}{rest:List Oper}{o:Oper}{a:Act}{Q:Exit->Act->World->Prop} (hgd:o.guard=none) (s x:Operand) (t:TypeId)
 (ho:o.op=.call { callee:=.builtin .append,args:=#[s,x],argTypes:=#[t,t] }) (hs:a.eval s=v1) (hx:a.eval x=v2) (hr:(Builtin.append_ #[t,t] o.type #[v1,v2]).run P w=.ok v w')
 (h:wpList P ops Q rest (a.put o.dst v) w'):wpList P ops Q (o :: rest) a w:=by
 refine wpList_plain hgd fun K hK=>?_
 unfold Oper.wp execOp;simp only [ho,resolve,invoke,builtin,Sem.run_bind,Sem.run_pure,Result.andThen_ok,List.map_toArray,List.map_cons,List.map_nil,hs,hx,hr];exact hK _ _ h
end
section
variable {lo hi b n lo' hi':Nat} {a w w' v:World}
def ZdU:Nat->Nat->List UInt8->List UInt8
 | 0,_,acc=>acc
 | f+1,k,acc=>if k=0 then acc else ZdU f (k / 10) (UInt8.ofNat (48+k % 10) :: acc)
theorem Zd6 (f:Nat) (acc:List UInt8):ZdU f 0 acc=acc:=by cases f <;> simp [ZdU]
theorem ZhP (k:Nat):∀ f acc,k<=f->ZdU f k acc=ZdU k k acc:=by
 induction k using Nat.strongRecOn with
 | _ k ih=>
  intro f acc hf
  by_cases h0:k=0
  . subst h0;rw [Zd6,Zd6]
  . obtain⟨f',rfl⟩:∃ f',f=f'+1:=⟨f - 1,by omega⟩
    obtain⟨k',rfl⟩:∃ k',k=k'+1:=⟨k - 1,by omega⟩
    have h1:(k'+1) / 10 < k'+1:=by omega
    rw [show ZdU (f'+1) (k'+1) acc=ZdU f' ((k'+1) / 10) (UInt8.ofNat (48+(k'+1) % 10) :: acc) from by simp [ZdU],
     show ZdU (k'+1) (k'+1) acc=ZdU k' ((k'+1) / 10) (UInt8.ofNat (48+(k'+1) % 10) :: acc) from by simp [ZdU]]
    rw [ih _ h1 f' _ (by omega),ih _ h1 k' _ (by omega)]
theorem ZhQ (k:Nat) (acc:List UInt8) (h:0 < k):ZdU k k acc=ZdU (k / 10) (k / 10) (UInt8.ofNat (48+k % 10) :: acc):=by
 obtain⟨k',rfl⟩:∃ k',k=k'+1:=⟨k - 1,by omega⟩
 rw [show ZdU (k'+1) (k'+1) acc=ZdU k' ((k'+1) / 10) (UInt8.ofNat (48+(k'+1) % 10) :: acc) from by simp [ZdU]];exact ZhP _ _ _ (by omega)
def mtB (k:Int):Zy_:=if k<=0 then ⟨#[109,48]⟩ else ⟨(109 :: ZdU k.toNat k.toNat []).toArray⟩
theorem ZbE (k:Int) (w:World) (hk:k<=4000000000000000000) :
 Calls prog 84 #[.int .i64 k] w fun e w'=>e=.returned (.string (mtB k))/\Zw_ w w':=by
 by_cases h0:k<=0
 . go_enter func84,ntmps84
   go_wp2;go_ret;exact⟨by unfold mtB;rw [if_pos h0];rfl,Below.refl _ _⟩
 . obtain⟨n,rfl⟩:=Int.eq_ofNat_of_zero_le (show 0<=k by omega)
   go_enter func84,ntmps84;go_wp2
   go_loopw [0,3] (fun q o wr=>∃ (j:Nat) (l:List UInt8),q=.int .i64 j/\o=.string ⟨l.toArray⟩/\l.length+j<=n/\Zw_ w wr/\Hd (ZdU j j l=ZdU n n [])) (fun q _ _=>(intOf q).toNat)
   case atStart=>exact⟨n,[],rfl,rfl,by simp,Below.refl _ _,rfl⟩
   case round=>
    obtain⟨j,l,rfl,rfl,hl,hb,hd⟩:=hrel
    by_cases hj:0 < j
    . have hn8:(UInt8.ofNat (48+j % 10)).toNat=48+j % 10:=by rw [UInt8.toNat_ofNat'];omega
      have hcv:(convert 198 9 (.slice (some ⟨wr.heap.size,0,none⟩) 1 1)).run prog (wr.alloc (.cells #[.int .u8 (48+(j:Int) % 10)] 5))=.ok (.string ⟨#[UInt8.ofNat (48+j % 10)]⟩) (wr.alloc (.cells #[.int .u8 (48+(j:Int) % 10)] 5)):=by
       have:=run_convert_bytes_back (P:=prog) (wr.alloc (.cells #[.int .u8 (48+(j:Int) % 10)] 5)) 198 9 5 ⟨wr.heap.size,0,none⟩ 1 [UInt8.ofNat (48+j % 10)] underlying198 underlying5 underlying9 (fun i hi=>by
        have e:i=0:=by simp at hi;omega
        subst e;simp only [List.getElem_cons_zero,hn8];simp [Addr.add])
       exact this
      have had:∀ W,(Op.stringOp .add ⟨#[UInt8.ofNat (48+j % 10)]⟩ ⟨l.toArray⟩).run prog W=.ok (.string ⟨(UInt8.ofNat (48+j % 10) :: l).toArray⟩) W:=fun W=>by
       have:=run_string_add_sum (P:=prog) (w:=W) ⟨#[UInt8.ofNat (48+j % 10)]⟩ ⟨l.toArray⟩ (by simp [ByteArray.size];omega);rw [this]
       rfl
      have HD:Hd (ZdU (j / 10) (j / 10) (UInt8.ofNat (48+j % 10) :: l)=ZdU n n []):=by unfold Hd;rw [<- ZhQ j l hj];exact hd
      have HB:=Zaa hb;clear hn8 hd hb;generalize UInt8.ofNat (48+j % 10)=dg at*;go_wp2;go_roundw
      . exact⟨j / 10,dg :: l,by go_num,rfl,by simp;omega,HB.o.alloc HB.o.size _,HD⟩
      . simp [intOf];omega
    . have had:∀ W,(Op.stringOp .add ⟨#[109]⟩ ⟨l.toArray⟩).run prog W=.ok (.string ⟨(109 :: l).toArray⟩) W:=fun W=>by
       have:=run_string_add_sum (P:=prog) (w:=W) ⟨#[109]⟩ ⟨l.toArray⟩ (by simp [ByteArray.size];omega);rw [this]
       rfl
      have HM:Hd (mtB n=⟨(109 :: l).toArray⟩):=by
       have e:j=0:=by omega
       subst e;unfold Hd mtB;rw [if_neg (by omega),Int.toNat_natCast,<- hd,Zd6]
      clear hd;go_wp2;go_ret;exact⟨by rw [HM.o];rfl,hb⟩
theorem Zf6 (k:Int) (hk:k<=4000000000000000000):(mtB k).size<=maxLen:=by
 unfold mtB
 by_cases h:k<=0
 . rw [if_pos h];simp [ByteArray.size,maxLen]
 . rw [if_neg h]
   have:∀ (f j:Nat) (l:List UInt8),(ZdU f j l).length<=l.length+f:=by
    intro f
    induction f with
    | zero=>intro j l;simp [ZdU]
    | succ f ih=>
     intro j l;rw [ZdU]
     by_cases h0:j=0
     . rw [if_pos h0];omega
     . rw [if_neg h0]
       have:=ih (j / 10) (UInt8.ofNat (48+j % 10) :: l);simp only [List.length_cons] at this;omega
   have:=this k.toNat k.toNat [];simp [ByteArray.size,maxLen] at*
   omega
structure Zad (lo hi:Nat) (w w':World):Prop where
 os:w'.os=w.os
 tape:w'.tape=w.tape
 output:w'.output=w.output
 size:w.heap.size<=w'.heap.size
 block:∀ k,k < w.heap.size->(k < lo\/hi<=k)->w'.heap[k]?=w.heap[k]?
theorem Zad.refl (lo hi:Nat) (w:World):Zad lo hi w w:=⟨rfl,rfl,rfl,Nat.le_refl _,fun _ _ _=>rfl⟩
theorem Zad.trans {b c:World} (h:Zad lo hi a b) (k:Zad lo hi b c):Zad lo hi a c:=
 ⟨k.os.trans h.os,k.tape.trans h.tape,k.output.trans h.output,Nat.le_trans h.size k.size,fun i hi' ho=>(k.block i (Zk_ hi' h.size) ho).trans (h.block i hi' ho)⟩
theorem Zad.below {b:World} (h:Below a.heap.size a b):Zad lo hi a b:=⟨h.os,h.tape,h.output,h.size,fun k hk _=>h.block k hk⟩
theorem Zad.setCell (lo hi:Nat) (w:World) (p:Addr) (u:Value) (h:lo<=p.block/\p.block < hi):Zad lo hi w (w.setCell p u):=
 ⟨rfl,rfl,rfl,by simp [World.setCell],fun k _ ho=>Below.heap_setCell _ _ _ _ (by omega)⟩
theorem Zad.cell (h:Zad lo hi w w') {p:Addr} (hp:p.block < w.heap.size) (ho:p.block < lo\/hi<=p.block):w'.cell? p=w.cell? p:=World.cell?_of_block (w:=w) (h.block p.block hp ho)
theorem Zad.frozen (h:Zad lo hi w w') {p:Addr} (hp:p.block < w.heap.size) (ho:p.block < lo\/hi<=p.block):w'.frozen? p=w.frozen? p:=World.frozen?_of_block (w:=w) (h.block p.block hp ho)
theorem Zad.under {b:World} (h:Zad lo hi a b) (hl:lo<=a.heap.size):Below lo a b:=⟨h.os,h.tape,h.output,h.size,fun k hk=>h.block k (by omega) (Or.inl hk)⟩
structure Zb8 (b o n lo hi:Nat) (w w':World):Prop where
 os:w'.os=w.os
 tape:w'.tape=w.tape
 output:w'.output=w.output
 size:w.heap.size<=w'.heap.size
 block:∀ k,k < w.heap.size->k≠b->(k < lo\/hi<=k)->w'.heap[k]?=w.heap[k]?
 cell:∀ i,(i < o\/o+n<=i)->w'.cell? ⟨b,i,none⟩=w.cell? ⟨b,i,none⟩
 frz:∀ i,w'.frozen? ⟨b,i,none⟩=w.frozen? ⟨b,i,none⟩
theorem Zb8.refl (b o n lo hi:Nat) (w:World):Zb8 b o n lo hi w w:=⟨rfl,rfl,rfl,Nat.le_refl _,fun _ _ _ _=>rfl,fun _ _=>rfl,fun _=>rfl⟩
theorem Zb8.trans {o:Nat}{u:World} (h:Zb8 b o n lo hi u v) (k:Zb8 b o n lo hi v w):Zb8 b o n lo hi u w:=
 ⟨k.os.trans h.os,k.tape.trans h.tape,k.output.trans h.output,Nat.le_trans h.size k.size,fun i hi' hb ho=>(k.block i (Zk_ hi' h.size) hb ho).trans (h.block i hi' hb ho),fun i hi'=>(k.cell i hi').trans (h.cell i hi'),fun i=>(k.frz i).trans (h.frz i)⟩
theorem Zb8.below {o:Nat} (h:Zw_ w w') (hb:b < w.heap.size):Zb8 b o n lo hi w w':=
 ⟨h.os,h.tape,h.output,h.size,fun k hk _ _=>h.block k hk,fun i _=>h.cell (p:=⟨b,i,none⟩) hb,fun i=>h.frozen (p:=⟨b,i,none⟩) hb⟩
theorem Zb8.touch {o:Nat} (h:Zad lo' hi' w w') (hb:b < w.heap.size) (h1:lo<=lo') (h2:hi'<=hi) (hx:b < lo'\/hi'<=b):Zb8 b o n lo hi w w':=
 ⟨h.os,h.tape,h.output,h.size,fun k hk _ ho=>h.block k hk (by omega),fun i _=>h.cell (p:=⟨b,i,none⟩) hb hx,fun i=>h.frozen (p:=⟨b,i,none⟩) hb hx⟩
theorem Zb8.set (b o n lo hi:Nat) (w:World) (i:Nat) (u:Value) (h1:o<=i) (h2:i < o+n):Zb8 b o n lo hi w (w.setCell ⟨b,i,none⟩ u):=
 ⟨rfl,rfl,rfl,by simp [World.setCell],fun k _ hb _=>Below.heap_setCell _ _ _ _ hb,fun j hj=>by apply World.cell?_setCell_other;simp only [ne_eq,Addr.mk.injEq,not_and];omega,fun j=>by rw [World.frozen?_setCell]⟩
theorem Zb8.wide {o:Nat} (h:Zb8 b o n lo hi w w') (_hb:b < w.heap.size) (h1:lo'<=lo) (h2:hi<=hi') (hx:lo'<=b/\b < hi'):Zad lo' hi' w w':=
 ⟨h.os,h.tape,h.output,h.size,fun k hk ho=>h.block k hk (by omega) (by omega)⟩
theorem Zb8.o {o:Nat} (h:Zb8 b o n lo hi w w') {p:Addr} (hp:p.block < w.heap.size) (hb:p.block≠b) (ho:p.block < lo\/hi<=p.block):w'.cell? p=w.cell? p/\w'.frozen? p=w.frozen? p:=
 ⟨World.cell?_of_block (w:=w) (h.block p.block hp hb ho),World.frozen?_of_block (w:=w) (h.block p.block hp hb ho)⟩
theorem cne {i j:Nat}{u:Value} (h:i≠j):(v.setCell ⟨b,i,none⟩ u).cell? ⟨b,j,none⟩=v.cell? ⟨b,j,none⟩:=by
 apply World.cell?_setCell_other;simp only [ne_eq,Addr.mk.injEq,not_and]
 omega
theorem Zad.setB (B:Nat) (w:World) (i:Nat) (u:Value):Zad B (B+1) w (w.setCell ⟨B,i,none⟩ u):=Zad.setCell _ _ _ _ _ ⟨Nat.le_refl _,Nat.lt_succ_self _⟩
end
section
variable {n lo hi g cap lo' hi' bytes:Nat} {w w':World} {v:Value}
structure FR {X:Type} (f:X->List Value) (n:Nat) (w:World) (lo hi g cap:Nat) (L:List X):Prop where
 bs:lo<=g
 up:g < hi
 lt:g < w.heap.size
 le:L.length<=cap
 mx:cap<=maxLen
 th:∀ j,j < cap*n->(w.cell? ⟨g,j,none⟩).isSome=true
 fz:∀ j,w.frozen? ⟨g,j,none⟩=false
 rg:w.rangeAt g 0 (Zai f L)
theorem FR.below {X:Type}{f:X->List Value}{L:List X} (h:FR f n w lo hi g cap L) (hb:Zw_ w w'):FR f n w' lo hi g cap L:=
 ⟨h.bs,h.up,Zk_ h.lt hb.size,h.le,h.mx,fun j hj=>by rw [hb.cell (p:=⟨g,j,none⟩) h.lt];exact h.th j hj,fun j=>by rw [hb.frozen (p:=⟨g,j,none⟩) h.lt];exact h.fz j,Zaz h.rg hb h.lt⟩
theorem FR.touch {X:Type}{f:X->List Value}{L:List X} (h:FR f n w lo hi g cap L) (ht:Zad lo' hi' w w') (ho:g < lo'\/hi'<=g):FR f n w' lo hi g cap L:=
 ⟨h.bs,h.up,Zk_ h.lt ht.size,h.le,h.mx,fun j hj=>by rw [ht.cell (p:=⟨g,j,none⟩) h.lt ho];exact h.th j hj,fun j=>by rw [ht.frozen (p:=⟨g,j,none⟩) h.lt ho];exact h.fz j,fun j v hv=>by rw [ht.cell (p:=⟨g,0+j,none⟩) h.lt ho];exact h.rg j v hv⟩
theorem FR.wide {X:Type}{f:X->List Value}{L:List X} (h:FR f n w lo hi g cap L) (h1:lo'<=lo) (h2:hi<=hi'):FR f n w lo' hi' g cap L:=
 ⟨Nat.le_trans h1 h.bs,Zk_ h.up h2,h.lt,h.le,h.mx,h.th,h.fz,h.rg⟩
def ZaH {X:Type} (f:X->List Value) (n:Nat) (w:World) (lo hi:Nat) (v:Value) (L:List X):Prop:=∃ g cap,v=.slice (some ⟨g,0,none⟩) L.length cap/\FR f n w lo hi g cap L
theorem ZaH.below {X:Type}{f:X->List Value}{L:List X} (h:ZaH f n w lo hi v L) (hb:Zw_ w w'):ZaH f n w' lo hi v L:=by
 obtain⟨g,cap,h1,h2⟩:=h;exact⟨g,cap,h1,h2.below hb⟩
theorem ZaH.touch {X:Type}{f:X->List Value}{L:List X} (h:ZaH f n w lo hi v L) (ht:Zad lo' hi' w w') (ho:hi<=lo'\/hi'<=lo):ZaH f n w' lo hi v L:=by
 obtain⟨g,cap,h1,h2⟩:=h;exact⟨g,cap,h1,h2.touch ht (by have:=h2.bs;have:=h2.up;omega)⟩
theorem ZaH.wide {X:Type}{f:X->List Value}{L:List X} (h:ZaH f n w lo hi v L) (h1:lo'<=lo) (h2:hi<=hi'):ZaH f n w lo' hi' v L:=by
 obtain⟨g,cap,e1,e2⟩:=h;exact⟨g,cap,e1,e2.wide h1 h2⟩
theorem FR.get {X:Type}{f:X->List Value} (hf:∀ x,(f x).length=n) {w:World} {lo hi g cap:Nat} {L:List X} (h:FR f n w lo hi g cap L) {i t:Nat} (hi':i < L.length) (ht:t < n) {v:Value} (hv:(f L[i])[t]?=some v):w.cell? ⟨g,i*n+t,none⟩=some v:=by
 have:=h.rg (i*n+t) v (by rw [Zbt hf L i t hi' ht];exact hv)
 rwa [Nat.zero_add] at this
theorem Zbb {X:Type} (f:X->List Value) (n:Nat) (Y:World) (cs:Array Value) (t:TypeId) (cap:Nat) (hs:cs.size=cap*n) (hm:cap<=maxLen):FR f n (Y.alloc (.cells cs t)) Y.heap.size (Y.heap.size+1) Y.heap.size cap []:=
 ⟨Nat.le_refl _,Nat.lt_succ_self _,by simp,Nat.zero_le _,hm,fun j hj=>by rw [(Box.new Y cs t _ rfl).cell j,Array.getElem?_eq_getElem (by omega)];rfl,fun j=>(Box.new Y cs t _ rfl).free j,fun j u hu=>by simp [Zai] at hu⟩
theorem Zie {X:Type}{f:X->List Value} (hf:∀ x,(f x).length=n) {w:World} {base:Nat} {e:TypeId} {v:Value} {m:Nat} {L:List X} (h:w.ownsRow base e n v m (Zai f L)) (hm:m=L.length) (h0:0 < m):ZaH f n w base w.heap.size v L:=by
 subst hm
 rcases h.2 with ⟨_,h'⟩ | ⟨g,cap,cur,hv,hb,hg,hnc,hcm,hcs,htk⟩
 . omega
 . have hlt:=(Array.getElem?_eq_some_iff.1 hg).1
   refine⟨g,cap,hv,hb,hlt,hlt,hnc,hcm,fun j hj=>by rw [Zda hg,Array.getElem?_eq_getElem (by omega)];rfl,fun j=>Zd8 hg j,fun j u hu=>?_⟩;rw [Nat.zero_add,Zda hg]
   have hj:j < L.length*n:=by
    have:=(List.getElem?_eq_some_iff.1 hu).1
    rwa [Zaw hf] at this
   rw [<- htk,List.getElem?_take_of_lt hj] at hu
   simpa using hu
theorem FR.put {X:Type}{f:X->List Value} (hf:∀ x,(f x).length=n) {w:World} {lo hi g cap:Nat} {L M:List X} (h:FR f n w lo hi g cap L) (hc:L.length+M.length<=cap) :
 FR f n (w.setCells g (0+L.length*n) (Zai f M)) lo hi g cap (L ++ M):=by
 have hlm:(Zai f M).length=M.length*n:=Zaw hf M;have hll:(Zai f L).length=L.length*n:=Zaw hf L;have hcn:L.length*n+M.length*n<=cap*n:=by rw [<- Nat.add_mul];exact Nat.mul_le_mul_right _ hc
 refine⟨h.bs,h.up,by rw [Za6];exact h.lt,by rw [List.length_append];exact hc,h.mx,fun j hj=>World.isSome_setCells _ _ _ _ _ (h.th j hj),fun j=>by rw [World.frozen?_setCells];exact h.fz j,?_⟩;rw [Zbg];intro j u hu
 by_cases hj:j < L.length*n
 . rw [List.getElem?_append_left (by omega)] at hu
   exact World.rangeAt_setCells_apart h.rg g (0+L.length*n) (Zai f M) (Or.inr (Or.inl (by omega))) j u hu
 . rw [List.getElem?_append_right (by omega),hll] at hu
   have:=World.rangeAt_setCells_same w g (0+L.length*n) (Zai f M) (fun j hj'=>⟨h.th _ (by omega),h.fz _⟩) (j - L.length*n) u hu
   rwa [show 0+L.length*n+(j - L.length*n)=0+j by omega] at this
theorem Zad.sets {b:Nat} (hb:lo<=b/\b < hi):∀ (vs:List Value) (o:Nat) (w:World),Zad lo hi w (w.setCells b o vs)
 | [],_,_=>Zad.refl _ _ _
 | v :: vs,o,w=>(Zad.setCell lo hi w ⟨b,o,none⟩ v hb).trans (Zad.sets hb vs (o+1) _)
theorem ZeK {X:Type}{f:X->List Value} (hf:∀ x,(f x).length=n) (hn:0 < n) {t e:TypeId} {z:Value} (ht:prog.underlying t=some (.slice e)) (hi:(prog.info? e).map (fun i=>(i.zero,i.size,i.bytes))=some (some z,n,bytes)) (hzs:z.cells.size=n)
 {w:World} {lo hi':Nat} {v:Value} {L M:List X} (ty:TypeId) (h:ZaH f n w lo hi' v L) (ao:Option Addr) (m c:Nat) (hM:m=M.length) (hm:ao=none->m=0)
 (hsrc:∀ ad,ao=some ad->∀ j u,(Zai f M)[j]?=some u->w.cell? (ad.add j)=some u) (h1:∀ u ∈ Zai f M,u.oneCell'=true) (hb:L.length+M.length<=10000000) (hby:bytes<=1000000) :
 ∃ v' w',(Builtin.append_ #[t,t] ty #[v,.slice ao m c]).run prog w=.ok v' w'/\Zad lo hi' w w'/\(ZaH f n w' lo hi' v' (L ++ M)\/ZaH f n w' w.heap.size w'.heap.size v' (L ++ M)):=by
 have hex:∃ i,prog.info? e=some i/\i.zero=some z/\i.size=n/\i.bytes=bytes:=by
  cases hh:prog.info? e with
  | none=>rw [hh] at hi;simp at hi
  | some i=>
   rw [hh] at hi;simp only [Option.map_some,Option.some.injEq,Prod.mk.injEq] at hi;exact⟨i,rfl,hi.1,hi.2.1,hi.2.2⟩
 obtain⟨i0,hi0,hz0,hz1,hz2⟩:=hex;obtain⟨g,cap,rfl,hr⟩:=h;subst hM;have hlm:(Zai f M).length=M.length*n:=Zaw hf M
 cases ao with
 | none=>
  have h0:=hm rfl;obtain rfl:M=[]:=List.eq_nil_of_length_eq_zero h0;refine⟨.slice (some ⟨g,0,none⟩) L.length cap,w,?_,Zad.refl _ _ _,Or.inl ⟨g,cap,by simp,by simpa using hr⟩⟩;simp [Builtin.append_,run_underlying ht,sizeOf,typeInfo,hi0,Builtin.lenOf,Builtin.firstCells,storeCells,hr.le]
 | some ad=>
  by_cases hc:L.length+M.length<=cap
  . have hcn:L.length*n+M.length*n<=cap*n:=by rw [<- Nat.add_mul];exact Nat.mul_le_mul_right _ hc
    refine⟨.slice (some ⟨g,0,none⟩) (L.length+M.length) cap,w.setCells g (0+L.length*n) (Zai f M),?_,Zad.sets ⟨hr.bs,hr.up⟩ _ _ _,Or.inl ⟨g,cap,?_,hr.put hf hc⟩⟩
    . have:=run_append_room_cells (P:=prog) w t ty e i0 ht hi0 g 0 L.length cap ad M.length c (Zai f M) (by rw [hz1];exact hlm) (hsrc ad rfl) h1 hc
       (fun j hj=>hr.th _ (by rw [hz1];omega)) (fun j hj=>hr.fz _)
      rw [hz1] at this;exact this
    . rw [List.length_append]
  . obtain⟨v',w',h2,h3,h4⟩:=run_append_arg_grows (P:=prog) w t ty e i0 z n bytes ht hi0 hz0 hz1 hz2 hzs hn ⟨g,0,none⟩ L.length cap (Zai f L) (Zaw hf L)
     (fun j u hj=>by rw [Addr.add_lit];exact hr.rg j u hj) ad M.length c (Zai f M) hlm (hsrc ad rfl) (by omega) (by unfold maxLen;omega) (by
       have:=Nat.mul_le_mul hb hby
       omega)
    exact⟨v',w',h2,Zad.below ⟨h4.os,h4.tape,h4.output,h4.size,fun k hk=>h4.block k hk (by simp)⟩,Or.inr (Zie hf (by rw [Zbg];exact h3) (by rw [List.length_append]) (by omega))⟩
theorem Zcl {X:Type}{f:X->List Value} (hf:∀ x,(f x).length=n) (hn:0 < n) {t e:TypeId} {z:Value} (ht:prog.underlying t=some (.slice e)) (hi:(prog.info? e).map (fun i=>(i.zero,i.size,i.bytes))=some (some z,n,bytes)) (hzs:z.cells.size=n)
 {w:World} {lo hi':Nat} {v:Value} {L:List X} (M:List X) {ops:Array Oper} {rest:List Oper} {o:Oper} {a:Act} {Q:Exit->Act->World->Prop} (hgd:o.guard=none) (s x:Operand)
 (ho:o.op=.call { callee:=.builtin .append,args:=#[s,x],argTypes:=#[t,t] }) (hs:a.eval s=v) (h:ZaH f n w lo hi' v L) (ao:Option Addr) (m c:Nat) (hx:a.eval x=.slice ao m c) (hM:m=M.length) (hm:ao=none->m=0)
 (hsrc:∀ ad,ao=some ad->∀ j u,(Zai f M)[j]?=some u->w.cell? (ad.add j)=some u) (h1:∀ u ∈ Zai f M,u.oneCell'=true) (hb:L.length+M.length<=10000000) (hby:bytes<=1000000)
 (K:∀ v' w',Zad lo hi' w w'->(ZaH f n w' lo hi' v' (L ++ M)\/ZaH f n w' w.heap.size w'.heap.size v' (L ++ M))->wpList prog ops Q rest (a.put o.dst v') w'):wpList prog ops Q (o :: rest) a w:=by
 obtain⟨v',w',h2,h3,h4⟩:=ZeK hf hn ht hi hzs o.type h ao m c hM hm hsrc h1 hb hby
 exact wpList_append_run hgd s x _ ho hs hx h2 (K v' w' h3 h4)
end
section
variable {b o c0 c1 lo hi off n lo' hi':Nat} {w w' wr:World} {x y:Rs} {v:Value} {Xl:List Rs}
def Zdl (b o _c0 _c1:Nat) (w:World) (x:Rs):Prop:=ZaJ x/\Zcd w b o x
theorem Zdl.near {o1 d0 d1:Nat} (h:Zdl b o c0 c1 w x) (hn:Zb8 b o1 2 d0 d1 w w') (ho:o+2<=o1\/o1+2<=o) (hi:c1<=d0\/d1<=c0) (hb:b < c0\/c1<=b):Zdl b o c0 c1 w' x:=by
 obtain⟨hs,hc⟩:=h;obtain⟨h0,h1⟩:=hc;have e:∀ t,t < 2->w'.cell? ⟨b,o+t,none⟩=w.cell? ⟨b,o+t,none⟩:=fun t ht=>hn.cell _ (by omega)
 have e0:w'.cell? ⟨b,o,none⟩=w.cell? ⟨b,o,none⟩:=hn.cell _ (by omega);exact⟨hs,⟨e0.trans h0,(e 1 (by omega)).trans h1⟩⟩
theorem Zdl.touch (h:Zdl b o c0 c1 w x) (ht:Zad lo hi w w') (hlt:b < w.heap.size) (hb:b < lo\/hi<=b) (_hi:c1<=lo\/hi<=c0):Zdl b o c0 c1 w' x:=by
 obtain⟨hs,hc⟩:=h;obtain⟨h0,h1⟩:=hc;exact⟨hs,⟨(ht.cell (p:=⟨b,o,none⟩) hlt hb).trans h0,(ht.cell (p:=⟨b,o+1,none⟩) hlt hb).trans h1⟩⟩
theorem Zdl.below (h:Zdl b o c0 c1 w x) (ht:Zw_ w w') (hlt:b < w.heap.size):Zdl b o c0 c1 w' x:=by
 obtain⟨hs,hc⟩:=h;obtain⟨h0,h1⟩:=hc;exact⟨hs,⟨(ht.cell (p:=⟨b,o,none⟩) hlt).trans h0,(ht.cell (p:=⟨b,o+1,none⟩) hlt).trans h1⟩⟩
structure ZcQ (lo hi:Nat) (w:World) (b off n:Nat) (c:Nat->Nat) (X:Nat->Rs):Prop where
 lt:b < w.heap.size
 low:lo<=b
 bc:b < c 0
 bh:b < hi
 mono:∀ i,i < n->c i<=c (i+1)
 top:c n<=hi
 frz:∀ i,w.frozen? ⟨b,i,none⟩=false
 row:∀ i,i < n->Zdl b (off+i*2) (c i) (c (i+1)) w (X i)
theorem ZcQ.le {c:Nat->Nat}{X:Nat->Rs} (h:ZcQ lo hi w b off n c X) {i:Nat}:∀ {j:Nat},i<=j->j<=n->c i<=c j:=by
 intro j
 induction j with
 | zero=>intro hij _;have:i=0:=by omega
         subst this;exact Nat.le_refl _
 | succ j ih=>
  intro hij hjn
  by_cases e:i=j+1
  . subst e;exact Nat.le_refl _
  . exact Nat.le_trans (ih (by omega) (by omega)) (h.mono j (by omega))
theorem ZcQ.near {c:Nat->Nat}{X:Nat->Rs} (h:ZcQ lo hi w b off n c X) {j:Nat} (hj:j < n) (hn:Zb8 b (off+j*2) 2 (c j) (c (j+1)) w w') {x:Rs} (hx:Zdl b (off+j*2) (c j) (c (j+1)) w' x):ZcQ lo hi w' b off n c (fun i=>if i=j then x else X i):=by
 refine⟨Zk_ h.lt hn.size,h.low,h.bc,h.bh,h.mono,h.top,fun i=>(hn.frz i).trans (h.frz i),fun i hi'=>?_⟩
 by_cases e:i=j
 . subst e;rw [if_pos rfl];exact hx
 . rw [if_neg e]
   have h0:=h.le (Nat.zero_le i) (by omega);have hbc:=h.bc;refine (h.row i hi').near hn (by omega) ?_ (by omega)
   rcases Nat.lt_or_ge i j with hij | hij
   . exact Or.inl (h.le (by omega) (by omega))
   . exact Or.inr (h.le (by omega) (by omega))
theorem ZcQ.touch {c:Nat->Nat}{X:Nat->Rs} (h:ZcQ lo hi w b off n c X) (ht:Zad lo' hi' w w') (ho:hi<=lo'\/hi'<=lo):ZcQ lo hi w' b off n c X:=by
 have h1:=h.low;have h2:=h.bh;have h3:=h.top;have h4:=h.bc;refine⟨Zk_ h.lt ht.size,h.low,h.bc,h.bh,h.mono,h.top,fun i=>(ht.frozen (p:=⟨b,i,none⟩) h.lt (by simp only [];omega)).trans (h.frz i),fun i hi'=>?_⟩;have h5:=h.le (Nat.zero_le i) (by omega);have h6:=h.le (i:=i+1) (j:=n) (by omega) Zl_;exact (h.row i hi').touch ht h.lt (by omega) (by omega)
theorem ZcQ.below {c:Nat->Nat}{X:Nat->Rs} (h:ZcQ lo hi w b off n c X) (ht:Zw_ w w'):ZcQ lo hi w' b off n c X:=
 ⟨Zk_ h.lt ht.size,h.low,h.bc,h.bh,h.mono,h.top,fun i=>(ht.frozen (p:=⟨b,i,none⟩) h.lt).trans (h.frz i),fun i hi'=>(h.row i hi').below ht h.lt⟩
theorem ZcQ.to {c:Nat->Nat}{X Y:Nat->Rs} (h:ZcQ lo hi w b off n c X) (e:∀ i,i < n->X i=Y i):ZcQ lo hi w b off n c Y:=
 ⟨h.lt,h.low,h.bc,h.bh,h.mono,h.top,h.frz,fun i hi'=>e i hi' ▸ h.row i hi'⟩
def Zap (lo hi:Nat) (w:World) (v:Value) (Xl:List Rs):Prop:=
 (∃ (a:Option Addr) (cap:Nat),v=.slice a 0 cap/\Xl=[])\/
 ∃ (b off cap:Nat) (c:Nat->Nat) (X:Nat->Rs),v=.slice (some ⟨b,off,none⟩) Xl.length cap/\Xl≠[]/\Xl.length<=maxLen/\Xl.length<=cap/\(∀ i (h:i < Xl.length),X i=Xl[i])/\ZcQ lo hi w b off Xl.length c X
theorem Zap.touch (h:Zap lo hi w v Xl) (ht:Zad lo' hi' w w') (ho:hi<=lo'\/hi'<=lo):Zap lo hi w' v Xl:=by
 rcases h with h | ⟨b,off,cap,c,X,h1,h2,h3,h4,h5,h6⟩
 . exact Or.inl h
 . exact Or.inr ⟨b,off,cap,c,X,h1,h2,h3,h4,h5,h6.touch ht ho⟩
theorem Zap.below (h:Zap lo hi w v Xl) (ht:Zw_ w w'):Zap lo hi w' v Xl:=by
 rcases h with h | ⟨b,off,cap,c,X,h1,h2,h3,h4,h5,h6⟩
 . exact Or.inl h
 . exact Or.inr ⟨b,off,cap,c,X,h1,h2,h3,h4,h5,h6.below ht⟩
theorem Zap.form (h:Zap lo hi w v Xl):∃ a cap,v=.slice a Xl.length cap:=by
 rcases h with ⟨a,cap,h,rfl⟩ | ⟨b,off,cap,c,X,h1,_⟩
 . exact⟨a,cap,h⟩
 . exact⟨_,cap,h1⟩
theorem Zap.at (h:Zap lo hi w v Xl):Zat lo w v Xl:=by
 rcases h with h | ⟨b,off,cap,c,X,h1,h2,h3,h4,h5,h6⟩
 . exact Or.inl h
 . refine Or.inr ⟨b,off,cap,h1,h2,h3,h6.lt,h6.low,h4,fun i hi'=>?_⟩
   have hr:=h6.row i hi';rw [h5 i hi'] at hr;obtain⟨hs,hc⟩:=hr;exact⟨hs,hc⟩
def ZkC (k:Int) (_x:Rs):Rs:=⟨k,mtB (k+1)⟩
def Zkz (_x:Rs):Nat:=2
def Zbr (Xl:List Rs) (i:Nat):Nat:=((Xl.take i).map Zkz).sum
def Zcr (k:Int) (Xl:List Rs):List Rs:=Xl.mapIdx (fun i x=>ZkC (k+(Zbr Xl i:Int)) x)
theorem ZaP (k:Int) (Xl:List Rs):(Zcr k Xl).length=Xl.length:=by unfold Zcr;simp
theorem Zfu (k:Int) (Xl:List Rs) (i:Nat) (h:i < (Zcr k Xl).length) (h':i < Xl.length):(Zcr k Xl)[i]=ZkC (k+(Zbr Xl i:Int)) Xl[i]:=List.getElem_mapIdx (f:=fun i x=>ZkC (k+(Zbr Xl i:Int)) x) (h:=h)
theorem ZcN {i:Nat} (h:i < Xl.length):Zbr Xl (i+1)=Zbr Xl i+Zkz Xl[i]:=by
 unfold Zbr;rw [List.take_succ_eq_append_getElem h,List.map_append,List.sum_append];simp
theorem Zdf (_hn:Zbn Xl):∀ {i:Nat},i<=Xl.length->Zbr Xl i<=i*3000000:=by
 intro i
 induction i with
 | zero=>intro _;simp [Zbr]
 | succ i ih=>
  intro hi';have h1:=ih (by omega);rw [ZcN (by omega)]
  have h2:Zkz Xl[i]<=3000000:=by
   unfold Zkz
   omega
  omega
structure Zhv (wr:World) (b o c0 c1:Nat) (v:World) (y:Rs):Prop where
 near:Zb8 b o 2 c0 c1 wr v
 bc:b < c0
 cells:Zcd v b o y
 frz:∀ i,v.frozen? ⟨b,i,none⟩=false
 lt:b < v.heap.size
theorem Zhv.below {v v':World} (h:Zhv wr b o c0 c1 v y) (hb:Below v.heap.size v v'):Zhv wr b o c0 c1 v' y:=
 ⟨h.near.trans (Zb8.below hb h.lt),h.bc,h.cells.below hb h.lt,fun i=>(hb.frozen (p:=⟨b,i,none⟩) h.lt).trans (h.frz i),Zk_ h.lt hb.size⟩
theorem Zhv.s0 {v:World} (h:Zhv wr b o c0 c1 v y) (u:Int):Zhv wr b o c0 c1 (v.setCell ⟨b,o,none⟩ (.int .i64 u)) { y with ba:=u }:=by
 obtain⟨h0,h1⟩:=h.cells;have ht:Zad b (b+1) v (v.setCell ⟨b,o,none⟩ (.int .i64 u)):=Zad.setCell _ _ _ _ _ ⟨Nat.le_refl _,by simp only [];omega⟩;have hbc:=h.bc;exact⟨h.near.trans (Zb8.set _ _ _ _ _ _ _ _ (by omega) (by omega)),h.bc,⟨World.cell?_setCell_same' _ _ _ (by rw [h0];rfl),(cne (by omega)).trans h1⟩,fun i=>by rw [World.frozen?_setCell];exact h.frz i,by simpa [World.setCell] using h.lt⟩
theorem Zhv.s1 {v:World} (h:Zhv wr b o c0 c1 v y) (u:Zy_):Zhv wr b o c0 c1 (v.setCell ⟨b,o+1,none⟩ (.string u)) { y with tx:=u }:=by
 obtain⟨h0,h1⟩:=h.cells;have ht:Zad b (b+1) v (v.setCell ⟨b,o+1,none⟩ (.string u)):=Zad.setCell _ _ _ _ _ ⟨Nat.le_refl _,by simp only [];omega⟩;have hbc:=h.bc;exact⟨h.near.trans (Zb8.set _ _ _ _ _ _ _ _ (by omega) (by omega)),h.bc,⟨(cne (by omega)).trans h0,World.cell?_setCell_same' _ _ _ (by rw [h1];rfl)⟩,fun i=>by rw [World.frozen?_setCell];exact h.frz i,by simpa [World.setCell] using h.lt⟩
end
section
variable {lo B k:Nat} {w wr:World} {v:Value}
def Zc5 (x:Zy_):Prop:=x.size<=maxLen
def Zbf (lo:Nat) (w:World) (v:Value) (Xl:List Zy_):Prop:=
 (∃ (a:Option Addr) (cap:Nat),v=.slice a 0 cap/\Xl=[])\/
 ∃ (b off cap:Nat),v=.slice (some ⟨b,off,none⟩) Xl.length cap/\Xl≠[]/\Xl.length<=maxLen/\b < w.heap.size/\lo<=b/\Xl.length<=cap/\
  ∀ i (h:i < Xl.length),Zc5 Xl[i]/\w.cell? ⟨b,off+i,none⟩=some (.string Xl[i])
theorem Zbf.below {w':World}{Xl:List Zy_} (h:Zbf lo w v Xl) (hb:Zw_ w w'):Zbf lo w' v Xl:=by
 rcases h with h | ⟨b,off,cap,h1,h2,h3,h4,h5,h6,h7⟩
 . exact Or.inl h
 . refine Or.inr ⟨b,off,cap,h1,h2,h3,Zk_ h4 hb.size,h5,h6,fun i hi=>⟨(h7 i hi).1,?_⟩⟩
   rw [hb.cell (p:=⟨b,_,none⟩) h4];exact (h7 i hi).2
theorem Zbf.mono {lo':Nat}{Xl:List Zy_} (h:Zbf lo w v Xl) (hl:lo'<=lo):Zbf lo' w v Xl:=by
 rcases h with h | ⟨b,off,cap,h1,h2,h3,h4,h5,h6,h7⟩
 . exact Or.inl h
 . exact Or.inr ⟨b,off,cap,h1,h2,h3,h4,Nat.le_trans hl h5,h6,h7⟩
theorem Zbf.form {Xl:List Zy_} (h:Zbf lo w v Xl):∃ a cap,v=.slice a Xl.length cap:=by
 rcases h with ⟨a,cap,h,rfl⟩ | ⟨b,off,cap,h,_⟩
 . exact⟨a,cap,h⟩
 . exact⟨_,cap,h⟩
theorem Zbf.max {Xl:List Zy_} (h:Zbf lo w v Xl):Xl.length<=maxLen:=by
 rcases h with ⟨a,cap,h,rfl⟩ | ⟨b,off,cap,h,_,h3,_⟩
 . exact Nat.zero_le _
 . exact h3
theorem Zbf.full {Xl:List Zy_} (h:Zbf lo w v Xl) (hne:Xl≠[]):∃ (b off cap:Nat),v=.slice (some ⟨b,off,none⟩) Xl.length cap/\Xl.length<=maxLen/\b < w.heap.size/\Xl.length<=cap/\
 ∀ i (h:i < Xl.length),Zc5 Xl[i]/\w.cell? ⟨b,off+i,none⟩=some (.string Xl[i]):=by
 rcases h with ⟨_,_,_,h⟩ | ⟨b,off,cap,h1,_,h3,h4,_,h6,h7⟩
 . exact absurd h hne
 . exact⟨b,off,cap,h1,h3,h4,h6,h7⟩
theorem Zbf.full' {a:Option Addr}{n cap:Nat}{Xl:List Zy_} (h:Zbf lo w (.slice a n cap) Xl) (hL:0 < Xl.length) :
 ∃ b off,a=some ⟨b,off,none⟩/\b < w.heap.size/\lo<=b/\∀ i (h:i < Xl.length),Zc5 Xl[i]/\w.cell? ⟨b,off+i,none⟩=some (.string Xl[i]):=by
 rcases h with ⟨a',cap',h,rfl⟩ | ⟨b',off',cap',h1,h2,h3,h4,h5,h6,h7⟩
 . simp at hL
 . injection h1 with e1 e2 e3
   exact⟨b',off',e1,h4,h5,h7⟩
def Zbo (Xl:List Zy_):Prop:=Xl.length<=1048576
def Zk3 (Xl:List Zy_) (left r:Int):Prop:= -1<=r/\r<=left/\(0<=r->Zbo Xl)
theorem ZiS (lo:Nat) (v:Value) (Xl:List Zy_) (left:Int) (w:World) (h0:0<=left) (h1:left<=1048576) (hv:Zbf lo w v Xl) :
 Calls prog 49 #[v,.int .i64 left] w fun e w'=>∃ r:Int,e=.returned (.int .i64 r)/\Zw_ w w'/\Zk3 Xl left r:=by
 rcases hv with ⟨a,cap,rfl,rfl⟩ | ⟨b,off,cap,rfl,hne,hm,hbw,_,_,hc⟩
 . go_enter func49,ntmps49
   go_wp2
   go_loop [1,5] (fun l i=>∃ r:Int,l=.int .i64 r/\0<=r/\r<=left/\i=.int .i64 0) (fun _ _=>0)
   case atStart=>exact⟨_,rfl,by omega,by omega,rfl⟩
   case round=>
    obtain⟨r,rfl,hr0,hr1,rfl⟩:=hrel;go_wp2;go_ret;exact⟨r,rfl,Below.refl _ _,by omega,by omega,fun _=>by unfold Zbo;simp⟩
 . unfold maxLen at hm
   by_cases hle:(Xl.length:Int)<=left
   . go_enter func49,ntmps49
     go_wp2
     go_loopw [1,5] (fun l i wr=>∃ (r:Int) (k:Nat),l=.int .i64 r/\0<=r/\r<=left/\i=.int .i64 k/\k<=Xl.length/\Zw_ w wr) (fun _ i _=>Xl.length - (intOf i).toNat)
     case atStart=>exact⟨_,0,rfl,by omega,by omega,rfl,by omega,Below.refl _ _⟩
     case round=>
      obtain⟨r,k,rfl,hr0,hr1,rfl,hk,hb⟩:=hrel
      by_cases hlt:k < Xl.length
      . obtain⟨hs,c0⟩:=hc k hlt
        unfold Zc5 maxLen at hs;rw [<- hb.cell (p:=⟨b,off+k,none⟩) hbw] at c0;have HB:=Zaa hb;clear hb
        by_cases hneg:r - (Xl[k].size:Int) < 0
        . go_wp2
          go_ret;exact⟨-1,rfl,HB.o,by omega,by omega,fun h=>by omega⟩
        . go_wp2
          go_roundw
          . exact⟨_,k+1,rfl,by omega,by omega,by go_num,by omega,HB.o⟩
          . simp [intOf];omega
      . go_wp2
        go_ret;exact⟨r,rfl,hb,by omega,by omega,fun _=>by unfold Zbo;omega⟩
   . go_enter func49,ntmps49
     go_wp2;go_ret;exact⟨-1,rfl,Below.refl _ _,by omega,by omega,fun h=>by omega⟩
theorem Zg8 (lo lo':Nat) (v v':Value) (Xl:List Zy_) (w:World) (hv:Zbf lo w v Xl) (hv':Zbf lo' w v' Xl) :
 Calls prog 74 #[v,v'] w fun e w'=>e=.returned (.bool true)/\Zw_ w w':=by
 by_cases hL:Xl=[]
 . subst hL
   obtain⟨a,cap,rfl⟩:=hv.form;obtain⟨a',cap',rfl⟩:=hv'.form;clear hv hv';go_enter func74,ntmps74;go_wp2
   go_loop [5] (fun i=>i=.int .i64 0) (fun _=>0)
   case atStart=>rfl
   case round=>
    subst hrel;go_wp2;go_ret;exact⟨rfl,Below.refl _ _⟩
 . obtain⟨b,off,cap,rfl,hm,hbw,_,hc⟩:=hv.full hL
   obtain⟨b',off',cap',rfl,_,hbw',_,hc'⟩:=hv'.full hL;clear hv hv';unfold maxLen at hm;go_enter func74,ntmps74;go_wp2
   go_loopw [5] (fun i wr=>∃ k:Nat,i=.int .i64 k/\k<=Xl.length/\Zw_ w wr) (fun i _=>Xl.length - (intOf i).toNat)
   case atStart=>exact⟨0,rfl,by omega,Below.refl _ _⟩
   case round=>
    obtain⟨k,rfl,hk,hb⟩:=hrel
    by_cases hlt:k < Xl.length
    . have c0:wr.cell? ⟨b,off+k,none⟩=some (.string Xl[k]):=by rw [hb.cell (p:=⟨b,_,none⟩) hbw];exact (hc k hlt).2
      have d0:wr.cell? ⟨b',off'+k,none⟩=some (.string Xl[k]):=by rw [hb.cell (p:=⟨b',_,none⟩) hbw'];exact (hc' k hlt).2
      have HB:=Zaa hb;clear hb;go_wp2
      try go_quiet (fail)
      try go_wp2
      go_roundw
      . exact⟨k+1,by go_num,by omega,by first | exact HB.o | exact below_drewN HB.o _⟩
      . simp [intOf];omega
    . go_wp2
      go_ret;exact⟨rfl,hb⟩
theorem Tryz.infoRts:(prog.info? 9).map (fun i=>(i.zero,i.size,i.bytes))=some (some (.string ⟨#[]⟩),1,16):=by kernel_rfl
def Zce (wr:World) (B:Nat) (Xl:List Zy_) (k:Nat):Prop:=∃ f,wr.rowIs B 9 Xl.length f/\∀ i (h:i < Xl.length),i < k->Zc5 Xl[i]/\f i=.string Xl[i]
theorem Zce.step {Xl:List Zy_} (h:Zce wr B Xl k) (hk:k < Xl.length) (hz:Zc5 Xl[k]):Zce (wr.setCell ⟨B,k,none⟩ (.string Xl[k])) B Xl (k+1):=by
 obtain⟨f,hr,hall⟩:=h;refine⟨_,hr.set _ _,fun i hi hik=>?_⟩
 by_cases e:i=k
 . subst e
   exact⟨hz,by simp⟩
 . obtain⟨hz',h0⟩:=hall i hi (by omega)
   exact⟨hz',by rw [if_neg e];exact h0⟩
theorem Zce.there {Xl:List Zy_} (h:Zce wr B Xl k) (i:Nat) (hi:i < Xl.length):∃ v,wr.cell? ⟨B,i,none⟩=some v:=by
 obtain⟨f,hr,_⟩:=h;exact⟨_,hr.cell hi⟩
theorem Zce.free {Xl:List Zy_} (h:Zce wr B Xl k) (i:Nat):wr.frozen? ⟨B,i,none⟩=false:=by
 obtain⟨f,hr,_⟩:=h;exact hr.frozen i
end
section
variable {lo hi:Nat} {w w':World} {v:Value}
def ZaX (lo hi:Nat) (w:World) (v:Value) (L:List Zy_):Prop:=
 (∃ (a:Option Addr) (cap:Nat),v=.slice a 0 cap/\L=[])\/
 ∃ (b off cap:Nat),v=.slice (some ⟨b,off,none⟩) L.length cap/\L≠[]/\L.length<=maxLen/\L.length<=cap/\b < w.heap.size/\
  (∀ i (h:i < L.length),L[i].size<=maxLen/\w.cell? ⟨b,off+i,none⟩=some (.string L[i]))/\lo<=b/\b < hi/\∀ i,w.frozen? ⟨b,off+i,none⟩=false
theorem ZaX.below {L:List Zy_} (h:ZaX lo hi w v L) (hb:Zw_ w w'):ZaX lo hi w' v L:=by
 rcases h with h | ⟨g,off,cap,h1,h2,h3,hcp,h4,h5,h7,h8,h9⟩
 . exact Or.inl h
 . exact Or.inr ⟨g,off,cap,h1,h2,h3,hcp,Zk_ h4 hb.size,fun i hi'=>⟨(h5 i hi').1,(hb.cell (p:=⟨g,off+i,none⟩) h4).trans (h5 i hi').2⟩,h7,h8,fun i=>(hb.frozen (p:=⟨g,off+i,none⟩) h4).trans (h9 i)⟩
theorem ZaX.touch {lo' hi':Nat}{L:List Zy_} (h:ZaX lo hi w v L) (ht:Zad lo' hi' w w') (ho:hi<=lo'\/hi'<=lo):ZaX lo hi w' v L:=by
 rcases h with h | ⟨b,off,cap,h1,h2,h3,hcp,h4,h5,h7,h8,h9⟩
 . exact Or.inl h
 . exact Or.inr ⟨b,off,cap,h1,h2,h3,hcp,Zk_ h4 ht.size,fun i hi'=>⟨(h5 i hi').1,(ht.cell (p:=⟨b,off+i,none⟩) h4 (by simp only [];omega)).trans (h5 i hi').2⟩,h7,h8,fun i=>(ht.frozen (p:=⟨b,off+i,none⟩) h4 (by simp only [];omega)).trans (h9 i)⟩
theorem ZaX.at {L:List Zy_} (h:ZaX lo hi w v L):Zbf lo w v L:=by
 rcases h with h | ⟨g,off,cap,h1,h2,h3,hcp,h4,h5,h7,h8,h9⟩
 . exact Or.inl h
 . exact Or.inr ⟨g,off,cap,h1,h2,h3,h4,h7,hcp,h5⟩
theorem ZaX.form {L:List Zy_} (h:ZaX lo hi w v L):∃ a cap,v=.slice a L.length cap:=by
 rcases h with ⟨a,cap,h,rfl⟩ | ⟨b,off,cap,h,_⟩
 . exact⟨a,cap,h⟩
 . exact⟨_,cap,h⟩
def Zdg (k:Int) (n:Nat):List Zy_:=(List.range n).map fun (i:Nat)=>mtB (k+(i:Int))
theorem Za5 (k:Int) (n:Nat):(Zdg k n).length=n:=by simp [Zdg]
theorem ZeM (k:Int) (n i:Nat) (h:i < (Zdg k n).length):(Zdg k n)[i]=mtB (k+i):=by simp [Zdg]
theorem Zf4 (lo hi:Nat) (v:Value) (L:List Zy_) (k:Int) (w:World) (hv:ZaX lo hi w v L) (h0:0<=k) (hk:k+L.length<=4000000000000000000) :
 Calls prog 80 #[v,.int .i64 k] w fun e w'=>e=.returned (.int .i64 (k+L.length))/\Zad lo hi w w'/\ZaX lo hi w' v (Zdg k L.length):=by
 rcases hv with ⟨a,cap,rfl,rfl⟩ | ⟨b,off,cap,rfl,hne,hm,hcp,hbw,hc,hlo,hhi,hfr⟩
 . go_enter func80,ntmps80
   go_wp2
   go_loop [5,1] (fun i q=>i=.int .i64 0/\q=.int .i64 k) (fun _ _=>0)
   case atStart=>exact⟨rfl,rfl⟩
   case round=>
    obtain⟨rfl,rfl⟩:=hrel;go_wp2;go_ret;exact⟨by simp,Zad.refl _ _ _,Or.inl ⟨_,_,rfl,rfl⟩⟩
 . unfold maxLen at hm
   go_enter func80,ntmps80;go_wp2
   go_loopw [5,1] (fun i q wr=>∃ j:Nat,i=.int .i64 j/\q=.int .i64 (k+j)/\j<=L.length/\Zad lo hi w wr/\(∀ i,i < j->wr.cell? ⟨b,off+i,none⟩=some (.string (mtB (k+i))))/\(∀ i (h:i < L.length),j<=i->wr.cell? ⟨b,off+i,none⟩=some (.string L[i]))/\∀ i,wr.frozen? ⟨b,off+i,none⟩=false) (fun i _ _=>L.length - (intOf i).toNat)
   case atStart=>exact⟨0,rfl,by simp,by omega,Zad.refl _ _ _,fun i h=>by omega,fun i h _=>(hc i h).2,hfr⟩
   case round=>
    obtain⟨j,rfl,rfl,hj,ht,hA,hB,hF⟩:=hrel;have HT:=Zaa ht;have HA:=Zaa hA;have HBB:=Zaa hB;have HF:=Zaa hF;clear ht hA hB hF
    by_cases hlt:j < L.length
    . go_wp2_with fail
      refine (ZbE _ _ (by omega)).mono ?_;rintro e w1 ⟨rfl,hb⟩;have hbl:b < wr.heap.size:=Zk_ hbw HT.o.size
      have HT1:Hd (Zad lo hi w w1):=HT.o.trans (Zad.below hb);have hcj:w1.cell? ⟨b,off+j,none⟩=some (.string L[j]):=(hb.cell (p:=⟨b,off+j,none⟩) hbl).trans (HBB.o j hlt Zl_);have hfj:w1.frozen? ⟨b,off+j,none⟩=false:=(hb.frozen (p:=⟨b,off+j,none⟩) hbl).trans (HF.o j);have HA1:Hd (∀ i,i < j->w1.cell? ⟨b,off+i,none⟩=some (.string (mtB (k+i)))):=fun i hi'=>(hb.cell (p:=⟨b,off+i,none⟩) hbl).trans (HA.o i hi')
      have HB1:Hd (∀ i (h:i < L.length),j<=i->w1.cell? ⟨b,off+i,none⟩=some (.string L[i])):=fun i h hi'=>(hb.cell (p:=⟨b,off+i,none⟩) hbl).trans (HBB.o i h hi')
      have HF1:Hd (∀ i,w1.frozen? ⟨b,off+i,none⟩=false):=fun i=>(hb.frozen (p:=⟨b,off+i,none⟩) hbl).trans (HF.o i)
      clear hb hbl;go_wp2;go_roundw
      . 
       refine⟨j+1,by go_num,by go_num,by omega,HT1.o.trans (Zad.setCell _ _ _ _ _ ⟨hlo,hhi⟩),fun i hi'=>?_,fun i h hi'=>?_,fun i=>?_⟩
       . by_cases e:i=j
         . subst e;exact World.cell?_setCell_same' _ _ _ (by rw [hcj];rfl)
         . rw [show (w1.setCell ⟨b,off+j,none⟩ (.string (mtB (k+j)))).cell? ⟨b,off+i,none⟩=w1.cell? ⟨b,off+i,none⟩ from by apply World.cell?_setCell_other;simp only [ne_eq,Addr.mk.injEq,not_and];omega]
           exact HA1.o i (by omega)
       . rw [show (w1.setCell ⟨b,off+j,none⟩ (.string (mtB (k+j)))).cell? ⟨b,off+i,none⟩=w1.cell? ⟨b,off+i,none⟩ from by apply World.cell?_setCell_other;simp only [ne_eq,Addr.mk.injEq,not_and];omega]
         exact HB1.o i h (by omega)
       . rw [World.frozen?_setCell]
         exact HF1.o i
      . simp [intOf];omega
    . have e:j=L.length:=by omega
      subst e;go_wp2;go_ret;refine⟨rfl,HT.o,Or.inr ⟨b,off,cap,by rw [Za5],?_,by rw [Za5];unfold maxLen;omega,by rw [Za5];exact hcp,Zk_ hbw HT.o.size,fun i h=>?_,hlo,hhi,HF.o⟩⟩
      . intro e;have:=congrArg List.length e;rw [Za5] at this;simp at this;exact hne this
      . rw [ZeM]
        rw [Za5] at h;exact⟨Zf6 _ (by omega),HA.o i h⟩
theorem ZfZ (lo:Nat) (v:Value) (n:Nat) (k:Int) (w:World) (hv:Zbf lo w v (Zdg k n)) (h0:0<=k) (hk:k+n<=4000000000000000000) :
 Calls prog 86 #[v,.int .i64 k] w fun e w'=>e=.returned (.int .i64 (k+n))/\Zw_ w w':=by
 have HV:=Zaa hv;obtain⟨a,cap,rfl⟩:=hv.form;clear hv;rw [Za5] at HV;rw [Za5];go_enter func86,ntmps86;go_wp2
 go_loopw [5,1] (fun i q wr=>∃ j:Nat,i=.int .i64 j/\q=.int .i64 (k+j)/\j<=n/\Zw_ w wr) (fun i _ _=>n - (intOf i).toNat)
 case atStart=>exact⟨0,rfl,by simp,by omega,Below.refl _ _⟩
 case round=>
  obtain⟨j,rfl,rfl,hj,hb⟩:=hrel;have HB0:=Zaa hb;clear hb
  by_cases hlt:j < n
  . obtain⟨b,off,rfl,hbw,-,hc⟩:=HV.o.full' (by rw [Za5];omega)
    have hcj:w.cell? ⟨b,off+j,none⟩=some (.string (mtB (k+j))):=by rw [(hc j (by rw [Za5];omega)).2,ZeM]
    have d1:wr.cell? ⟨b,off+j,none⟩=some (.string (mtB (k+j))):=(HB0.o.cell (p:=⟨b,off+j,none⟩) hbw).trans hcj;have x0:∀ X:In (Up wr),X.w.cell? ⟨b,off+j,none⟩=some (.string (mtB (k+j))):=fun X=>Up.cell X d1
    have xn:Nonempty (In (Up wr)):=⟨⟨wr,Below.refl _ _⟩⟩;have xs:=fun (X:In (Up wr))=>Zbc X
    have i0:(0:Int)<=(j:Int):=by omega
    have i1:(j:Int) < (n:Int):=by omega
    clear hc hcj;go_wp2;clear d1;refine Zaf (Up wr) (by kernel_rfl) (by kernel_rfl) (Zb_.drew) ?_
    repeat (go_big_quiet_step (first|(go_at_call 84;rename_i X;exact (ZbE _ _ (by omega)).mono fun _ _ h=>⟨h.1,Up.next X h.2⟩)))
    refine wpQuiet_nil ?_;intro w1 hw;obtain⟨Y,hY⟩:=hw;have HB1:Hd (Zw_ w w1):=HB0.o.trans (Below.mono (show Below wr.heap.size wr w1 by rw [hY];exact Y.h) HB0.o.size);clear hY Y x0 xs xn HB0;go_wp2;go_roundw
    . exact⟨j+1,by go_num,by go_num,by omega,HB1.o⟩
    . simp [intOf];omega
  . have e:j=n:=by omega
    subst e;go_wp2;go_ret;exact⟨rfl,HB0.o⟩
end
structure Rd where
 pr:Int
 kn:Int
 sl:List Rs
def Zcx (U:Rd):Prop:=Zbn U.sl
structure ZkV (lo:Nat) (w:World) (v0:Value) (U:Rd):Prop where
 l0:Zat lo w v0 U.sl
theorem ZkV.below {lo:Nat}{w w':World}{v0:Value}{U:Rd} (h:ZkV lo w v0 U) (hb:Zw_ w w'):ZkV lo w' v0 U:=⟨h.l0.below hb⟩
def rdL (U:Rd) (a0:Option Addr) (k0:Nat):List Value:=[.int .i64 U.pr,.int .i64 U.kn,.slice a0 U.sl.length k0]
def RdC (lo:Nat) (w:World) (cs:List Value) (U:Rd):Prop:=∃ a0 k0,cs=rdL U a0 k0/\ZkV lo w (.slice a0 U.sl.length k0) U
theorem Zj0 (lo:Nat) (cs:List Value) (U:Rd) (left:Int) (w:World) (h0:0<=left) (h1:left<=1048576) (h:RdC lo w cs U) :
 Calls prog 47 #[.agg cs.toArray,.int .i64 left] w
  fun e w'=>∃ r:Int,e=.returned (.int .i64 r)/\Zw_ w w'/\-1<=r/\r<=left/\(0<=r->Zcx U):=by
 obtain⟨a0,k0,rfl,h⟩:=h
 show Calls prog 47 #[.agg #[.int .i64 U.pr,.int .i64 U.kn,.slice a0 U.sl.length k0],.int .i64 left] w _
 have HL:=Zaa h;clear h;go_enter func47,ntmps47;go_wp2_with fail;generalize hWa:w.alloc _=Wa;have HB:Hd (Zw_ w Wa):=by unfold Hd;rw [<- hWa];exact Zab _ _
 have FX:Hd (Box Wa w.heap.size #[.int .i64 U.pr,.int .i64 U.kn,.slice a0 U.sl.length k0]):=by unfold Hd;rw [<- hWa];exact Box.new _ _ _ _ rfl
 clear hWa;refine (Zep lo _ U.sl _ _ (by omega) (by omega) ((HL.o.below HB.o).l0)).mono ?_;rintro e w0 ⟨q0,rfl,hb,p0a,p0b,p0c⟩;have Q0:=Zaa p0c;replace HB:=Zaa (bt HB.o hb);replace FX:=Zaa (FX.o.on hb);clear hb p0c
 by_cases m0:q0 < 0
 . go_wp2
   go_ret;exact⟨-1,rfl,HB.o,by omega,by omega,fun h=>by omega⟩
 go_wp2;go_ret;exact⟨_,rfl,HB.o,by omega,by omega,fun h=>Q0.o (by omega)⟩
theorem ZjV (lo lo':Nat) (cs cs':List Value) (U:Rd) (w:World) (h:RdC lo w cs U) (h':RdC lo' w cs' U) :
 Calls prog 73 #[.agg cs.toArray,.agg cs'.toArray] w fun e w'=>e=.returned (.bool true)/\Zw_ w w':=by
 obtain⟨a0,k0,rfl,h⟩:=h;obtain⟨d0,e0,rfl,h'⟩:=h'
 show Calls prog 73 #[.agg #[.int .i64 U.pr,.int .i64 U.kn,.slice a0 U.sl.length k0],.agg #[.int .i64 U.pr,.int .i64 U.kn,.slice d0 U.sl.length e0]] w _
 have HL:=Zaa h;have HR:=Zaa h';clear h h';go_enter func73,ntmps73;go_wp2_with fail;generalize hWa:(World.alloc (w.alloc _) _)=Wa;have HB:Hd (Zw_ w Wa):=by unfold Hd;rw [<- hWa];exact (Zab w _).alloc (by simp) _
 have FX:Hd (Box Wa w.heap.size #[.int .i64 U.pr,.int .i64 U.kn,.slice a0 U.sl.length k0]):=by unfold Hd;rw [<- hWa];exact (Box.new _ _ _ _ rfl).on (Zab _ _)
 have FY:Hd (Box Wa (w.heap.size+1) #[.int .i64 U.pr,.int .i64 U.kn,.slice d0 U.sl.length e0]):=by unfold Hd;rw [<- hWa];exact Box.new _ _ _ _ (by simp)
 clear hWa;refine (Zdp lo lo' _ _ U.sl _ ((HL.o.below HB.o).l0) ((HR.o.below HB.o).l0)).mono ?_;rintro e w0 ⟨rfl,hb⟩;replace HB:=Zaa (bt HB.o hb);replace FX:=Zaa (FX.o.on hb);replace FY:=Zaa (FY.o.on hb);clear hb;have g0:=FX.o.cell;have g1:=FY.o.cell;go_wp2;go_ret;exact⟨rfl,HB.o⟩
section
variable {w w':World} {base g cap n lo:Nat} {L M:List Rs} {v:Value} {ao:Option Addr}
def rsL (x:Rs):List Value:=[.int .i64 x.ba,.string x.tx]
theorem ZaC (x:Rs):(rsL x).length=2:=rfl
theorem Zdz (L:List Rs):∀ u ∈ Zai rsL L,u.oneCell'=true:=fun u hu=>by
 obtain⟨x,-,hx⟩:=ZcB hu;simp only [rsL,List.mem_cons,List.not_mem_nil,or_false] at hx
 rcases hx with rfl | rfl <;> rfl
structure LR (w:World) (base g cap:Nat) (L:List Rs):Prop where
 bs:base<=g
 lt:g < w.heap.size
 le:L.length<=cap
 mx:cap<=maxLen
 th:∀ j,j < cap*2->(w.cell? ⟨g,j,none⟩).isSome=true
 fz:∀ j,w.frozen? ⟨g,j,none⟩=false
 rg:w.rangeAt g 0 (Zai rsL L)
 sz:∀ i (h:i < L.length),ZaJ L[i]
theorem LR.below (h:LR w base g cap L) (hb:Zw_ w w'):LR w' base g cap L:=
 ⟨h.bs,Zk_ h.lt hb.size,h.le,h.mx,fun j hj=>by rw [hb.cell (p:=⟨g,j,none⟩) h.lt];exact h.th j hj,fun j=>by rw [hb.frozen (p:=⟨g,j,none⟩) h.lt];exact h.fz j,Zaz h.rg hb h.lt,h.sz⟩
def ZeR (w:World) (base:Nat) (v:Value) (L:List Rs):Prop:=∃ g cap,v=.slice (some ⟨g,0,none⟩) L.length cap/\LR w base g cap L
theorem ZeR.below (h:ZeR w base v L) (hb:Zw_ w w'):ZeR w' base v L:=by
 obtain⟨g,cap,h1,h2⟩:=h;exact⟨g,cap,h1,h2.below hb⟩
theorem LR.cells (h:LR w base g cap L) {i:Nat} (hi:i < L.length):Zcd w g (0+i*2) L[i]:=by
 have e0:=Zbt ZaC L i 0 hi (by omega);have e1:=Zbt ZaC L i 1 hi (by omega);have r0:=h.rg (i*2) (.int .i64 L[i].ba) (by simpa [rsL] using e0);have r1:=h.rg (i*2+1) (.string L[i].tx) (by simpa [rsL] using e1);exact⟨r0,r1⟩
theorem ZeR.at (h:ZeR w base v L):Zat base w v L:=by
 obtain⟨g,cap,h1,h2⟩:=h
 by_cases hL:L=[]
 . subst hL
   exact Or.inl ⟨_,_,h1,rfl⟩
 . exact Or.inr ⟨g,0,cap,h1,hL,Nat.le_trans h2.le h2.mx,h2.lt,h2.bs,h2.le,fun i hi=>⟨h2.sz i hi,h2.cells hi⟩⟩
theorem Zkp {e:TypeId} (h:w.ownsRow base e 2 v n (Zai rsL L)) (hn:n=L.length) (h0:0 < n) (hz:∀ i (h:i < L.length),ZaJ L[i]):ZeR w base v L:=by
 subst hn
 rcases h.2 with ⟨_,h'⟩ | ⟨g,cap,cur,hv,hb,hg,hnc,hcm,hcs,htk⟩
 . omega
 . refine⟨g,cap,hv,hb,(Array.getElem?_eq_some_iff.1 hg).1,hnc,hcm,fun j hj=>by rw [Zda hg,Array.getElem?_eq_getElem (by omega)];rfl,fun j=>Zd8 hg j,fun j u hu=>?_,hz⟩
   rw [Nat.zero_add,Zda hg]
   have hj:j < L.length*2:=by
    have:=(List.getElem?_eq_some_iff.1 hu).1
    rwa [Zaw ZaC] at this
   rw [<- htk,List.getElem?_take_of_lt hj] at hu
   simpa using hu
theorem LR.put (h:LR w base g cap L) (hc:L.length+M.length<=cap) (hz:∀ i (h:i < M.length),ZaJ M[i]) :
 LR (w.setCells g (0+L.length*2) (Zai rsL M)) base g cap (L ++ M):=by
 have hlm:(Zai rsL M).length=M.length*2:=Zaw ZaC M;have hll:(Zai rsL L).length=L.length*2:=Zaw ZaC L;refine⟨h.bs,by rw [Za6];exact h.lt,by rw [List.length_append];exact hc,h.mx,fun j hj=>World.isSome_setCells _ _ _ _ _ (h.th j hj),fun j=>by rw [World.frozen?_setCells];exact h.fz j,?_,?_⟩
 . rw [Zbg]
   intro j u hu
   by_cases hj:j < L.length*2
   . rw [List.getElem?_append_left (by omega)] at hu
     exact World.rangeAt_setCells_apart h.rg g (0+L.length*2) (Zai rsL M) (Or.inr (Or.inl (by omega))) j u hu
   . rw [List.getElem?_append_right (by omega),hll] at hu
     have:=World.rangeAt_setCells_same w g (0+L.length*2) (Zai rsL M) (fun j hj'=>⟨h.th _ (by omega),h.fz _⟩) (j - L.length*2) u hu
     rwa [show 0+L.length*2+(j - L.length*2)=0+j by omega] at this
 . intro i hi
   rw [List.getElem_append]
   split
   . exact h.sz i (by assumption)
   . exact hz _ _
theorem Zed:(prog.info? 171).map (fun i=>(i.zero,i.size,i.bytes))=some (some (.agg #[.int .i64 0,.string ⟨#[]⟩]),2,24):=by kernel_rfl
theorem ZjJ (ty:TypeId) (h:ZeR w base v L) (ao:Option Addr) (m c:Nat) (hM:m=M.length) (hm:ao=none->m=0)
 (hsrc:∀ ad,ao=some ad->∀ j u,(Zai rsL M)[j]?=some u->w.cell? (ad.add j)=some u) (hz:∀ i (h:i < M.length),ZaJ M[i]) (hb:L.length+M.length<=10000000) (hbase:base<=w.heap.size) :
 ∃ v' w',(Builtin.append_ #[56,56] ty #[v,.slice ao m c]).run prog w=.ok v' w'/\ZeR w' base v' (L ++ M)/\Below base w w':=by
 obtain⟨i0,hi,hz0,hz1,hz2⟩:=info_parts Zed;obtain⟨g,cap,rfl,hr⟩:=h;subst hM;have hlm:(Zai rsL M).length=M.length*2:=Zaw ZaC M
 cases ao with
 | none=>
  have h0:=hm rfl;obtain rfl:M=[]:=List.eq_nil_of_length_eq_zero h0;refine⟨.slice (some ⟨g,0,none⟩) L.length cap,w,?_,⟨g,cap,by simp,by simpa using hr⟩,Below.refl _ _⟩;simp [Builtin.append_,run_underlying underlying56,sizeOf,typeInfo,hi,Builtin.lenOf,Builtin.firstCells,storeCells,hr.le]
 | some ad=>
  by_cases hc:L.length+M.length<=cap
  . refine⟨.slice (some ⟨g,0,none⟩) (L.length+M.length) cap,w.setCells g (0+L.length*2) (Zai rsL M),?_,⟨g,cap,?_,hr.put hc hz⟩,Below.sets hr.bs _ _ Zb_⟩
    . have:=run_append_room_cells (P:=prog) w 56 ty 171 i0 underlying56 hi g 0 L.length cap ad M.length c (Zai rsL M) (by rw [hz1];exact hlm) (hsrc ad rfl) (Zdz M) hc
       (fun j hj=>hr.th _ (by rw [hz1];omega)) (fun j hj=>hr.fz _)
      rw [hz1] at this;exact this
    . rw [List.length_append]
  . obtain⟨v',w',h1,h2,h3⟩:=run_append_arg_grows (P:=prog) w 56 ty 171 i0 (.agg #[.int .i64 0,.string ⟨#[]⟩]) 2 24 underlying56 hi hz0 hz1 hz2 rfl (by omega) ⟨g,0,none⟩ L.length cap (Zai rsL L) (Zaw ZaC L)
     (fun j u hj=>by rw [Addr.add_lit];exact hr.rg j u hj) ad M.length c (Zai rsL M) hlm (hsrc ad rfl) (by omega) (by unfold maxLen;omega) (by omega)
    have hzz:∀ i (h:i < (L ++ M).length),ZaJ (L ++ M)[i]:=by
     intro i hi;rw [List.getElem_append]
     split
     . exact hr.sz i (by assumption)
     . exact hz _ _
    have hp:0 < L.length+M.length:=by omega
    have h4:ZeR w' w.heap.size v' (L ++ M):=Zkp (by rw [Zbg];exact h2) (by rw [List.length_append]) hp hzz;obtain⟨g',cap',e1,e2⟩:=h4;exact⟨v',w',h1,⟨g',cap',e1,⟨Nat.le_trans hbase e2.bs,e2.lt,e2.le,e2.mx,e2.th,e2.fz,e2.rg,e2.sz⟩⟩,⟨h3.os,h3.tape,h3.output,h3.size,fun k hk=>h3.block k (by omega) (by simp)⟩⟩
theorem Zat.src (h:Zat lo w (.slice ao n cap) L):∀ ad,ao=some ad->∀ j u,(Zai rsL L)[j]?=some u->w.cell? (ad.add j)=some u:=by
 rintro ad rfl j u hu;have hj:=(List.getElem?_eq_some_iff.1 hu).1;rw [Zaw ZaC] at hj;obtain⟨b,off,e,-,-,hc⟩:=h.full' (by omega);injection e with e
 subst e;have hi:j / 2 < L.length:=by omega
 obtain⟨-,hcc⟩:=hc (j / 2) hi;rw [Addr.add_lit]
 by_cases hm:j % 2=0
 . have ej:j=j / 2*2+0:=by omega
   have:=Zbt ZaC L (j / 2) 0 hi (by omega);rw [<- ej,hu] at this;have hu':u=.int .i64 L[j / 2].ba:=by simpa [rsL] using this
   rw [hu',<- hcc.c0]
   congr 2
   omega
 . have ej:j=j / 2*2+1:=by omega
   have:=Zbt ZaC L (j / 2) 1 hi (by omega);rw [<- ej,hu] at this;have hu':u=.string L[j / 2].tx:=by simpa [rsL] using this
   rw [hu',<- hcc.c1]
   congr 2
   omega
theorem Zat.sizes (h:Zat lo w v L):∀ i (hi:i < L.length),ZaJ L[i]:=by
 intro i hi;obtain⟨_,_,_,_,_,_,_,hc⟩:=h.full (fun e=>by rw [e] at hi;simp at hi);exact (hc i hi).1
theorem Zat.nilN (h:Zat lo w (.slice ao n cap) L):ao=none->L.length=0:=by
 rintro rfl
 rcases h with ⟨_,_,_,rfl⟩ | ⟨_,_,_,h1,_⟩
 . rfl
 . injection h1 with e;cases e
end
theorem ZcW (lo hi:Nat) (v:Value) (Xl:List Rs) (k:Int) (w:World) (hv:Zap lo hi w v Xl) (hn:Zbn Xl) (h0:0<=k) (hk:k<=2000000000000000000) :
 Calls prog 82 #[v,.int .i64 k] w fun e w'=>e=.returned (.int .i64 (k+(Zbr Xl Xl.length:Int)))/\Zad lo hi w w'/\Zap lo hi w' v (Zcr k Xl):=by
 rcases hv with ⟨a,cap,rfl,rfl⟩ | ⟨b,off,cap,c,X,rfl,hne,hm,hcap,hX,hR⟩
 . go_enter func82,ntmps82
   go_wp2
   go_loop [5,1] (fun i q=>i=.int .i64 0/\q=.int .i64 k) (fun _ _=>0)
   case atStart=>exact⟨rfl,rfl⟩
   case round=>
    obtain⟨rfl,rfl⟩:=hrel;go_wp2;go_ret;exact⟨by simp [Zbr],Zad.refl _ _ _,Or.inl ⟨_,_,rfl,rfl⟩⟩
 . have hlen:=hn.1
   have HN:=Zaa hn;have HX:=Zaa hX;have HR0:=Zaa hR;have HM:=Zaa hm;have HC:=Zaa hcap;have HNE:=Zaa hne;clear hn hX hR hm hcap hne;go_enter func82,ntmps82;go_wp2
   go_loopw [5,1] (fun i q wr=>∃ j:Nat,i=.int .i64 j/\q=.int .i64 (k+(Zbr Xl j:Int))/\j<=Xl.length/\Zad lo hi w wr/\ZcQ lo hi wr b off Xl.length c (fun i=>if i < j then ZkC (k+(Zbr Xl i:Int)) (X i) else X i)) (fun i _ _=>Xl.length - (intOf i).toNat)
   case atStart=>exact⟨0,rfl,by simp [Zbr],by omega,Zad.refl _ _ _,HR0.o.to (fun i _=>by simp)⟩
   case round=>
    obtain⟨j,rfl,rfl,hj,ht,hr⟩:=hrel;have HT:=Zaa ht;have HR:=Zaa hr;clear ht hr HR0
    by_cases hlt:j < Xl.length
    . have hpos:=Zdf HN.o (i:=j) (by omega)
      have HP:=Zaa (ZcN hlt)
      have hone:Zdl b (off+j*2) (c j) (c (j+1)) wr (X j):=by
       have:=HR.o.row j hlt;simp only [Nat.lt_irrefl,if_false] at this;exact this
      have hxj:X j=Xl[j]:=HX.o j hlt;obtain⟨x,hx⟩:∃ x,x=X j:=⟨_,rfl⟩
      rw [<- hx] at hone;obtain⟨hs,hc⟩:=hone;have HXJ:=Zaa hxj;have HXX:=Zaa hx;obtain⟨K,hK⟩:∃ K,K=k+(Zbr Xl j:Int):=⟨_,rfl⟩
      rw [<- hK];have hK0:0<=K:=by omega
      have hK1:K<=2500000000000000000:=by omega
      have HK:=Zaa hK;have HBC:Hd (b < c j):=Zk_ HR.o.bc (HR.o.le Zz_ (by omega));have HS:Hd (Zhv wr b (off+j*2) (c j) (c (j+1)) wr x):=⟨Zb8.refl _ _ _ _ _ _,HBC.o,hc,HR.o.frz,HR.o.lt⟩;clear hpos hxj hx hs hc hK;obtain⟨d0,d1⟩:=HS.o.cells;have fz:=HS.o.frz;go_wp2_with fail;clear d0 d1 fz;obtain⟨v1,hv1,HS1⟩:∃ v',v'=(wr.setCell ⟨b,off+j*2,none⟩ (.int .i64 (K)))/\Hd (Zhv wr b (off+j*2) (c j) (c (j+1)) v' ⟨K,x.tx⟩):=⟨_,rfl,(HS.o.s0 (K))⟩
      rw [<- hv1];clear hv1 HS;refine (ZbE _ _ (by omega)).mono ?_;rintro e v2 ⟨rfl,hb⟩;have HS2:=Zaa (HS1.o.below hb);clear hb HS1;obtain⟨d0,d1⟩:=HS2.o.cells;have fz:=HS2.o.frz;go_wp2;clear d0 d1 fz;obtain⟨v3,hv3,HS3⟩:∃ v',v'=(v2.setCell ⟨b,off+j*2+1,none⟩ (.string (mtB (K+1))))/\Hd (Zhv wr b (off+j*2) (c j) (c (j+1)) v' ⟨K,mtB (K+1)⟩):=⟨_,rfl,(HS2.o.s1 (mtB (K+1)))⟩
      rw [<- hv3];clear hv3 HS2;have HW:Hd (Zkz Xl[j]=2):=by unfold Hd;rw [<- HXJ.o,<- HXX.o];rfl
      have HQ:Hd ((K+1+1:Int)=k+(Zbr Xl (j+1):Int)):=by
       have h1:=HP.o;have h2:=HW.o;have h3:=HK.o;unfold Hd
       omega
      have HRN:=Zaa (HR.o.near hlt HS3.o.near (show Zdl b (off+j*2) (c j) (c (j+1)) v3 (ZkC K x) from ⟨⟨Zf6 _ (by omega)⟩,HS3.o.cells⟩));have HTN:=Zaa (HS3.o.near.wide HR.o.lt (lo':=lo) (hi':=hi) (by have:=HBC.o;have:=HR.o.low;omega) (Nat.le_trans (HR.o.le (by omega) Zl_) HR.o.top) ⟨HR.o.low,HR.o.bh⟩);go_roundw
      . 
       refine⟨j+1,by go_num,congrArg (Value.int .i64) HQ.o,by omega,HT.o.trans HTN.o,HRN.o.to (fun i hi'=>?_)⟩
       by_cases e:i=j
       . subst e
         rw [if_pos rfl,if_pos (by omega),<- HK.o,HXX.o]
       . rw [if_neg e]
         by_cases e2:i < j
         . rw [if_pos e2,if_pos (by omega)]
         . rw [if_neg e2,if_neg (by omega)]
      . simp [intOf];omega
    . have e:j=Xl.length:=by omega
      subst e;go_wp2;go_ret;refine⟨rfl,HT.o,Or.inr ⟨b,off,cap,c,fun i=>ZkC (k+(Zbr Xl i:Int)) (X i),by rw [ZaP],?_,by rw [ZaP];exact HM.o,by rw [ZaP];exact HC.o,fun i h=>?_,?_⟩⟩
      . intro e
        have:=congrArg List.length e;rw [ZaP] at this;exact HNE.o (List.length_eq_zero_iff.1 (by simpa using this))
      . have h':i < Xl.length:=by rw [ZaP] at h;exact h
        rw [Zfu _ _ _ _ h',<- HX.o i h']
      . rw [ZaP]
        exact HR.o.to (fun i hi'=>by rw [if_pos hi'])
theorem ZcV (lo hi:Nat) (v:Value) (Xl:List Rs) (k:Int) (w:World) (hv:Zap lo hi w v (Zcr k Xl)) (hn:Zbn Xl) (h0:0<=k) (hk:k<=2000000000000000000) :
 Calls prog 88 #[v,.int .i64 k] w fun e w'=>e=.returned (.int .i64 (k+(Zbr Xl Xl.length:Int)))/\Zw_ w w':=by
 have HA:=Zaa hv.at;have HN:=Zaa hn;have hlen:=hn.1;obtain⟨a,cap,hv'⟩:=hv.form;rw [ZaP] at hv';subst hv';clear hv hn;go_enter func88,ntmps88;go_wp2
 go_loopw [5,1] (fun i q wr=>∃ j:Nat,i=.int .i64 j/\q=.int .i64 (k+(Zbr Xl j:Int))/\j<=Xl.length/\Zw_ w wr) (fun i _ _=>Xl.length - (intOf i).toNat)
 case atStart=>exact⟨0,rfl,by simp [Zbr],by omega,Below.refl _ _⟩
 case round=>
  obtain⟨j,rfl,rfl,hj,hb⟩:=hrel;have HB0:=Zaa hb;clear hb
  by_cases hlt:j < Xl.length
  . obtain⟨b,off,rfl,hbw,-,hc⟩:=HA.o.full' (by rw [ZaP];omega)
    have hcj:=hc j (by rw [ZaP];omega);rw [Zfu _ _ _ _ hlt] at hcj;have hpos:=Zdf HN.o (i:=j) (by omega);have HP:=Zaa (ZcN hlt);obtain⟨x,hx⟩:∃ x,x=Xl[j]:=⟨_,rfl⟩
    rw [<- hx] at hcj;have HXX:=Zaa hx;obtain⟨K,hK⟩:∃ K,K=k+(Zbr Xl j:Int):=⟨_,rfl⟩
    rw [<- hK] at hcj;rw [<- hK];have hK0:0<=K:=by omega
    have hK1:K<=2500000000000000000:=by omega
    have HK:=Zaa hK;obtain⟨_,hcl⟩:=hcj;have HC:=Zaa hcl;clear hc hcl hx hK hpos;have d0:wr.cell? ⟨b,off+j*2,none⟩=some (.int .i64 (K)):=(HC.o.below HB0.o hbw).c0;have d1:wr.cell? ⟨b,off+j*2+1,none⟩=some (.string (mtB (K+1))):=(HC.o.below HB0.o hbw).c1;have x0:∀ X:In (Up wr),X.w.cell? ⟨b,off+j*2+1,none⟩=some (.string (mtB (K+1))):=fun X=>Up.cell X d1
    have xn:Nonempty (In (Up wr)):=⟨⟨wr,Below.refl _ _⟩⟩;have xs:=fun (X:In (Up wr))=>Zbc X
    go_wp2;clear d0 d1;refine Zaf (Up wr) (by kernel_rfl) (by kernel_rfl) (Zb_.drew) ?_
    repeat (go_big_quiet_step (first|(go_at_call 84;rename_i X;exact (ZbE _ _ (by omega)).mono fun _ _ h=>⟨h.1,Up.next X h.2⟩)))
    refine wpQuiet_nil ?_;intro w1 hw;obtain⟨Y,hY⟩:=hw;have HB1:Hd (Zw_ w w1):=HB0.o.trans (Below.mono (show Below wr.heap.size wr w1 by rw [hY];exact Y.h) HB0.o.size);clear hY Y x0 xs xn HB0;have d0:w1.cell? ⟨b,off+j*2,none⟩=some (.int .i64 (K)):=(HC.o.below HB1.o hbw).c0;have d1:w1.cell? ⟨b,off+j*2+1,none⟩=some (.string (mtB (K+1))):=(HC.o.below HB1.o hbw).c1;go_wp2;clear d0 d1;have HW:Hd (Zkz Xl[j]=2):=by unfold Hd;rw [<- HXX.o];rfl
    have HQ:Hd ((K+1+1:Int)=k+(Zbr Xl (j+1):Int)):=by
     have h1:=HP.o;have h2:=HW.o;have h3:=HK.o;unfold Hd
     omega
    go_roundw
    . exact⟨j+1,by go_num,congrArg (Value.int .i64) HQ.o,by omega,HB1.o⟩
    . simp [intOf];omega
  . have e:j=Xl.length:=by omega
    subst e;go_wp2;go_ret;exact⟨rfl,HB0.o⟩
variable {n lo hi lo' hi' bytes:Nat} {w w':World} {v:Value}
def Zay {X:Type} (f:X->List Value) (n:Nat) (w:World) (lo hi:Nat) (v:Value) (L:List X):Prop:=(v=.slice none 0 0/\L=[])\/ZaH f n w lo hi v L
theorem Zay.below {X:Type}{f:X->List Value}{L:List X} (h:Zay f n w lo hi v L) (hb:Zw_ w w'):Zay f n w' lo hi v L:=h.imp id fun h=>h.below hb
theorem Zay.touch {X:Type}{f:X->List Value}{L:List X} (h:Zay f n w lo hi v L) (ht:Zad lo' hi' w w') (ho:hi<=lo'\/hi'<=lo):Zay f n w' lo hi v L:=h.imp id fun h=>h.touch ht ho
theorem Zay.wide {X:Type}{f:X->List Value}{L:List X} (h:Zay f n w lo hi v L) (h1:lo'<=lo) (h2:hi<=hi'):Zay f n w lo' hi' v L:=h.imp id fun h=>h.wide h1 h2
theorem Zay.set {X:Type}{f:X->List Value}{L:List X} (h:Zay f n w lo hi v L) {p:Addr} (hp:p.block < lo) (u:Value):Zay f n (w.setCell p u) lo hi v L:=
 h.touch (Zad.setCell p.block (p.block+1) w p u ⟨Nat.le_refl _,Nat.lt_succ_self _⟩) (Or.inr hp)
theorem Zay.form {X:Type}{f:X->List Value}{L:List X} (h:Zay f n w lo hi v L):∃ a c,v=.slice a L.length c:=by
 rcases h with ⟨h,rfl⟩ | ⟨g,cap,h,_⟩
 . exact⟨none,0,h⟩
 . exact⟨_,_,h⟩
theorem Zay.nil {X:Type} (f:X->List Value) (n:Nat) (w:World) (lo hi:Nat):Zay f n w lo hi (.slice none 0 0) []:=Or.inl ⟨rfl,rfl⟩
theorem Zho {P:Program} (w:World) (t ty e:TypeId) (i:TypeInfo) (z:Value) (size bytes:Nat) (ht:P.underlying t=some (.slice e)) (hi:P.info? e=some i) (hz:i.zero=some z)
 (hsize:i.size=size) (hby:i.bytes=bytes) (hzs:z.cells.size=size) (a:Addr) (m c:Nat) (news:List Value) (hl:news.length=m*size) (hnews:∀ j u,news[j]?=some u->w.cell? (a.add j)=some u)
 (h0:0 < m) (h63:m<=maxLen) (hbytes:m*bytes<=140737488355328) :
 ∃ v' w',(Builtin.append_ #[t,t] ty #[.slice none 0 0,.slice (some a) m c]).run P w=.ok v' w'/\w'.ownsRow w.heap.size e size v' m news/\Zw_ w w':=by
 subst hsize;subst hby
 have hsmall:m<=9223372036854775807:=by simp only [maxLen] at h63;omega
 have hge:=grownCap_ge w m 0 e;have hcm:grownCap w m 0 e<=maxLen:=grownCap_le_maxLen w m 0 e h63;have hr:=run_append_nil (P:=P) w t ty e i z ht hi hz a m c news hl hnews h0 (by omega) (by omega);refine⟨_,_,hr,⟨hl,.inr ⟨w.heap.size,_,_,rfl,Nat.le_refl _,heap_alloc_new w.drew _,hge,hcm,?_,?_⟩⟩,⟨rfl,rfl,rfl,by simp,fun k hk=>heap_alloc_old w.drew _ hk⟩⟩
 . simp only [Array.size_append,List.size_toArray,size_zeroCells,hzs,hl,<- Nat.add_mul]
   congr 1
   omega
 . simp only [Array.toList_append]
   rw [<- hl];exact List.take_left
theorem ZdM {X:Type}{f:X->List Value} (hf:∀ x,(f x).length=n) (hn:0 < n) {t e:TypeId} {z:Value} (ht:prog.underlying t=some (.slice e)) (hi:(prog.info? e).map (fun i=>(i.zero,i.size,i.bytes))=some (some z,n,bytes)) (hzs:z.cells.size=n)
 {w:World} {lo hi':Nat} {v:Value} {L M:List X} (ty:TypeId) (h:Zay f n w lo hi' v L) (ao:Option Addr) (m c:Nat) (hM:m=M.length) (hm:ao=none->m=0)
 (hsrc:∀ ad,ao=some ad->∀ j u,(Zai f M)[j]?=some u->w.cell? (ad.add j)=some u) (h1:∀ u ∈ Zai f M,u.oneCell'=true) (hb:L.length+M.length<=10000000) (hby:bytes<=1000000) :
 ∃ v' w',(Builtin.append_ #[t,t] ty #[v,.slice ao m c]).run prog w=.ok v' w'/\Zad lo hi' w w'/\(Zay f n w' lo hi' v' (L ++ M)\/Zay f n w' w.heap.size w'.heap.size v' (L ++ M)):=by
 rcases h with ⟨rfl,rfl⟩ | h
 . have hex:∃ i,prog.info? e=some i/\i.zero=some z/\i.size=n/\i.bytes=bytes:=by
    cases hh:prog.info? e with
    | none=>rw [hh] at hi;simp at hi
    | some i=>
     rw [hh] at hi;simp only [Option.map_some,Option.some.injEq,Prod.mk.injEq] at hi;exact⟨i,rfl,hi.1,hi.2.1,hi.2.2⟩
   obtain⟨i0,hi0,hz0,hz1,hz2⟩:=hex;have hlm:(Zai f M).length=M.length*n:=Zaw hf M;subst hM;simp only [List.length_nil,Nat.zero_add] at hb
   by_cases h0:M.length=0
   . obtain rfl:M=[]:=List.eq_nil_of_length_eq_zero h0
     refine⟨.slice none 0 0,w,?_,Zad.refl _ _ _,Or.inl (Or.inl ⟨rfl,rfl⟩)⟩
     cases ao with
     | none=>simp [Builtin.append_,run_underlying ht,sizeOf,typeInfo,hi0,Builtin.lenOf,Builtin.firstCells]
     | some ad=>simp [Builtin.append_,run_underlying ht,sizeOf,typeInfo,hi0,Builtin.lenOf,Builtin.firstCells,loadCells,loadCellsFrom]
   . cases ao with
     | none=>exact absurd (hm rfl) h0
     | some ad=>
      obtain⟨v',w',h2,h3,h4⟩:=Zho (P:=prog) w t ty e i0 z n bytes ht hi0 hz0 hz1 hz2 hzs ad M.length c (Zai f M) hlm (hsrc ad rfl) (by omega) (by unfold maxLen;omega) (by
       have:=Nat.mul_le_mul hb hby
       omega)
      exact⟨v',w',h2,Zad.below h4,Or.inr (Or.inr (Zie hf h3 rfl (by omega)))⟩
 . obtain⟨v',w',h2,h3,h4⟩:=ZeK hf hn ht hi hzs ty h ao m c hM hm hsrc h1 hb hby
   exact⟨v',w',h2,h3,h4.imp Or.inr Or.inr⟩
theorem Zdj {X:Type}{f:X->List Value} (hf:∀ x,(f x).length=n) (hn:0 < n) {t e:TypeId} {z:Value} (ht:prog.underlying t=some (.slice e)) (hi:(prog.info? e).map (fun i=>(i.zero,i.size,i.bytes))=some (some z,n,bytes)) (hzs:z.cells.size=n)
 {w:World} {lo hi':Nat} {v:Value} {L:List X} (M:List X) {ops:Array Oper} {rest:List Oper} {o:Oper} {a:Act} {Q:Exit->Act->World->Prop} (hgd:o.guard=none) (s x:Operand)
 (ho:o.op=.call { callee:=.builtin .append,args:=#[s,x],argTypes:=#[t,t] }) (hs:a.eval s=v) (h:Zay f n w lo hi' v L) (ao:Option Addr) (m c:Nat) (hx:a.eval x=.slice ao m c) (hM:m=M.length) (hm:ao=none->m=0)
 (hsrc:∀ ad,ao=some ad->∀ j u,(Zai f M)[j]?=some u->w.cell? (ad.add j)=some u) (h1:∀ u ∈ Zai f M,u.oneCell'=true) (hb:L.length+M.length<=10000000) (hby:bytes<=1000000)
 (K:∀ v' w',Zad lo hi' w w'->(Zay f n w' lo hi' v' (L ++ M)\/Zay f n w' w.heap.size w'.heap.size v' (L ++ M))->wpList prog ops Q rest (a.put o.dst v') w'):wpList prog ops Q (o :: rest) a w:=by
 obtain⟨v',w',h2,h3,h4⟩:=ZdM hf hn ht hi hzs o.type h ao m c hM hm hsrc h1 hb hby
 exact wpList_append_run hgd s x _ ho hs hx h2 (K v' w' h3 h4)
theorem Zay.rss {L:List Rs} (h:Zay rsL 2 w lo hi v L) (hz:∀ i (h:i < L.length),ZaJ L[i]):Zap lo hi w v L:=by
 rcases h with ⟨h,rfl⟩ | ⟨g,cap,h1,h2⟩
 . exact Or.inl ⟨_,_,h,rfl⟩
 by_cases hL:L=[]
 . subst hL;exact Or.inl ⟨_,_,h1,rfl⟩
 . have h0:0 < L.length:=List.length_pos_iff.2 hL
   refine Or.inr ⟨g,0,cap,fun _=>g+1,fun i=>if h:i < L.length then L[i] else L[0],h1,hL,Nat.le_trans h2.le h2.mx,h2.le,fun i hi=>by simp [hi],h2.lt,h2.bs,Nat.lt_succ_self _,h2.up,fun _ _=>Nat.le_refl _,h2.up,h2.fz,fun i hi=>?_⟩;simp only [hi,dif_pos];have e0:=h2.get ZaC hi (t:=0) (by omega) (v:=.int .i64 L[i].ba) rfl;have e1:=h2.get ZaC hi (t:=1) (by omega) (v:=.string L[i].tx) rfl;exact⟨hz i hi,⟨by rw [Nat.zero_add];exact e0,by rw [Nat.zero_add];exact e1⟩⟩
end Go.Proofs.YtdeammfdkaomlaaGreat
