import Derived.Test.YtmappejlmapboaaGreatG22
import Derived.RangeFuncWrites
import Derived.Maps.OwnIn
set_option maxHeartbeats 16000000
set_option maxRecDepth 100000
open Go.Proofs.Tryz
namespace Go.Proofs.YtmappejlmapboaaGreat
section
open Go.RowKit Go.Deep
variable {p n:Nat}
section
variable {S:Nat->List Nat} {R:Nat->Prop}
structure Met (S:Nat->List Nat) (R:Nat->Prop) (M M':Nat->Bool):Prop where
 mono:∀ x,M x=true->M' x=true
 new:∀ x,M' x=true->M x=true\/R x
 closed:∀ x,M' x=true->M x=true\/∀ y ∈ S x,M' y=true
theorem Met.refl (M:Nat->Bool):Met S R M M:=⟨fun _ h=>h,fun _ h=>Or.inl h,fun _ h=>Or.inl h⟩
theorem Met.trans {A B C:Nat->Bool} (h:Met S R A B) (h':Met S R B C):Met S R A C:=
 ⟨fun x hx=>h'.mono x (h.mono x hx),fun x hx=>(h'.new x hx).elim (h.new x) Or.inr,fun x hx=>(h'.closed x hx).elim (fun hb=>(h.closed x hb).imp id fun hy y hy'=>h'.mono y (hy y hy')) Or.inr⟩
structure ZdW (S:Nat->List Nat) (R:Nat->Prop) (M:Nat->Bool) (p:Nat) (done:List Nat) (M':Nat->Bool):Prop where
 mono:∀ x,M x=true->M' x=true
 self:M' p=true
 new:∀ x,M' x=true->M x=true\/R x
 closed:∀ x,M' x=true->M x=true\/x=p\/∀ y ∈ S x,M' y=true
 got:∀ y ∈ done,M' y=true
theorem ZdW.start {M:Nat->Bool} (hp:R p):ZdW S R M p [] (fun x=>M x || x == p):=
 ⟨fun x h=>by simp [h],by simp,fun x h=>by
  rw [Bool.or_eq_true,beq_iff_eq] at h
  rcases h with h | rfl
  . exact Or.inl h
  . exact Or.inr hp,fun x h=>by
  rw [Bool.or_eq_true,beq_iff_eq] at h;exact h.imp id Or.inl,fun y hy=>absurd hy List.not_mem_nil⟩
theorem ZdW.step {M A B:Nat->Bool}{y:Nat}{done:List Nat} (h:ZdW S R M p done A) (h':Met S R A B) (hy:B y=true):ZdW S R M p (done ++ [y]) B:=
 ⟨fun x hx=>h'.mono x (h.mono x hx),h'.mono p h.self,fun x hx=>(h'.new x hx).elim (h.new x) Or.inr,fun x hx=>(h'.closed x hx).elim (fun ha=>(h.closed x ha).imp id (Or.imp id fun hz z hz'=>h'.mono z (hz z hz'))) (fun hz=>Or.inr (Or.inr hz)),fun z hz=>by
  rcases List.mem_append.1 hz with hz | hz
  . exact h'.mono z (h.got z hz)
  . rw [List.mem_singleton.1 hz];exact hy⟩
theorem ZdW.end {M M':Nat->Bool} (h:ZdW S R M p (S p) M'):Met S R M M'/\M' p=true:=
 ⟨⟨h.mono,h.new,fun x hx=>(h.closed x hx).imp id fun hz=>by
  rcases hz with rfl | hz
  . exact h.got
  . exact hz⟩,h.self⟩
def Least (n:Nat) (Wa:Nat->Bool) (S:Nat->List Nat) (i:Nat):Prop:=∀ P:Nat->Prop,(∀ i,i < n->Wa i=true->P i)->(∀ k i,P k->i ∈ S k->P i)->P i
theorem Least.base {Wa:Nat->Bool} (i:Nat) (hi:i < n) (h:Wa i=true):Least n Wa S i:=fun _ b _=>b i hi h
theorem Least.step {Wa:Nat->Bool} (k i:Nat) (hk:Least n Wa S k) (h:i ∈ S k):Least n Wa S i:=fun P b s=>s k i (hk P b s) h
theorem Zpx {Wa M:Nat->Bool} (h:Met S (Least n Wa S) (fun _=>false) M) (hw:∀ i,i < n->Wa i=true->M i=true) (i:Nat):M i=true↔Least n Wa S i:=by
 constructor
 . intro hi
   rcases h.new i hi with h1 | h1
   . cases h1
   . exact h1
 . intro hi
   refine hi (M ·=true) hw fun k i ih hs=>?_
   rcases h.closed k ih with h1 | h1
   . cases h1
   . exact h1 i hs
def Zel (n:Nat) (M:Nat->Bool):Nat:=(List.range n).countP fun i=>!M i
theorem Zoe {M M':Nat->Bool} (h:∀ x,M x=true->M' x=true):Zel n M'<=Zel n M:=by
 unfold Zel;refine List.countP_mono_left fun i _ hi=>?_
 cases hm:M i with
 | false=>rfl
 | true=>rw [h i hm] at hi;exact hi
theorem Zhg {p q:Nat->Bool} (h:∀ x,p x=true->q x=true) {a:Nat} (h1:p a=false) (h2:q a=true):∀ L:List Nat,a ∈ L->L.countP p < L.countP q
 | [],h=>by cases h
 | b :: L,hL=>by
  have hle:L.countP p<=L.countP q:=List.countP_mono_left fun x _ hx=>h x hx
  rw [List.countP_cons,List.countP_cons]
  by_cases e:b=a
  . subst e
    rw [if_pos h2,if_neg (by rw [h1];exact Bool.false_ne_true)]
    omega
  . have ih:=Zhg h h1 h2 L ((List.mem_cons.1 hL).resolve_left (fun e'=>e e'.symm))
    have hb:=h b
    by_cases hp:p b=true
    . rw [if_pos hp,if_pos (hb hp)];omega
    . rw [if_neg hp]
      split <;> omega
theorem Zod {M:Nat->Bool} (hp:p < n) (hm:M p=false):Zel n (fun x=>M x || x == p) < Zel n M:=by
 unfold Zel;refine Zhg (a:=p) (fun x hx=>?_) (by simp) (by simp [hm]) _ (List.mem_range.2 hp)
 cases h:M x with
 | false=>rfl
 | true=>simp [h] at hx
theorem ZlX {So Ho:Nat->Bool}{E:Nat->Nat->Bool} (hS:∀ k,k < n->∀ i,i ∈ S k↔i < n/\E k i=true) {i:Nat}:Stays n So Ho E i↔Least n (fun j=>!So j || Ho j) S i:=by
 constructor
 . intro h
   exact (h (fun i=>i < n/\Least n (fun j=>!So j || Ho j) S i) (fun i hi h=>⟨hi,.base i hi (by rcases h with h | h <;> simp [h])⟩) fun k i ih hi he=>⟨hi,.step k i ih.2 ((hS k ih.1 i).2 ⟨hi,he⟩)⟩).2
 . intro h
   have hlt:∀ j,Least n (fun j=>!So j || Ho j) S j->Stays n So Ho E j:=fun j hj=>by
    refine hj (Stays n So Ho E) (fun i hi h=>.base i hi ?_) fun k i ih hs=>?_
    . rw [Bool.or_eq_true,Bool.not_eq_true'] at h;exact h
    . obtain⟨h1,h2⟩:=(hS k ih.lt i).1 hs;exact .step k i ih h1 h2
   exact hlt i h
end
end
section
open Go.RowKit Go.Deep Go.Maps
theorem ZbR {w wr w1:World}{r:Nat} (h:Zw_ w wr) (hg:wr.grownBy w1 (some r)) (hr:w.heap.size<=r):Zw_ w w1:=by
 have hz:=h.size;exact h.trans ⟨hg.os,hg.tape,hg.output,hg.size,fun k hk=>hg.block k (by omega) (fun e=>by have:=Option.some.inj e;omega)⟩
theorem ZaB {w w':World} (h:Zw_ w w'):w.grownBy w' none:=
 ⟨h.os,h.tape,h.output,h.size,fun k hk _=>h.block k hk⟩
section
variable (lo:Nat) (tv:Value) (Ts:List Tm) (team r:Zy_) (T:List Tri) (w:World)
theorem ZjH {D:DataW Unit}{b n:Nat} (hT:Zbk lo w tv Ts) (hown:w.ownsMap prog 251 (plainElem prog 3) b n D) (hs:ZfF T D) (hok:ZrS T) :
 Calls prog 160 #[.map (some b),tv,.string team,.string r] w
  fun e w'=>e=.returned (.int .i64 (wrap64 (T.map (ZhM Ts team r)).sum))/\Zw_ w w':=by
 have HT:=Zab hT;have HS:=Zab hs;have HK:=Zab hok;obtain⟨ta,tcap,rfl⟩:=hT.form;clear hT hs hok;go_enter func160,ntmps160
 go_wp2_with (first
  | (at_range;refine wpList_range_own _ rfl _ 218 rfl 251 3 Zi0 underlying218 _ b n _ rfl hown ?_;intro w0 hrg0 hg0 hs0)
  | go_in)
 go_frame
 go_loopw [9] (fun s wr=>∃ (left:Lit->Bool) (cnt:Nat),wr.ranges prog 251 (plainElem prog 3) b w.heap.size n D left cnt/\s=.int .i64 (wrap64 (Zk4 Ts team r T left))/\Zw_ w wr)
  (fun _ wr=>wr.rangeLeft b w.heap.size)
 case atStart=>exact⟨_,_,hrg0,by rw [Zoi HS.o];simp [wrap64],⟨hg0.os,hg0.tape,hg0.output,hg0.size,fun k hk=>hg0.block k hk (by simp)⟩⟩
 case round=>
  obtain⟨left,cnt,hrg,rfl,hb⟩:=hrel;have HB:=Zab hb;clear hb
  go_wp2_with (first
   | (at_next;refine wpList_next_ranges _ rfl _ rfl 251 Zi0 (plainElem prog 3) (fun p:Zy_×Zy_=>.agg #[.string p.1,.string p.2]) (Value.int .i64) (fun key kl h=>by obtain⟨x,y,rfl,_⟩:=Zeu.inv h;exact⟨(x,y),rfl⟩) (fun v y hv=>by obtain⟨c,rfl,_⟩:=plainElem_int_inv underlying3 hv;exact⟨c,rfl⟩) b w.heap.size n _ _ _ rfl hrg ?_ ?_)
   | go_in)
  . intro _ hl0
    go_wp2;go_ret;exact⟨ZaD (by rw [ZrE hl0]),HB.o⟩
  . intro xa xb c kl yd yp w1 cnt1 hkey hlk hv hat hrg1 hlt hg1 hs1 hen
    obtain⟨xa',xb',exy,rfl,sa,sb⟩:=Zeu.inv hkey;have e12:xa=xa'/\xb=xb':=by simpa using exy
    obtain⟨rfl,rfl⟩:=e12;clear exy hkey;have hbo:=hrg1.owns.lt;obtain⟨c',ec,ey,hwc⟩:=plainElem_int_inv underlying3 hv
    have hcc:c=wrap64 (Zlo T xa xb):=by
     have h1:=hat (.lit (.int .i64 0));rw [HS.o.sums xa xb sa sb] at h1;have h2:yd=.lit (.int .i64 c'):=congrArg Prod.fst ey;rw [h2] at h1;injection h1 with h1
     injection h1 with _ h1
     injection ec with _ ec
     rw [ec,h1]
    have HST:=Zab (ZkW Ts team r sa sb hlk T HK.o);have HB1:Hd (Zw_ w w1):=ZbR HB.o hg1 Zl_;have HRG1:=Zab hrg1;clear hv hat ec ey hwc hlk hrg1 hg1
    cases hq:(xb.toList == r.toList) with
    | false=>
     have HE:Hd (Zk4 Ts team r T (fun z=>left z&&!z.sameKey (ZbG xa xb))=Zk4 Ts team r T left):=by unfold Hd;rw [HST.o,hq];simp
     go_wp2;go_roundw
     . exact⟨_,cnt1,HRG1.o.alloc _,by rw [HE.o],HB1.o.trans ((Zac _ _).mono HB1.o.size)⟩
     . rw [(HRG1.o.alloc _).left_eq,hrg.left_eq];exact hlt
    | true=>
     go_wp2_with fail;refine (Zjj lo _ Ts xa team _ ((HT.o.below HB1.o).below (Zac _ _))).mono ?_;rintro e w2 ⟨rfl,hb2⟩;have HRG2:=Zab (HRG1.o.kept (((World.grownBy_alloc w1 _ none)).trans (ZaB hb2)) (by simp) (by simp));have HB2:Hd (Zw_ w w2):=(HB1.o.trans ((Zac _ _).mono HB1.o.size)).trans (hb2.mono ((HB1.o.trans ((Zac _ _).mono HB1.o.size)).size));clear hb2
     cases hu:Zbb Ts xa team with
     | false=>
      have HE:Hd (Zk4 Ts team r T (fun z=>left z&&!z.sameKey (ZbG xa xb))=Zk4 Ts team r T left):=by unfold Hd;rw [HST.o,hq,hu];simp
      go_wp2;go_roundw
      . exact⟨_,cnt1,HRG2.o,by rw [HE.o],HB2.o⟩
      . rw [HRG2.o.left_eq,hrg.left_eq];exact hlt
     | true=>
      have HE:Hd (Zk4 Ts team r T (fun z=>left z&&!z.sameKey (ZbG xa xb))=Zk4 Ts team r T left+Zlo T xa xb):=by unfold Hd;rw [HST.o,hq,hu];simp
      go_wp2;go_roundw
      . exact⟨_,cnt1,HRG2.o,by rw [HE.o,ZhQ],HB2.o⟩
      . rw [HRG2.o.left_eq,hrg.left_eq];exact hlt
end
end
open Go.RowKit Go.Deep Go.Shelf Go.Maps
variable {ds:List Nat} {wr wr':World}
attribute [local go_sem] Oper.semAt_some
def Zjx (ds:List Nat):List Deferred:=ds.map fun d=>{ target:=.collected d,args:=#[] }
theorem ZjV {B:Nat} (W:World) {d:Nat} (o:Obj) (hd:B<=d) (hlt:d < W.heap.size):Below B W (W.putObj d o):=by
 have g:=grownBy_putObj' W d o;exact⟨g.os,g.tape,g.output,g.size,fun k hk=>g.block k (by omega) (fun e=>by have:=Option.some.inj e;omega)⟩
theorem ZgD {F:Fence}{n:Nat}{P:Program}{fn:Func}{tmps:Array Value}{R:Ending->World->Prop} (B:Nat):∀ (ds:List Nat) (W:World),ds.Nodup->(∀ d ∈ ds,B<=d/\W.heap[d]?=some (.deferred (some [])))->
 (∀ W',Below B W W'->LeavesIn F n P fn tmps R [] .returning W')->LeavesInM F n P fn tmps R (Zjx ds) .returning W
 | [],W,_,_,h=>h W Zb_
 | d :: ds,W,hn,hd,h=>by
  obtain⟨h1,h2⟩:=hd d (List.mem_cons_self ..);obtain⟨n1,n2⟩:=List.nodup_cons.1 hn;have hb:=ZjV W (.deferred none) h1 (Array.getElem?_eq_some_iff.1 h2).1;refine⟨by simp,.inl ⟨d,_,rfl,run_takeDeferred h2,ZgD B ds _ n2 (fun e he=>?_) (fun W' hW'=>h W' (hb.trans hW'))⟩⟩;obtain⟨g1,g2⟩:=hd e (List.mem_cons_of_mem _ he);have hne:e≠d:=fun e'=>n1 (e' ▸ he)
  exact⟨g1,((grownBy_putObj' W d _).block e (Array.getElem?_eq_some_iff.1 g2).1 (fun e'=>hne (Option.some.inj e'))).trans g2⟩
theorem Box.of_block {w w':World}{β:Nat}{cs:Array Value} (h:Box w β cs) (e:w'.heap[β]?=w.heap[β]?):Box w' β cs:=
 ⟨by have:=h.lt;rw [Array.getElem?_eq_getElem this] at e;exact (Array.getElem?_eq_some_iff.1 e).1,fun i=>(World.cell?_of_block (a:=⟨β,i,none⟩) e).trans (h.cell i),fun i=>(World.frozen?_of_block (a:=⟨β,i,none⟩) e).trans (h.free i)⟩
structure ZqL (w:World) (T:List Tri) (ds:List Nat) (wr:World):Prop where
 own:∃ D:DataW Unit,wr.ownsMap prog 251 (plainElem prog 3) w.heap.size T.length D/\ZfF T D
 below:Zw_ w wr
 ptr:Box wr (w.heap.size+1) #[.map (some w.heap.size)]
 mks:∀ d ∈ ds,w.heap.size+2<=d/\wr.heap[d]?=some (.deferred (some []))
 nd:ds.Nodup
theorem ZqL.grow {w:World}{T:List Tri}{row:Option Nat} (h:ZqL w T ds wr) (hg:wr.grownBy wr' row) (hr:∀ r,row=some r->w.heap.size+1 < r/\r ∉ ds):ZqL w T ds wr':=by
 obtain⟨D,ho,hs⟩:=h.own;have hz:=h.below.size;refine⟨⟨D,ho.kept hg (fun e=>by have:=(hr _ e.symm).1;omega),hs⟩,?_,?_,fun d hd=>?_,h.nd⟩
 . exact h.below.trans ⟨hg.os,hg.tape,hg.output,hg.size,fun k hk=>hg.block k (by omega) (fun e=>by have:=(hr _ e.symm).1;omega)⟩
 . exact h.ptr.of_block (hg.block _ h.ptr.lt (fun e=>by have:=(hr _ e.symm).1;omega))
 . obtain⟨h1,h2⟩:=h.mks d hd
   exact⟨h1,(hg.block d (Array.getElem?_eq_some_iff.1 h2).1 (fun e=>(hr _ e.symm).2 hd)).trans h2⟩
theorem ZqL.add {w:World}{A:List Tri}{α:Type}{pre:List α}{f:α->Tri}{x:α}{D:DataW Unit} (h:ZqL w (A ++ pre.map f) ds wr) (hg:wr.grownBy wr' (some w.heap.size))
 (ho:wr'.ownsMap prog 251 (plainElem prog 3) w.heap.size ((A ++ pre.map f).length+1) D) (hs:ZfF (A ++ pre.map f ++ [f x]) D):ZqL w (A ++ (pre ++ [x]).map f) ds wr':=by
 have e:A ++ (pre ++ [x]).map f=A ++ pre.map f ++ [f x]:=by simp
 have hz:=h.below.size;rw [e];refine⟨⟨D,by rw [show (A ++ pre.map f ++ [f x]).length=(A ++ pre.map f).length+1 by simp [Nat.add_assoc]];exact ho,hs⟩,?_,?_,fun d hd=>?_,h.nd⟩
 . exact h.below.trans ⟨hg.os,hg.tape,hg.output,hg.size,fun k hk=>hg.block k (by omega) (fun e=>by have:=Option.some.inj e;omega)⟩
 . exact h.ptr.of_block (hg.block _ h.ptr.lt (fun e=>by have:=Option.some.inj e;omega))
 . obtain⟨h1,h2⟩:=h.mks d hd
   exact⟨h1,(hg.block d (Array.getElem?_eq_some_iff.1 h2).1 (fun e=>by have:=Option.some.inj e;omega)).trans h2⟩
theorem ZiY {Fs:List Fd}{V:List Zy_}:∀ {k:Nat} {p:Zy_×Int},p ∈ ZaV Fs V k->∃ f ∈ Fs,p.1=f.we
 | 0,p,h=>by simp [ZaV] at h
 | k+1,p,h=>by
  rw [ZaV] at h
  rcases List.mem_append.1 h with h | h
  . exact ZiY h
  . split at h
    . rename_i f s hf _
      split at h
      . simp at h
        subst h;exact⟨f,List.mem_of_getElem? hf,rfl⟩
      . simp at h
    . simp at h
theorem ZiV {lo:Nat}{w:World}{sv:Value}{Ss:List Sh} (hS:ZaI lo w sv Ss) {kind:Zy_} {V:List Zy_} (sk:kind.size<=maxLen) (p:Zy_×Int) (hp:p ∈ ZeM Ss kind V):p.1.size<=maxLen:=by
 unfold ZeM at hp
 split at hp
 . rename_i x hx
   split at hp
   . rcases List.mem_append.1 hp with h | h
     . unfold Zdy at h
       split at h
       . simp at h
       . simp at h
         subst h;exact sk
     . obtain⟨f,hf,e⟩:=ZiY h
       obtain⟨i,hi,rfl⟩:=List.getElem_of_mem (List.mem_of_find?_eq_some hx);obtain⟨j,hj,rfl⟩:=List.getElem_of_mem hf
       rcases hS with ⟨_,_,_,rfl⟩ | ⟨b,off,cap,h1,h2,h3,h4,h5,h7⟩
       . simp at hi
       . obtain⟨hs,fv,c0,c1,hF⟩:=h7 i hi
         rcases hF with ⟨_,_,_,e0⟩ | ⟨b',off',cap',g1,g2,g3,g4,g5,g7⟩
         . simp [e0] at hj
         . rw [e]
           exact (g7.2 j hj).1.s10
   . simp at hp
 . simp at hp
section
variable (lo:Nat) (sv ov:Value) (Ss:List Sh) (Os:List Ob) (w:World)
theorem Zl9 (hS:ZaI lo w sv Ss) (hO:Za2 lo w ov Os) (hn:Zbl Os) :
 Calls prog 159 #[sv,ov] w
  fun e w'=>e=.returned (.map (some w.heap.size))/\Zw_ w w'/\∃ D:DataW Unit,w'.ownsMap prog 251 (plainElem prog 3) w.heap.size (Zcw Ss Os).length D/\ZfF (Zcw Ss Os) D:=by
 have HS:=Zab hS;have HO:=Zab hO;obtain⟨a,cap,rfl⟩:=hS.form;obtain⟨oa,ocap,rfl⟩:=hO.form;have hm:=HO.o.max;unfold maxLen at hm;clear hS hO;refine (callsIn_wide (n:=5)).1 ?_;refine callsIn_of_wp_marks func159 rfl trivial ?_ rfl;simp only [ntmps159,List.size_toArray,List.length_cons,List.length_nil,Nat.reduceAdd,Nat.reduceSub,Array.replicate_succ,Array.replicate_zero,List.push_toArray,List.append_toArray,List.nil_append,List.cons_append];have hmm:=@run_makeMap prog
 gi_wp2
 clear hmm
 refine wpIn_loop (fun a' wr=>∃ (k:Nat) (ds:List Nat) (u7 u14 u15 u16 u17 u18 u19 u32:Value),
  (k<=Os.length/\ZqL w (Zcw Ss (Os.take k)) ds wr)/\
  a'={ tmps:=#[.slice a Ss.length cap,.slice oa Os.length ocap,undef,undef,.map none,.pointer (some ⟨w.heap.size+1,0,none⟩),undef,u7,undef,undef,.map (some w.heap.size),.slice oa Os.length ocap,.int .i64 Os.length,.int .i64 k,u14,u15,u16,u17,u18,u19,undef,undef,undef,undef,undef,undef,undef,undef,undef,undef,undef,undef,u32,undef],defers:=Zjx ds })
  (fun a' _=>Os.length - (intOf (a'.tmps.getD 13 undef)).toNat) ?_ ?_
 . refine⟨0,[],undef,undef,undef,undef,undef,undef,undef,undef,⟨Nat.zero_le _,?_⟩,rfl⟩
   refine⟨⟨.map [],?_,ZfF.start⟩,?_,?_,fun d hd=>absurd hd List.not_mem_nil,List.nodup_nil⟩
   . exact (World.ownsMap_made _ _ _ _).alloc _
   . exact (Zac _ _).trans ((Zac _ _).mono (by simp))
   . exact Box.new _ _ _ _ (by simp)
 . rintro _ wr ⟨k,ds,u7,u14,u15,u16,u17,u18,u19,u32,⟨hk,hW⟩,rfl⟩
   have HW:=Zab hW;clear hW
   by_cases hlt:k < Os.length
   . have hb:=HW.o.below
     have hw0:=hb.size;obtain⟨b,off,rfl,hbw,-,hc⟩:=HO.o.full' (by omega);obtain⟨hs,vv0,vv1,hcell,hv0,hv1⟩:=hc k hlt;obtain⟨c0,c1,c2,c3,c4,c5,c6⟩:=hcell.below hb hbw;have HV:=Zab hv0.at;obtain⟨va,vcap,rfl⟩:=hv0.at.form';obtain⟨ha,hcap,rfl⟩:=hv1.at.form';have HZ:=Zab hs;have HN:Hd (Os[k].vs.length<=1048576):=(hn.2 k hlt).1;clear hc hcell hv0 hv1 hs hb
     gi_wp2_with fail
     refine⟨trivial,(Zom Os[k].kd Os[k].nm Os[k].tm Os[k].en Os[k].ver _ Fence.wide _ trivial rfl a Ss.length cap va Os[k].vs.length vcap ha Os[k].hs.length hcap).mono ?_⟩;rintro e w1 ⟨rfl,hw1⟩
     obtain⟨wl,hwl,HX7,HX1,HX2,HWl,hsz⟩:∃ wl,wl=w1/\Hd (Box wl wr.heap.size #[.string Os[k].kd,.string Os[k].nm,.string Os[k].tm,.slice va Os[k].vs.length vcap,.bool Os[k].en,.slice ha Os[k].hs.length hcap,.int .i64 Os[k].ver])/\Hd (Box wl (wr.heap.size+1) #[.slice a Ss.length cap])/\Hd (Box wl (wr.heap.size+1+1) #[.string Os[k].kd,.string Os[k].nm,.string Os[k].tm,.slice va Os[k].vs.length vcap,.bool Os[k].en,.slice ha Os[k].hs.length hcap,.int .i64 Os[k].ver])/\Hd (ZqL w (Zcw Ss (Os.take k)) ds wl)/\wl.heap.size=wr.heap.size+3:=by
      refine⟨_,rfl,?_,?_,?_,?_,?_⟩
      . rw [hw1];exact ((Box.new _ _ _ _ rfl).on (Zac _ _)).on (Zac _ _)
      . rw [hw1];exact (Box.new _ _ _ _ (by simp)).on (Zac _ _)
      . rw [hw1];exact Box.new _ _ _ _ (by simp)
      . rw [hw1];exact ((HW.o.grow (World.grownBy_alloc _ _ none) (fun r e=>by cases e)).grow (World.grownBy_alloc _ _ none) (fun r e=>by cases e)).grow (World.grownBy_alloc _ _ none) (fun r e=>by cases e)
      . rw [hw1];simp
     subst hwl;clear hw1
     gi_wp2
     have hdl:∀ d ∈ ds,d < wl.heap.size:=fun d hd=>(Array.getElem?_eq_some_iff.1 (HWl.o.mks d hd).2).1
     have hlen:(Zcw Ss (Os.take k)).length<=1048576*1048577:=by
      have:=Zk2 Ss (Os.take k) (fun o ho=>by
       obtain⟨i,hi,rfl⟩:=List.getElem_of_mem (List.mem_of_mem_take ho);exact (hn.2 i hi).1)
      have h1:=hn.1;have h2:=List.length_take_le k Os;exact Nat.le_trans this (Nat.mul_le_mul_right _ (by omega))
     refine wpIn_rangeFunc_ownG rfl (by decide) (gf:=228) (lb:=#[.pointer (some ⟨wr.heap.size+1,0,none⟩),.pointer (some ⟨wr.heap.size+1+1,0,none⟩)]) rfl trivial (enters_of func228 (by kernel_rfl) rfl)
      (Zib lo _ Ss Os[k].kd Os[k].nm Os[k].tm _ _ Os[k].en Os[k].ver Os[k].vs wl _ HZ.o.s0 (by decide) (fun k=>k=w.heap.size) w _ _ HWl.o.below HS.o HV.o HN.o (fun k hk he=>by omega) (by omega) (fun k hk he=>by omega) HX1.o HX2.o)
      ZaF.trans ZaF.put Zb_ (fun _=>rfl)
      (fun pre W=>ZqL w (Zcw Ss (Os.take k) ++ pre.map fun p=>(Os[k].tm,Zey p.1,p.2)) ds W/\Box W wr.heap.size #[.string Os[k].kd,.string Os[k].nm,.string Os[k].tm,.slice va Os[k].vs.length vcap,.bool Os[k].en,.slice ha Os[k].hs.length hcap,.int .i64 Os[k].ver])
      (fun _ _ _=>False)
      (fun s A B row hs hg hr=>⟨hs.1.grow hg (fun r e=>⟨by have:=(hr r e).1;omega,fun hd=>by have:=(hr r e).1;have:=hdl r hd;omega⟩),hs.2.of_block (hg.block _ hs.2.lt (fun e=>by have:=(hr _ e.symm).1;omega))⟩)
      (fun _ _ _ _ _ hs _ _=>hs)
      ⟨by simpa using HWl.o,HX7.o⟩
      (fun x=>{ tmps:=#[.slice a Ss.length cap,.slice (some ⟨b,off,none⟩) Os.length ocap,undef,undef,.map none,.pointer (some ⟨w.heap.size+1,0,none⟩),undef,.pointer (some ⟨wr.heap.size,0,none⟩),.string (Zey x.1),.int .i64 x.2,.map (some w.heap.size),.slice (some ⟨b,off,none⟩) Os.length ocap,.int .i64 Os.length,.int .i64 k,.bool true,.pointer (some ⟨b,off+k*7,none⟩),.agg #[.string Os[k].kd,.string Os[k].nm,.string Os[k].tm,.slice va Os[k].vs.length vcap,.bool Os[k].en,.slice ha Os[k].hs.length hcap,.int .i64 Os[k].ver],.slice a Ss.length cap,.agg #[.string Os[k].kd,.string Os[k].nm,.string Os[k].tm,.slice va Os[k].vs.length vcap,.bool Os[k].en,.slice ha Os[k].hs.length hcap,.int .i64 Os[k].ver],.func (.func 228) #[] #[.pointer (some ⟨wr.heap.size+1,0,none⟩),.pointer (some ⟨wr.heap.size+1+1,0,none⟩)],.string (Zey x.1),.int .i64 x.2,undef,undef,undef,undef,undef,undef,undef,undef,undef,undef,u32,undef],defers:=[] }) ?assign ?body ?done ?stop
     case assign=>
      intro l x W K hK
      gi_wp2
      exact hK
     case body=>
      rintro l pre x W ⟨hWe,hX⟩ hpl;have HWe:=Zab hWe;have HX:=Zab hX;obtain⟨D,ho,hsum⟩:=hWe.own;have hpl':pre.length<=1048577:=by have:=HN.o;omega
      obtain⟨c,v0,st,w1,hent,hat,hwc,hl0,hl1,hg1,hs1,hst⟩:=Zj0 Zgt underlying218 underlying3 Zi1 ho.drew (by unfold maxLen;simp;omega) (Zeu.mk' HZ.o.s2 (Zdw x.1));have ew:IntKind.i64.wrap (c+x.2)=wrap64 (c+x.2):=IntWalk.i64_left _;obtain⟨w2,hrun2,ho2,hg2,hs2⟩:=hst (IntKind.i64.wrap (c+x.2)) (by rw [ew];exact wrap64_wf _);rw [ew] at ho2;have HO2:=Zab ho2;have HG2:=Zab hg2;have HAT:=Zab hat;have HSUM:=Zab hsum;clear ew hst ho2 hg2 hg1 hat hsum ho;have p0:=hWe.ptr.cell 0;have x2:=hX.cell 2;simp at p0 x2;simp only [goInt] at hent hrun2;clear hWe hX;refine wpIn_mono (Q:=fun e _ W'=>e=.normal/\W'=w2) ?_ ?_
      . clear HWe HX HO2 HG2 HAT HSUM HS HV HN HZ HX1 HX2 HX7 HWl HW hs1 hs2 hpl hpl' hdl hlen hm hk hn c0 c1 c2 c3 c4 c5 c6 hsz hw0 hwc
        gi_wp2
        generalize Os[k].tm=T at*;generalize Zey x.1=R at*;generalize x.2=N at*;refine ZgJ (by kernel_rfl) (by kernel_rfl) ?_;refine wpAnyIn_take (i:=1) (v:=?v1) rfl rfl (by kernel_rfl) (by kernel_rfl) (by kernel_rfl) (fun _ _ _ h=>h) ⟨Or.inl ⟨by rfl,?hy1⟩,fun _=>rfl⟩ ?rest1
        case hy1=>(intro w;go_simp;try with_reducible rfl)
        refine wpAnyIn_take (i:=3) (v:=?v2) rfl rfl (by kernel_rfl) (by kernel_rfl) (by kernel_rfl) (fun _ _ _ h=>h) ⟨Or.inl ⟨by rfl,?hy2⟩,fun _=>rfl⟩ ?rest2
        case hy2=>(intro w;go_simp;try with_reducible rfl)
        refine wpAnyIn_take (i:=6) (v:=?v3) rfl rfl (by kernel_rfl) (by kernel_rfl) (by kernel_rfl) (fun _ _ _ h=>h) ⟨Or.inl ⟨by rfl,?hy3⟩,fun _=>rfl⟩ ?rest3
        case hy3=>(intro w;go_simp;try with_reducible rfl)
        refine wpAnyIn_ready (rs:=[0,2]) (by kernel_rfl) (by simp) ?_;refine AllReadyIn.cons rfl (fun K hK=>?_) (AllReadyIn.cons rfl (fun K hK=>?_) AllReadyIn.nil)
        . go_simp
          refine hK _ _ ?_;clear hK K;refine wpAnyIn_ready (rs:=[2]) (by kernel_rfl) (by simp) ?_;refine AllReadyIn.cons rfl (fun K hK=>?_) AllReadyIn.nil
          go_simp
          refine hK _ _ ?_;clear hK K;refine wpAnyIn_take (i:=4) (v:=?v4) rfl rfl (by kernel_rfl) (by kernel_rfl) (by kernel_rfl) (fun _ _ _ h=>h) ⟨Or.inl ⟨by rfl,?hy4⟩,fun _=>rfl⟩ ?rest4
          case hy4=>(intro w;go_simp;try with_reducible rfl)
          refine wpAnyIn_ready (rs:=[5,8]) (by kernel_rfl) (by simp) ?_;refine AllReadyIn.cons rfl (fun K hK=>?_) (AllReadyIn.cons rfl (fun K hK=>?_) AllReadyIn.nil)
          . go_simp
            refine hK _ _ ?_;clear hK K;refine wpAnyIn_take (i:=7) (v:=?v5) rfl rfl (by kernel_rfl) (by kernel_rfl) (by kernel_rfl) (fun _ _ _ h=>h) ⟨Or.inl ⟨by rfl,?hy5⟩,fun _=>rfl⟩ ?rest5
            case hy5=>(intro w;go_simp;try with_reducible rfl)
            refine wpAnyIn_ready (rs:=[8]) (by kernel_rfl) (by simp) ?_;refine AllReadyIn.cons rfl (fun K hK=>?_) AllReadyIn.nil
            go_simp
            refine hK _ _ ?_;clear hK K;refine wpAnyIn_take (i:=9) (v:=?v6) rfl rfl (by kernel_rfl) (by kernel_rfl) (by kernel_rfl) (fun _ _ _ h=>h) ⟨Or.inl ⟨by rfl,?hy6⟩,fun _=>rfl⟩ ?rest6
            case hy6=>(intro w;go_simp;try with_reducible rfl)
            refine wpAnyIn_ready (rs:=[10]) (by kernel_rfl) (by simp) ?_;refine AllReadyIn.cons rfl (fun K hK=>?_) AllReadyIn.nil
            go_simp
            refine hK _ _ ?_;clear hK K;refine wpAnyIn_done (by kernel_rfl) ?_ _;exact⟨rfl,rfl⟩
          . go_simp
            refine hK _ _ ?_;clear hK K;refine wpAnyIn_take (i:=9) (v:=?v7) rfl rfl (by kernel_rfl) (by kernel_rfl) (by kernel_rfl) (fun _ _ _ h=>h) ⟨Or.inl ⟨by rfl,?hy7⟩,fun _=>rfl⟩ ?rest7
            case hy7=>(intro w;go_simp;try with_reducible rfl)
            refine wpAnyIn_ready (rs:=[5]) (by kernel_rfl) (by simp) ?_;refine AllReadyIn.cons rfl (fun K hK=>?_) AllReadyIn.nil
            go_simp
            refine hK _ _ ?_;clear hK K;refine wpAnyIn_take (i:=7) (v:=?v8) rfl rfl (by kernel_rfl) (by kernel_rfl) (by kernel_rfl) (fun _ _ _ h=>h) ⟨Or.inl ⟨by rfl,?hy8⟩,fun _=>rfl⟩ ?rest8
            case hy8=>(intro w;go_simp;try with_reducible rfl)
            refine wpAnyIn_ready (rs:=[10]) (by kernel_rfl) (by simp) ?_;refine AllReadyIn.cons rfl (fun K hK=>?_) AllReadyIn.nil
            go_simp
            refine hK _ _ ?_;clear hK K;refine wpAnyIn_done (by kernel_rfl) ?_ _;exact⟨rfl,rfl⟩
        . go_simp
          refine hK _ _ ?_;clear hK K;refine wpAnyIn_take (i:=4) (v:=?v9) rfl rfl (by kernel_rfl) (by kernel_rfl) (by kernel_rfl) (fun _ _ _ h=>h) ⟨Or.inl ⟨by rfl,?hy9⟩,fun _=>rfl⟩ ?rest9
          case hy9=>(intro w;go_simp;try with_reducible rfl)
          refine wpAnyIn_ready (rs:=[0]) (by kernel_rfl) (by simp) ?_;refine AllReadyIn.cons rfl (fun K hK=>?_) AllReadyIn.nil
          go_simp
          refine hK _ _ ?_;clear hK K;refine wpAnyIn_ready (rs:=[5,8]) (by kernel_rfl) (by simp) ?_;refine AllReadyIn.cons rfl (fun K hK=>?_) (AllReadyIn.cons rfl (fun K hK=>?_) AllReadyIn.nil)
          . go_simp
            refine hK _ _ ?_;clear hK K;refine wpAnyIn_take (i:=7) (v:=?v10) rfl rfl (by kernel_rfl) (by kernel_rfl) (by kernel_rfl) (fun _ _ _ h=>h) ⟨Or.inl ⟨by rfl,?hy10⟩,fun _=>rfl⟩ ?rest10
            case hy10=>(intro w;go_simp;try with_reducible rfl)
            refine wpAnyIn_ready (rs:=[8]) (by kernel_rfl) (by simp) ?_;refine AllReadyIn.cons rfl (fun K hK=>?_) AllReadyIn.nil
            go_simp
            refine hK _ _ ?_;clear hK K;refine wpAnyIn_take (i:=9) (v:=?v11) rfl rfl (by kernel_rfl) (by kernel_rfl) (by kernel_rfl) (fun _ _ _ h=>h) ⟨Or.inl ⟨by rfl,?hy11⟩,fun _=>rfl⟩ ?rest11
            case hy11=>(intro w;go_simp;try with_reducible rfl)
            refine wpAnyIn_ready (rs:=[10]) (by kernel_rfl) (by simp) ?_;refine AllReadyIn.cons rfl (fun K hK=>?_) AllReadyIn.nil
            go_simp
            refine hK _ _ ?_;clear hK K;refine wpAnyIn_done (by kernel_rfl) ?_ _;exact⟨rfl,rfl⟩
          . go_simp
            refine hK _ _ ?_;clear hK K;refine wpAnyIn_take (i:=9) (v:=?v12) rfl rfl (by kernel_rfl) (by kernel_rfl) (by kernel_rfl) (fun _ _ _ h=>h) ⟨Or.inl ⟨by rfl,?hy12⟩,fun _=>rfl⟩ ?rest12
            case hy12=>(intro w;go_simp;try with_reducible rfl)
            refine wpAnyIn_ready (rs:=[5]) (by kernel_rfl) (by simp) ?_;refine AllReadyIn.cons rfl (fun K hK=>?_) AllReadyIn.nil
            go_simp
            refine hK _ _ ?_;clear hK K;refine wpAnyIn_take (i:=7) (v:=?v13) rfl rfl (by kernel_rfl) (by kernel_rfl) (by kernel_rfl) (fun _ _ _ h=>h) ⟨Or.inl ⟨by rfl,?hy13⟩,fun _=>rfl⟩ ?rest13
            case hy13=>(intro w;go_simp;try with_reducible rfl)
            refine wpAnyIn_ready (rs:=[10]) (by kernel_rfl) (by simp) ?_;refine AllReadyIn.cons rfl (fun K hK=>?_) AllReadyIn.nil
            go_simp
            refine hK _ _ ?_;clear hK K;refine wpAnyIn_done (by kernel_rfl) ?_ _;exact⟨rfl,rfl⟩
      . rintro e a' W' ⟨rfl,rfl⟩
        have g:=HG2.o;have hpt:=HW.o.ptr.lt;have hg:W.grownBy W' (some w.heap.size):=⟨g.os,g.tape,g.output,g.size,g.block⟩
        exact⟨KeepsFrom.of_grownBy hg (fun j e=>by cases e;omega),⟨hg.os,hg.tape,hg.output,hg.size,fun j o hj hS _=>(hg.block j (Array.getElem?_eq_some_iff.1 hj).1 (fun e=>hS (Option.some.inj e))).trans hj⟩,
         HWe.o.add hg HO2.o (HSUM.o.step HZ.o.s2 (Zdw _) HAT.o x.2),HX.o.of_block (hg.block _ HX.o.lt (fun e=>by have:=Option.some.inj e;omega))⟩
     case done=>
      rintro D ys W hD rfl ⟨hWe,hX⟩ hK;have HWe:=Zab hWe;clear hWe hX
      gi_wp2
      refine⟨⟨k+1,D :: ds,_,_,_,_,_,_,_,_,⟨by omega,?_⟩,rfl⟩,?_⟩
      . have e:Zcw Ss (Os.take (k+1))=Zcw Ss (Os.take k) ++ (ZeM Ss Os[k].kd Os[k].vs).map fun p=>(Os[k].tm,Zey p.1,p.2):=by
         rw [List.take_succ_eq_append_getElem hlt,Zoo]
         congr 1
         refine List.map_congr_left fun p hp=>?_
         rw [Zez (ZiV HS.o HZ.o.s0 p hp)]
        rw [e];have hpt:=HWl.o.ptr.lt
        exact⟨HWe.o.own,HWe.o.below,HWe.o.ptr,fun d hd=>by
         rcases List.mem_cons.1 hd with rfl | hd
         . exact⟨by omega,hK⟩
         . exact HWe.o.mks d hd,List.nodup_cons.2 ⟨fun hd=>by have:=hdl D hd;omega,HWe.o.nd⟩⟩
      . simp [intOf];omega
     case stop=>
      rintro D c pre W _ _ h _;exact h.elim
   . have he:k=Os.length:=by omega
     subst he;have p0:=HW.o.ptr.cell 0;simp at p0
     gi_wp2
     refine ZgD (w.heap.size+2) ds wr HW.o.nd HW.o.mks (fun W' hb=>⟨_,results_tmp rfl _ _ _,rfl,HW.o.below.trans (hb.mono (by omega)),?_⟩);obtain⟨D,ho,hsum⟩:=HW.o.own;rw [List.take_length] at ho hsum;exact⟨D,ZcH ho (hb.block _ (by omega)),hsum⟩
end
end Go.Proofs.YtmappejlmapboaaGreat
