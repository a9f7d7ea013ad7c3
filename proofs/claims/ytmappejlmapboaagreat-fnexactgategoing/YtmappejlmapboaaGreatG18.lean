import Derived.Test.YtmappejlmapboaaGreatG17
import Derived.RangeFuncNested
import Derived.RangeFuncBound
import Derived.RangeFuncCalls
import Derived.RangeFuncLeaves
import Derived.Shelf.Abstract
import Derived.Shelf.RegionOpen
import Derived.OwnWalkIn
import Derived.TacticsInMore
import Derived.LoopNIn
import Derived.LoopIn
set_option maxHeartbeats 16000000
set_option maxRecDepth 100000
open Go.Proofs.Tryz
namespace Go.Proofs.YtmappejlmapboaaGreat
section
open Go.RowKit Go.Deep Go.Shelf
variable {B:Nat} {W W':World}
attribute [local go_sem] Oper.semAt_some
theorem ZhX {w w':World} (h:Zw_ w w'):w.grownBy w' none:=
 ⟨h.os,h.tape,h.output,h.size,fun k hk _=>h.block k hk⟩
theorem Zbt {β:Type}{J:β->World->Prop} (h:AbidesFrom B J) {s:β} {W W':World} (hs:J s W) (hb:Below W.heap.size W W'):J s W':=
 h s W W' none hs (ZhX hb) (fun r e=>by cases e)
structure ZaF (S:Nat->Prop) (B:Nat) (W W':World):Prop where
 os:W'.os=W.os
 tape:W'.tape=W.tape
 output:W'.output=W.output
 size:W.heap.size<=W'.heap.size
 same:∀ k o,W.heap[k]?=some o->¬ S k->(o.isCells=true\/k < B)->W'.heap[k]?=some o
theorem ZaF.refl (S:Nat->Prop) (B:Nat) (W:World):ZaF S B W W:=⟨rfl,rfl,rfl,Nat.le_refl _,fun _ _ h _ _=>h⟩
theorem ZaF.trans {S:Nat->Prop}{W'':World} (h:ZaF S B W W') (k:ZaF S B W' W''):ZaF S B W W'':=
 ⟨k.os.trans h.os,k.tape.trans h.tape,k.output.trans h.output,Nat.le_trans h.size k.size,fun i o hi hs ho=>k.same i o (h.same i o hi hs ho) hs ho⟩
theorem ZaF.put {S:Nat->Prop}{w:World} (W:World) (l:Nat) (o o':Obj) (hl:w.heap.size<=l) (h:W.heap[l]?=some o) (hc:o.isCells=false) (_:o.isWalk=false):ZaF S w.heap.size W (W.putObj l o'):=by
 have hg:=grownBy_putObj' W l o';refine⟨hg.os,hg.tape,hg.output,hg.size,fun k x hk _ hx=>?_⟩
 by_cases e:k=l
 . subst e
   rw [h] at hk
   cases hk
   rcases hx with hx | hx
   . rw [hc] at hx;cases hx
   . omega
 . rw [hg.block k (Array.getElem?_eq_some_iff.1 hk).1 (fun e'=>e (Option.some.inj e'))]
   exact hk
theorem ZaF.below {S:Nat->Prop}{m:Nat} (h:ZaF S B W W') (hm:m<=W.heap.size) (hS:∀ k,k < m->¬ S k) (hB:m<=B):Below m W W':=by
 refine⟨h.os,h.tape,h.output,h.size,fun k hk=>?_⟩;have hlt:k < W.heap.size:=Zk_ hk hm
 rw [Array.getElem?_eq_getElem hlt];exact h.same k _ (Array.getElem?_eq_getElem hlt) (hS k hk) (Or.inr (Zk_ hk hB))
theorem ZaF.cell {S:Nat->Prop}{p:Addr}{v:Value} (h:ZaF S B W W') (hc:W.cell? p=some v) (hS:¬ S p.block):W'.cell? p=some v:=by
 obtain⟨o,ho,hc'⟩:=cells_of_cell hc;exact (World.cell?_of_block ((h.same _ o ho hS (Or.inl hc')).trans ho.symm)).trans hc
def ZaV (Fs:List Fd) (V:List Zy_):Nat->List (Zy_×Int)
 | 0=>[]
 | k+1=>ZaV Fs V k ++ (match Fs[k]?,V[k]? with | some f,some s=>if (f.kd == 1&&!f.we.toList.isEmpty)=true then [(f.we,Zi5 s)] else [] | _,_=>[])
theorem ZhP {Fs:List Fd}{V:List Zy_}{k:Nat} (hf:k < Fs.length) (hv:k < V.length):ZaV Fs V (k+1)=ZaV Fs V k ++ (if (Fs[k].kd == 1&&!Fs[k].we.toList.isEmpty)=true then [(Fs[k].we,Zi5 V[k])] else []):=by
 rw [ZaV];simp [hf,hv]
theorem Zgq (Fs:List Fd) (V:List Zy_) (k:Nat):(ZaV Fs V k).length<=k:=by
 induction k with
 | zero=>simp [ZaV]
 | succ k ih=>
  rw [ZaV,List.length_append]
  split
  . split
    . simp;omega
    . simp;omega
  . simp;omega
def Zdy (kind:Zy_):List (Zy_×Int):=if kind.toList.isEmpty=true then [] else [(kind,1)]
def ZeM (Ss:List Sh) (kind:Zy_) (V:List Zy_):List (Zy_×Int):=
 match Zcj Ss kind with
 | some x=>if x.fields.length=V.length then Zdy kind ++ ZaV x.fields V V.length else []
 | none=>[]
theorem ZjM {Ss:List Sh}{kind:Zy_}{V:List Zy_} (h:∀ x,Zcj Ss kind=some x->x.fields.length≠V.length):ZeM Ss kind V=[]:=by
 unfold ZeM
 cases hs:Zcj Ss kind with
 | none=>rfl
 | some x=>simp [h x hs]
theorem ZkZ {Ss:List Sh}{kind:Zy_}{V:List Zy_}{x:Sh} (h:Zcj Ss kind=some x) (hl:x.fields.length=V.length):ZeM Ss kind V=Zdy kind ++ ZaV x.fields V V.length:=by
 unfold ZeM;rw [h];simp [hl]
def ZnH (r:Zy_) (L:List (Zy_×Int)):Int:=(L.map fun p=>if (p.1.toList == r.toList)=true then p.2 else 0).sum
theorem ZeX (r:Zy_):ZnH r []=0:=rfl
theorem Zfq (r:Zy_) (A B:List (Zy_×Int)):ZnH r (A ++ B)=ZnH r A+ZnH r B:=by simp [ZnH]
theorem Zg0 (r:Zy_) (p:Zy_×Int):ZnH r [p]=if (p.1.toList == r.toList)=true then p.2 else 0:=by simp [ZnH]
theorem ZnJ {r:Zy_} (hr:r.toList.isEmpty=false) (Fs:List Fd) (V:List Zy_) (k:Nat):ZnH r (ZaV Fs V k)=Ze1 r Fs V k:=by
 induction k with
 | zero=>rfl
 | succ k ih=>
  rw [ZaV,Ze1,Zfq,ih]
  congr 1
  generalize Fs[k]?=fo;generalize V[k]?=so
  cases fo with
  | none=>rfl
  | some f=>
   cases so with
   | none=>rfl
   | some s=>
    dsimp only;unfold ZrP
    cases h1:(f.kd == 1) with
    | false=>simp [ZeX]
    | true=>
     cases h2:f.we.toList.isEmpty with
     | false=>simp [Zg0]
     | true=>
      have:(f.we.toList == r.toList)=false:=by
       rw [List.isEmpty_iff.1 h2]
       cases hq:r.toList with
       | nil=>rw [hq] at hr;simp at hr
       | cons _ _=>rfl
      simp [ZeX,this]
theorem ZnI {r:Zy_} (hr:r.toList.isEmpty=true) (Fs:List Fd) (V:List Zy_) (k:Nat):ZnH r (ZaV Fs V k)=0:=by
 induction k with
 | zero=>rfl
 | succ k ih=>
  rw [ZaV,Zfq,ih]
  split
  . rename_i f s _ _
    cases h2:f.we.toList.isEmpty with
    | true=>simp [ZeX]
    | false=>
     have:(f.we.toList == r.toList)=false:=by
      rw [List.isEmpty_iff.1 hr]
      cases hq:f.we.toList with
      | nil=>rw [hq] at h2;simp at h2
      | cons _ _=>rfl
     split
     . simp [Zg0,this]
     . simp [ZeX]
  . simp [ZeX]
theorem ZnK (Ss:List Sh) (kind:Zy_) (V:List Zy_) (r:Zy_):ZnH r (ZeM Ss kind V)=ZdT Ss kind V r:=by
 by_cases hn:∀ x,Zcj Ss kind=some x->x.fields.length≠V.length
 . rw [ZjM hn,ZmH hn];rfl
 . obtain⟨x,hx,hl⟩:∃ x,Zcj Ss kind=some x/\x.fields.length=V.length:=Classical.byContradiction fun h=>hn fun x hx hl=>h ⟨x,hx,hl⟩
   rw [ZkZ hx hl,Zfq]
   cases hr:r.toList.isEmpty with
   | true=>
    rw [ZkX hr,ZnI hr];unfold Zdy
    cases hk:kind.toList.isEmpty with
    | true=>rfl
    | false=>
     have:(kind.toList == r.toList)=false:=by
      rw [List.isEmpty_iff.1 hr]
      cases hq:kind.toList with
      | nil=>rw [hq] at hk;simp at hk
      | cons _ _=>rfl
     simp [Zg0,this]
   | false=>
    rw [ZkY hx hl hr,ZnJ hr]
    congr 1
    unfold Zdy
    cases hk:kind.toList.isEmpty with
    | true=>
     have:(r.toList == kind.toList)=false:=by
      rw [List.isEmpty_iff.1 hk]
      cases hq:r.toList with
      | nil=>rw [hq] at hr;simp at hr
      | cons _ _=>rfl
     simp [ZeX,this]
    | false=>
     simp only [Bool.false_eq_true,if_false,Zg0]
     by_cases h:kind.toList=r.toList
     . simp [h]
     . have h':¬ r.toList=kind.toList:=fun e=>h e.symm
       simp [h,h']
section
variable (lo:Nat) (sv:Value) (Ss:List Sh) (kind nm team:Zy_) (vv hv:Value) (en:Bool) (ver:Int) (V Ho:List Zy_) (w:World)
theorem Zom (F:Fence) (n:Nat) (hf:F.fn 196) (hro:F.round=none) (a:Option Addr) (ln cap:Nat) (va:Option Addr) (vn vcap:Nat) (ha:Option Addr) (hn hcap:Nat) :
 CallsIn F n prog 196 #[.slice a ln cap,.agg #[.string kind,.string nm,.string team,.slice va vn vcap,.bool en,.slice ha hn hcap,.int .i64 ver]] w
  fun e w'=>e=.returned (.func (.func 228) #[] #[.pointer (some ⟨w.heap.size,0,none⟩),.pointer (some ⟨w.heap.size+1,0,none⟩)])/\
   w'=(w.alloc (.cells #[.slice a ln cap] 37)).alloc (.cells #[.string kind,.string nm,.string team,.slice va vn vcap,.bool en,.slice ha hn hcap,.int .i64 ver] 128):=by
 refine callsIn_of_wp func196 rfl hf ?_ hro;simp only [ntmps196,List.size_toArray,List.length_cons,List.length_nil,Nat.reduceAdd,Nat.reduceSub,Array.replicate_succ,Array.replicate_zero,List.push_toArray,List.append_toArray,List.nil_append,List.cons_append]
 gi_wp2
 go_ret;exact⟨rfl,rfl⟩
end
end
section
open Go.RowKit Go.Deep Go.Shelf
variable {F:Fence} {n:Nat} {P:Program}
theorem ZdZ {md:Region.Mode}{ops:Array Oper}{Q:Exit->Act->World->Prop} (l:Nat) (hnd:∀ (i:Nat) (o:Oper),ops[i]?=some o->∀ c,o.op≠.defer c) :
 ∀ (fuel:Nat) (listed:Array Bool) (a:Act) (w:World),wpAnyIn F n P md ops Q fuel listed a w->wpAnyIn (F.inRound l) n P md ops Q fuel listed a w
 | 0,_,_,_,h=>h
 | fuel+1,listed,a,w,⟨h0,h1⟩=>⟨h0,fun i hi=>by
  have h2:=h1 i hi;unfold wpOpIn at h2 |-
  split
  . rename_i e
    rw [e] at h2;exact ZdZ l hnd fuel _ _ _ h2
  . rename_i o e
    rw [e] at h2;simp only at h2
    split
    . rename_i hw
      rw [if_pos hw] at h2;have h3:=Oper.wpIn_mono (fun a w h=>ZdZ l hnd fuel _ a w h) h2;obtain⟨g1,g2⟩:=h3;refine⟨g1,?_⟩;rw [Oper.semAt_plain _ _ _ (hnd i o e)] at g2 |-;exact g2
    . rename_i hw
      rw [if_neg hw] at h2;exact⟨h2.1,ZdZ l hnd fuel _ _ _ h2.2⟩⟩
theorem ZgJ {id l:Nat}{ops:Array Oper}{Q:Exit->Act->World->Prop}{a:Act}{w:World} (hm:P.follows .mixedOrders=true) (hnd:ops.all (fun o=>match o.op with | .defer _=>false | _=>true)=true)
 (h:wpAnyIn F n P .any ops Q ops.size (Array.replicate ops.size false) a w.drew):(Code.region id ops true).wpIn (F.inRound l) n P Q a w:=by
 refine wpIn_region_any hm (ZdZ l (fun i o e c hc=>?_) _ _ _ _ h);have:=Array.all_eq_true_iff_forall_mem.1 hnd o (Array.mem_of_getElem? e);rw [hc] at this
 cases this
end
section
open Go.RowKit Go.Deep
variable {wr w1:World} {B k:Nat} {Xl:List Pu}
def Za9 (wr:World) (B:Nat) (Xl:List Pu) (k:Nat) (c:Nat->Nat):Prop:=
 B < c 0/\(∀ i,i < k->c i<=c (i+1))/\c k<=wr.heap.size/\∃ f,wr.rowIs B 144 (Xl.length*5) f/\∀ i (h:i < Xl.length),i < k->Zer Xl[i]/\f (i*5)=.string Xl[i].dr/\f (i*5+1)=.string Xl[i].tm/\f (i*5+2)=.string Xl[i].re/\f (i*5+3)=.int .i64 Xl[i].am/\f (i*5+4)=.int .i64 Xl[i].un
theorem Za9.le {c:Nat->Nat} (h:Za9 wr B Xl k c) {i:Nat}:∀ {j:Nat},i<=j->j<=k->c i<=c j:=by
 intro j
 induction j with
 | zero=>intro hij _;have:i=0:=by omega
         subst this;exact Nat.le_refl _
 | succ j ih=>
  intro hij hjn
  by_cases e:i=j+1
  . subst e;exact Nat.le_refl _
  . exact Nat.le_trans (ih (by omega) (by omega)) (h.2.1 j (by omega))
theorem Za9.below {c:Nat->Nat} (h:Za9 wr B Xl k c) (hb:Below wr.heap.size wr w1):Za9 w1 B Xl k c:=by
 obtain⟨g1,g2,g3,f,hr,hall⟩:=h;refine⟨g1,g2,Nat.le_trans g3 hb.size,f,hr.of_block (hb.block B hr.lt),fun i hi hik=>?_⟩;obtain⟨hz,h0,h1,h2,h3,h4⟩:=hall i hi hik;exact⟨hz,h0,h1,h2,h3,h4⟩
theorem Za9.free {c:Nat->Nat} (h:Za9 wr B Xl k c) (i:Nat):wr.frozen? ⟨B,i,none⟩=false:=by
 obtain⟨_,_,_,f,hr,_⟩:=h;exact hr.frozen i
theorem Za9.there {c:Nat->Nat} (h:Za9 wr B Xl k c) (i:Nat) (hi:i < Xl.length*5):∃ v,wr.cell? ⟨B,i,none⟩=some v:=by
 obtain⟨_,_,_,f,hr,_⟩:=h;exact⟨_,hr.cell hi⟩
theorem Za9.step {c:Nat->Nat} (h:Za9 w1 B Xl k c) (hk:k < Xl.length) (hz:Zer Xl[k]) (d:Nat) (hd0:c k<=d) (hd:d<=w1.heap.size) :
 Za9 (((((w1.setCell ⟨B,k*5,none⟩ (.string Xl[k].dr)).setCell ⟨B,k*5+1,none⟩ (.string Xl[k].tm)).setCell ⟨B,k*5+2,none⟩ (.string Xl[k].re)).setCell ⟨B,k*5+3,none⟩ (.int .i64 Xl[k].am)).setCell ⟨B,k*5+4,none⟩ (.int .i64 Xl[k].un)) B Xl (k+1) (fun j=>if j<=k then c j else d):=by
 have hle:=fun i (hi:i<=k)=>h.le (i:=0) (j:=i) Zz_ hi
 have hle2:=fun i (hi:i < k)=>h.le (i:=i+1) (j:=k) (by omega) Zl_
 obtain⟨g1,g2,g3,f,hr,hall⟩:=h;have hts:Zag B (B+1) w1 (((((w1.setCell ⟨B,k*5,none⟩ (.string Xl[k].dr)).setCell ⟨B,k*5+1,none⟩ (.string Xl[k].tm)).setCell ⟨B,k*5+2,none⟩ (.string Xl[k].re)).setCell ⟨B,k*5+3,none⟩ (.int .i64 Xl[k].am)).setCell ⟨B,k*5+4,none⟩ (.int .i64 Xl[k].un)):=((((Zag.setB B _ _ _).trans (Zag.setB B _ _ _)).trans (Zag.setB B _ _ _)).trans (Zag.setB B _ _ _)).trans (Zag.setB B _ _ _);refine⟨by simpa using g1,fun i hi=>?_,?_,_,(((((hr.set _ _).set _ _).set _ _).set _ _).set _ _),fun i hi hik=>?_⟩
 . dsimp only
   by_cases e:i=k
   . subst e;rw [if_pos Zl_,if_neg (by omega)];exact hd0
   . rw [if_pos (by omega),if_pos (by omega)];exact g2 i (by omega)
 . dsimp only;rw [if_neg (by omega)];exact Nat.le_trans hd hts.size
 by_cases e:i=k
 . subst e
   have hb0:=hle i Zl_;exact⟨hz,by simp,by simp,by simp,by simp,by simp⟩
 . have hb0:=hle i (by omega)
   obtain⟨hz,h0,h1,h2,h3,h4⟩:=hall i hi (by omega);refine⟨hz,?_,?_,?_,?_,?_⟩
   . rw [if_neg (by omega),if_neg (by omega),if_neg (by omega),if_neg (by omega),if_neg (by omega)];exact h0
   . rw [if_neg (by omega),if_neg (by omega),if_neg (by omega),if_neg (by omega),if_neg (by omega)];exact h1
   . rw [if_neg (by omega),if_neg (by omega),if_neg (by omega),if_neg (by omega),if_neg (by omega)];exact h2
   . rw [if_neg (by omega),if_neg (by omega),if_neg (by omega),if_neg (by omega),if_neg (by omega)];exact h3
   . rw [if_neg (by omega),if_neg (by omega),if_neg (by omega),if_neg (by omega),if_neg (by omega)];exact h4
theorem Za9.own {c:Nat->Nat} (h:Za9 wr B Xl k c) (hk:k=Xl.length) (hne:Xl≠[]) (hm:Xl.length<=maxLen):Zcq B wr.heap.size wr (.slice (some ⟨B,0,none⟩) Xl.length Xl.length) Xl:=by
 subst hk;obtain⟨g1,g2,g3,f,hr,hall⟩:=h;have h0:0 < Xl.length:=List.length_pos_iff.2 hne
 refine Or.inr ⟨B,0,Xl.length,c,fun i=>if h:i < Xl.length then Xl[i] else Xl[0],rfl,hne,hm,Nat.le_refl _,fun i hi=>by simp [hi],hr.lt,Nat.le_refl _,g1,hr.lt,g2,g3,fun i=>hr.frozen i,fun i hi=>?_⟩;obtain⟨hz,h0,h1,h2,h3,h4⟩:=hall i hi hi;simp only [hi,dif_pos];rw [Nat.zero_add];exact⟨hz,⟨by rw [hr.cell (by omega),h0],by rw [hr.cell (by omega),h1],by rw [hr.cell (by omega),h2],by rw [hr.cell (by omega),h3],by rw [hr.cell (by omega),h4]⟩⟩
theorem Za9.new (w:World) (Xl:List Pu) (z:Array Value):Za9 (w.alloc (.cells (madeCells z (Xl.length*5)) 144)) w.heap.size Xl 0 (fun _=>w.heap.size+1):=by
 refine⟨Nat.lt_succ_self _,fun i hi=>by omega,by simp,fun i=>(madeCells z (Xl.length*5)).getD i default,?_,fun i _ h=>by omega⟩;have:=World.rowIs_alloc w (madeCells z (Xl.length*5)) 144 (fun i=>(madeCells z (Xl.length*5)).getD i default) (fun i hi=>by simp [Array.getD,hi])
 rwa [size_madeCells] at this
theorem Zn8 (lo:Nat) (v:Value) (Xl:List Pu) (w:World) (hv:Zb7 lo w v Xl) (hn:ZeP Xl) :
 Calls prog 42 #[v] w fun e w'=>∃ v',e=.returned v'/\Zw_ w w'/\Zcq w.heap.size w'.heap.size w' v' Xl:=by
 obtain⟨i0,hi,hz0,hz1,hz2⟩:=info_parts Tryz.info144;have HSM:=Zab hn.2;have hn1:=hn.1;clear hn
 by_cases hL:Xl=[]
 . subst hL
   obtain⟨a,cap,rfl⟩:=hv.form;clear hv
   have hmk:∀ u:World,(Instr.makeSlice 46 (.int .i64 0) (.int .i64 0)).run prog u=.ok (.slice (some ⟨u.heap.size,0,none⟩) 0 0) (u.alloc (.cells (madeCells (Value.cells (.agg #[.string ⟨#[]⟩,.string ⟨#[]⟩,.string ⟨#[]⟩,.int .i64 0,.int .i64 0])) 0) 144)):=fun u=>by
    have h:=run_make (P:=prog) u 46 144 i0 _ underlying46 hi hz0 .i64 .i64 0 0 (by omega) (by omega) (by omega) (by omega)
    simpa [hz1] using h
   go_enter func42,ntmps42;go_wp2
   go_loop [4] (fun i=>i=.int .i64 0) (fun _=>0)
   case atStart=>rfl
   case round=>
    subst hrel;go_wp2;go_ret;exact⟨_,rfl,Zb_.alloc Zl_ _,Or.inl ⟨_,_,rfl,rfl⟩⟩
 . obtain⟨b,off,cap,rfl,hm,hbw,_,hc⟩:=hv.full hL
   clear hv;have HM:Hd (Xl.length<=maxLen):=hm;unfold maxLen at hm
   have hmk:∀ u:World,(Instr.makeSlice 46 (.int .i64 (Xl.length:Int)) (.int .i64 (Xl.length:Int))).run prog u=.ok (.slice (some ⟨u.heap.size,0,none⟩) Xl.length Xl.length) (u.alloc (.cells (madeCells (Value.cells (.agg #[.string ⟨#[]⟩,.string ⟨#[]⟩,.string ⟨#[]⟩,.int .i64 0,.int .i64 0])) (Xl.length*5)) 144)):=fun u=>by
    have h:=run_make (P:=prog) u 46 144 i0 _ underlying46 hi hz0 .i64 .i64 Xl.length Xl.length (by omega) (by omega) (by rw [hz2];omega) (by omega);rw [hz1] at h
    simpa using h
   clear hi hz0 hz1 hz2;go_enter func42,ntmps42;go_wp2;clear hmk
   go_loopw [4] (fun i wr=>∃ (k:Nat) (c:Nat->Nat),i=.int .i64 k/\k<=Xl.length/\Zw_ w wr/\Za9 wr w.heap.size Xl k c) (fun i _=>Xl.length - (intOf i).toNat)
   case atStart=>exact⟨0,_,rfl,by omega,Zb_.alloc Zl_ _,Za9.new w Xl _⟩
   case round=>
    obtain⟨k,c,rfl,hk,hb,hf⟩:=hrel
    by_cases hlt:k < Xl.length
    . obtain⟨hs,hc⟩:=hc k hlt
      have HB:=Zab hb;have HF:=Zab hf;have HSZ:=Zab hs;obtain⟨c0,c1,c2,c3,c4⟩:=hc.below hb hbw;clear hc hb hf hs;go_wp2_with fail;refine (ZmD _ _).mono ?_;rintro e w1 ⟨rfl,hb1⟩;have hf1:=HF.o.below hb1;have hB:Hd (Zw_ w w1):=HB.o.trans (hb1.mono HB.o.size);have HST:=Zab (hf1.step hlt HSZ.o w1.heap.size (Nat.le_trans HF.o.2.2.1 hb1.size) Zl_);have hfr:=hf1.free;obtain⟨o0,ho0⟩:=hf1.there (k*5) (by omega);obtain⟨o1,ho1⟩:=hf1.there (k*5+1) (by omega);obtain⟨o2,ho2⟩:=hf1.there (k*5+2) (by omega);obtain⟨o3,ho3⟩:=hf1.there (k*5+3) (by omega);obtain⟨o4,ho4⟩:=hf1.there (k*5+4) (by omega);clear hf1 hb1 HF HB c0 c1 c2 c3 c4;go_wp2;go_roundw
      . 
       exact⟨k+1,_,by go_num,by omega,(((((hB.o.setCell Zl_ _).setCell Zl_ _).setCell Zl_ _).setCell Zl_ _).setCell Zl_ _),HST.o⟩
      . simp [intOf];omega
    . have e:k=Xl.length:=by omega
      go_wp2;go_ret;exact⟨_,rfl,hb,hf.own e hL HM.o⟩
end
open Go.ChangeShapes Go.WideShapes Go.ChangeAt Go.RowKit Go.Deep
theorem Tryz.cells26:prog.cellsOf 26=3:=by kernel_rfl
theorem Tryz.cells22:prog.cellsOf 22=1:=by kernel_rfl
theorem Tryz.cells23:prog.cellsOf 23=1:=by kernel_rfl
theorem Tryz.cells24:prog.cellsOf 24=1:=by kernel_rfl
theorem ZsY {cs:Array Value} (h:cs.size=3):∃ c0 c1 c2,cs=#[c0,c1,c2]:=by
 obtain⟨l⟩:=cs
 match l,h with
 | [c0,c1,c2],_=>exact⟨c0,c1,c2,rfl⟩
section
variable {H:Type} {enc:TypeId×Value->H} {W:World}
theorem Zrg {r:Reach}{b0:Nat}{v:Value}{d:DataW H}{p:List MemPlace} (hv:Value.okWide prog W r b0 26 v) (h:DataW.Trod enc prog W 0 (fun _=>true) true 26 v d p) :
 ∃ (sv mv tv:Value) (Ss:List Sh) (Ms:List Md) (Ts:List Tm),v=.agg #[sv,mv,tv]/\ZbF 0 W sv mv tv Ss Ms Ts:=by
 obtain⟨cs,rfl,hsz⟩:=okWide_struct underlying26 hv;obtain⟨c0,c1,c2,rfl⟩:=ZsY (hsz.trans Tryz.cells26);obtain⟨fuel,hf⟩:=h;obtain⟨xs,n,_,_,_,hlen,hfld⟩:=DataW.trod_struct underlying26 hf;simp only [Array.size,List.length_cons,List.length_nil] at hlen;have g0:DataW.trod enc prog W 0 (fun _=>true) true n 22 ((([c0,c1,c2]:List Value).drop 0).take (prog.cellsOf 22))=xs[0]?:=hfld 0 _ rfl;have g1:DataW.trod enc prog W 0 (fun _=>true) true n 23 ((([c0,c1,c2]:List Value).drop 1).take (prog.cellsOf 23))=xs[1]?:=hfld 1 _ rfl;have g2:DataW.trod enc prog W 0 (fun _=>true) true n 24 ((([c0,c1,c2]:List Value).drop 2).take (prog.cellsOf 24))=xs[2]?:=hfld 2 _ rfl;simp only [Tryz.cells22,Tryz.cells23,Tryz.cells24,List.drop_succ_cons,List.drop_zero,List.take_succ_cons,List.take_zero] at g0 g1 g2;rw [List.getElem?_eq_getElem (by omega)] at g0 g1 g2
 obtain⟨Ss,hS⟩:=Zrj g0;obtain⟨Ms,hM⟩:=Zrh g1;obtain⟨Ts,hT⟩:=Zrk g2;exact⟨c0,c1,c2,Ss,Ms,Ts,rfl,hS,hM,hT⟩
end
end Go.Proofs.YtmappejlmapboaaGreat
