import Derived.Test.YtmappejlmapboaaGreatG25
import Derived.Test.YtmappejlmapboaaGreatG26
import Derived.Maps.AppendAt
import Derived.RangeFuncWrites
set_option maxHeartbeats 16000000
set_option maxRecDepth 100000
open Go.Proofs.Tryz
namespace Go.Proofs.YtmappejlmapboaaGreat
section
open Go.RowKit Go.Deep Go.Maps Go.ChangeMaps Go.MapKept
open Go.WideElems (Fit)
variable {w w':World} {base:Nat}
def ZcK (v:Value):Option (DataW Value×List MemPlace):=some (.held v,[])
structure Grp (w:World) (base:Nat) (D:DataW Value) (G:Zy_->Zy_->List Int):Prop where
 isMap:IsMap D
 at':∀ a b:Zy_,a.size<=maxLen->b.size<=maxLen->∃ v,D.atKey (ZbG a b) (.held (.slice none 0 0))=.held v/\w.ownsRow base 3 1 v (G a b).length ((G a b).map (Value.int .i64))
 sep:∀ a b a' b':Zy_,a.size<=maxLen->b.size<=maxLen->a'.size<=maxLen->b'.size<=maxLen->¬ (a=a'/\b=b')->∀ v v' g,D.atKey (ZbG a b) (.held (.slice none 0 0))=.held v->D.atKey (ZbG a' b') (.held (.slice none 0 0))=.held v'->v.ownBlock=some g->v'.ownBlock≠some g
theorem Grp.start (w:World) (base:Nat):Grp w base (.map []) (fun _ _=>[]):=
 ⟨⟨[],rfl⟩,fun a b _ _=>⟨.slice none 0 0,rfl,rfl,Or.inl ⟨rfl,rfl⟩⟩,fun a b a' b' _ _ _ _ _ v v' g h1 _ hg=>by
  have:(DataW.held (Value.slice none 0 0):DataW Value)=.held v:=h1;injection this with e
  rw [<- e] at hg
  cases hg⟩
theorem ZfT {v:Value}{n:Nat}{xs:List Value} (h:w.ownsRow base 3 1 v n xs) {row:Option Nat} (hg:w.grownBy w' row) (hne:∀ g,v.ownBlock=some g->some g≠row):w'.ownsRow base 3 1 v n xs:=by
 obtain⟨h1,h2⟩:=h;refine⟨h1,?_⟩
 rcases h2 with h2 | ⟨g,cap,cur,rfl,h3,h4,h5⟩
 . exact Or.inl h2
 . have hlt:g < w.heap.size:=(Array.getElem?_eq_some_iff.1 h4).1
   exact Or.inr ⟨g,cap,cur,rfl,h3,(hg.block g hlt (hne g rfl)).trans h4,h5⟩
theorem Grp.keep' {D:DataW Value}{G:Zy_->Zy_->List Int} (h:Grp w base D G) {row:Option Nat} (hg:w.grownBy w' row) (hr:∀ r,row=some r->r < base\/∃ o:Obj,w.heap[r]?=some o/\o.isCells=false):Grp w' base D G:=
 ⟨h.isMap,fun a b ha hb=>by
  obtain⟨v,h1,h2⟩:=h.at' a b ha hb;refine⟨v,h1,ZfT h2 hg fun g hv e=>?_⟩
  rcases h2.2 with ⟨rfl,-⟩ | ⟨g',_,cur,rfl,h3,h4,_⟩
  . cases hv
  . injection hv with hv
    have hv:g'=g:=hv;subst hv
    rcases hr g' e.symm with h5 | ⟨o,h5,h6⟩
    . omega
    . rw [h4] at h5
      injection h5 with h5
      rw [<- h5] at h6;exact absurd h6 (by simp [Obj.isCells]),h.sep⟩
theorem Grp.step {W:World}{D:DataW Value}{G G':Zy_->Zy_->List Int} (h:Grp w base D G) {a0 b0:Zy_} (ha0:a0.size<=maxLen) (hb0:b0.size<=maxLen) {v0 v1:Value} (hv0:D.atKey (ZbG a0 b0) (.held (.slice none 0 0))=.held v0)
 {i:Int} (hG:G' a0 b0=G a0 b0 ++ [i]) (hG':∀ a b,¬ (a=a0/\b=b0)->G' a b=G a b)
 (hr:W.ownsRow base 3 1 v1 (G' a0 b0).length ((G' a0 b0).map (Value.int .i64))) (hloc:v1.ownBlock=v0.ownBlock\/∃ g,v1.ownBlock=some g/\w.heap.size<=g)
 (hk:∀ g,g < w.heap.size->base<=g->v0.ownBlock≠some g->W.heap[g]?=w.heap[g]?):Grp W base (D.put (ZbG a0 b0) (.held v1)) G':=by
 have hput:∀ z,(D.put (ZbG a0 b0) (.held v1)).atKey (ZbG a0 b0) z=.held v1:=fun z=>atKey_put_same h.isMap (by trivial) _ _
 have hoth:∀ a b:Zy_,a.size<=maxLen->b.size<=maxLen->¬ (a=a0/\b=b0)->∀ z,(D.put (ZbG a0 b0) (.held v1)).atKey (ZbG a b) z=D.atKey (ZbG a b) z:=fun a b ha hb e z=>
  atKey_put_other (fun e'=>e ((Zeu.inj Zgt ha hb ha0 hb0 e'))) _ _
 have hlow:∀ a b:Zy_,a.size<=maxLen->b.size<=maxLen->∀ v g,D.atKey (ZbG a b) (.held (.slice none 0 0))=.held v->v.ownBlock=some g->base<=g/\g < w.heap.size:=fun a b ha hb v g hv hg=>by
  obtain⟨v',h1,h2⟩:=h.at' a b ha hb;rw [hv] at h1;injection h1 with h1
  subst h1
  rcases h2.2 with ⟨rfl,-⟩ | ⟨g',_,_,rfl,h3,h4,_⟩
  . cases hg
  . injection hg with hg
    have hg:g'=g:=hg;subst hg;exact⟨h3,(Array.getElem?_eq_some_iff.1 h4).1⟩
 refine⟨h.isMap.put _ _,fun a b ha hb=>?_,fun a b a' b' ha hb ha' hb' hne v v' g h1 h2 hg=>?_⟩
 . by_cases e:a=a0/\b=b0
   . obtain⟨rfl,rfl⟩:=e
     exact⟨v1,hput _,hr⟩
   . obtain⟨v,h1,h2⟩:=h.at' a b ha hb
     rw [hoth a b ha hb e,hG' a b e];refine⟨v,h1,h2.1,?_⟩
     rcases h2.2 with h3 | ⟨g,cap,cur,rfl,h3,h4,h5⟩
     . exact Or.inl h3
     . refine Or.inr ⟨g,cap,cur,rfl,h3,?_,h5⟩
       have hlt:g < w.heap.size:=(Array.getElem?_eq_some_iff.1 h4).1
       rw [hk g hlt h3 (h.sep a b a0 b0 ha hb ha0 hb0 e _ _ g h1 hv0 rfl)];exact h4
 . by_cases e:a=a0/\b=b0
   . obtain⟨rfl,rfl⟩:=e
     rw [hput] at h1;injection h1 with h1
     subst h1;have e':¬ (a'=a/\b'=b):=fun q=>hne ⟨q.1.symm,q.2.symm⟩
     rw [hoth a' b' ha' hb' e'] at h2
     rcases hloc with hl | ⟨g',hl,hge⟩
     . rw [hl] at hg
       exact h.sep a b a' b' ha hb ha' hb' hne v0 v' g hv0 h2 hg
     . rw [hl] at hg
       injection hg with hg
       intro hv';have:=hlow a' b' ha' hb' v' g h2 hv'
       omega
   . rw [hoth a b ha hb e] at h1
     by_cases e':a'=a0/\b'=b0
     . obtain⟨rfl,rfl⟩:=e'
       rw [hput] at h2;injection h2 with h2
       subst h2
       rcases hloc with hl | ⟨g',hl,hge⟩
       . rw [hl]
         exact h.sep a b a' b' ha hb ha' hb' e v v0 g h1 hv0 hg
       . rw [hl]
         intro q;injection q with q
         have:=hlow a b ha hb v g h1 hg
         omega
     . rw [hoth a' b' ha' hb' e'] at h2
       exact h.sep a b a' b' ha hb ha' hb' hne v v' g h1 h2 hg
def Off (D:DataW Value) (No:Nat->Prop):Prop:=∀ a b:Zy_,a.size<=maxLen->b.size<=maxLen->∀ v g,D.atKey (ZbG a b) (.held (.slice none 0 0))=.held v->v.ownBlock=some g->¬ No g
theorem Grp.lt {D:DataW Value}{G:Zy_->Zy_->List Int} (h:Grp w base D G) {a b:Zy_} (ha:a.size<=maxLen) (hb:b.size<=maxLen) {v:Value} {g:Nat} (hv:D.atKey (ZbG a b) (.held (.slice none 0 0))=.held v) (hg:v.ownBlock=some g) :
 base<=g/\g < w.heap.size/\∃ o,w.heap[g]?=some o/\o.isCells=true:=by
 obtain⟨v',h1,h2⟩:=h.at' a b ha hb;rw [hv] at h1;injection h1 with h1
 subst h1
 rcases h2.2 with ⟨rfl,-⟩ | ⟨g',_,cur,rfl,h3,h4,_⟩
 . cases hg
 . injection hg with hg
   have hg:g'=g:=hg;subst hg;exact⟨h3,(Array.getElem?_eq_some_iff.1 h4).1,_,h4,rfl⟩
theorem Grp.off {D:DataW Value}{G:Zy_->Zy_->List Int} (h:Grp w base D G) {No:Nat->Prop} (hn:∀ k,No k->w.heap.size<=k):Off D No:=fun a b ha hb v g hv hg hno=>by
 have:=(h.lt ha hb hv hg).2.1;have:=hn g hno
 omega
end
section
open Go.RowKit Go.Deep Go.Shelf Go.Maps
variable {w wr wr':World} {N:Nat} {ds:List Nat}
attribute [local go_sem] Oper.semAt_some
structure ZqH (w:World) (N:Nat) (G:Zy_->Zy_->List Int) (ds:List Nat) (No:Nat->Prop) (W:World):Prop where
 own:∃ D:DataW Value,W.ownsMap prog 153 ZcK w.heap.size N D/\Grp W (w.heap.size+2) D G/\Off D No
 below:Zw_ w W
 ptr:Box W (w.heap.size+1) #[.map (some w.heap.size)]
 mks:∀ d ∈ ds,w.heap.size+2<=d/\W.heap[d]?=some (.deferred (some []))
 nd:ds.Nodup
 lt:∀ q,No q->q < W.heap.size
theorem ZqH.grow {G:Zy_->Zy_->List Int}{No:Nat->Prop}{row:Option Nat} (h:ZqH w N G ds No wr) (hg:wr.grownBy wr' row) (hr:∀ r,row=some r->w.heap.size+1 < r/\r ∉ ds/\∃ o:Obj,wr.heap[r]?=some o/\o.isCells=false):ZqH w N G ds No wr':=by
 obtain⟨D,ho,hs,hf⟩:=h.own;have hz:=h.below.size;refine⟨⟨D,ho.kept hg (fun e=>by have:=(hr _ e.symm).1;omega),hs.keep' hg (fun r e=>Or.inr (hr r e).2.2),hf⟩,?_,?_,fun d hd=>?_,h.nd,fun q hq=>Zk_ (h.lt q hq) hg.size⟩
 . exact h.below.trans ⟨hg.os,hg.tape,hg.output,hg.size,fun k hk=>hg.block k (by omega) (fun e=>by have:=(hr _ e.symm).1;omega)⟩
 . exact h.ptr.of_block (hg.block _ h.ptr.lt (fun e=>by have:=(hr _ e.symm).1;omega))
 . obtain⟨h1,h2⟩:=h.mks d hd
   exact⟨h1,(hg.block d (Array.getElem?_eq_some_iff.1 h2).1 (fun e=>(hr _ e.symm).2.1 hd)).trans h2⟩
theorem ZqH.below' {G:Zy_->Zy_->List Int}{No:Nat->Prop} (h:ZqH w N G ds No wr) (hb:Below wr.heap.size wr wr'):ZqH w N G ds No wr':=
 h.grow (row:=none) ⟨hb.os,hb.tape,hb.output,hb.size,fun k hk _=>hb.block k hk⟩ (fun r e=>by cases e)
theorem ZfN {F:Fence}{n:Nat}{P:Program}{fn:Func}{tmps:Array Value}{R:Ending->World->Prop} (B:Nat):∀ (ds:List Nat) (W:World),ds.Nodup->(∀ d ∈ ds,B<=d/\W.heap[d]?=some (.deferred (some [])))->
 (∀ W',Below B W W'->(∀ (k:Nat) (o:Obj),W.heap[k]?=some o->o.isCells=true->W'.heap[k]?=some o)->LeavesIn F n P fn tmps R [] .returning W')->LeavesInM F n P fn tmps R (Zjx ds) .returning W
 | [],W,_,_,h=>h W Zb_ (fun _ _ h _=>h)
 | d :: ds,W,hn,hd,h=>by
  obtain⟨h1,h2⟩:=hd d (List.mem_cons_self ..);obtain⟨n1,n2⟩:=List.nodup_cons.1 hn;have hb:=ZjV W (.deferred none) h1 (Array.getElem?_eq_some_iff.1 h2).1
  have hc:∀ (k:Nat) (o:Obj),W.heap[k]?=some o->o.isCells=true->(W.putObj d (.deferred none)).heap[k]?=some o:=fun k o hk ho=>
   ((grownBy_putObj' W d _).block k (Array.getElem?_eq_some_iff.1 hk).1 (fun e=>by
     have e:=Option.some.inj e;rw [e,h2] at hk;injection hk with hk
     rw [<- hk] at ho;simp [Obj.isCells] at ho)).trans hk
  refine⟨by simp,.inl ⟨d,_,rfl,run_takeDeferred h2,ZfN B ds _ n2 (fun e he=>?_) (fun W' hW' hW2=>h W' (hb.trans hW') (fun k o hk ho=>hW2 k o (hc k o hk ho) ho))⟩⟩;obtain⟨g1,g2⟩:=hd e (List.mem_cons_of_mem _ he);have hne:e≠d:=fun e'=>n1 (e' ▸ he)
  exact⟨g1,((grownBy_putObj' W d _).block e (Array.getElem?_eq_some_iff.1 g2).1 (fun e'=>hne (Option.some.inj e'))).trans g2⟩
theorem Grp.cells {w':World}{base:Nat}{D:DataW Value}{G:Zy_->Zy_->List Int} (h:Grp w base D G) (hc:∀ (k:Nat) (o:Obj),w.heap[k]?=some o->o.isCells=true->w'.heap[k]?=some o):Grp w' base D G:=
 ⟨h.isMap,fun a b ha hb=>by
  obtain⟨v,h1,h2⟩:=h.at' a b ha hb;refine⟨v,h1,h2.1,?_⟩
  rcases h2.2 with h3 | ⟨g,cap,cur,rfl,h3,h4,h5⟩
  . exact Or.inl h3
  . exact Or.inr ⟨g,cap,cur,rfl,h3,hc g _ h4 rfl,h5⟩,h.sep⟩
end
open Go.RowKit Go.Deep
variable {Ss:List Sh} {Ms:List Md} {k:Nat}
theorem ZkA (h:ZaH Ss=false):Zax Ss Ms=false:=by unfold Zax;rw [h];rfl
theorem Ziz (h:12 < Ms.length):Zax Ss Ms=false:=by
 unfold Zax;rw [show decide (Ms.length<=12)=false from decide_eq_false (by omega)];simp
theorem Zhy (hk:k < Ms.length) (h:Zde Ss Ms[k]=false):Zax Ss Ms=false:=by
 unfold Zax;rw [show Ms.all (Zde Ss)=false from by rw [List.all_eq_false];exact⟨Ms[k],List.getElem_mem hk,by simp [h]⟩];simp
theorem ZkB (hk:k < Ss.length) (h:Zbq Ms Ss[k]=false):Zax Ss Ms=false:=by
 unfold Zax;rw [show Ss.all (Zbq Ms)=false from by rw [List.all_eq_false];exact⟨Ss[k],List.getElem_mem hk,by simp [h]⟩];simp
theorem Zkz (h1:ZaH Ss=true) (h2:Ms.length<=12) (h3:∀ i (h:i < Ms.length),Zde Ss Ms[i]=true) (h4:∀ i (h:i < Ss.length),Zbq Ms Ss[i]=true):Zax Ss Ms=true:=by
 unfold Zax;simp only [Bool.and_eq_true,List.all_eq_true,decide_eq_true_eq];refine⟨⟨⟨h1,h2⟩,fun m hm=>?_⟩,fun x hx=>?_⟩
 . obtain⟨i,hi,rfl⟩:=List.getElem_of_mem hm;exact h3 i hi
 . obtain⟨i,hi,rfl⟩:=List.getElem_of_mem hx;exact h4 i hi
theorem ZjF (lo lm:Nat) (sv mv:Value) (Ss:List Sh) (Ms:List Md) (w:World) (hS:ZaI lo w sv Ss) (hM:Zbc lm w mv Ms) :
 Calls prog 124 #[sv,mv] w fun e w'=>e=.returned (.bool (Zax Ss Ms))/\Zw_ w w':=by
 have HS:=Zab hS;have HM:=Zab hM;obtain⟨a1,cap1,rfl⟩:=hS.form;obtain⟨a2,cap2,rfl⟩:=hM.form;clear hS hM;go_enter func124,ntmps124;go_wp2_with fail;refine (Zh7 lo _ Ss _ HS.o).mono ?_;rintro e w1 ⟨rfl,hb1⟩;have HB1:=Zab hb1;clear hb1
 have hml:(Ms.length:Int)<=9223372036854775807:=by
  rcases HM.o with ⟨_,_,_,h⟩ | ⟨_,_,_,_,_,h,_⟩
  . rw [h];simp
  . unfold maxLen at h;omega
 have hsl:(Ss.length:Int)<=9223372036854775807:=by
  rcases HS.o with ⟨_,_,_,h⟩ | ⟨_,_,_,_,_,h,_⟩
  . rw [h];simp
  . unfold maxLen at h;omega
 cases hsb:ZaH Ss with
 | false=>
  have HQ:Hd (Zax Ss Ms=false):=ZkA hsb;go_wp2;go_ret;exact⟨Zaa HQ.o.symm,HB1.o⟩
 | true=>
  by_cases h12:(Ms.length:Int)<=12
  . have HSB:=Zab hsb
    clear hsb;go_wp2
    go_loopw [5] (fun i wr=>∃ k:Nat,i=.int .i64 k/\k<=Ms.length/\Zw_ w wr/\∀ i (h:i < Ms.length),i < k->Zde Ss Ms[i]=true) (fun i _=>Ms.length - (intOf i).toNat)
    case atStart=>exact⟨0,rfl,by omega,HB1.o,fun i _ h=>by omega⟩
    case round=>
     obtain⟨k,rfl,hk,hb,hall⟩:=hrel;have HA:=Zab hall;have HB:=Zab hb;clear hall hb
     by_cases hlt:k < Ms.length
     . obtain⟨b,off,rfl,hbw,hc⟩:=HM.o.full' (by omega)
       obtain⟨hsz,hcell⟩:=hc k hlt;obtain⟨c0,c1,c2,c3,c4,c5⟩:=hcell.below HB.o hbw;clear hcell hc;go_wp2_with fail;refine (Zko lo _ Ss Ms[k] _ (HS.o.below HB.o) hsz).mono ?_;rintro e w2 ⟨rfl,hb2⟩;have HB2:Hd (Zw_ w w2):=HB.o.trans (hb2.mono HB.o.size);clear hb2 c0 c1 c2 c3 c4 c5
       cases hmb:Zde Ss Ms[k] with
       | false=>
        have HQ:Hd (Zax Ss Ms=false):=Zhy hlt hmb;go_wp2;go_ret;exact⟨Zaa HQ.o.symm,HB2.o⟩
       | true=>
        go_wp2;go_roundw
        case rel=>exact⟨k+1,by go_num,by omega,HB2.o,fun i h h'=>by
                   by_cases e:i=k
                   . subst e;exact hmb
                   . exact HA.o i h (by omega)⟩
        . simp [intOf];omega
     . have HAll:Hd (∀ i (h:i < Ms.length),Zde Ss Ms[i]=true):=fun i h=>HA.o i h (by omega)
       have HBx:Hd (Zw_ w wr):=HB.o;clear HA HB HB1;go_wp2;clear hlt hk;rename_i wx _ _ _ _ _ _
       go_loopw [6] (fun i wr=>∃ k:Nat,i=.int .i64 k/\k<=Ss.length/\Zw_ w wr/\∀ i (h:i < Ss.length),i < k->Zbq Ms Ss[i]=true) (fun i _=>Ss.length - (intOf i).toNat)
       case atStart=>exact⟨0,rfl,by omega,HBx.o,fun i _ h=>by omega⟩
       case round=>
        clear HBx;obtain⟨j,rfl,hj,hb,hall⟩:=hrel;have HA:=Zab hall;have HB:=Zab hb;clear hall hb
        by_cases hlt:j < Ss.length
        . obtain⟨b,off,rfl,hbw,hc⟩:=HS.o.full' (by omega)
          obtain⟨hsz,fv,d0,d1,hst⟩:=hc j hlt;have c0:wr.cell? ⟨b,off+j*2,none⟩=some (.string Ss[j].kind):=by rw [HB.o.cell (p:=⟨b,_,none⟩) hbw];exact d0
          have c1:wr.cell? ⟨b,off+j*2+1,none⟩=some fv:=by rw [HB.o.cell (p:=⟨b,_,none⟩) hbw];exact d1
          obtain⟨fa,fcap,rfl⟩:=hst.form;have HST:=Zab (hst.below HB.o);have hbr:b < wr.heap.size:=Zk_ hbw HB.o.size
          have h6:Ss[j].fields.length<=6:=Zc2 (Zbz HSB.o (List.getElem_mem hlt));clear d0 d1 hst hc;go_wp2
          go_region_with (go_at_call 168
                          refine (Zkq lo lm _ _ Ss[j] Ms _ (HST.o.below (Zb_.drew)) (HM.o.below (HB.o.drew)) (by omega)).mono ?_;rintro e w2 ⟨v2,R,rfl,hb2,ho2,hro⟩;obtain⟨ra,rcap,rfl⟩:=ho2.form;have HRO:=Zab hro;have HB2:Hd (Zw_ w w2):=(HB.o.drew).trans (hb2.mono HB.o.size);have c1':w2.cell? ⟨b,off+j*2+1,none⟩=some (.slice fa Ss[j].fields.length fcap):=(hb2.cell (p:=⟨b,off+j*2+1,none⟩) hbr).trans c1;clear hb2 ho2 hro)
          all_goals
           by_cases hq:(R.length:Int)=(Ss[j].fields.length:Int)
           . have HSR:Hd (Zbq Ms Ss[j]=true):=HRO.o.2.2.1 (by omega)
             go_wp2;go_roundw
             case rel=>exact⟨j+1,by go_num,by omega,HB2.o,fun i h h'=>by
                        by_cases e:i=j
                        . subst e;exact HSR.o
                        . exact HA.o i h (by omega)⟩
             . simp [intOf];omega
           . have HSR:Hd (Zbq Ms Ss[j]=false):=by
              unfold Hd
              cases h:Zbq Ms Ss[j] with
              | false=>rfl
              | true=>exact absurd (HRO.o.2.2.2 h) (by omega)
             have HQ:Hd (Zax Ss Ms=false):=ZkB hlt HSR.o;go_wp2;go_ret;exact⟨Zaa HQ.o.symm,HB2.o⟩
        . have HQ:Hd (Zax Ss Ms=true):=Zkz HSB.o (by omega) HAll.o (fun i h=>HA.o i h (by omega))
          go_wp2;go_ret;exact⟨Zaa HQ.o.symm,HB.o⟩
  . have HQ:Hd (Zax Ss Ms=false):=Ziz (by omega)
    go_wp2;go_ret;exact⟨Zaa HQ.o.symm,HB1.o⟩
end Go.Proofs.YtmappejlmapboaaGreat
