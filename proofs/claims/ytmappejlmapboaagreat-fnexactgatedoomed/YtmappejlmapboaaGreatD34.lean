import Derived.Test.YtmappejlmapboaaGreatD26
import Derived.Test.YtmappejlmapboaaGreatD33
set_option maxHeartbeats 16000000
set_option maxRecDepth 100000
open Go.Proofs.Tryz
namespace Go.Proofs.YtmappejlmapboaaGreat
section
open Go.RowKit Go.Deep Go.Shelf Go.Maps
theorem Zjo (lo:Nat) (sv:Value) (Ss:List Sh) (o:Ob) (vv hv:Value) (x:Sh) (w0 w:World) (hS:ZaI lo w0 sv Ss) (h0:Below w0.heap.size w0 w) (hV:Zaf w vv o.vs) (hH:Zaf w hv o.hs) (hx:Zcn Ss o.kd=some x) :
 Calls prog 145 #[sv,.agg #[.string o.kd,.string o.nm,.string o.tm,vv,.bool o.en,hv,.int .i64 o.ver]] w
  fun e w'=>∃ fv B1 B2,e=.returned (.func (.func 227) #[] #[.pointer (some ⟨B1,0,none⟩),.pointer (some ⟨B2,0,none⟩)])/\Zw_ w w'/\Zau lo w0 fv x.fields/\w.heap.size<=B1/\w.heap.size<=B2/\
   Box w' B1 #[.string x.kind,fv]/\Box w' B2 #[.string o.kd,.string o.nm,.string o.tm,vv,.bool o.en,hv,.int .i64 o.ver]/\B2 < w'.heap.size:=by
 have HS:=Zab hS;have H0:=Zab h0;have HX:=Zab hx;obtain⟨sa,sc,rfl⟩:=hS.form;obtain⟨va,vc,rfl⟩:=hV.form';obtain⟨ha,hc,rfl⟩:=hH.form';clear hS h0 hV hH hx;go_enter func145,ntmps145;go_wp2_with fail;generalize hWa:w.alloc _=Wa;have HB:Hd (Zw_ w Wa):=by unfold Hd;rw [<- hWa];exact Zac _ _
 have FO:Hd (Box Wa w.heap.size #[.string o.kd,.string o.nm,.string o.tm,.slice va o.vs.length vc,.bool o.en,.slice ha o.hs.length hc,.int .i64 o.ver]):=by unfold Hd;rw [<- hWa];exact Box.new _ _ _ _ rfl
 clear hWa;refine (ZdD lo _ Ss o.kd w0 _ HS.o (H0.o.trans (HB.o.mono H0.o.size))).mono ?_;rintro e w1 ⟨hb,hq⟩
 rcases hq with ⟨y,fv,hy,rfl,hF⟩ | ⟨hno,-⟩
 case inr=>rw [HX.o] at hno;cases hno
 have e1:y=x:=by have:=HX.o;rw [hy] at this;exact Option.some.inj this
 subst e1;have HF:=Zab hF;obtain⟨fa,fcap,rfl⟩:=hF.form;replace HB:Hd (Zw_ w w1):=bt HB.o hb;replace FO:=Zab (FO.o.on hb);clear hb hF hy;have g:=FO.o.cell;have gl:=FO.o.lt;have g':∀ q i,(w1.alloc q).cell? ⟨w.heap.size,i,none⟩=_:=fun q i=>(Zaj _ _ _ _ gl).trans (g i)
 go_wp2_with fail;clear g g' gl;refine (callsIn_wide (n:=5)).1 ((Zri y.kind o.kd o.nm o.tm o.en o.ver _ Fence.wide _ trivial rfl fa y.fields.length fcap va o.vs.length vc ha o.hs.length hc).mono ?_);rintro e w2 ⟨rfl,rfl⟩;go_wp2;go_ret;have hs1:w.heap.size<=w1.heap.size:=HB.o.size;refine⟨_,_,_,rfl,?_,HF.o,?_,?_,?_,?_,?_⟩
 . exact bt HB.o (((Zac _ _).trans ((Zac _ _).mono (by simp))).trans ((Zac _ _).mono (by simp;omega)))
 . omega
 . omega
 . exact (Box.new _ _ _ _ (by simp)).on (Zac _ _)
 . exact Box.new _ _ _ _ (by simp)
 . simp
end
section
open Go.RowKit Go.Deep Go.Shelf Go.Maps
variable {N n:Nat} {ds:List Nat} {wr wr':World} {F:Fence} {P:Program}
attribute [local go_sem] Oper.semAt_some
structure Zpu (w:World) (N:Nat) (G:Zy_->Zy_->List Int) (ds:List Nat) (No:Nat->Prop) (W:World):Prop where
 own:∃ D:DataW Value,W.ownsMap prog 153 Zcu w.heap.size N D/\Grp W (w.heap.size+2) D G/\Off D No
 below:Zw_ w W
 ptr:Box W (w.heap.size+1) #[.map (some w.heap.size)]
 mks:∀ d ∈ ds,w.heap.size+2<=d/\W.heap[d]?=some (.deferred (some []))
 nd:ds.Nodup
 lt:∀ q,No q->q < W.heap.size
theorem Zpu.grow {w:World}{G:Zy_->Zy_->List Int}{No:Nat->Prop}{row:Option Nat} (h:Zpu w N G ds No wr) (hg:wr.grownBy wr' row) (hr:∀ r,row=some r->w.heap.size+1 < r/\r ∉ ds/\∃ o:Obj,wr.heap[r]?=some o/\o.isCells=false):Zpu w N G ds No wr':=by
 obtain⟨D,ho,hs,hf⟩:=h.own;have hz:=h.below.size;refine⟨⟨D,ho.kept hg (fun e=>by have:=(hr _ e.symm).1;omega),hs.keep' hg (fun r e=>Or.inr (hr r e).2.2),hf⟩,?_,?_,fun d hd=>?_,h.nd,fun q hq=>Zk_ (h.lt q hq) hg.size⟩
 . exact h.below.trans ⟨hg.os,hg.tape,hg.output,hg.size,fun k hk=>hg.block k (by omega) (fun e=>by have:=(hr _ e.symm).1;omega)⟩
 . exact h.ptr.of_block (hg.block _ h.ptr.lt (fun e=>by have:=(hr _ e.symm).1;omega))
 . obtain⟨h1,h2⟩:=h.mks d hd
   exact⟨h1,(hg.block d (Array.getElem?_eq_some_iff.1 h2).1 (fun e=>(hr _ e.symm).2.1 hd)).trans h2⟩
theorem Zpu.below' {w:World}{G:Zy_->Zy_->List Int}{No:Nat->Prop} (h:Zpu w N G ds No wr) (hb:Below wr.heap.size wr wr'):Zpu w N G ds No wr':=
 h.grow (row:=none) ⟨hb.os,hb.tape,hb.output,hb.size,fun k hk _=>hb.block k hk⟩ (fun r e=>by cases e)
theorem Zef {fn:Func}{tmps:Array Value}{R:Ending->World->Prop} (B:Nat):∀ (ds:List Nat) (W:World),ds.Nodup->(∀ d ∈ ds,B<=d/\W.heap[d]?=some (.deferred (some [])))->
 (∀ W',Below B W W'->(∀ (k:Nat) (o:Obj),W.heap[k]?=some o->o.isCells=true->W'.heap[k]?=some o)->LeavesIn F n P fn tmps R [] .returning W')->LeavesInM F n P fn tmps R (Zid ds) .returning W
 | [],W,_,_,h=>h W Zb_ (fun _ _ h _=>h)
 | d :: ds,W,hn,hd,h=>by
  obtain⟨h1,h2⟩:=hd d (List.mem_cons_self ..);obtain⟨n1,n2⟩:=List.nodup_cons.1 hn;have hb:=Zkv W (.deferred none) h1 (Array.getElem?_eq_some_iff.1 h2).1
  have hc:∀ (k:Nat) (o:Obj),W.heap[k]?=some o->o.isCells=true->(W.putObj d (.deferred none)).heap[k]?=some o:=fun k o hk ho=>
   ((grownBy_putObj' W d _).block k (Array.getElem?_eq_some_iff.1 hk).1 (fun e=>by
     have e:=Option.some.inj e;rw [e,h2] at hk;injection hk with hk
     rw [<- hk] at ho;simp [Obj.isCells] at ho)).trans hk
  refine⟨by simp,.inl ⟨d,_,rfl,run_takeDeferred h2,Zef B ds _ n2 (fun e he=>?_) (fun W' hW' hW2=>h W' (hb.trans hW') (fun k o hk ho=>hW2 k o (hc k o hk ho) ho))⟩⟩;obtain⟨g1,g2⟩:=hd e (List.mem_cons_of_mem _ he);have hne:e≠d:=fun e'=>n1 (e' ▸ he)
  exact⟨g1,((grownBy_putObj' W d _).block e (Array.getElem?_eq_some_iff.1 g2).1 (fun e'=>hne (Option.some.inj e'))).trans g2⟩
theorem Grp.cells {w w':World}{base:Nat}{D:DataW Value}{G:Zy_->Zy_->List Int} (h:Grp w base D G) (hc:∀ (k:Nat) (o:Obj),w.heap[k]?=some o->o.isCells=true->w'.heap[k]?=some o):Grp w' base D G:=
 ⟨h.isMap,fun a b ha hb=>by
  obtain⟨v,h1,h2⟩:=h.at' a b ha hb;refine⟨v,h1,h2.1,?_⟩
  rcases h2.2 with h3 | ⟨g,cap,cur,rfl,h3,h4,h5⟩
  . exact Or.inl h3
  . exact Or.inr ⟨g,cap,cur,rfl,h3,hc g _ h4 rfl,h5⟩,h.sep⟩
theorem ZmH (x:Tie) (a b:Zy_):ZgN 3 a b x=true↔x.2.1=3/\a=x.2.2.1/\b=x.2.2.2:=by
 unfold ZgN;rw [Bool.and_eq_true,Bool.and_eq_true,beq_iff_eq,Zaz,Zaz];exact⟨fun h=>⟨h.1,h.2.1.symm,h.2.2.symm⟩,fun h=>⟨h.1,h.2.1.symm,h.2.2.symm⟩⟩
theorem ZfO {w:World}{ops:Array Oper}{rest:List Oper}{o:Oper}{a:Act}{Q:Exit->Act->World->Prop} (hgd:o.guard=none) (s x:Operand) (t:TypeId)
 (ho:o.op=.call { callee:=.builtin .append,args:=#[s,x],argTypes:=#[t,t] }) (v u:Value) (hs:a.eval s=v) (hx:a.eval x=u) {r:Value} {w':World} (hr:(Builtin.append_ #[t,t] o.type #[v,u]).run P w=.ok r w')
 (h:wpListIn F n P ops Q rest (a.put o.dst r) w'):wpListIn F n P ops Q (o :: rest) a w:=by
 refine wpListIn_plain hgd fun K hK'=>?_
 unfold Oper.wpIn;refine⟨?_,?_⟩
 . simp [Oper.about,ho,resolve,Target.leads,Sem.run_pure]
 . rw [Oper.semAt_plain F _ _ (by rw [ho];intro c hc';cases hc')]
   simp [execOp,ho,resolve,invoke,builtin,hs,hx,hr,Result.andThen];exact hK' _ _ h
section
variable (lo:Nat) (sv ov:Value) (Ss:List Sh) (Os:List Ob) (w:World)
theorem Zmt (hS:ZaI lo w sv Ss) (hO:Za3 lo w ov Os) (hn:Zbg Os) (hsp:ZfX Ss Os) :
 Calls prog 95 #[sv,ov] w
  fun e w'=>e=.returned (.map (some w.heap.size))/\Zw_ w w'/\∃ D:DataW Value,w'.ownsMap prog 153 Zcu w.heap.size (Os.length*1048577) D/\Grp w' (w.heap.size+2) D (Zh6 Ss Os Os.length):=by
 obtain⟨i0,hi,hz0,hz1,hz2⟩:=info_parts Tryz.info3;have HI3:=Zab (And.intro hi (And.intro hz0 (And.intro hz1 hz2)));clear hi hz0 hz1 hz2;have HS:=Zab hS;have HO:=Zab hO;have HSP:=Zab hsp;obtain⟨a,cap,rfl⟩:=hS.form;obtain⟨oa,ocap,rfl⟩:=hO.form;have hm:=HO.o.max;unfold maxLen at hm;clear hS hO hsp;refine (callsIn_wide (n:=5)).1 ?_;refine callsIn_of_wp_marks func95 rfl trivial ?_ rfl;simp only [ntmps95,List.size_toArray,List.length_cons,List.length_nil,Nat.reduceAdd,Nat.reduceSub,Array.replicate_succ,Array.replicate_zero,List.push_toArray,List.append_toArray,List.nil_append,List.cons_append];have hmm:=@run_makeMap prog
 gi_wp2
 clear hmm
 refine wpIn_loop (fun a' wr=>∃ (k:Nat) (ds:List Nat) (u6 u7 u13 u14 u15 u16 u17 u18 u19 u33:Value),
  (k<=Os.length/\Zpu w (k*1048577) (Zh6 Ss Os k) ds (fun _=>False) wr)/\
  a'={ tmps:=#[.slice a Ss.length cap,.slice oa Os.length ocap,undef,undef,.map none,.pointer (some ⟨w.heap.size+1,0,none⟩),u6,u7,undef,.map (some w.heap.size),.slice oa Os.length ocap,.int .i64 Os.length,.int .i64 k,u13,u14,u15,u16,u17,u18,u19,undef,undef,undef,undef,undef,undef,undef,undef,undef,undef,undef,undef,undef,u33,undef],defers:=Zid ds })
  (fun a' _=>Os.length - (intOf (a'.tmps.getD 12 undef)).toNat) ?_ ?_
 . refine⟨0,[],undef,undef,undef,undef,undef,undef,undef,undef,undef,undef,⟨Nat.zero_le _,?_⟩,rfl⟩
   refine⟨⟨.map [],?_,?_,?_⟩,?_,?_,fun d hd=>absurd hd List.not_mem_nil,List.nodup_nil,fun q h=>h.elim⟩
   . exact (World.ownsMap_made _ _ _ _).alloc _
   . exact Grp.start _ _
   . exact (Grp.start w 0).off (fun q h=>h.elim)
   . exact (Zac _ _).trans ((Zac _ _).mono (by simp))
   . exact Box.new _ _ _ _ (by simp)
 . rintro _ wr ⟨k,ds,u6,u7,u13,u14,u15,u16,u17,u18,u19,u33,⟨hk,hW⟩,rfl⟩
   have HW:=Zab hW;clear hW
   by_cases hlt:k < Os.length
   . have hb:=HW.o.below
     have hw0:=hb.size;obtain⟨b,off,rfl,hbw,-,hc⟩:=HO.o.full' (by omega);obtain⟨hs,vv0,vv1,hcell,hv0,hv1⟩:=hc k hlt;obtain⟨c0,c1,c2,c3,c4,c5,c6⟩:=hcell.below hb hbw;have HV:=Zab hv0.at;have HH:=Zab hv1.at;obtain⟨va,vcap,rfl⟩:=hv0.at.form';obtain⟨ha,hcap,rfl⟩:=hv1.at.form';have HZ:=Zab hs;obtain⟨x,hx,hxl⟩:=HSP.o k hlt;have HXS:=Zab hx;have HXL:=Zab hxl;have HN:Hd (x.fields.length<=1048576):=by unfold Hd;rw [hxl];exact (hn.2 k hlt).1
     clear hc hcell hv0 hv1 hs hx hxl
     gi_wp2_with fail
     have hba:Below wr.heap.size wr ((wr.alloc (.cells #[.int .i64 k] 3)).alloc (.cells #[.string Os[k].kd,.string Os[k].nm,.string Os[k].tm,.slice va Os[k].vs.length vcap,.bool Os[k].en,.slice ha Os[k].hs.length hcap,.int .i64 Os[k].ver] 128)):=(Zac wr _).alloc (by simp) _;refine⟨trivial,(callsIn_wide.2 (Zjo lo _ Ss Os[k] _ _ x w _ HS.o (hb.trans (hba.mono hw0)) (HV.o.below (hb.trans (hba.mono hw0))) (HH.o.below (hb.trans (hba.mono hw0))) HXS.o)).mono ?_⟩;rintro e w1 ⟨fv,B1,B2,rfl,hb1,hF,hB1,hB2,hx1,hx2,hlt2⟩;have hsz1:wr.heap.size+2<=w1.heap.size:=by have:=hb1.size;simp at this;omega
     simp only [World.size_alloc] at hB1 hB2;have HF:=Zab hF;have HX1:=Zab hx1;have HX2:=Zab hx2;have HB1:Hd (Below wr.heap.size wr w1):=hba.trans (hb1.mono hba.size);have HX6:Hd (Box w1 wr.heap.size #[.int .i64 k]):=(((Box.new wr _ _ _ rfl).on (Zac _ _)).on hb1)
     have HWl:Hd (Zpu w (k*1048577+([]:List Tie).length) (fun p q=>Zh6 Ss Os k p q ++ ZeA (([]:List Tie).map Zem) k p q) ds (fun q=>q=wr.heap.size\/q=B2) w1):=by
      have h1:=HW.o.below' HB1.o;have hg0:wr.grownBy w1 none:=⟨HB1.o.os,HB1.o.tape,HB1.o.output,HB1.o.size,fun q hq _=>HB1.o.block q hq⟩;obtain⟨D,ho,hg,-⟩:=HW.o.own;have hoff:Off D (fun q=>q=wr.heap.size\/q=B2):=hg.off (fun q h=>by rcases h with h | h <;> omega);have ho1:w1.ownsMap prog 153 Zcu w.heap.size (k*1048577+([]:List Tie).length) D:=(ho.kept hg0 (fun e=>by cases e)).mono (Nat.le_add_right _ _);have hg1:Grp w1 (w.heap.size+2) D (Zh6 Ss Os k):=hg.keep' hg0 (fun r e=>by cases e)
      have e:(fun p q=>Zh6 Ss Os k p q ++ ZeA (([]:List Tie).map Zem) k p q)=Zh6 Ss Os k:=by
       funext p q
       simp [ZeA]
      have hlt:∀ q,(q=wr.heap.size\/q=B2)->q < w1.heap.size:=fun q h=>by rcases h with h | h <;> omega
      unfold Hd;rw [e];exact⟨⟨D,ho1,hg1,hoff⟩,h1.below,h1.ptr,h1.mks,h1.nd,hlt⟩
     obtain⟨fa,fcap,rfl⟩:=hF.form;clear hb1 hF hx1 hx2 hba
     gi_wp2
     have hdl:∀ d ∈ ds,d < w1.heap.size:=fun d hd=>(Array.getElem?_eq_some_iff.1 (HWl.o.mks d hd).2).1
     have hos:Os.length<=1048576:=hn.1
     refine wpIn_rangeFunc_ownH rfl (by decide) (gf:=227) (lb:=#[.pointer (some ⟨B1,0,none⟩),.pointer (some ⟨B2,0,none⟩)]) rfl trivial (enters_of func227 (by kernel_rfl) rfl)
      (ZgO lo x.kind _ x.fields Os[k].kd Os[k].nm Os[k].tm _ _ Os[k].en Os[k].ver Os[k].vs w1 _ (by decide) (fun q=>w.heap.size<=q/\q≠B2) w _ _ HWl.o.below HF.o HV.o HXL.o HN.o (fun q hq h=>by omega) (fun h=>h.2 rfl) HX1.o HX2.o)
      Zay.trans Zay.put Zb_ (fun _=>rfl)
      (fun pre W=>Zpu w (k*1048577+pre.length) (fun p q=>Zh6 Ss Os k p q ++ ZeA (pre.map Zem) k p q) ds (fun q=>q=wr.heap.size\/q=B2) W/\Box W wr.heap.size #[.int .i64 k])
      (fun _ _ _=>False)
      (fun s A B row hs hg hr=>⟨hs.1.grow hg (fun r e=>⟨by have:=(hr r e).1;omega,fun hd=>by have:=(hr r e).1;have:=hdl r hd;omega,(hr r e).2⟩),hs.2.of_block (hg.block _ hs.2.lt (fun e=>by have:=(hr _ e.symm).1;omega))⟩)
      (fun _ _ _ _ _ hs _ _=>hs)
      ⟨HWl.o,HX6.o⟩
      (fun y a' W=>∃ β:Nat,a'={ tmps:=#[.slice a Ss.length cap,.slice (some ⟨b,off,none⟩) Os.length ocap,undef,undef,.map none,.pointer (some ⟨w.heap.size+1,0,none⟩),.pointer (some ⟨wr.heap.size,0,none⟩),.pointer (some ⟨wr.heap.size+1,0,none⟩),.pointer (some ⟨β,0,none⟩),.map (some w.heap.size),.slice (some ⟨b,off,none⟩) Os.length ocap,.int .i64 Os.length,.int .i64 k,.bool true,.int .i64 k,.pointer (some ⟨b,off+k*7,none⟩),.agg #[.string Os[k].kd,.string Os[k].nm,.string Os[k].tm,.slice va Os[k].vs.length vcap,.bool Os[k].en,.slice ha Os[k].hs.length hcap,.int .i64 Os[k].ver],.slice a Ss.length cap,.agg #[.string Os[k].kd,.string Os[k].nm,.string Os[k].tm,.slice va Os[k].vs.length vcap,.bool Os[k].en,.slice ha Os[k].hs.length hcap,.int .i64 Os[k].ver],.func (.func 227) #[] #[.pointer (some ⟨B1,0,none⟩),.pointer (some ⟨B2,0,none⟩)],.agg #[.int .i64 y.1,.int .i64 y.2.1,.string (Zc5 y.2.2.1),.string (Zc5 y.2.2.2)],undef,undef,undef,undef,undef,undef,undef,undef,undef,undef,undef,undef,u33,undef],defers:=[] }/\
        W.cell? ⟨β,1,none⟩=some (.int .i64 y.2.1)/\W.cell? ⟨β,2,none⟩=some (.string (Zc5 y.2.2.1))/\W.cell? ⟨β,3,none⟩=some (.string (Zc5 y.2.2.2)))
      (fun y a' s A B row hs hg hr=>by
        obtain⟨β,e1,e2,e3,e4⟩:=hs;exact⟨β,e1,cell_kept e2 hg (fun r e=>(hr r e).2),cell_kept e3 hg (fun r e=>(hr r e).2),cell_kept e4 hg (fun r e=>(hr r e).2)⟩) ?assign ?body ?done ?stop
     case assign=>
      intro l pre y W K hI hK;have HI:=Zab hI;have HK:=Zab hK;clear hI hK
      gi_wp2
      refine HK.o _ _ ((KeepsOthers.alloc _ _).from _) (Zay.grow (World.grownBy_alloc _ _ none)) ⟨HI.o.1.grow (World.grownBy_alloc _ _ none) (fun r e=>by cases e),HI.o.2.on (Zac _ _)⟩ ⟨W.heap.size,rfl,ZaJ _ _ _ _ 1 rfl,ZaJ _ _ _ _ 2 rfl,ZaJ _ _ _ _ 3 rfl⟩
     case body=>
      rintro l pre y a' W hll hrec ⟨hWe,hX⟩ ⟨β,rfl,hc1,hc2,hc3⟩ hlen;have HWe:=Zab hWe;have HX:=Zab hX;clear hWe hX hrec;have hpre:pre.length < 1048576:=by have:=HN.o;omega
      by_cases h3:y.2.1=3
      case neg=>
       have hb3:(y.2.1 == 3)=false:=by rw [beq_eq_false_iff_ne];exact h3
       gi_wp2
       refine⟨KeepsFrom.refl _ _,Zay.refl _ _ _,?_,HX.o⟩;obtain⟨D,ho,hg,hf⟩:=HWe.o.own
       have e:(fun p q=>Zh6 Ss Os k p q ++ ZeA ((pre ++ [y]).map Zem) k p q)=fun p q=>Zh6 Ss Os k p q ++ ZeA (pre.map Zem) k p q:=by
        funext p q
        rw [List.map_append,List.map_cons,List.map_nil,ZgG,if_neg (fun h:ZgN 3 p q (Zem y)=true=>h3 ((ZmH _ _ _).1 h).1),List.append_nil]
       rw [e];exact⟨⟨D,ho.mono (by simp),hg,hf⟩,HWe.o.below,HWe.o.ptr,HWe.o.mks,HWe.o.nd,HWe.o.lt⟩
      . obtain⟨D,ho,hg,hf⟩:=HWe.o.own
        have hz:=HWe.o.below.size
        have hlen1:(Zh6 Ss Os k (Zc5 y.2.2.1) (Zc5 y.2.2.2) ++ ZeA (pre.map Zem) k (Zc5 y.2.2.1) (Zc5 y.2.2.2)).length<=1099511627776:=by
         rw [List.length_append]
         have h1:=Zm7 (Ss:=Ss) (Os:=Os) (m:=1048576) (fun o ho=>by
          obtain⟨i,hi,rfl⟩:=List.getElem_of_mem ho;obtain⟨z,hz,hzl⟩:=HSP.o i hi;unfold ZcC;rw [hz];have h1:=Zgh z.fields Os[i].vs z.fields.length;have h2:=(hn.2 i hi).1;dsimp only
          omega) (Zc5 y.2.2.1) (Zc5 y.2.2.2) k
         have h2:=Zle (pre.map Zem) k (Zc5 y.2.2.1) (Zc5 y.2.2.2);rw [List.length_map] at h2;have h3:k*1048576<=1048576*1048576:=Nat.mul_le_mul_right _ (by omega)
         omega
        obtain⟨v0,st,q1,v1,q2,q3,D',hent,happ,hst,ho3,hg3,hf3,e1,e2,e3,e4,hkeep⟩:=Zok (P:=prog) (K:=153) (T:=150) (S:=35) Zi4 Zc1 underlying150 underlying35 (fun u=>by rfl) i0 HI3.o.1 HI3.o.2.1 HI3.o.2.2.1 HI3.o.2.2.2
         ho hg hf HWe.o.lt (by omega) (by have:=HWe.o.ptr.lt;omega) (by unfold maxLen;omega) (ZcW y.2.2.1) (ZcW y.2.2.2) k hlen1
         (G':=fun p q=>Zh6 Ss Os k p q ++ ZeA ((pre ++ [y]).map Zem) k p q)
         (by rw [List.map_append,List.map_cons,List.map_nil,ZgG,if_pos ((ZmH (Zem y) (Zc5 y.2.2.1) (Zc5 y.2.2.2)).2 ⟨h3,rfl,rfl⟩),List.append_assoc])
         (fun p q hne=>by rw [List.map_append,List.map_cons,List.map_nil,ZgG,if_neg (fun h:ZgN 3 p q (Zem y)=true=>hne ((ZmH _ _ _).1 h).2),List.append_nil])
        have HO3:=Zab ho3;have HG3:=Zab hg3;have HF3:=Zab hf3;have HKP:=Zab hkeep;clear ho hg hf hlen1 ho3 hg3 hf3 hkeep;have p0:=HWe.o.ptr.cell 0;have x6:=HX.o.cell 0;simp at p0 x6;have hb3:(y.2.1 == 3)=true:=by rw [h3];rfl
        simp only [goInt] at hent hst
        gi_wp2_with (gi_at_builtin;refine ZfO rfl (.tmp 27) (.tmp 29) 35 rfl v0 _ rfl rfl happ ?_)
        have hzw:w.heap.size+1 < W.heap.size:=HWe.o.ptr.lt
        have hsame:∀ q,q < W.heap.size->q≠w.heap.size->(q < w.heap.size+2\/q=wr.heap.size\/q=B2)->q3.heap[q]?=W.heap[q]?:=fun q h1 h2 h3=>by
         have ho:W.heap[q]?=some (W.heap[q]'h1):=Array.getElem?_eq_getElem h1;rw [HKP.o q _ ho h2 (h3.imp id Or.inl)];exact ho.symm
        refine⟨⟨e4,fun q o hq ho hc=>HKP.o q o ho (by omega) (Or.inr (Or.inr hc))⟩,⟨e1,e2,e3,e4,fun q o ho hS hc=>?_⟩,⟨⟨D',?_,HG3.o,HF3.o⟩,?_,?_,fun d hd=>?_,HWe.o.nd,fun q hq=>Zk_ (HWe.o.lt q hq) e4⟩,?_⟩
        . have hlt:q < W.heap.size:=(Array.getElem?_eq_some_iff.1 ho).1
          have h':q < w.heap.size\/q=B2:=by
           by_cases h:w.heap.size<=q
           . exact Or.inr (Classical.byContradiction fun h2=>hS ⟨h,h2⟩)
           . exact Or.inl (by omega)
          rw [hsame q hlt (by rcases h' with h' | h' <;> omega) (h'.imp (fun h=>by omega) Or.inr)];exact ho
        . refine HO3.o.mono ?_
          simp
          omega
        . exact HWe.o.below.trans ⟨e1,e2,e3,e4,fun q hq=>hsame q (by omega) (by omega) (Or.inl (by omega))⟩
        . exact HWe.o.ptr.of_block (hsame _ (by omega) (by omega) (Or.inl (by omega)))
        . obtain⟨h1,h2⟩:=HWe.o.mks d hd
          exact⟨h1,HKP.o d _ h2 (by omega) (Or.inr (Or.inr rfl))⟩
        . exact HX.o.of_block (hsame _ HX.o.lt (by have:=HW.o.ptr.lt;omega) (Or.inr (Or.inl rfl)))
     case done=>
      rintro Dd ys W hD rfl ⟨hWe,hX⟩ hK;have HWe:=Zab hWe;clear hWe hX
      gi_wp2
      refine⟨⟨k+1,Dd :: ds,_,_,_,_,_,_,_,_,_,_,⟨by omega,?_⟩,rfl⟩,?_⟩
      . have e:(fun p q=>Zh6 Ss Os k p q ++ ZeA ((Zdu x.fields Os[k].vs x.fields.length).map Zem) k p q)=Zh6 Ss Os (k+1):=by
         funext p q
         rw [ZqL hlt];unfold ZcC;rw [HXS.o];have hm:(Zdu x.fields Os[k].vs x.fields.length).map Zem=Zdu x.fields Os[k].vs x.fields.length:=(List.map_congr_left (g:=id) fun t ht=>Zen HF.o HV.o _ t ht).trans (List.map_id _);rw [hm]
        have hpt:=HWl.o.ptr.lt;obtain⟨D,ho,hg,-⟩:=HWe.o.own;rw [e] at hg;have hl:=Zgh x.fields Os[k].vs x.fields.length;have hxn:=HN.o;refine⟨⟨D,ho.mono ?_,hg,hg.off (fun q h=>h.elim)⟩,HWe.o.below,HWe.o.ptr,fun d hd=>?_,List.nodup_cons.2 ⟨fun hd=>by have:=hdl Dd hd;omega,HWe.o.nd⟩,fun q h=>h.elim⟩
        . rw [Nat.succ_mul];omega
        . rcases List.mem_cons.1 hd with rfl | hd
          . exact⟨by omega,hK⟩
          . exact HWe.o.mks d hd
      . simp [intOf];omega
     case stop=>
      rintro D c pre W _ _ h _;exact h.elim
   . have he:k=Os.length:=by omega
     subst he;have p0:=HW.o.ptr.cell 0;simp at p0
     gi_wp2
     refine Zef (w.heap.size+2) ds wr HW.o.nd HW.o.mks (fun W' hb hc=>⟨_,results_tmp rfl _ _ _,rfl,HW.o.below.trans (hb.mono (by omega)),?_⟩);obtain⟨D,ho,hg,-⟩:=HW.o.own;exact⟨D,ZcA ho (hb.block _ (by omega)),hg.cells hc⟩
end
end
open Go.RowKit Go.Deep
def Zkq (Ss:List Sh) (Ms:List Md) (Ts:List Tm):Bool:=Zax Ss Ms&&Zbs Ts
section
variable (lo:Nat) (sv mv tv:Value) (Ss:List Sh) (Ms:List Md) (Ts:List Tm) (w:World)
theorem Zkh (h:ZbH lo w sv mv tv Ss Ms Ts) :
 Calls prog 81 #[.agg #[sv,mv,tv]] w fun e w'=>e=.returned (.bool (Zkq Ss Ms Ts))/\Zw_ w w':=by
 have HL:=Zab h;obtain⟨a,cap,rfl⟩:=h.shs.form;obtain⟨a1,cap1,rfl⟩:=h.mds.form;obtain⟨a2,cap2,rfl⟩:=h.tms.form;clear h;go_enter func81,ntmps81;go_wp2_with fail;generalize hWa:w.alloc _=Wa;have HBa:Hd (Zw_ w Wa):=by rw [<- hWa];exact Zac w _
 have FA:Hd (Box Wa w.heap.size #[.slice a Ss.length cap,.slice a1 Ms.length cap1,.slice a2 Ts.length cap2]):=by rw [<- hWa];exact Box.new _ _ _ _ rfl
 clear hWa;refine (Zki lo lo _ _ Ss Ms _ (HL.o.below HBa.o).shs (HL.o.below HBa.o).mds).mono ?_;rintro e w1 ⟨rfl,hb1⟩;have HB1:Hd (Zw_ w w1):=bt HBa.o hb1;replace FA:=Zab (FA.o.on hb1);have g2:=FA.o.cell 2;simp at g2;clear hb1 HBa
 cases hm:Zax Ss Ms with
 | false=>
  have HE:Hd (Zkq Ss Ms Ts=false):=by unfold Hd Zkq;rw [hm];rfl
  go_wp2;go_ret;exact⟨Zaa HE.o.symm,HB1.o⟩
 | true=>
  have HE:Hd (Zkq Ss Ms Ts=Zbs Ts):=by unfold Hd Zkq;rw [hm];rfl
  go_wp2_with fail;refine (Zkj lo _ Ts _ (HL.o.below HB1.o).tms).mono ?_;rintro e w2 ⟨rfl,hb2⟩;have HB2:Hd (Zw_ w w2):=bt HB1.o hb2;clear hb2;go_wp2;go_ret;exact⟨Zaa HE.o.symm,HB2.o⟩
theorem ZjS (h:ZbH lo w sv mv tv Ss Ms Ts) :
 Calls prog 141 #[.agg #[sv,mv,tv]] w fun e w'=>e=.returned (.bool (Zkq Ss Ms Ts))/\Zw_ w w':=by
 have HL:=Zab h;obtain⟨a,cap,rfl⟩:=h.shs.form;obtain⟨a1,cap1,rfl⟩:=h.mds.form;obtain⟨a2,cap2,rfl⟩:=h.tms.form;clear h;go_enter func141,ntmps141;go_wp2_with fail;generalize hWa:w.alloc _=Wa;have HBa:Hd (Zw_ w Wa):=by rw [<- hWa];exact Zac w _
 have FA:Hd (Box Wa w.heap.size #[.slice a Ss.length cap,.slice a1 Ms.length cap1,.slice a2 Ts.length cap2]):=by rw [<- hWa];exact Box.new _ _ _ _ rfl
 clear hWa;refine (ZjT lo lo _ _ Ss Ms _ (HL.o.below HBa.o).shs (HL.o.below HBa.o).mds).mono ?_;rintro e w1 ⟨rfl,hb1⟩;have HB1:Hd (Zw_ w w1):=bt HBa.o hb1;replace FA:=Zab (FA.o.on hb1);have g2:=FA.o.cell 2;simp at g2;clear hb1 HBa
 cases hm:Zax Ss Ms with
 | false=>
  have HE:Hd (Zkq Ss Ms Ts=false):=by unfold Hd Zkq;rw [hm];rfl
  go_wp2;go_ret;exact⟨Zaa HE.o.symm,HB1.o⟩
 | true=>
  have HE:Hd (Zkq Ss Ms Ts=Zbs Ts):=by unfold Hd Zkq;rw [hm];rfl
  go_wp2_with fail;refine (ZjU lo _ Ts _ (HL.o.below HB1.o).tms).mono ?_;rintro e w2 ⟨rfl,hb2⟩;have HB2:Hd (Zw_ w w2):=bt HB1.o hb2;clear hb2;go_wp2;go_ret;exact⟨Zaa HE.o.symm,HB2.o⟩
end
end Go.Proofs.YtmappejlmapboaaGreat
