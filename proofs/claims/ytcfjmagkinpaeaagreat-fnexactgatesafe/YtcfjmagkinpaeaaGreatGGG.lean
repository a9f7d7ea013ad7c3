import Derived.Test.YtcfjmagkinpaeaaGreatGG3c
import Derived.Test.YtcfjmagkinpaeaaGreatGM5R
import Derived.RangeFuncWrites
import Derived.Maps.OwnIn
import Derived.Test.YtcfjmagkinpaeaaGreatGTB
set_option maxHeartbeats 16000000
set_option maxRecDepth 100000
open Go.Proofs.Tryz
namespace Go.Proofs.YtcfjmagkinpaeaaGreat
open Go.RowKit Go.Deep Go.Shelf Go.Maps
attribute [local go_sem] Oper.semAt_some
def Zn3 (ds:List Nat):List Deferred:=ds.map fun d=>{ target:=.collected d,args:=#[] }
theorem Znc {B:Nat} (W:World) {d:Nat} (o:Obj) (hd:B≤d) (hlt:d < W.heap.size):Below B W (W.putObj d o):=by
 have g:=grownBy_putObj' W d o;exact⟨g.os,g.tape,g.output,g.size,fun k hk=>g.block k (by omega) (fun e=>by have:=Option.some.inj e;omega)⟩
theorem ZfP {F:Fence} {n:Nat} {P:Program} {fn:Func} {tmps:Array Value} {R:Ending→World→Prop} (B:Nat):∀ (ds:List Nat) (W:World),ds.Nodup→(∀ d ∈ ds,B≤d∧W.heap[d]?=some (.deferred (some [])))→
 (∀ W',Below B W W'→LeavesIn F n P fn tmps R [] .returning W')→LeavesInM F n P fn tmps R (Zn3 ds) .returning W
 | [],W,_,_,h=>h W Zb_
 | d :: ds,W,hn,hd,h=>by
  obtain⟨h1,h2⟩:=hd d (List.mem_cons_self ..);obtain⟨n1,n2⟩:=List.nodup_cons.1 hn;have hb:=Znc W (.deferred none) h1 (Array.getElem?_eq_some_iff.1 h2).1;refine⟨by simp,.inl ⟨d,_,rfl,run_takeDeferred h2,ZfP B ds _ n2 (fun e he=>?_) (fun W' hW'=>h W' (hb.trans hW'))⟩⟩;obtain⟨g1,g2⟩:=hd e (List.mem_cons_of_mem _ he);have hne:e≠d:=fun e'=>n1 (e' ▸ he)
  exact⟨g1,((grownBy_putObj' W d _).block e (Array.getElem?_eq_some_iff.1 g2).1 (fun e'=>hne (Option.some.inj e'))).trans g2⟩
theorem Box.of_block {w w':World} {β:Nat} {cs:Array Value} (h:Box w β cs) (e:w'.heap[β]?=w.heap[β]?):Box w' β cs:=
 ⟨by have:=h.lt;rw [Array.getElem?_eq_getElem this] at e;exact (Array.getElem?_eq_some_iff.1 e).1,fun i=>(World.cell?_of_block (a:=⟨β,i,none⟩) e).trans (h.cell i),fun i=>(World.frozen?_of_block (a:=⟨β,i,none⟩) e).trans (h.free i)⟩
structure Zpu (w:World) (T:List Tri) (ds:List Nat) (wr:World):Prop where
 own:∃ D:DataW Unit,wr.ownsMap prog 230 (plainElem prog 3) w.heap.size T.length D∧Ze8 T D
 below:Zw_ w wr
 ptr:Box wr (w.heap.size+1) #[.map (some w.heap.size)]
 mks:∀ d ∈ ds,w.heap.size+2≤d∧wr.heap[d]?=some (.deferred (some []))
 nd:ds.Nodup
theorem Zpu.grow {w:World} {T:List Tri} {ds:List Nat} {wr wr':World} {row:Option Nat} (h:Zpu w T ds wr) (hg:wr.grownBy wr' row) (hr:∀ r,row=some r→w.heap.size+1 < r∧r ∉ ds):Zpu w T ds wr':=by
 obtain⟨D,ho,hs⟩:=h.own;have hz:=h.below.size;refine⟨⟨D,ho.kept hg (fun e=>by have:=(hr _ e.symm).1;omega),hs⟩,?_,?_,fun d hd=>?_,h.nd⟩
 · exact h.below.trans ⟨hg.os,hg.tape,hg.output,hg.size,fun k hk=>hg.block k (by omega) (fun e=>by have:=(hr _ e.symm).1;omega)⟩
 · exact h.ptr.of_block (hg.block _ h.ptr.lt (fun e=>by have:=(hr _ e.symm).1;omega))
 · obtain⟨h1,h2⟩:=h.mks d hd
   exact⟨h1,(hg.block d (Array.getElem?_eq_some_iff.1 h2).1 (fun e=>(hr _ e.symm).2 hd)).trans h2⟩
theorem Zpu.add {w:World} {A:List Tri} {α:Type} {pre:List α} {f:α→Tri} {x:α} {ds:List Nat} {wr wr':World} {D:DataW Unit} (h:Zpu w (A ++ pre.map f) ds wr) (hg:wr.grownBy wr' (some w.heap.size))
 (ho:wr'.ownsMap prog 230 (plainElem prog 3) w.heap.size ((A ++ pre.map f).length+1) D) (hs:Ze8 (A ++ pre.map f ++ [f x]) D):Zpu w (A ++ (pre ++ [x]).map f) ds wr':=by
 have e:A ++ (pre ++ [x]).map f=A ++ pre.map f ++ [f x]:=by simp
 have hz:=h.below.size;rw [e];refine⟨⟨D,by rw [show (A ++ pre.map f ++ [f x]).length=(A ++ pre.map f).length+1 by simp [Nat.add_assoc]];exact ho,hs⟩,?_,?_,fun d hd=>?_,h.nd⟩
 · exact h.below.trans ⟨hg.os,hg.tape,hg.output,hg.size,fun k hk=>hg.block k (by omega) (fun e=>by have:=Option.some.inj e;omega)⟩
 · exact h.ptr.of_block (hg.block _ h.ptr.lt (fun e=>by have:=Option.some.inj e;omega))
 · obtain⟨h1,h2⟩:=h.mks d hd
   exact⟨h1,(hg.block d (Array.getElem?_eq_some_iff.1 h2).1 (fun e=>by have:=Option.some.inj e;omega)).trans h2⟩
theorem ZhW {Fs:List Fd} {V:List Zy_}:∀ {k:Nat} {p:Zy_×Int},p ∈ Za1 Fs V k→∃ f ∈ Fs,p.1=f.we
 | 0,p,h=>by simp [Za1] at h
 | k+1,p,h=>by
  rw [Za1] at h
  rcases List.mem_append.1 h with h | h
  · exact ZhW h
  · split at h
    · rename_i f s hf _
      split at h
      · simp at h
        subst h;exact⟨f,List.mem_of_getElem? hf,rfl⟩
      · simp at h
    · simp at h
theorem ZhV {lo:Nat} {w:World} {sv:Value} {Ss:List Sh} (hS:ZaU lo w sv Ss) {kind:Zy_} {V:List Zy_} (sk:kind.size≤maxLen) (p:Zy_×Int) (hp:p ∈ Zem Ss kind V):p.1.size≤maxLen:=by
 unfold Zem at hp
 split at hp
 · rename_i x hx
   split at hp
   · rcases List.mem_append.1 hp with h | h
     · unfold Zds at h
       split at h
       · simp at h
       · simp at h
         subst h;exact sk
     · obtain⟨f,hf,e⟩:=ZhW h
       obtain⟨i,hi,rfl⟩:=List.getElem_of_mem (List.mem_of_find?_eq_some hx);obtain⟨j,hj,rfl⟩:=List.getElem_of_mem hf
       rcases hS with ⟨_,_,_,rfl⟩ | ⟨b,off,cap,h1,h2,h3,h4,h5,h7⟩
       · simp at hi
       · obtain⟨hs,fv,c0,c1,hF⟩:=h7 i hi
         rcases hF with ⟨_,_,_,e0⟩ | ⟨b',off',cap',g1,g2,g3,g4,g5,g7⟩
         · simp [e0] at hj
         · rw [e]
           exact (g7.2 j hj).1.s10
   · simp at hp
 · simp at hp
section
variable (lo:Nat) (sv ov:Value) (Ss:List Sh) (Os:List Ob) (w:World)
theorem ZkQ (hS:ZaU lo w sv Ss) (hO:ZbC lo w ov Os) (hn:ZcO Os) :
 Calls prog 146 #[sv,ov] w
  fun e w'=>e=.returned (.map (some w.heap.size))∧Zw_ w w'∧∃ D:DataW Unit,w'.ownsMap prog 230 (plainElem prog 3) w.heap.size (Zcl Ss Os).length D∧Ze8 (Zcl Ss Os) D:=by
 have HS:=Zab hS;have HO:=Zab hO;obtain⟨a,cap,rfl⟩:=hS.form;obtain⟨oa,ocap,rfl⟩:=hO.form;have hm:=HO.out.max;unfold maxLen at hm;clear hS hO;refine (callsIn_wide (n:=5)).1 ?_;refine callsIn_of_wp_marks func146 rfl trivial ?_ rfl;simp only [ntmps146,List.size_toArray,List.length_cons,List.length_nil,Nat.reduceAdd,Nat.reduceSub,Array.replicate_succ,Array.replicate_zero,List.push_toArray,List.append_toArray,List.nil_append,List.cons_append];have hmm:=@run_makeMap prog
 gi_wp2
 clear hmm
 refine wpIn_loop (fun a' wr=>∃ (k:Nat) (ds:List Nat) (u7 u14 u15 u16 u17 u18 u19 u32:Value),
  (k≤Os.length∧Zpu w (Zcl Ss (Os.take k)) ds wr)∧
  a'={ tmps:=#[.slice a Ss.length cap,.slice oa Os.length ocap,undef,undef,.map none,.pointer (some ⟨w.heap.size+1,0,none⟩),undef,u7,undef,undef,.map (some w.heap.size),.slice oa Os.length ocap,.int .i64 Os.length,.int .i64 k,u14,u15,u16,u17,u18,u19,undef,undef,undef,undef,undef,undef,undef,undef,undef,undef,undef,undef,u32,undef],defers:=Zn3 ds })
  (fun a' _=>Os.length - (intOf (a'.tmps.getD 13 undef)).toNat) ?_ ?_
 · refine⟨0,[],undef,undef,undef,undef,undef,undef,undef,undef,⟨Nat.zero_le _,?_⟩,rfl⟩
   refine⟨⟨.map [],?_,Ze8.start⟩,?_,?_,fun d hd=>absurd hd List.not_mem_nil,List.nodup_nil⟩
   · exact (World.ownsMap_made _ _ _ _).alloc _
   · exact (Zac _ _).trans ((Zac _ _).mono (by simp))
   · exact Box.new _ _ _ _ (by simp)
 · rintro _ wr ⟨k,ds,u7,u14,u15,u16,u17,u18,u19,u32,⟨hk,hW⟩,rfl⟩
   have HW:=Zab hW;clear hW
   by_cases hlt:k < Os.length
   · have hb:=HW.out.below
     have hw0:=hb.size;obtain⟨b,off,rfl,hbw,-,hc⟩:=HO.out.full' (by omega);obtain⟨hs,vv0,vv1,hcell,hv0,hv1⟩:=hc k hlt;obtain⟨c0,c1,c2,c3,c4,c5,c6⟩:=hcell.below hb hbw;have HV:=Zab hv0.at;obtain⟨va,vcap,rfl⟩:=hv0.at.form';obtain⟨ha,hcap,rfl⟩:=hv1.at.form';have HZ:=Zab hs;have HN:Hid (Os[k].vs.length≤1048576):=(hn.2 k hlt).1;clear hc hcell hv0 hv1 hs hb
     gi_wp2_with fail
     refine⟨trivial,(ZmQ Os[k].kd Os[k].nm Os[k].tm Os[k].en Os[k].ver _ Fence.wide _ trivial rfl a Ss.length cap va Os[k].vs.length vcap ha Os[k].hs.length hcap).mono ?_⟩;rintro e w1 ⟨rfl,hw1⟩
     obtain⟨wl,hwl,HX7,HX1,HX2,HWl,hsz⟩:∃ wl,wl=w1∧Hid (Box wl wr.heap.size #[.string Os[k].kd,.string Os[k].nm,.string Os[k].tm,.slice va Os[k].vs.length vcap,.bool Os[k].en,.slice ha Os[k].hs.length hcap,.int .i64 Os[k].ver])∧Hid (Box wl (wr.heap.size+1) #[.slice a Ss.length cap])∧Hid (Box wl (wr.heap.size+1+1) #[.string Os[k].kd,.string Os[k].nm,.string Os[k].tm,.slice va Os[k].vs.length vcap,.bool Os[k].en,.slice ha Os[k].hs.length hcap,.int .i64 Os[k].ver])∧Hid (Zpu w (Zcl Ss (Os.take k)) ds wl)∧wl.heap.size=wr.heap.size+3:=by
      refine⟨_,rfl,?_,?_,?_,?_,?_⟩
      · rw [hw1];exact ((Box.new _ _ _ _ rfl).on (Zac _ _)).on (Zac _ _)
      · rw [hw1];exact (Box.new _ _ _ _ (by simp)).on (Zac _ _)
      · rw [hw1];exact Box.new _ _ _ _ (by simp)
      · rw [hw1];exact ((HW.out.grow (World.grownBy_alloc _ _ none) (fun r e=>by cases e)).grow (World.grownBy_alloc _ _ none) (fun r e=>by cases e)).grow (World.grownBy_alloc _ _ none) (fun r e=>by cases e)
      · rw [hw1];simp
     subst hwl;clear hw1
     gi_wp2
     have hdl:∀ d ∈ ds,d < wl.heap.size:=fun d hd=>(Array.getElem?_eq_some_iff.1 (HWl.out.mks d hd).2).1
     have hlen:(Zcl Ss (Os.take k)).length≤1048576*1048577:=by
      have:=ZjW Ss (Os.take k) (fun o ho=>by
       obtain⟨i,hi,rfl⟩:=List.getElem_of_mem (List.mem_of_mem_take ho);exact (hn.2 i hi).1)
      have h1:=hn.1;have h2:=List.length_take_le k Os;exact Nat.le_trans this (Nat.mul_le_mul_right _ (by omega))
     refine wpIn_rangeFunc_ownG rfl (by decide) (gf:=229) (lb:=#[.pointer (some ⟨wr.heap.size+1,0,none⟩),.pointer (some ⟨wr.heap.size+1+1,0,none⟩)]) rfl trivial (enters_of func229 (by kernel_rfl) rfl)
      (Zhn lo _ Ss Os[k].kd Os[k].nm Os[k].tm _ _ Os[k].en Os[k].ver Os[k].vs wl _ HZ.out.s0 (by decide) (fun k=>k=w.heap.size) w _ _ HWl.out.below HS.out HV.out HN.out (fun k hk he=>by omega) (by omega) (fun k hk he=>by omega) HX1.out HX2.out)
      ZaT.trans ZaT.put Zb_ (fun _=>rfl)
      (fun pre W=>Zpu w (Zcl Ss (Os.take k) ++ pre.map fun p=>(Os[k].tm,Zha p.1,p.2)) ds W∧Box W wr.heap.size #[.string Os[k].kd,.string Os[k].nm,.string Os[k].tm,.slice va Os[k].vs.length vcap,.bool Os[k].en,.slice ha Os[k].hs.length hcap,.int .i64 Os[k].ver])
      (fun _ _ _=>False)
      (fun s A B row hs hg hr=>⟨hs.1.grow hg (fun r e=>⟨by have:=(hr r e).1;omega,fun hd=>by have:=(hr r e).1;have:=hdl r hd;omega⟩),hs.2.of_block (hg.block _ hs.2.lt (fun e=>by have:=(hr _ e.symm).1;omega))⟩)
      (fun _ _ _ _ _ hs _ _=>hs)
      ⟨by simpa using HWl.out,HX7.out⟩
      (fun x=>{ tmps:=#[.slice a Ss.length cap,.slice (some ⟨b,off,none⟩) Os.length ocap,undef,undef,.map none,.pointer (some ⟨w.heap.size+1,0,none⟩),undef,.pointer (some ⟨wr.heap.size,0,none⟩),.string (Zha x.1),.int .i64 x.2,.map (some w.heap.size),.slice (some ⟨b,off,none⟩) Os.length ocap,.int .i64 Os.length,.int .i64 k,.bool true,.pointer (some ⟨b,off+k*7,none⟩),.agg #[.string Os[k].kd,.string Os[k].nm,.string Os[k].tm,.slice va Os[k].vs.length vcap,.bool Os[k].en,.slice ha Os[k].hs.length hcap,.int .i64 Os[k].ver],.slice a Ss.length cap,.agg #[.string Os[k].kd,.string Os[k].nm,.string Os[k].tm,.slice va Os[k].vs.length vcap,.bool Os[k].en,.slice ha Os[k].hs.length hcap,.int .i64 Os[k].ver],.func (.func 229) #[] #[.pointer (some ⟨wr.heap.size+1,0,none⟩),.pointer (some ⟨wr.heap.size+1+1,0,none⟩)],.string (Zha x.1),.int .i64 x.2,undef,undef,undef,undef,undef,undef,undef,undef,undef,undef,u32,undef],defers:=[] }) ?assign ?body ?done ?stop
     case assign=>
      intro l x W K hK
      gi_wp2
      exact hK
     case body=>
      rintro l pre x W ⟨hWe,hX⟩ hpl;have HWe:=Zab hWe;have HX:=Zab hX;obtain⟨D,ho,hsum⟩:=hWe.own;have hpl':pre.length≤1048577:=by have:=HN.out;omega
      obtain⟨c,v0,st,w1,hent,hat,hwc,hl0,hl1,hg1,hs1,hst⟩:=Zi2 ZkX underlying225 underlying3 Zia ho.drew (by unfold maxLen;simp;omega) (Zgi.mk' HZ.out.s2 (Zfv x.1));have ew:IntKind.i64.wrap (c+x.2)=wrap64 (c+x.2):=IntWalk.i64_left _;obtain⟨w2,hrun2,ho2,hg2,hs2⟩:=hst (IntKind.i64.wrap (c+x.2)) (by rw [ew];exact wrap64_wf _);rw [ew] at ho2;have HO2:=Zab ho2;have HG2:=Zab hg2;have HAT:=Zab hat;have HSUM:=Zab hsum;clear ew hst ho2 hg2 hg1 hat hsum ho;have p0:=hWe.ptr.cell 0;have x2:=hX.cell 2;simp at p0 x2;simp only [goInt] at hent hrun2;clear hWe hX;refine wpIn_mono (Q:=fun e _ W'=>e=.normal∧W'=w2) ?_ ?_
      · clear HWe HX HO2 HG2 HAT HSUM HS HV HN HZ HX1 HX2 HX7 HWl HW hs1 hs2 hpl hpl' hdl hlen hm hk hn c0 c1 c2 c3 c4 c5 c6 hsz hw0 hwc
        gi_wp2
        generalize Os[k].tm=T at*;generalize Zha x.1=R at*;generalize x.2=N at*;refine Zjx (by kernel_rfl) (by kernel_rfl) ?_;refine wpAnyIn_take (i:=1) (v:=?v1) rfl rfl (by kernel_rfl) (by kernel_rfl) (by kernel_rfl) (fun _ _ _ h=>h) ⟨Or.inl ⟨by rfl,?hy1⟩,fun _=>rfl⟩ ?rest1
        case hy1=>(intro w;go_simp;try with_reducible rfl)
        refine wpAnyIn_take (i:=3) (v:=?v2) rfl rfl (by kernel_rfl) (by kernel_rfl) (by kernel_rfl) (fun _ _ _ h=>h) ⟨Or.inl ⟨by rfl,?hy2⟩,fun _=>rfl⟩ ?rest2
        case hy2=>(intro w;go_simp;try with_reducible rfl)
        refine wpAnyIn_take (i:=6) (v:=?v3) rfl rfl (by kernel_rfl) (by kernel_rfl) (by kernel_rfl) (fun _ _ _ h=>h) ⟨Or.inl ⟨by rfl,?hy3⟩,fun _=>rfl⟩ ?rest3
        case hy3=>(intro w;go_simp;try with_reducible rfl)
        refine wpAnyIn_ready (rs:=[0,2]) (by kernel_rfl) (by simp) ?_;refine AllReadyIn.cons rfl (fun K hK=>?_) (AllReadyIn.cons rfl (fun K hK=>?_) AllReadyIn.nil)
        · go_simp
          refine hK _ _ ?_;clear hK K;refine wpAnyIn_ready (rs:=[2]) (by kernel_rfl) (by simp) ?_;refine AllReadyIn.cons rfl (fun K hK=>?_) AllReadyIn.nil
          go_simp
          refine hK _ _ ?_;clear hK K;refine wpAnyIn_take (i:=4) (v:=?v4) rfl rfl (by kernel_rfl) (by kernel_rfl) (by kernel_rfl) (fun _ _ _ h=>h) ⟨Or.inl ⟨by rfl,?hy4⟩,fun _=>rfl⟩ ?rest4
          case hy4=>(intro w;go_simp;try with_reducible rfl)
          refine wpAnyIn_ready (rs:=[5,8]) (by kernel_rfl) (by simp) ?_;refine AllReadyIn.cons rfl (fun K hK=>?_) (AllReadyIn.cons rfl (fun K hK=>?_) AllReadyIn.nil)
          · go_simp
            refine hK _ _ ?_;clear hK K;refine wpAnyIn_take (i:=7) (v:=?v5) rfl rfl (by kernel_rfl) (by kernel_rfl) (by kernel_rfl) (fun _ _ _ h=>h) ⟨Or.inl ⟨by rfl,?hy5⟩,fun _=>rfl⟩ ?rest5
            case hy5=>(intro w;go_simp;try with_reducible rfl)
            refine wpAnyIn_ready (rs:=[8]) (by kernel_rfl) (by simp) ?_;refine AllReadyIn.cons rfl (fun K hK=>?_) AllReadyIn.nil
            go_simp
            refine hK _ _ ?_;clear hK K;refine wpAnyIn_take (i:=9) (v:=?v6) rfl rfl (by kernel_rfl) (by kernel_rfl) (by kernel_rfl) (fun _ _ _ h=>h) ⟨Or.inl ⟨by rfl,?hy6⟩,fun _=>rfl⟩ ?rest6
            case hy6=>(intro w;go_simp;try with_reducible rfl)
            refine wpAnyIn_ready (rs:=[10]) (by kernel_rfl) (by simp) ?_;refine AllReadyIn.cons rfl (fun K hK=>?_) AllReadyIn.nil
            go_simp
            refine hK _ _ ?_;clear hK K;refine wpAnyIn_done (by kernel_rfl) ?_ _;exact⟨rfl,rfl⟩
          · go_simp
            refine hK _ _ ?_;clear hK K;refine wpAnyIn_take (i:=9) (v:=?v7) rfl rfl (by kernel_rfl) (by kernel_rfl) (by kernel_rfl) (fun _ _ _ h=>h) ⟨Or.inl ⟨by rfl,?hy7⟩,fun _=>rfl⟩ ?rest7
            case hy7=>(intro w;go_simp;try with_reducible rfl)
            refine wpAnyIn_ready (rs:=[5]) (by kernel_rfl) (by simp) ?_;refine AllReadyIn.cons rfl (fun K hK=>?_) AllReadyIn.nil
            go_simp
            refine hK _ _ ?_;clear hK K;refine wpAnyIn_take (i:=7) (v:=?v8) rfl rfl (by kernel_rfl) (by kernel_rfl) (by kernel_rfl) (fun _ _ _ h=>h) ⟨Or.inl ⟨by rfl,?hy8⟩,fun _=>rfl⟩ ?rest8
            case hy8=>(intro w;go_simp;try with_reducible rfl)
            refine wpAnyIn_ready (rs:=[10]) (by kernel_rfl) (by simp) ?_;refine AllReadyIn.cons rfl (fun K hK=>?_) AllReadyIn.nil
            go_simp
            refine hK _ _ ?_;clear hK K;refine wpAnyIn_done (by kernel_rfl) ?_ _;exact⟨rfl,rfl⟩
        · go_simp
          refine hK _ _ ?_;clear hK K;refine wpAnyIn_take (i:=4) (v:=?v9) rfl rfl (by kernel_rfl) (by kernel_rfl) (by kernel_rfl) (fun _ _ _ h=>h) ⟨Or.inl ⟨by rfl,?hy9⟩,fun _=>rfl⟩ ?rest9
          case hy9=>(intro w;go_simp;try with_reducible rfl)
          refine wpAnyIn_ready (rs:=[0]) (by kernel_rfl) (by simp) ?_;refine AllReadyIn.cons rfl (fun K hK=>?_) AllReadyIn.nil
          go_simp
          refine hK _ _ ?_;clear hK K;refine wpAnyIn_ready (rs:=[5,8]) (by kernel_rfl) (by simp) ?_;refine AllReadyIn.cons rfl (fun K hK=>?_) (AllReadyIn.cons rfl (fun K hK=>?_) AllReadyIn.nil)
          · go_simp
            refine hK _ _ ?_;clear hK K;refine wpAnyIn_take (i:=7) (v:=?v10) rfl rfl (by kernel_rfl) (by kernel_rfl) (by kernel_rfl) (fun _ _ _ h=>h) ⟨Or.inl ⟨by rfl,?hy10⟩,fun _=>rfl⟩ ?rest10
            case hy10=>(intro w;go_simp;try with_reducible rfl)
            refine wpAnyIn_ready (rs:=[8]) (by kernel_rfl) (by simp) ?_;refine AllReadyIn.cons rfl (fun K hK=>?_) AllReadyIn.nil
            go_simp
            refine hK _ _ ?_;clear hK K;refine wpAnyIn_take (i:=9) (v:=?v11) rfl rfl (by kernel_rfl) (by kernel_rfl) (by kernel_rfl) (fun _ _ _ h=>h) ⟨Or.inl ⟨by rfl,?hy11⟩,fun _=>rfl⟩ ?rest11
            case hy11=>(intro w;go_simp;try with_reducible rfl)
            refine wpAnyIn_ready (rs:=[10]) (by kernel_rfl) (by simp) ?_;refine AllReadyIn.cons rfl (fun K hK=>?_) AllReadyIn.nil
            go_simp
            refine hK _ _ ?_;clear hK K;refine wpAnyIn_done (by kernel_rfl) ?_ _;exact⟨rfl,rfl⟩
          · go_simp
            refine hK _ _ ?_;clear hK K;refine wpAnyIn_take (i:=9) (v:=?v12) rfl rfl (by kernel_rfl) (by kernel_rfl) (by kernel_rfl) (fun _ _ _ h=>h) ⟨Or.inl ⟨by rfl,?hy12⟩,fun _=>rfl⟩ ?rest12
            case hy12=>(intro w;go_simp;try with_reducible rfl)
            refine wpAnyIn_ready (rs:=[5]) (by kernel_rfl) (by simp) ?_;refine AllReadyIn.cons rfl (fun K hK=>?_) AllReadyIn.nil
            go_simp
            refine hK _ _ ?_;clear hK K;refine wpAnyIn_take (i:=7) (v:=?v13) rfl rfl (by kernel_rfl) (by kernel_rfl) (by kernel_rfl) (fun _ _ _ h=>h) ⟨Or.inl ⟨by rfl,?hy13⟩,fun _=>rfl⟩ ?rest13
            case hy13=>(intro w;go_simp;try with_reducible rfl)
            refine wpAnyIn_ready (rs:=[10]) (by kernel_rfl) (by simp) ?_;refine AllReadyIn.cons rfl (fun K hK=>?_) AllReadyIn.nil
            go_simp
            refine hK _ _ ?_;clear hK K;refine wpAnyIn_done (by kernel_rfl) ?_ _;exact⟨rfl,rfl⟩
      · rintro e a' W' ⟨rfl,rfl⟩
        have g:=HG2.out;have hpt:=HW.out.ptr.lt;have hg:W.grownBy W' (some w.heap.size):=⟨g.os,g.tape,g.output,g.size,g.block⟩
        exact⟨KeepsFrom.of_grownBy hg (fun j e=>by cases e;omega),⟨hg.os,hg.tape,hg.output,hg.size,fun j o hj hS _=>(hg.block j (Array.getElem?_eq_some_iff.1 hj).1 (fun e=>hS (Option.some.inj e))).trans hj⟩,
         HWe.out.add hg HO2.out (HSUM.out.step HZ.out.s2 (Zfv _) HAT.out x.2),HX.out.of_block (hg.block _ HX.out.lt (fun e=>by have:=Option.some.inj e;omega))⟩
     case done=>
      rintro D ys W hD rfl ⟨hWe,hX⟩ hK;have HWe:=Zab hWe;clear hWe hX
      gi_wp2
      refine⟨⟨k+1,D :: ds,_,_,_,_,_,_,_,_,⟨by omega,?_⟩,rfl⟩,?_⟩
      · have e:Zcl Ss (Os.take (k+1))=Zcl Ss (Os.take k) ++ (Zem Ss Os[k].kd Os[k].vs).map fun p=>(Os[k].tm,Zha p.1,p.2):=by
         rw [List.take_succ_eq_append_getElem hlt,ZmU]
         congr 1
         refine List.map_congr_left fun p hp=>?_
         rw [Zd9 (ZhV HS.out HZ.out.s0 p hp)]
        rw [e];have hpt:=HWl.out.ptr.lt
        exact⟨HWe.out.own,HWe.out.below,HWe.out.ptr,fun d hd=>by
         rcases List.mem_cons.1 hd with rfl | hd
         · exact⟨by omega,hK⟩
         · exact HWe.out.mks d hd,List.nodup_cons.2 ⟨fun hd=>by have:=hdl D hd;omega,HWe.out.nd⟩⟩
      · simp [intOf];omega
     case stop=>
      rintro D c pre W _ _ h _;exact h.elim
   · have he:k=Os.length:=by omega
     subst he;have p0:=HW.out.ptr.cell 0;simp at p0
     gi_wp2
     refine ZfP (w.heap.size+2) ds wr HW.out.nd HW.out.mks (fun W' hb=>⟨_,results_tmp rfl _ _ _,rfl,HW.out.below.trans (hb.mono (by omega)),?_⟩);obtain⟨D,ho,hsum⟩:=HW.out.own;rw [List.take_length] at ho hsum;exact⟨D,ZdC ho (hb.block _ (by omega)),hsum⟩
end
end Go.Proofs.YtcfjmagkinpaeaaGreat
namespace Go.Proofs.YtcfjmagkinpaeaaGreat
open Go.RowKit Go.Deep Go.Maps
theorem Zcs {w wr w1:World} {r:Nat} (h:Zw_ w wr) (hg:wr.grownBy w1 (some r)) (hr:w.heap.size≤r):Zw_ w w1:=by
 have hz:=h.size;exact h.trans ⟨hg.os,hg.tape,hg.output,hg.size,fun k hk=>hg.block k (by omega) (fun e=>by have:=Option.some.inj e;omega)⟩
theorem ZaI {w w':World} (h:Zw_ w w'):w.grownBy w' none:=
 ⟨h.os,h.tape,h.output,h.size,fun k hk _=>h.block k hk⟩
section
variable (lo:Nat) (tv:Value) (Ts:List Tm) (team r:Zy_) (T:List Tri) (w:World)
theorem ZiO {D:DataW Unit} {b n:Nat} (hT:Zbd lo w tv Ts) (hown:w.ownsMap prog 230 (plainElem prog 3) b n D) (hs:Ze8 T D) (hok:Zq2 T) :
 Calls prog 148 #[.map (some b),tv,.string team,.string r] w
  fun e w'=>e=.returned (.int .i64 (wrap64 (T.map (Zg2 Ts team r)).sum))∧Zw_ w w':=by
 have HT:=Zab hT;have HS:=Zab hs;have HK:=Zab hok;obtain⟨ta,tcap,rfl⟩:=hT.form;clear hT hs hok;go_enter func148,ntmps148
 go_wp2_with (first
  | (at_range;refine wpList_range_own _ rfl _ 225 rfl 230 3 Zh9 underlying225 _ b n _ rfl hown ?_;intro w0 hrg0 hg0 hs0)
  | go_in)
 go_frame
 go_loopw [9] (fun s wr=>∃ (left:Lit→Bool) (cnt:Nat),wr.ranges prog 230 (plainElem prog 3) b w.heap.size n D left cnt∧s=.int .i64 (wrap64 (ZjZ Ts team r T left))∧Zw_ w wr)
  (fun _ wr=>wr.rangeLeft b w.heap.size)
 case atStart=>exact⟨_,_,hrg0,by rw [ZmO HS.out];simp [wrap64],⟨hg0.os,hg0.tape,hg0.output,hg0.size,fun k hk=>hg0.block k hk (by simp)⟩⟩
 case round=>
  obtain⟨left,cnt,hrg,rfl,hb⟩:=hrel;have HB:=Zab hb;clear hb
  go_wp2_with (first
   | (at_next;refine wpList_next_ranges _ rfl _ rfl 230 Zh9 (plainElem prog 3) (fun p:Zy_×Zy_=>.agg #[.string p.1,.string p.2]) (Value.int .i64) (fun key kl h=>by obtain⟨x,y,rfl,_⟩:=Zgi.inv h;exact⟨(x,y),rfl⟩) (fun v y hv=>by obtain⟨c,rfl,_⟩:=plainElem_int_inv underlying3 hv;exact⟨c,rfl⟩) b w.heap.size n _ _ _ rfl hrg ?_ ?_)
   | go_in)
  · intro _ hl0
    go_wp2;go_ret;exact⟨Zaz (by rw [Zqy hl0]),HB.out⟩
  · intro xa xb c kl yd yp w1 cnt1 hkey hlk hv hat hrg1 hlt hg1 hs1 hen
    obtain⟨xa',xb',exy,rfl,sa,sb⟩:=Zgi.inv hkey;have e12:xa=xa'∧xb=xb':=by simpa using exy
    obtain⟨rfl,rfl⟩:=e12;clear exy hkey;have hbo:=hrg1.owns.lt;obtain⟨c',ec,ey,hwc⟩:=plainElem_int_inv underlying3 hv
    have hcc:c=wrap64 (Zkd T xa xb):=by
     have h1:=hat (.lit (.int .i64 0));rw [HS.out.sums xa xb sa sb] at h1;have h2:yd=.lit (.int .i64 c'):=congrArg Prod.fst ey;rw [h2] at h1;injection h1 with h1
     injection h1 with _ h1
     injection ec with _ ec
     rw [ec,h1]
    have HST:=Zab (ZjJ Ts team r sa sb hlk T HK.out);have HB1:Hid (Zw_ w w1):=Zcs HB.out hg1 Zl_;have HRG1:=Zab hrg1;clear hv hat ec ey hwc hlk hrg1 hg1
    cases hq:(xb.toList == r.toList) with
    | false=>
     have HE:Hid (ZjZ Ts team r T (fun z=>left z&&!z.sameKey (Ze4 xa xb))=ZjZ Ts team r T left):=by unfold Hid;rw [HST.out,hq];simp
     go_wp2;go_roundw
     case rel=>exact⟨_,cnt1,HRG1.out.alloc _,by rw [HE.out],HB1.out.trans ((Zac _ _).mono HB1.out.size)⟩
     case measure=>rw [(HRG1.out.alloc _).left_eq,hrg.left_eq];exact hlt
    | true=>
     go_wp2_with fail;refine (ZdP lo _ Ts xa team _ ((HT.out.below HB1.out).below (Zac _ _))).mono ?_;rintro e w2 ⟨rfl,hb2⟩;have HRG2:=Zab (HRG1.out.kept (((World.grownBy_alloc w1 _ none)).trans (ZaI hb2)) (by simp) (by simp));have HB2:Hid (Zw_ w w2):=(HB1.out.trans ((Zac _ _).mono HB1.out.size)).trans (hb2.mono ((HB1.out.trans ((Zac _ _).mono HB1.out.size)).size));clear hb2
     cases hu:ZaA Ts xa team with
     | false=>
      have HE:Hid (ZjZ Ts team r T (fun z=>left z&&!z.sameKey (Ze4 xa xb))=ZjZ Ts team r T left):=by unfold Hid;rw [HST.out,hq,hu];simp
      go_wp2;go_roundw
      case rel=>exact⟨_,cnt1,HRG2.out,by rw [HE.out],HB2.out⟩
      case measure=>rw [HRG2.out.left_eq,hrg.left_eq];exact hlt
     | true=>
      have HE:Hid (ZjZ Ts team r T (fun z=>left z&&!z.sameKey (Ze4 xa xb))=ZjZ Ts team r T left+Zkd T xa xb):=by unfold Hid;rw [HST.out,hq,hu];simp
      go_wp2;go_roundw
      case rel=>exact⟨_,cnt1,HRG2.out,by rw [HE.out,Zg6],HB2.out⟩
      case measure=>rw [HRG2.out.left_eq,hrg.left_eq];exact hlt
end
theorem Zsa {lo:Nat} {w:World} {sv:Value} {Ss:List Sh} (hS:ZaU lo w sv Ss) {Os:List Ob} (hO:∀ o ∈ Os,ZdY o):Zq2 (Zcl Ss Os):=by
 intro p hp;obtain⟨o,ho,hq⟩:=List.mem_flatMap.1 hp;obtain⟨q,hq',rfl⟩:=List.mem_map.1 hq;exact⟨(hO o ho).s2,ZhV hS (hO o ho).s0 q hq'⟩
theorem ZbC.sizes {lo:Nat} {w:World} {ov:Value} {Os:List Ob} (h:ZbC lo w ov Os):∀ o ∈ Os,ZdY o:=by
 intro o ho;obtain⟨i,hi,rfl⟩:=List.getElem_of_mem ho
 rcases h with ⟨_,_,_,rfl⟩ | ⟨b,off,cap,h1,h2,h3,h4,h5,h6,h7⟩
 · simp at hi
 · exact (h7 i hi).1
theorem Zhl (lo:Nat) (v:Value) (Ts:List Tm) (a b:Zy_) (w:World) (hv:Zbd lo w v Ts) :
 Calls prog 78 #[v,.string a,.string b] w fun e w'=>e=.returned (.bool (ZaA Ts a b))∧w'=w:=by
 have HV:=Zab hv;obtain⟨ta,tcap,rfl⟩:=hv.form;clear hv
 cases hab:(a.toList == b.toList) with
 | true=>
  go_enter func78,ntmps78;go_wp2;go_ret;exact⟨Zaa (by simp [ZaA,hab]),rfl⟩
 | false=>
  have HU:Hid (ZaA Ts a b=ZcM Ts b 4 a):=by unfold Hid ZaA;rw [hab];rfl
  go_enter func78,ntmps78;go_wp2;clear hab
  go_loopw [1,7] (fun x n wr=>∃ (k:Nat) (a':Zy_),x=.string a'∧n=.int .i64 k∧k≤4∧ZaA Ts a b=ZcM Ts b (4 - k) a'∧wr=w) (fun _ n _=>4 - (intOf n).toNat)
  case atStart=>exact⟨0,a,rfl,rfl,by omega,HU.out,rfl⟩
  case round=>
   obtain⟨k,a',rfl,rfl,hk,hu,hb⟩:=hrel;have HU:=Zab hu;subst hb;clear hu
   by_cases hlt:k < 4
   · have HS:Hid (ZaA Ts a b=if (ovB Ts a').toList.isEmpty then false else if (ovB Ts a').toList == b.toList then true else ZcM Ts b (4 - (k+1)) (ovB Ts a')):=by
      unfold Hid;rw [HU.out,show 4 - k=(4 - (k+1))+1 from by omega]
      rfl
     clear HU;go_wp2_with fail;refine (ZcZ lo _ Ts a' _ HV.out).mono ?_;rintro e w1 ⟨rfl,rfl⟩
     cases he:(ovB Ts a').toList.isEmpty with
     | true=>
      have HR:Hid (ZaA Ts a b=false):=by unfold Hid;rw [HS.out,if_pos he]
      go_wp2;go_ret;exact⟨Zaa HR.out.symm,rfl⟩
     | false=>
      cases he2:((ovB Ts a').toList == b.toList) with
      | true=>
       have HR:Hid (ZaA Ts a b=true):=by unfold Hid;rw [HS.out,if_neg (by simp [he]),if_pos he2]
       go_wp2;go_ret;exact⟨Zaa HR.out.symm,rfl⟩
      | false=>
       have HR:Hid (ZaA Ts a b=ZcM Ts b (4 - (k+1)) (ovB Ts a')):=by unfold Hid;rw [HS.out,if_neg (by simp [he]),if_neg (by simp [he2])]
       go_wp2;go_roundw
       case rel=>exact⟨k+1,_,rfl,by go_num,by omega,HR.out,trivial⟩
       case measure=>simp [intOf];omega
   · have HR:Hid (ZaA Ts a b=false):=by unfold Hid;rw [HU.out,show 4 - k=0 from by omega];rfl
     go_wp2;go_ret;exact⟨Zaa HR.out.symm,rfl⟩
section
variable (lo:Nat) (sv mv tv ov gv lv pv:Value) (Ss:List Sh) (Ms:List Md) (Ts:List Tm) (Os:List Ob) (now tick given:Int) (team r:Zy_) (w:World)
theorem ZfS (h:ZaO lo w sv mv tv Ss Ms Ts) (hO:ZbC lo w ov Os) (hn:ZcO Os) (ga:Option Addr) (gn gc:Nat) (la:Option Addr) (ln lc:Nat) (pa:Option Addr) (pn pc:Nat) :
 Calls prog 110 #[.agg #[sv,mv,tv],.agg #[.int .i64 now,.int .i64 tick,.int .i64 given,ov,.slice ga gn gc,.slice la ln lc,.slice pa pn pc],.string team,.string r] w
  fun e w'=>e=.returned (.int .i64 (wrap64 (Zdi Ss Ts Os team r)))∧Zw_ w w':=by
 have HL:=Zab h;have HO:=Zab hO;obtain⟨a,cap,rfl⟩:=h.shs.form;obtain⟨a1,cap1,rfl⟩:=h.mds.form;obtain⟨a2,cap2,rfl⟩:=h.tms.form;obtain⟨oa,ocap,rfl⟩:=hO.form;have hm:=hO.max;unfold maxLen at hm;clear h hO;go_enter func110,ntmps110;go_wp2_with fail
 obtain⟨wz,hwz,HX,HY,HB⟩:∃ wz,wz=(w.alloc (.cells #[.slice a Ss.length cap,.slice a1 Ms.length cap1,.slice a2 Ts.length cap2] 43)).alloc (.cells #[.int .i64 now,.int .i64 tick,.int .i64 given,.slice oa Os.length ocap,.slice ga gn gc,.slice la ln lc,.slice pa pn pc] 50)∧
  Hid (Box wz w.heap.size #[.slice a Ss.length cap,.slice a1 Ms.length cap1,.slice a2 Ts.length cap2])∧Hid (Box wz (w.heap.size+1) #[.int .i64 now,.int .i64 tick,.int .i64 given,.slice oa Os.length ocap,.slice ga gn gc,.slice la ln lc,.slice pa pn pc])∧Hid (Zw_ w wz):=
  ⟨_,rfl,(Box.new _ _ _ _ rfl).on (Zac _ _),Box.new _ _ _ _ (by simp),(Zac _ _).trans ((Zac _ _).mono (by simp))⟩
 rw [← hwz];clear hwz
 go_loopw [9,10] (fun n i wr=>∃ k:Nat,n=.int .i64 (wrap64 (Zdi Ss Ts (Os.take k) team r))∧i=.int .i64 k∧k≤Os.length∧Zw_ w wr∧Box wr w.heap.size #[.slice a Ss.length cap,.slice a1 Ms.length cap1,.slice a2 Ts.length cap2]∧Box wr (w.heap.size+1) #[.int .i64 now,.int .i64 tick,.int .i64 given,.slice oa Os.length ocap,.slice ga gn gc,.slice la ln lc,.slice pa pn pc])
  (fun _ i _=>Os.length - (intOf i).toNat)
 case atStart=>exact⟨0,by simp [Zdi,wrap64],rfl,by omega,HB.out,HX.out,HY.out⟩
 case round=>
  obtain⟨k,rfl,rfl,hk,hb,hx,hy⟩:=hrel;have HBr:=Zab hb;have HXr:=Zab hx;have HYr:=Zab hy;have y3:=hy.cell 3;have x0:=hx.cell 0;have x1:=hx.cell 1;have x2:=hx.cell 2;simp at y3 x0 x1 x2;clear hb hx hy
  by_cases hlt:k < Os.length
  · obtain⟨b,off,rfl,hbw,-,hc⟩:=HO.out.full' (by omega)
    obtain⟨hs,vv0,vv1,hcell,hv0,hv1⟩:=hc k hlt;obtain⟨c0,c1,c2,c3,c4,c5,c6⟩:=hcell.below HBr.out hbw;have HV:=Zab hv0.at;have HH:=Zab hv1.at;obtain⟨va,vcap,rfl⟩:=hv0.at.form';obtain⟨ha,hcap,rfl⟩:=hv1.at.form';have HN:Hid (Os[k].vs.length≤1048576):=(hn.2 k hlt).1;have HU:=Zab (ZmM Ss Ts (Os.take k) Os[k] team r);have HTK:=Zab (List.take_succ_eq_append_getElem hlt);have HC:=Zab hcell;clear hc hcell hv0 hv1 hs;go_wp2
    go_quiet ((go_at_call 78;exact Calls.quiet_of_same (Zhl lo _ Ts Os[k].tm team _ (HL.out.below (below_drewN HBr.out _)).tms)))
    have HBd:Hid (Zw_ w (wr.drewN nq)):=below_drewN HBr.out _;have HXd:=Zab (HXr.out.on (below_drewN Zb_ nq));have HYd:=Zab (HYr.out.on (below_drewN Zb_ nq));generalize wr.drewN nq=wd at*
    cases hu:ZaA Ts Os[k].tm team with
    | false=>
     have HE:Hid (Zdi Ss Ts (Os.take (k+1)) team r=Zdi Ss Ts (Os.take k) team r):=by unfold Hid;rw [HTK.out,HU.out,hu];simp
     go_wp2;go_roundw
     case rel=>exact⟨k+1,by rw [HE.out],by go_num,by omega,HBd.out,HXd.out,HYd.out⟩
     case measure=>simp [intOf];omega
    | true=>
     have HE:Hid (Zdi Ss Ts (Os.take (k+1)) team r=Zdi Ss Ts (Os.take k) team r+ZdJ Ss Os[k].kd Os[k].vs r):=by unfold Hid;rw [HTK.out,HU.out,hu];simp
     clear c0 c1 c2 c3 c4 c5 c6 x0 x1 x2 y3;obtain⟨c0,c1,c2,c3,c4,c5,c6⟩:=HC.out.below HBd.out hbw;have y3:=HYd.out.cell 3;have x0:=HXd.out.cell 0;have x1:=HXd.out.cell 1;have x2:=HXd.out.cell 2;simp at y3 x0 x1 x2;have HBD:Hid (Zw_ w wd.drew):=HBd.out.drew;go_wp2
     go_region_with (go_at_call 164;refine (Zhm lo _ _ _ Ss Ms Ts Os[k].kd Os[k].nm Os[k].tm _ _ Os[k].en Os[k].ver Os[k].vs Os[k].hs r _ (HL.out.below HBD.out) (HV.out.below HBD.out) (HH.out.below HBD.out) HN.out).mono ?_;rintro e w2 ⟨rfl,hb2⟩;have hb3:Hid (Below wd.heap.size wd w2):=(Zb_.drew).trans hb2;clear hb2)
     all_goals go_wp2
     all_goals go_roundw
     all_goals first
      | (case rel=>exact⟨k+1,by rw [HE.out,Zfr],by go_num,by omega,HBd.out.trans (hb3.out.mono HBd.out.size),HXd.out.on hb3.out,HYd.out.on hb3.out⟩)
      | (case measure=>simp [intOf];omega)
  · have he:k=Os.length:=by omega
    subst he;have HE:Hid (Zdi Ss Ts (Os.take Os.length) team r=Zdi Ss Ts Os team r):=by unfold Hid;rw [List.take_length]
    go_wp2;go_ret;exact⟨Zaz (by rw [HE.out]),HBr.out⟩
end
end Go.Proofs.YtcfjmagkinpaeaaGreat
