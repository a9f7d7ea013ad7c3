import Derived.Test.YtmappejlmapboaaGreatD48
set_option maxHeartbeats 16000000
set_option maxRecDepth 100000
open Go.Proofs.Tryz
namespace Go.Proofs.YtmappejlmapboaaGreat
open Go.RowKit Go.Deep Go.Shelf Go.Maps
variable {W W':World} {β i bk bo bp mb pb n np:Nat}
attribute [local go_sem] Oper.semAt_some
theorem ZmU (hb:Below W.heap.size W W'):W.grownBy W' none:=⟨hb.os,hb.tape,hb.output,hb.size,fun q hq _=>hb.block q hq⟩
theorem ZlF {u:Value} (h:W.cell? ⟨β,i,none⟩=some u):β < W.heap.size:=by
 rcases Nat.lt_or_ge β W.heap.size with h' | h'
 . exact h'
 . simp [World.cell?,Array.getElem?_eq_none h'] at h
structure KS (bk bo bp β mb pb n np:Nat) (D Dp:DataW Value) (ov:Array Value) (a b:Zy_) (W:World):Prop where
 k:Box W bk #[.map (some mb)]
 o:Box W bo ov
 p:Box W bp #[.map (some pb)]
 lt:β < W.heap.size
 t2:W.cell? ⟨β,2,none⟩=some (.string a)
 t3:W.cell? ⟨β,3,none⟩=some (.string b)
 om:W.ownsMap prog 153 Zcu mb n D
 op:W.ownsMap prog 153 Zcu pb np Dp
theorem KS.below {D Dp:DataW Value}{ov:Array Value}{a b:Zy_} (h:KS bk bo bp β mb pb n np D Dp ov a b W) (hb:Below W.heap.size W W'):KS bk bo bp β mb pb n np D Dp ov a b W':=
 ⟨h.k.on hb,h.o.on hb,h.p.on hb,Zk_ h.lt hb.size,(hb.cell (p:=⟨β,2,none⟩) h.lt).trans h.t2,(hb.cell (p:=⟨β,3,none⟩) h.lt).trans h.t3,
  h.om.kept (ZmU hb) (fun e=>by cases e),h.op.kept (ZmU hb) (fun e=>by cases e)⟩
def KT (S1 S:World->Prop) (i:Nat) (w:World):Prop:=if i=0\/i=12 then S1 w else if i=13 then True else S w
theorem KT.s {S1 S:World->Prop}{w:World} (h0:i≠0) (h1:i≠12) (h2:i≠13) (h:KT S1 S i w):S w:=by
 unfold KT at h
 rwa [if_neg (by omega),if_neg h2] at h
theorem KT.s1 {S1 S:World->Prop} (hS:∀ w,S w->S1 w) {i:Nat} {w:World} (h2:i≠13) (h:KT S1 S i w):S1 w:=by
 unfold KT at h
 split at h
 . exact h
 . exact hS w (by first | exact h | rwa [if_neg h2] at h)
theorem KT.of {S1 S:World->Prop}{w:World} (hi:i≠0/\i≠12/\i≠13) (h:S w):KT S1 S i w:=by
 unfold KT
 rwa [if_neg (by omega),if_neg hi.2.2]
theorem KT.of0 {S1 S:World->Prop}{w:World} (h:S1 w):KT S1 S 0 w:=by
 unfold KT
 rwa [if_pos (Or.inl rfl)]
theorem KT.of12 {S1 S:World->Prop}{w:World} (h:S1 w):KT S1 S 12 w:=by
 unfold KT
 rwa [if_pos (Or.inr rfl)]
theorem KT.of13 {S1 S:World->Prop}{w:World}:KT S1 S 13 w:=by
 unfold KT;rw [if_neg (by omega),if_pos rfl]
 trivial
theorem KT.ts {S1 S:World->Prop}{listed:Array Bool}{D:List Nat} (h:(listed.getD 0 true&&D.contains 12&&D.contains 13)=true) (j:Nat) (hj:listed.getD j true=false) (hD:j ∉ D) (_:j≠i) (w:World) (hT:KT S1 S j w):S w:=by
 rw [Bool.and_eq_true,Bool.and_eq_true,List.contains_iff_mem,List.contains_iff_mem] at h;exact KT.s (i:=j) (fun e=>by rw [e,h.1.1] at hj;cases hj) (fun e=>hD (by rw [e];exact h.1.2)) (fun e=>hD (by rw [e];exact h.2)) hT
theorem KT.ts1 {S1 S:World->Prop} (hS:∀ w,S w->S1 w) {listed:Array Bool} {D:List Nat} {i:Nat} (h:D.contains 13=true) (j:Nat) (_:listed.getD j true=false) (hD:j ∉ D) (_:j≠i) (w:World) (hT:KT S1 S j w):S1 w:=
 KT.s1 (i:=j) hS (fun e=>hD (by rw [e];exact List.contains_iff_mem.1 h)) hT
structure Zuf (W:World) (base mb n:Nat) (G:Zy_->Zy_->List Int) (No:Nat->Prop) (W':World):Prop where
 own:∃ D:DataW Value,W'.ownsMap prog 153 Zcu mb (n+1) D/\Grp W' base D G/\Off D No
 os:W'.os=W.os
 tape:W'.tape=W.tape
 output:W'.output=W.output
 size:W.heap.size<=W'.heap.size
 keep:∀ k o,W.heap[k]?=some o->k≠mb->(k < base\/No k\/o.isCells=false)->W'.heap[k]?=some o
theorem Zl1 {Ss:List Sh}{Os:List Ob} (hsp:ZfX Ss Os) (hn:Zbg Os) (a b:Zy_) (k:Nat):(Zct Ss Os k a b).length<=k*1048576:=
 ZkU (fun o ho=>by
  obtain⟨i,hi,rfl⟩:=List.getElem_of_mem ho;obtain⟨z,hz,hzl⟩:=hsp i hi;unfold ZcC;rw [hz];have h1:=Zgh z.fields Os[i].vs z.fields.length;have h2:=(hn.2 i hi).1;dsimp only
  omega) a b k
theorem ZoF {Os:List Ob}{Dp:DataW Value} (h:ZfB Os Dp (fun q=>decide (q < Os.length))) {a b:Zy_} (ha:a.size<=maxLen) (hb:b.size<=maxLen):Dp.atKey (ZbI a b) (.held (.int .i64 0))=.held (.int .i64 ((Ze0 Os a b:Nat):Int)):=by
 rw [h.at' a b ha hb];unfold Ze0
 cases ZeC Os (fun i=>decide (i < Os.length)) a b <;> rfl
theorem Znf {D:DataW Value}{T V:TypeId} (hT:(prog).underlying T=some (.map 153 V)) (z:Value) (hz:(zeroValue V).run prog W=.ok z W) (ho:W.ownsMap prog 153 Zcu mb n D) {a b:Zy_} (ha:a.size<=maxLen) (hb:b.size<=maxLen) {v0:Value} (hat:D.atKey (ZbI a b) (.held z)=.held v0) :
 (Instr.lookup T (.map (some mb)) (.agg #[.string a,.string b]) false).run prog W=.ok v0 W:=by
 obtain⟨v,ps,hlook,hv⟩:=ho.lookup ZcJ hT (z:=z) hz (zd:=.held z) (zp:=[]) rfl (Zc1.mk' ha hb);have h1:some (DataW.held v,([]:List MemPlace))=some (D.atKey (ZbI a b) (.held z),ps):=hv;injection h1 with h1
 injection h1 with h1 _
 rw [hat] at h1;injection h1 with h1
 rw [hlook,h1]
theorem KS.reads {D Dp:DataW Value}{o0 o1 o2 o3 o4 o5 o6 v0:Value}{z:Int}{a b k0 k1:Zy_} (h:KS bk bo bp β mb pb n np D Dp #[o0,o1,o2,o3,o4,o5,o6] a b W) (s0:k0.size<=maxLen) (s1:k1.size<=maxLen) (hat:D.atKey (ZbI k0 k1) (.held (.slice none 0 0))=.held v0)
 (ha:a.size<=maxLen) (hb:b.size<=maxLen) (hz:Dp.atKey (ZbI a b) (.held (.int .i64 0))=.held (.int .i64 z)) :
 W.cell? ⟨bk,0,none⟩=some (.map (some mb))/\W.cell? ⟨bo,0,none⟩=some o0/\W.cell? ⟨bo,1,none⟩=some o1/\W.cell? ⟨bo,2,none⟩=some o2/\W.cell? ⟨bo,3,none⟩=some o3/\W.cell? ⟨bo,4,none⟩=some o4/\W.cell? ⟨bo,5,none⟩=some o5/\W.cell? ⟨bo,6,none⟩=some o6/\W.cell? ⟨bp,0,none⟩=some (.map (some pb))/\
  W.cell? ⟨β,2,none⟩=some (.string a)/\W.cell? ⟨β,3,none⟩=some (.string b)/\(Instr.lookup 150 (.map (some mb)) (.agg #[.string k0,.string k1]) false).run prog W=.ok v0 W/\(Instr.lookup 146 (.map (some pb)) (.agg #[.string a,.string b]) false).run prog W=.ok (.int .i64 z) W:=
 ⟨h.k.cell 0,h.o.cell 0,h.o.cell 1,h.o.cell 2,h.o.cell 3,h.o.cell 4,h.o.cell 5,h.o.cell 6,h.p.cell 0,h.t2,h.t3,Znf underlying150 _ (by rfl) h.om s0 s1 hat,Znf underlying146 _ (by rfl) h.op ha hb hz⟩
section
variable (lo:Nat) (sv ov:Value) (Ss:List Sh) (Os:List Ob) (w:World)
theorem Zor (hS:ZaI lo w sv Ss) (hO:Za3 lo w ov Os) (hn:Zbg Os) (hsp:ZfX Ss Os) (hd:Zhl Os) :
 Calls prog 150 #[sv,ov] w
  fun e w'=>∃ mb,∃ D:DataW Value,e=.returned (.map (some mb))/\Zw_ w w'/\w.heap.size<=mb/\w'.ownsMap prog 153 Zcu mb (Os.length*1048577) D/\Grp w' (mb+2) D (Zct Ss Os Os.length):=by
 obtain⟨i0,hi,hz0,hz1,hz2⟩:=info_parts Tryz.info3;have HI3:=Zab (And.intro hi (And.intro hz0 (And.intro hz1 hz2)));clear hi hz0 hz1 hz2;have HS0:=Zab hS;have HO0:=Zab hO;have HSP:=Zab hsp;have HD:=Zab hd;obtain⟨a,cap,rfl⟩:=hS.form;obtain⟨oa,ocap,rfl⟩:=hO.form;have hm:=HO0.o.max;unfold maxLen at hm;clear hS hO hsp hd;refine (callsIn_wide (n:=5)).1 ?_;refine callsIn_of_wp_marks func150 rfl trivial ?_ rfl;simp only [ntmps150,List.size_toArray,List.length_cons,List.length_nil,Nat.reduceAdd,Nat.reduceSub,Array.replicate_succ,Array.replicate_zero,List.push_toArray,List.append_toArray,List.nil_append,List.cons_append];have hmm:=@run_makeMap prog
 gi_wp2_with fail
 refine⟨trivial,(callsIn_wide.2 (Zmu lo _ Os w HO0.o hn.1 HD.o)).mono ?_⟩;rintro e w1 ⟨rfl,hb1,Dp,hop,hsp⟩
 gi_wp2
 clear hmm;obtain⟨wB,hwB⟩:∃ wB,wB=w1.alloc (.cells #[.map (some w.heap.size)] 146):=⟨_,rfl⟩
 rw [<- hwB];have hszB:w1.heap.size+1=wB.heap.size:=by rw [hwB];simp
 have HBW:Hd (Zw_ w wB):=by unfold Hd;rw [hwB];exact bt hb1 (Zac _ _)
 have HPB:Hd (Box wB w1.heap.size #[.map (some w.heap.size)]):=by unfold Hd;rw [hwB];exact Box.new _ _ _ _ rfl
 have HPO:Hd (wB.ownsMap prog 153 Zcu w.heap.size Os.length Dp):=by unfold Hd;rw [hwB];exact hop.alloc _
 have HPS:=Zab hsp;have hpb:w.heap.size < w1.heap.size:=hop.lt
 have HS:=Zab (HS0.o.below HBW.o);have HO:=Zab (HO0.o.below HBW.o);rw [hszB];have HSZ:=Zab hszB;have hβp:=HPB.o.lt;clear hwB hb1 hop hsp hszB HS0 HO0;generalize w1.heap.size=bp at*
 refine wpIn_loop (fun a' wr=>∃ (k:Nat) (ds:List Nat) (u8 u16 u17 u18 u19 u20 u21 u39:Value),
  (k<=Os.length/\Zpu wB (k*1048577) (Zct Ss Os k) ds (fun _=>False) wr)/\
  a'={ tmps:=#[.slice a Ss.length cap,.slice oa Os.length ocap,undef,undef,.map none,.pointer (some ⟨bp,0,none⟩),.pointer (some ⟨wB.heap.size+1,0,none⟩),undef,u8,undef,.slice oa Os.length ocap,.map (some w.heap.size),.map (some wB.heap.size),.slice oa Os.length ocap,.int .i64 Os.length,.int .i64 k,u16,u17,u18,u19,u20,u21,undef,undef,undef,undef,undef,undef,undef,undef,undef,undef,undef,undef,undef,undef,undef,undef,undef,u39,undef],defers:=Zid ds })
  (fun a' _=>Os.length - (intOf (a'.tmps.getD 15 undef)).toNat) ?_ ?_
 . refine⟨0,[],undef,undef,undef,undef,undef,undef,undef,undef,⟨Nat.zero_le _,?_⟩,rfl⟩
   refine⟨⟨.map [],?_,?_,?_⟩,?_,?_,fun d hd=>absurd hd List.not_mem_nil,List.nodup_nil,fun q h=>h.elim⟩
   . exact (World.ownsMap_made _ _ _ _).alloc _
   . exact Grp.start _ _
   . exact (Grp.start wB 0).off (fun q h=>h.elim)
   . exact (Zac _ _).trans ((Zac _ _).mono (by simp))
   . exact Box.new _ _ _ _ (by simp)
 . rintro _ wr ⟨k,ds,u8,u16,u17,u18,u19,u20,u21,u39,⟨hk,hW⟩,rfl⟩
   have HW:=Zab hW;clear hW
   by_cases hlt:k < Os.length
   . have hb:=HW.o.below
     have hw0:=hb.size;obtain⟨b,off,rfl,hbw,-,hc⟩:=HO.o.full' (by omega);obtain⟨hs,vv0,vv1,hcell,hv0,hv1⟩:=hc k hlt;obtain⟨c0,c1,c2,c3,c4,c5,c6⟩:=hcell.below hb hbw;have HV:=Zab hv0.at;have HH:=Zab hv1.at;obtain⟨va,vcap,rfl⟩:=hv0.at.form';obtain⟨ha,hcap,rfl⟩:=hv1.at.form';have HZ:=Zab hs;obtain⟨x,hx,hxl⟩:=HSP.o k hlt;have HXS:=Zab hx;have HXL:=Zab hxl;have HN:Hd (x.fields.length<=1048576):=by unfold Hd;rw [hxl];exact (hn.2 k hlt).1
     clear hc hcell hv0 hv1 hs hx hxl
     gi_wp2_with fail
     have hba:Below wr.heap.size wr (wr.alloc (.cells #[.string Os[k].kd,.string Os[k].nm,.string Os[k].tm,.slice va Os[k].vs.length vcap,.bool Os[k].en,.slice ha Os[k].hs.length hcap,.int .i64 Os[k].ver] 128)):=Zac wr _;refine⟨trivial,(callsIn_wide.2 (Zjo lo _ Ss Os[k] _ _ x wB _ HS.o (hb.trans (hba.mono hw0)) (HV.o.below (hb.trans (hba.mono hw0))) (HH.o.below (hb.trans (hba.mono hw0))) HXS.o)).mono ?_⟩;rintro e w1 ⟨fv,B1,B2,rfl,hb1,hF,hB1,hB2,hx1,hx2,hlt2⟩;have hsz1:wr.heap.size+1<=w1.heap.size:=by have:=hb1.size;simp at this;omega
     simp only [World.size_alloc] at hB1 hB2;have HF:=Zab hF;have HX1:=Zab hx1;have HX2:=Zab hx2;have HB1:Hd (Below wr.heap.size wr w1):=hba.trans (hb1.mono hba.size);have HX6:Hd (Box w1 wr.heap.size #[.string Os[k].kd,.string Os[k].nm,.string Os[k].tm,.slice va Os[k].vs.length vcap,.bool Os[k].en,.slice ha Os[k].hs.length hcap,.int .i64 Os[k].ver]):=(Box.new wr _ _ _ rfl).on hb1
     have HWl:Hd (Zpu wB (k*1048577+([]:List Tie).length) (fun p q=>Zct Ss Os k p q ++ if ZfP Os p q k then Zbq Os (([]:List Tie).map Zem) else []) ds (fun q=>q=wr.heap.size\/q=B2) w1):=by
      have h1:=HW.o.below' HB1.o;have hg0:wr.grownBy w1 none:=⟨HB1.o.os,HB1.o.tape,HB1.o.output,HB1.o.size,fun q hq _=>HB1.o.block q hq⟩;obtain⟨D,ho,hg,-⟩:=HW.o.own;have hoff:Off D (fun q=>q=wr.heap.size\/q=B2):=hg.off (fun q h=>by rcases h with h | h <;> omega);have ho1:w1.ownsMap prog 153 Zcu wB.heap.size (k*1048577+([]:List Tie).length) D:=(ho.kept hg0 (fun e=>by cases e)).mono (Nat.le_add_right _ _);have hg1:Grp w1 (wB.heap.size+2) D (Zct Ss Os k):=hg.keep' hg0 (fun r e=>by cases e)
      have e:(fun p q=>Zct Ss Os k p q ++ if ZfP Os p q k then Zbq Os (([]:List Tie).map Zem) else [])=Zct Ss Os k:=by
       funext p q
       simp [Zbq]
      have hlt:∀ q,(q=wr.heap.size\/q=B2)->q < w1.heap.size:=fun q h=>by rcases h with h | h <;> omega
      unfold Hd;rw [e];exact⟨⟨D,ho1,hg1,hoff⟩,h1.below,h1.ptr,h1.mks,h1.nd,hlt⟩
     obtain⟨fa,fcap,rfl⟩:=hF.form;clear hb1 hF hx1 hx2 hba
     gi_wp2
     have hdl:∀ d ∈ ds,d < w1.heap.size:=fun d hd=>(Array.getElem?_eq_some_iff.1 (HWl.o.mks d hd).2).1
     have hos:Os.length<=1048576:=hn.1
     refine wpIn_rangeFunc_ownH rfl (by decide) (gf:=227) (lb:=#[.pointer (some ⟨B1,0,none⟩),.pointer (some ⟨B2,0,none⟩)]) rfl trivial (enters_of func227 (by kernel_rfl) rfl)
      (ZgO lo x.kind _ x.fields Os[k].kd Os[k].nm Os[k].tm _ _ Os[k].en Os[k].ver Os[k].vs w1 _ (by decide) (fun q=>wB.heap.size<=q/\q≠B2) wB _ _ HWl.o.below HF.o HV.o HXL.o HN.o (fun q hq h=>by omega) (fun h=>h.2 rfl) HX1.o HX2.o)
      Zay.trans Zay.put Zb_ (fun _=>rfl)
      (fun pre W=>Zpu wB (k*1048577+pre.length) (fun p q=>Zct Ss Os k p q ++ if ZfP Os p q k then Zbq Os (pre.map Zem) else []) ds (fun q=>q=wr.heap.size\/q=B2) W/\Box W wr.heap.size #[.string Os[k].kd,.string Os[k].nm,.string Os[k].tm,.slice va Os[k].vs.length vcap,.bool Os[k].en,.slice ha Os[k].hs.length hcap,.int .i64 Os[k].ver])
      (fun _ _ _=>False)
      (fun s A B row hs hg hr=>⟨hs.1.grow hg (fun r e=>⟨by have:=(hr r e).1;omega,fun hd=>by have:=(hr r e).1;have:=hdl r hd;omega,(hr r e).2⟩),hs.2.of_block (hg.block _ hs.2.lt (fun e=>by have:=(hr _ e.symm).1;omega))⟩)
      (fun _ _ _ _ _ hs _ _=>hs)
      ⟨HWl.o,HX6.o⟩
      (fun y a' W=>∃ β:Nat,a'={ tmps:=#[.slice a Ss.length cap,.slice (some ⟨b,off,none⟩) Os.length ocap,undef,undef,.map none,.pointer (some ⟨bp,0,none⟩),.pointer (some ⟨wB.heap.size+1,0,none⟩),undef,.pointer (some ⟨wr.heap.size,0,none⟩),.pointer (some ⟨β,0,none⟩),.slice (some ⟨b,off,none⟩) Os.length ocap,.map (some w.heap.size),.map (some wB.heap.size),.slice (some ⟨b,off,none⟩) Os.length ocap,.int .i64 Os.length,.int .i64 k,.bool true,.pointer (some ⟨b,off+k*7,none⟩),.agg #[.string Os[k].kd,.string Os[k].nm,.string Os[k].tm,.slice va Os[k].vs.length vcap,.bool Os[k].en,.slice ha Os[k].hs.length hcap,.int .i64 Os[k].ver],.slice a Ss.length cap,.agg #[.string Os[k].kd,.string Os[k].nm,.string Os[k].tm,.slice va Os[k].vs.length vcap,.bool Os[k].en,.slice ha Os[k].hs.length hcap,.int .i64 Os[k].ver],.func (.func 227) #[] #[.pointer (some ⟨B1,0,none⟩),.pointer (some ⟨B2,0,none⟩)],.agg #[.int .i64 y.1,.int .i64 y.2.1,.string (Zc5 y.2.2.1),.string (Zc5 y.2.2.2)],undef,undef,undef,undef,undef,undef,undef,undef,undef,undef,undef,undef,undef,undef,undef,undef,u39,undef],defers:=[] }/\
        W.cell? ⟨β,1,none⟩=some (.int .i64 y.2.1)/\W.cell? ⟨β,2,none⟩=some (.string (Zc5 y.2.2.1))/\W.cell? ⟨β,3,none⟩=some (.string (Zc5 y.2.2.2)))
      (fun y a' s A B row hs hg hr=>by
        obtain⟨β,e1,e2,e3,e4⟩:=hs;exact⟨β,e1,cell_kept e2 hg (fun r e=>(hr r e).2),cell_kept e3 hg (fun r e=>(hr r e).2),cell_kept e4 hg (fun r e=>(hr r e).2)⟩) ?assign ?body ?done ?stop
     case assign=>
      intro l pre y W K hI hK;have HI:=Zab hI;have HK:=Zab hK;clear hI hK
      gi_wp2
      refine HK.o _ _ ((KeepsOthers.alloc _ _).from _) (Zay.grow (World.grownBy_alloc _ _ none)) ⟨HI.o.1.grow (World.grownBy_alloc _ _ none) (fun r e=>by cases e),HI.o.2.on (Zac _ _)⟩ ⟨W.heap.size,rfl,ZaJ _ _ _ _ 1 rfl,ZaJ _ _ _ _ 2 rfl,ZaJ _ _ _ _ 3 rfl⟩
     case body=>
      rintro l pre y a' W hll hrec ⟨hWe,hX⟩ ⟨β,rfl,hc1,hc2,hc3⟩ hlen;have HWe:=Zab hWe;have HX:=Zab hX;clear hWe hX hrec;have hpre:pre.length < 1048576:=by have:=HN.o;omega
      by_cases h3:y.2.1=2
      case pos=>
       have hb3:(y.2.1 == 2)=true:=by rw [h3];rfl
       have hb4:(y.2.1 != 2)=false:=by rw [h3];rfl
       gi_wp2
       refine⟨KeepsFrom.refl _ _,Zay.refl _ _ _,?_,HX.o⟩;obtain⟨D,ho,hg,hf⟩:=HWe.o.own
       have e:(fun p q=>Zct Ss Os k p q ++ if ZfP Os p q k then Zbq Os ((pre ++ [y]).map Zem) else [])=fun p q=>Zct Ss Os k p q ++ if ZfP Os p q k then Zbq Os (pre.map Zem) else []:=by
        funext p q
        rw [List.map_append,List.map_cons,List.map_nil,ZhV,if_pos (show (Zem y).2.1=2 from h3),List.append_nil]
       rw [e];exact⟨⟨D,ho.mono (by simp),hg,hf⟩,HWe.o.below,HWe.o.ptr,HWe.o.mks,HWe.o.nd,HWe.o.lt⟩
      . have hb3:(y.2.1 == 2)=false:=by rw [beq_eq_false_iff_ne];exact h3
        have hb4:(y.2.1 != 2)=true:=by simp [h3]
        refine wpIn_mono (Q:=fun e _ W'=>e=.normal/\Zuf W (wB.heap.size+2) wB.heap.size (k*1048577+pre.length) (fun p q=>Zct Ss Os k p q ++ if ZfP Os p q k then Zbq Os ((pre ++ [y]).map Zem) else []) (fun q=>q=wr.heap.size\/q=B2) W') ?_ ?_
        . obtain⟨D,ho,hg,hf⟩:=HWe.o.own
          have hz:=HWe.o.below.size
          have hlenG:(Zct Ss Os k Os[k].kd Os[k].nm ++ if ZfP Os Os[k].kd Os[k].nm k then Zbq Os (pre.map Zem) else []).length<=1099511627776:=by
           rw [List.length_append];have h1:=Zl1 HSP.o hn Os[k].kd Os[k].nm k
           have h2:(if ZfP Os Os[k].kd Os[k].nm k then Zbq Os (pre.map Zem) else []).length<=pre.length:=by
            split
            . have:=Zi3 Os (pre.map Zem)
              rw [List.length_map] at this;exact this
            . exact Nat.zero_le _
           have h3:k*1048576<=1048576*1048576:=Nat.mul_le_mul_right _ (by omega)
           omega
          have HLG:=Zab hlenG;have hkey:ZfP Os Os[k].kd Os[k].nm k=true:=(Zed hlt).2 ⟨rfl,rfl⟩
          have HG1:Hd ((Zct Ss Os k Os[k].kd Os[k].nm ++ if ZfP Os Os[k].kd Os[k].nm k then Zbq Os ((pre ++ [y]).map Zem) else [])=(Zct Ss Os k Os[k].kd Os[k].nm ++ if ZfP Os Os[k].kd Os[k].nm k then Zbq Os (pre.map Zem) else []) ++ [((Ze0 Os (Zc5 y.2.2.1) (Zc5 y.2.2.2):Nat):Int)]):=by
           unfold Hd;rw [hkey,if_pos rfl,if_pos rfl,List.map_append,List.map_cons,List.map_nil,ZhV,if_neg (show ¬ (Zem y).2.1=2 from h3),List.append_assoc]
           rfl
          have HG2:Hd (∀ p q:Zy_,¬ (p=Os[k].kd/\q=Os[k].nm)->(Zct Ss Os k p q ++ if ZfP Os p q k then Zbq Os ((pre ++ [y]).map Zem) else [])=Zct Ss Os k p q ++ if ZfP Os p q k then Zbq Os (pre.map Zem) else []):=fun p q hne=>by
           have:ZfP Os p q k=false:=by
            cases h:ZfP Os p q k with
            | false=>rfl
            | true=>
             obtain⟨h1,h2⟩:=(Zed hlt).1 h;exact absurd ⟨h1.symm,h2.symm⟩ hne
           rw [this,if_neg Bool.false_ne_true,if_neg Bool.false_ne_true]
          obtain⟨v0,hat,-⟩:=hg.at' Os[k].kd Os[k].nm HZ.o.s0 HZ.o.s1;have HAT:=Zab hat;have HOM:=Zab ho;have HGG:=Zab hg;have HOF:=Zab hf;have hpt:=HWe.o.ptr.lt
          have hβlt:β < W.heap.size:=by
           rcases Nat.lt_or_ge β W.heap.size with h | h
           . exact h
           . exact ZlF hc1
          have HKS:Hd (KS (wB.heap.size+1) wr.heap.size bp β wB.heap.size w.heap.size (k*1048577+pre.length) Os.length D Dp #[.string Os[k].kd,.string Os[k].nm,.string Os[k].tm,.slice va Os[k].vs.length vcap,.bool Os[k].en,.slice ha Os[k].hs.length hcap,.int .i64 Os[k].ver] (Zc5 y.2.2.1) (Zc5 y.2.2.2) W):=
           ⟨HWe.o.ptr,HX.o,HPB.o.below HWe.o.below hβp,hβlt,hc2,hc3,ho,HPO.o.kept (ZmU HWe.o.below) (fun e=>by cases e)⟩
          clear hat ho hg hf hlenG hkey;obtain⟨pl,hpl⟩:∃ pl:Int,pl=((Ze0 Os (Zc5 y.2.2.1) (Zc5 y.2.2.2):Nat):Int):=⟨_,rfl⟩
          rw [<- hpl] at HG1;obtain⟨SS,hSSd⟩:∃ SS:World->Prop,SS=KS (wB.heap.size+1) wr.heap.size bp β wB.heap.size w.heap.size (k*1048577+pre.length) Os.length D Dp #[.string Os[k].kd,.string Os[k].nm,.string Os[k].tm,.slice va Os[k].vs.length vcap,.bool Os[k].en,.slice ha Os[k].hs.length hcap,.int .i64 Os[k].ver] (Zc5 y.2.2.1) (Zc5 y.2.2.2):=⟨_,rfl⟩
          obtain⟨SS1,hSSd1⟩:∃ SS1:World->Prop,SS1=fun W'=>W'.cell? ⟨wB.heap.size+1,0,none⟩=some (.map (some wB.heap.size)):=⟨_,rfl⟩
          have hSW:SS W:=by rw [hSSd];exact HKS.o
          have hSb:∀ W1 W2,SS W1->Below W1.heap.size W1 W2->SS W2:=fun W1 W2 h1 h2=>by rw [hSSd] at h1 |-;exact h1.below h2
          have hC1:∀ W',SS1 W'->W'.cell? ⟨wB.heap.size+1,0,none⟩=some (.map (some wB.heap.size)):=fun W' h=>by rw [hSSd1] at h;exact h
          have hS1:∀ W',SS W'->SS1 W':=fun W' h=>by rw [hSSd] at h;rw [hSSd1];exact h.k.cell 0
          have hS1b:∀ W',(∀ q,q < wB.heap.size+2->W'.heap[q]?=W.heap[q]?)->SS1 W':=fun W' h=>by
           rw [hSSd1];exact (World.cell?_of_block (a:=⟨wB.heap.size+1,0,none⟩) (h (wB.heap.size+1) (by omega))).trans (HWe.o.ptr.cell 0)
          have hCells:∀ W',SS W'->_:=fun W' h=>by
           rw [hSSd] at h;exact h.reads (z:=pl) HZ.o.s0 HZ.o.s1 HAT.o (ZcW _) (ZcW _) (by rw [hpl];exact ZoF HPS.o (ZcW _) (ZcW _))
          have hnn:k*1048577+pre.length < 9223372036854775807:=by
           have:k*1048577<=1048576*1048577:=Nat.mul_le_mul_right _ (by omega)
           omega
          clear hSSd hSSd1 hpl HKS HPS
          gi_wp2
          obtain⟨hi,hz0,hz1,hz2⟩:=HI3.o;have hlow0:wB.heap.size+2<=W.heap.size:=by omega
          refine ZiC (KT SS1 SS) (by kernel_rfl) (by kernel_rfl) (fun ⟨_,_,h⟩=>by have h1:=h.1;cases h1) ?_;have hHeld:SS W.drew:=hSb _ _ hSW (Zb_.drew);have HB:Hd (Below W.heap.size W W.drew):=Zb_.drew
          try simp only [Act.put,List.getElem_toArray,List.getElem_cons_succ,List.getElem_cons_zero,List.setIfInBounds_toArray,List.set_cons_zero,List.set_cons_succ]
          refine Za6 SS1 [13] (i:=0) (v:=.map (some wB.heap.size)) rfl (by kernel_rfl) (by kernel_rfl) (by kernel_rfl) (by kernel_rfl) (fun _ h=>KT.of0 h) (KT.ts1 hS1 (by kernel_rfl)) (fun _ _ _ h=>h) (Or.inl ⟨by rfl,fun W' hW=>by have hc:=hC1 W' hW;go_simp⟩) (hS1 _ hHeld) ?_
          try simp only [Act.put,List.getElem_toArray,List.getElem_cons_zero,List.setIfInBounds_toArray,List.set_cons_zero,List.set_cons_succ]
          refine Za6 SS [6,12,13] (i:=3) (v:=.map (some wB.heap.size)) rfl (by kernel_rfl) (by kernel_rfl) (by kernel_rfl) (by kernel_rfl) (fun _ h=>KT.of (by decide) h) (KT.ts (by kernel_rfl)) (fun _ _ _ h=>h) (Or.inl ⟨by rfl,fun W' hW=>by obtain⟨e0,e1,e2,e3,e4,e5,e6,e7,e8,e9,e10,e11,e12⟩:=hCells W' hW;go_simp⟩) hHeld ?_
          try simp only [Act.put,List.getElem_toArray,List.getElem_cons_succ,List.getElem_cons_zero,List.setIfInBounds_toArray,List.set_cons_zero,List.set_cons_succ]
          refine Za6 SS [10,11,12,13] (i:=7) (v:=.map (some w.heap.size)) rfl (by kernel_rfl) (by kernel_rfl) (by kernel_rfl) (by kernel_rfl) (fun _ h=>KT.of (by decide) h) (KT.ts (by kernel_rfl)) (fun _ _ _ h=>h) (Or.inl ⟨by rfl,fun W' hW=>by obtain⟨e0,e1,e2,e3,e4,e5,e6,e7,e8,e9,e10,e11,e12⟩:=hCells W' hW;go_simp⟩) hHeld ?_
          try simp only [Act.put,List.getElem_toArray,List.getElem_cons_succ,List.getElem_cons_zero,List.setIfInBounds_toArray,List.set_cons_zero,List.set_cons_succ]
          refine Za6 SS [9,10,11,12,13] (i:=8) (v:=.pointer (some ⟨β,2,none⟩)) rfl (by kernel_rfl) (by kernel_rfl) (by kernel_rfl) (by kernel_rfl) (fun _ h=>KT.of (by decide) h) (KT.ts (by kernel_rfl)) (fun _ _ _ h=>h) (Or.inl ⟨by rfl,fun W' hW=>by obtain⟨e0,e1,e2,e3,e4,e5,e6,e7,e8,e9,e10,e11,e12⟩:=hCells W' hW;go_simp⟩) hHeld ?_
          try simp only [Act.put,List.getElem_toArray,List.getElem_cons_succ,List.getElem_cons_zero,List.setIfInBounds_toArray,List.set_cons_zero,List.set_cons_succ]
          refine Za6 SS [10,11,12,13] (i:=9) (v:=.agg #[.string (Zc5 y.2.2.1),.string (Zc5 y.2.2.2)]) rfl (by kernel_rfl) (by kernel_rfl) (by kernel_rfl) (by kernel_rfl) (fun _ h=>KT.of (by decide) h) (KT.ts (by kernel_rfl)) (fun _ _ _ h=>h) (Or.inl ⟨by rfl,fun W' hW=>by obtain⟨e0,e1,e2,e3,e4,e5,e6,e7,e8,e9,e10,e11,e12⟩:=hCells W' hW;go_simp⟩) hHeld ?_
          try simp only [Act.put,List.getElem_toArray,List.getElem_cons_succ,List.getElem_cons_zero,List.setIfInBounds_toArray,List.set_cons_zero,List.set_cons_succ]
          refine Za6 SS [11,12,13] (i:=10) (v:=.int .i64 pl) rfl (by kernel_rfl) (by kernel_rfl) (by kernel_rfl) (by kernel_rfl) (fun _ h=>KT.of (by decide) h) (KT.ts (by kernel_rfl)) (fun _ _ _ h=>h) (Or.inl ⟨by rfl,fun W' hW=>by obtain⟨e0,e1,e2,e3,e4,e5,e6,e7,e8,e9,e10,e11,e12⟩:=hCells W' hW;go_simp⟩) hHeld ?_
          try simp only [Act.put,List.getElem_toArray,List.getElem_cons_succ,List.getElem_cons_zero,List.setIfInBounds_toArray,List.set_cons_zero,List.set_cons_succ]
          refine Za6 SS [2,5,6,12,13] (i:=1) (v:=.agg #[.string Os[k].kd,.string Os[k].nm,.string Os[k].tm,.slice va Os[k].vs.length vcap,.bool Os[k].en,.slice ha Os[k].hs.length hcap,.int .i64 Os[k].ver]) rfl (by kernel_rfl) (by kernel_rfl) (by kernel_rfl) (by kernel_rfl) (fun _ h=>KT.of (by decide) h) (KT.ts (by kernel_rfl)) (fun _ _ _ h=>h) (Or.inl ⟨by rfl,fun W' hW=>by obtain⟨e0,e1,e2,e3,e4,e5,e6,e7,e8,e9,e10,e11,e12⟩:=hCells W' hW;go_simp⟩) hHeld ?_
          try simp only [Act.put,List.getElem_toArray,List.getElem_cons_succ,List.getElem_cons_zero,List.setIfInBounds_toArray,List.set_cons_zero,List.set_cons_succ]
          refine Za6 SS [5,12,13] (i:=4) (v:=.agg #[.string Os[k].kd,.string Os[k].nm,.string Os[k].tm,.slice va Os[k].vs.length vcap,.bool Os[k].en,.slice ha Os[k].hs.length hcap,.int .i64 Os[k].ver]) rfl (by kernel_rfl) (by kernel_rfl) (by kernel_rfl) (by kernel_rfl) (fun _ h=>KT.of (by decide) h) (KT.ts (by kernel_rfl)) (fun _ _ _ h=>h) (Or.inl ⟨by rfl,fun W' hW=>by obtain⟨e0,e1,e2,e3,e4,e5,e6,e7,e8,e9,e10,e11,e12⟩:=hCells W' hW;go_simp⟩) hHeld ?_
          try simp only [Act.put,List.getElem_toArray,List.getElem_cons_succ,List.getElem_cons_zero,List.setIfInBounds_toArray,List.set_cons_zero,List.set_cons_succ]
          refine Zju (i:=2) (i':=11) (by kernel_rfl) rfl rfl (fun K hK=>?_) (fun K hK=>?_)
          . go_simp
            refine (Zcb Os[k] _ _ _ _ _ _ _).mono ?_;rintro e x0 ⟨rfl,hb⟩;have hHn:=hSb _ _ hHeld hb;replace HB:=Zab (bt HB.o hb);clear hb hHeld;have hHeld:=hHn;clear hHn;refine hK.out _ _ (KT.of (by decide) hHeld) ?_;clear hK K
            try simp only [Act.put,List.getElem_toArray,List.getElem_cons_succ,List.getElem_cons_zero,List.setIfInBounds_toArray,List.set_cons_zero,List.set_cons_succ]
            refine Zju (i:=5) (i':=11) (by kernel_rfl) rfl rfl (fun K hK=>?_) (fun K hK=>?_)
            . go_simp
              refine (Zcb Os[k] _ _ _ _ _ _ _).mono ?_;rintro e x1 ⟨rfl,hb⟩;have hHn:=hSb _ _ hHeld hb;replace HB:=Zab (bt HB.o hb);clear hb hHeld;have hHeld:=hHn;clear hHn;refine hK.out _ _ (KT.of (by decide) hHeld) ?_;clear hK K
              try simp only [Act.put,List.getElem_toArray,List.getElem_cons_succ,List.getElem_cons_zero,List.setIfInBounds_toArray,List.set_cons_zero,List.set_cons_succ]
              refine Za6 SS [12,13] (i:=6) (v:=v0) rfl (by kernel_rfl) (by kernel_rfl) (by kernel_rfl) (by kernel_rfl) (fun _ h=>KT.of (by decide) h) (KT.ts (by kernel_rfl)) (fun _ _ _ h=>h) (Or.inl ⟨by rfl,fun W' hW=>by obtain⟨e0,e1,e2,e3,e4,e5,e6,e7,e8,e9,e10,e11,e12⟩:=hCells W' hW;go_simp⟩) hHeld ?_
              try simp only [Act.put,List.getElem_toArray,List.getElem_cons_succ,List.getElem_cons_zero,List.setIfInBounds_toArray,List.set_cons_zero,List.set_cons_succ]
              refine ZbD (i:=11) (by kernel_rfl) rfl (fun K hK=>?_);have hsb:W.heap.size<=x1.heap.size:=HB.o.size
              go_simp
              have hHn:=hSb _ _ hHeld (Zac _ (.cells #[.int .i64 pl] 3));have HBn:=Zab (bt HB.o (Zac _ (.cells #[.int .i64 pl] 3)));have hcl:((x1).alloc (.cells #[.int .i64 pl] 3)).cell? ⟨(x1).heap.size,0,none⟩=some (.int .i64 pl):=ZaJ _ _ _ _ 0 rfl;refine hK.out _ _ (KT.of (by decide) hHn) ?_;clear hK K hHeld HB;have hHeld:=hHn;have HB:=HBn;clear hHn HBn;generalize (x1).alloc (.cells #[.int .i64 pl] 3)=y0 at*
              try simp only [Act.put,List.getElem_toArray,List.getElem_cons_succ,List.getElem_cons_zero,List.setIfInBounds_toArray,List.set_cons_zero,List.set_cons_succ]
              obtain⟨v1,W2,W3,D2,hr2,hr3,hlow,ho3,hg3,hf3,q1,q2,q3,q4,q5⟩:=ZlY (P:=prog) (K:=153) (T:=150) (S:=35) Zi4 Zc1 underlying150 underlying35 i0 hi hz0 hz1 hz2 HOM.o HGG.o HOF.o HWe.o.lt (by omega) (by omega) (by unfold maxLen;omega) HZ.o.s0 HZ.o.s1 pl HLG.o (G':=fun p q=>Zct Ss Os k p q ++ if ZfP Os p q k then Zbq Os ((pre ++ [y]).map Zem) else []) HG1.o HG2.o HB.o hsb hcl HAT.o;refine ZbD (i:=12) (by kernel_rfl) rfl (fun K hK=>?_);refine Zdr rfl (.tmp 32) (.tmp 37) 35 rfl rfl rfl hr2 ?_;refine hK.out _ _ (KT.of12 (hS1b _ hlow)) ?_;clear hK K hHeld hr2
              try simp only [Act.put,List.getElem_toArray,List.getElem_cons_succ,List.getElem_cons_zero,List.setIfInBounds_toArray,List.set_cons_zero,List.set_cons_succ]
              refine ZbD (i:=13) (by kernel_rfl) rfl (fun K hK=>?_)
              go_simp
              refine hK.out _ _ KT.of13 ?_;refine ZfN (by kernel_rfl) ?_ _;exact⟨rfl,⟨D2,ho3,hg3,hf3⟩,q1,q2,q3,q4,q5⟩
            . have hsb:W.heap.size<=x0.heap.size:=HB.o.size
              go_simp
              have hHn:=hSb _ _ hHeld (Zac _ (.cells #[.int .i64 pl] 3));have HBn:=Zab (bt HB.o (Zac _ (.cells #[.int .i64 pl] 3)));have hcl:((x0).alloc (.cells #[.int .i64 pl] 3)).cell? ⟨(x0).heap.size,0,none⟩=some (.int .i64 pl):=ZaJ _ _ _ _ 0 rfl;refine hK.out _ _ (KT.of (by decide) hHn) ?_;clear hK K hHeld HB;have hHeld:=hHn;have HB:=HBn;clear hHn HBn;generalize (x0).alloc (.cells #[.int .i64 pl] 3)=y0 at*
              try simp only [Act.put,List.getElem_toArray,List.getElem_cons_succ,List.getElem_cons_zero,List.setIfInBounds_toArray,List.set_cons_zero,List.set_cons_succ]
              have hsl:=ZlF hcl;refine ZbD (i:=5) (by kernel_rfl) rfl (fun K hK=>?_)
              go_simp
              refine (Zcb Os[k] _ _ _ _ _ _ _).mono ?_;rintro e x2 ⟨rfl,hb⟩;have hHn:=hSb _ _ hHeld hb;replace HB:=Zab (bt HB.o hb);replace hcl:=(hb.cell (p:=⟨x0.heap.size,0,none⟩) hsl).trans hcl;replace hsl:=Zk_ hsl hb.size;clear hb hHeld;have hHeld:=hHn;clear hHn;refine hK.out _ _ (KT.of (by decide) hHeld) ?_;clear hK K
              try simp only [Act.put,List.getElem_toArray,List.getElem_cons_succ,List.getElem_cons_zero,List.setIfInBounds_toArray,List.set_cons_zero,List.set_cons_succ]
              refine Za6 SS [12,13] (i:=6) (v:=v0) rfl (by kernel_rfl) (by kernel_rfl) (by kernel_rfl) (by kernel_rfl) (fun _ h=>KT.of (by decide) h) (KT.ts (by kernel_rfl)) (fun _ _ _ h=>h) (Or.inl ⟨by rfl,fun W' hW=>by obtain⟨e0,e1,e2,e3,e4,e5,e6,e7,e8,e9,e10,e11,e12⟩:=hCells W' hW;go_simp⟩) hHeld ?_
              try simp only [Act.put,List.getElem_toArray,List.getElem_cons_succ,List.getElem_cons_zero,List.setIfInBounds_toArray,List.set_cons_zero,List.set_cons_succ]
              obtain⟨v1,W2,W3,D2,hr2,hr3,hlow,ho3,hg3,hf3,q1,q2,q3,q4,q5⟩:=ZlY (P:=prog) (K:=153) (T:=150) (S:=35) Zi4 Zc1 underlying150 underlying35 i0 hi hz0 hz1 hz2 HOM.o HGG.o HOF.o HWe.o.lt (by omega) (by omega) (by unfold maxLen;omega) HZ.o.s0 HZ.o.s1 pl HLG.o (G':=fun p q=>Zct Ss Os k p q ++ if ZfP Os p q k then Zbq Os ((pre ++ [y]).map Zem) else []) HG1.o HG2.o HB.o hsb hcl HAT.o;refine ZbD (i:=12) (by kernel_rfl) rfl (fun K hK=>?_);refine Zdr rfl (.tmp 32) (.tmp 37) 35 rfl rfl rfl hr2 ?_;refine hK.out _ _ (KT.of12 (hS1b _ hlow)) ?_;clear hK K hHeld hr2
              try simp only [Act.put,List.getElem_toArray,List.getElem_cons_succ,List.getElem_cons_zero,List.setIfInBounds_toArray,List.set_cons_zero,List.set_cons_succ]
              refine ZbD (i:=13) (by kernel_rfl) rfl (fun K hK=>?_)
              go_simp
              refine hK.out _ _ KT.of13 ?_;refine ZfN (by kernel_rfl) ?_ _;exact⟨rfl,⟨D2,ho3,hg3,hf3⟩,q1,q2,q3,q4,q5⟩
          . have hsb:W.heap.size<=W.heap.size:=Nat.le_refl _
            go_simp
            have hHn:=hSb _ _ hSW ((Zac W (.cells #[.int .i64 pl] 3)).drew);have HBn:Hd (Below W.heap.size W (W.alloc (.cells #[.int .i64 pl] 3)).drew):=(Zac W _).drew;have hcl:(W.alloc (.cells #[.int .i64 pl] 3)).drew.cell? ⟨W.heap.size,0,none⟩=some (.int .i64 pl):=ZaJ _ _ _ _ 0 rfl;refine hK.out _ _ (KT.of (by decide) hHn) ?_;clear hK K hHeld HB;have hHeld:=hHn;have HB:=HBn;clear hHn HBn;generalize (W.alloc (.cells #[.int .i64 pl] 3)).drew=y0 at*
            try simp only [Act.put,List.getElem_toArray,List.getElem_cons_succ,List.getElem_cons_zero,List.setIfInBounds_toArray,List.set_cons_zero,List.set_cons_succ]
            have hsl:=ZlF hcl;refine ZbD (i:=2) (by kernel_rfl) rfl (fun K hK=>?_)
            go_simp
            refine (Zcb Os[k] _ _ _ _ _ _ _).mono ?_;rintro e x3 ⟨rfl,hb⟩;have hHn:=hSb _ _ hHeld hb;replace HB:=Zab (bt HB.o hb);replace hcl:=(hb.cell (p:=⟨W.heap.size,0,none⟩) hsl).trans hcl;replace hsl:=Zk_ hsl hb.size;clear hb hHeld;have hHeld:=hHn;clear hHn;refine hK.out _ _ (KT.of (by decide) hHeld) ?_;clear hK K
            try simp only [Act.put,List.getElem_toArray,List.getElem_cons_succ,List.getElem_cons_zero,List.setIfInBounds_toArray,List.set_cons_zero,List.set_cons_succ]
            refine ZbD (i:=5) (by kernel_rfl) rfl (fun K hK=>?_)
            go_simp
            refine (Zcb Os[k] _ _ _ _ _ _ _).mono ?_;rintro e x4 ⟨rfl,hb⟩;have hHn:=hSb _ _ hHeld hb;replace HB:=Zab (bt HB.o hb);replace hcl:=(hb.cell (p:=⟨W.heap.size,0,none⟩) hsl).trans hcl;replace hsl:=Zk_ hsl hb.size;clear hb hHeld;have hHeld:=hHn;clear hHn;refine hK.out _ _ (KT.of (by decide) hHeld) ?_;clear hK K
            try simp only [Act.put,List.getElem_toArray,List.getElem_cons_succ,List.getElem_cons_zero,List.setIfInBounds_toArray,List.set_cons_zero,List.set_cons_succ]
            refine Za6 SS [12,13] (i:=6) (v:=v0) rfl (by kernel_rfl) (by kernel_rfl) (by kernel_rfl) (by kernel_rfl) (fun _ h=>KT.of (by decide) h) (KT.ts (by kernel_rfl)) (fun _ _ _ h=>h) (Or.inl ⟨by rfl,fun W' hW=>by obtain⟨e0,e1,e2,e3,e4,e5,e6,e7,e8,e9,e10,e11,e12⟩:=hCells W' hW;go_simp⟩) hHeld ?_
            try simp only [Act.put,List.getElem_toArray,List.getElem_cons_succ,List.getElem_cons_zero,List.setIfInBounds_toArray,List.set_cons_zero,List.set_cons_succ]
            obtain⟨v1,W2,W3,D2,hr2,hr3,hlow,ho3,hg3,hf3,q1,q2,q3,q4,q5⟩:=ZlY (P:=prog) (K:=153) (T:=150) (S:=35) Zi4 Zc1 underlying150 underlying35 i0 hi hz0 hz1 hz2 HOM.o HGG.o HOF.o HWe.o.lt (by omega) (by omega) (by unfold maxLen;omega) HZ.o.s0 HZ.o.s1 pl HLG.o (G':=fun p q=>Zct Ss Os k p q ++ if ZfP Os p q k then Zbq Os ((pre ++ [y]).map Zem) else []) HG1.o HG2.o HB.o hsb hcl HAT.o;refine ZbD (i:=12) (by kernel_rfl) rfl (fun K hK=>?_);refine Zdr rfl (.tmp 32) (.tmp 37) 35 rfl rfl rfl hr2 ?_;refine hK.out _ _ (KT.of12 (hS1b _ hlow)) ?_;clear hK K hHeld hr2
            try simp only [Act.put,List.getElem_toArray,List.getElem_cons_succ,List.getElem_cons_zero,List.setIfInBounds_toArray,List.set_cons_zero,List.set_cons_succ]
            refine ZbD (i:=13) (by kernel_rfl) rfl (fun K hK=>?_)
            go_simp
            refine hK.out _ _ KT.of13 ?_;refine ZfN (by kernel_rfl) ?_ _;exact⟨rfl,⟨D2,ho3,hg3,hf3⟩,q1,q2,q3,q4,q5⟩
        . rintro e a2 W2 ⟨rfl,hp⟩
          have HP:=Zab hp;clear hp;have hz:=HWe.o.below.size;have hzw:wB.heap.size+1 < W.heap.size:=HWe.o.ptr.lt
          have hsame:∀ q,q < W.heap.size->q≠wB.heap.size->(q < wB.heap.size+2\/q=wr.heap.size\/q=B2)->W2.heap[q]?=W.heap[q]?:=fun q h1 h2 h3=>by
           have ho:W.heap[q]?=some (W.heap[q]'h1):=Array.getElem?_eq_getElem h1;rw [HP.o.keep q _ ho h2 (h3.imp id Or.inl)];exact ho.symm
          obtain⟨D2,ho3,hg3,hf3⟩:=HP.o.own;have e1:=HP.o.os;have e2:=HP.o.tape;have e3:=HP.o.output;have e4:=HP.o.size;refine⟨⟨e4,fun q o hq ho hc=>HP.o.keep q o ho (by omega) (Or.inr (Or.inr hc))⟩,⟨e1,e2,e3,e4,fun q o ho hS hc=>?_⟩,⟨⟨D2,?_,hg3,hf3⟩,?_,?_,fun d hd=>?_,HWe.o.nd,fun q hq=>Zk_ (HWe.o.lt q hq) e4⟩,?_⟩
          . have hlt:q < W.heap.size:=(Array.getElem?_eq_some_iff.1 ho).1
            have h':q < wB.heap.size\/q=B2:=by
             by_cases h:wB.heap.size<=q
             . exact Or.inr (Classical.byContradiction fun h2=>hS ⟨h,h2⟩)
             . exact Or.inl (by omega)
            rw [hsame q hlt (by rcases h' with h' | h' <;> omega) (h'.imp (fun h=>by omega) Or.inr)];exact ho
          . refine ho3.mono ?_
            simp
            omega
          . exact HWe.o.below.trans ⟨e1,e2,e3,e4,fun q hq=>hsame q (by omega) (by omega) (Or.inl (by omega))⟩
          . exact HWe.o.ptr.of_block (hsame _ (by omega) (by omega) (Or.inl (by omega)))
          . obtain⟨h1,h2⟩:=HWe.o.mks d hd
            exact⟨h1,HP.o.keep d _ h2 (by omega) (Or.inr (Or.inr rfl))⟩
          . exact HX.o.of_block (hsame _ HX.o.lt (by have:=HW.o.ptr.lt;omega) (Or.inr (Or.inl rfl)))
     case done=>
      rintro Dd ys W hD rfl ⟨hWe,hX⟩ hK;have HWe:=Zab hWe;clear hWe hX
      gi_wp2
      refine⟨⟨k+1,Dd :: ds,_,_,_,_,_,_,_,_,⟨by omega,?_⟩,rfl⟩,?_⟩
      . have e:(fun p q=>Zct Ss Os k p q ++ if ZfP Os p q k then Zbq Os ((Zdu x.fields Os[k].vs x.fields.length).map Zem) else [])=Zct Ss Os (k+1):=by
         funext p q
         rw [Zi1 hlt];unfold ZcC;rw [HXS.o];have hm:(Zdu x.fields Os[k].vs x.fields.length).map Zem=Zdu x.fields Os[k].vs x.fields.length:=(List.map_congr_left (g:=id) fun t ht=>Zen HF.o HV.o _ t ht).trans (List.map_id _);rw [hm]
        have hpt:=HWl.o.ptr.lt;obtain⟨D,ho,hg,-⟩:=HWe.o.own;rw [e] at hg;have hl:=Zgh x.fields Os[k].vs x.fields.length;have hxn:=HN.o;refine⟨⟨D,ho.mono ?_,hg,hg.off (fun q h=>h.elim)⟩,HWe.o.below,HWe.o.ptr,fun d hd=>?_,List.nodup_cons.2 ⟨fun hd=>by have:=hdl Dd hd;omega,HWe.o.nd⟩,fun q h=>h.elim⟩
        . rw [Nat.succ_mul];omega
        . rcases List.mem_cons.1 hd with rfl | hd
          . exact⟨by omega,hK⟩
          . exact HWe.o.mks d hd
      . simp [intOf];omega
     case stop=>
      rintro D c pre W _ _ h _;exact h.elim
   . have he:k=Os.length:=by omega
     subst he;have p0:=HW.o.ptr.cell 0;simp at p0
     gi_wp2
     refine Zef (wB.heap.size+2) ds wr HW.o.nd HW.o.mks (fun W' hb hc=>⟨_,results_tmp rfl _ _ _,wB.heap.size,?_⟩);obtain⟨D,ho,hg,-⟩:=HW.o.own;have h1:Zw_ w W':=(HBW.o.trans (HW.o.below.mono (by omega))).trans (hb.mono (by omega));exact⟨D,rfl,h1,by omega,ZcA ho (hb.block _ (by omega)),hg.cells hc⟩
end
end Go.Proofs.YtmappejlmapboaaGreat
