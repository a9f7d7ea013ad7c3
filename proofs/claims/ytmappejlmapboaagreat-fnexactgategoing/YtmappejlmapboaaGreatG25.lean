import Derived.Test.YtmappejlmapboaaGreatG24
set_option maxHeartbeats 16000000
set_option maxRecDepth 100000
open Go.Proofs.Tryz
namespace Go.Proofs.YtmappejlmapboaaGreat
section
open Go.RowKit Go.Deep Go.Maps
theorem Zdb:Zet prog 153 9:=
 ⟨⟨_,_,underlying153,rfl,rfl,rfl,rfl,by decide,by decide⟩,by kernel_rfl,by kernel_rfl,underlying9,by kernel_rfl,of_decide_eq_true (by kernel_rfl)⟩
theorem Zs5:(153:TypeId) < prog.types.size:=of_decide_eq_true (by kernel_rfl)
theorem ZtB:prog.keyTypeAt 2 153=true:=by kernel_rfl
theorem Zkm:WideMaps.KeyLaw prog 153:=deep_law_laid ZoA (by decide) Zs5 ZtB Zdb.wide
theorem ZcB:Keyed prog 153:=Keyed.of_law Zkm
structure ZqI {H:Type} (Os:List Ob) (D:DataW H):Prop where
 isMap:IsMap D
 has:∀ a b:Zy_,a.size<=maxLen->b.size<=maxLen->Maps.has D (ZbG a b)=Os.any (ZgS a b)
theorem ZqI.start {H:Type}:ZqI [] (.map []:DataW H):=⟨⟨[],rfl⟩,fun _ _ _ _=>rfl⟩
theorem ZqI.step {H:Type}{Os:List Ob}{D:DataW H} (h:ZqI Os D) (o:Ob) (hz:Zc5 o) (d:DataW H):ZqI (Os ++ [o]) (D.put (ZbG o.kd o.nm) d):=by
 refine⟨h.isMap.put _ _,fun a b ha hb=>?_⟩;rw [List.any_append]
 by_cases e:a=o.kd/\b=o.nm
 . obtain⟨rfl,rfl⟩:=e
   rw [has_put_same h.isMap (ZeG _ _)];unfold ZgS;simp
 . have hne:ZbG a b≠ZbG o.kd o.nm:=fun e'=>e (Zdb.inj Zkm ha hb hz.s0 hz.s1 e')
   have hn:ZgS a b o=false:=by
    unfold ZgS
    cases h1:(o.kd.toList == a.toList) with
    | false=>rfl
    | true=>
     cases h2:(o.nm.toList == b.toList) with
     | false=>rfl
     | true=>exact absurd ⟨(ZaA.1 h1).symm,(ZaA.1 h2).symm⟩ e
   rw [has_put_other hne,h.has a b ha hb];simp [hn]
theorem Zb8 (x:Ob) (va:Option Addr) (vn vc:Nat) (ha:Option Addr) (hn hc:Nat) (w:World) :
 Calls prog 96 #[.agg #[.string x.kd,.string x.nm,.string x.tm,.slice va vn vc,.bool x.en,.slice ha hn hc,.int .i64 x.ver]] w
  fun e w'=>e=.returned (.agg #[.string x.kd,.string x.nm])/\Zw_ w w':=by
 go_enter func96,ntmps96;go_wp2;refine bodyPost_ret (v:=.agg #[.string x.kd,.string x.nm]) (by simp [results,results96,go_sem]) rfl ⟨rfl,?_⟩
 repeat (refine Below.setCell ?_ (by simp) _)
 exact (Zb_.alloc Zl_ _).alloc (by simp) _
theorem ZnA (lo:Nat) (v:Value) (Os:List Ob) (w:World) (hv:Za2 lo w v Os) (hn:Os.length<=1048576) :
 Calls prog 192 #[v] w
  fun e w'=>e=.returned (.map (some w.heap.size))/\Zw_ w w'/\∃ D:DataW Unit,w'.ownsMap prog 153 (plainElem prog 3) w.heap.size Os.length D/\ZqI Os D:=by
 have HV:=Zab hv;obtain⟨a,cap,rfl⟩:=hv.form;clear hv;have hmm:∀ (n:Nat) (w:World),(Instr.makeMap 146 (some (.int .i64 n))).run prog w=.ok (.map (some w.heap.size)) (w.alloc (.map #[] 0)):=fun n w=>by simp [Instr.makeMap,go_sem,run_underlying underlying146,Result.andThen]
 go_enter func192,ntmps192;go_wp2;clear hmm
 go_loopw [11] (fun i wr=>∃ k:Nat,i=.int .i64 k/\k<=Os.length/\Zw_ w wr/\∃ D:DataW Unit,wr.ownsMap prog 153 (plainElem prog 3) w.heap.size k D/\ZqI (Os.take k) D) (fun i _=>Os.length - (intOf i).toNat)
 case atStart=>exact⟨0,rfl,Nat.zero_le _,Zac _ _,.map [],World.ownsMap_made _ _ _ _,ZqI.start⟩
 case round=>
  obtain⟨k,rfl,hk,hb,D,ho,hsum⟩:=hrel;have HB:=Zab hb;have HSUM:=Zab hsum;clear hb hsum
  by_cases hlt:k < Os.length
  . obtain⟨b,off,rfl,hbw,-,hc⟩:=HV.o.full' (by omega)
    obtain⟨hs,vv0,vv1,hcell,hv0,hv1⟩:=hc k hlt;obtain⟨c0,c1,c2,c3,c4,c5,c6⟩:=hcell.below HB.o hbw;obtain⟨va,vc,rfl⟩:=hv0.at.form';obtain⟨ha,hc',rfl⟩:=hv1.at.form';have HZ:=Zab hs;have HO:=Zab ho;have HTK:=Zab (List.take_succ_eq_append_getElem hlt);clear hc hcell hs hv0 hv1 ho;go_wp2_with fail;refine (Zb8 Os[k] _ _ _ _ _ _ _).mono ?_;rintro e w1 ⟨rfl,hb1⟩;have HB1:Hd (Zw_ w w1):=(HB.o.trans ((Zac _ _).mono HB.o.size)).trans (hb1.mono (HB.o.trans ((Zac _ _).mono HB.o.size)).size);have ho1:w1.ownsMap prog 153 (plainElem prog 3) w.heap.size k D:=(HO.o.alloc _).kept (ZaB hb1) (by simp);clear hb1
    go_wp2_with (at_mapUpdate;refine wpList_mapUpdate_own _ rfl _ _ _ 146 rfl 153 3 ZcB underlying146 _ w.heap.size k _ rfl ho1 (by unfold maxLen;omega) _ _ _ rfl rfl (Zdb.mk' HZ.o.s0 HZ.o.s1) _ [] (plainElem_int underlying3 (WalkArith.wf_i64 (by omega))) ?_;intro w2 ho2 hg2;have HO2:=Zab ho2;have HG2:=Zab hg2;clear ho2 hg2);go_roundw
    . exact⟨k+1,by go_num,by omega,ZbR HB1.o HG2.o Zl_,_,HO2.o,by rw [HTK.o];exact HSUM.o.step _ HZ.o _⟩
    . simp [intOf];omega
  . have he:k=Os.length:=by omega
    subst he;have HT:Hd (Os.take Os.length=Os):=List.take_length;have HO:=Zab ho;clear ho;go_wp2;go_ret;exact⟨rfl,HB.o,D,HO.o,HT.o ▸ HSUM.o⟩
end
section
open Go.RowKit Go.Deep Go.Shelf Go.Maps
variable {W W':World} {pb n:Nat}
attribute [local go_sem] Oper.semAt_some
def ZcR (Os:List Ob) (t:Tie):Bool:=Os.any (ZgS t.2.2.1 t.2.2.2)
def Zia (Os:List Ob) (Fs:List Fd) (V:List Zy_):Bool:=(ZdD Fs V Fs.length).all (ZcR Os)
theorem Zqk (Fs:List Fd) (V:List Zy_) (k d:Nat):∃ R,ZdD Fs V (k+d)=ZdD Fs V k ++ R:=by
 induction d with
 | zero=>exact⟨[],by simp⟩
 | succ d ih=>
  obtain⟨R,hR⟩:=ih;rw [<- Nat.add_assoc,ZdD,hR,List.append_assoc];exact⟨_,rfl⟩
theorem Zqj {Os:List Ob}{Fs:List Fd}{V:List Zy_}{k:Nat} (hk:k<=Fs.length) (h:(ZdD Fs V k).all (ZcR Os)=false):Zia Os Fs V=false:=by
 obtain⟨R,hR⟩:=Zqk Fs V k (Fs.length - k);rw [show k+(Fs.length - k)=Fs.length by omega] at hR;unfold Zia;rw [hR,List.all_append,h,Bool.false_and]
def ZgN (x:Tie):Tie:=(x.1,x.2.1,Zey x.2.2.1,Zey x.2.2.2)
theorem Zfr {lo:Nat}{w:World}{fv vv:Value}{Fs:List Fd}{V:List Zy_} (hF:Zau lo w fv Fs) (hV:Zaf w vv V):∀ (k:Nat),∀ t ∈ ZdD Fs V k,ZgN t=t:=by
 intro k
 induction k with
 | zero=>intro t ht;simp [ZdD] at ht
 | succ k ih=>
  intro t ht;rw [ZdD] at ht
  rcases List.mem_append.1 ht with ht | ht
  . exact ih t ht
  . split at ht
    . rename_i f s hf hs
      unfold Zfg at ht
      split at ht
      . simp at ht
        subst ht
        have h1:f.to.size<=maxLen:=by
         obtain⟨hk,rfl⟩:=List.getElem?_eq_some_iff.1 hf
         rcases hF with ⟨_,_,_,e0⟩ | ⟨b',off',cap',g1,g2,g3,g4,g5,g7⟩
         . simp [e0] at hk
         . exact (g7.2 k hk).1.s5
        have h2:s.size<=maxLen:=by
         have hm:=List.mem_of_getElem? hs
         rcases hV with ⟨_,_,_,e0⟩ | ⟨b',off',cap',g1,g2,g3,g4,g5,g6⟩
         . rw [e0] at hm;cases hm
         . exact g6 s hm
        unfold ZgN;dsimp only;rw [Zez h1,Zez h2]
      . simp at ht
    . simp at ht
theorem ZrA {lo:Nat}{w:World}{fv vv:Value}{Fs:List Fd}{V:List Zy_} (hF:Zau lo w fv Fs) (hV:Zaf w vv V) (Os:List Ob) (k:Nat):(ZdD Fs V k).all (fun t=>ZcR Os (ZgN t))=(ZdD Fs V k).all (ZcR Os):=by
 rw [Bool.eq_iff_iff,List.all_eq_true,List.all_eq_true];exact⟨fun h t ht=>by rw [<- Zfr hF hV k t ht];exact h t ht,fun h t ht=>by rw [Zfr hF hV k t ht];exact h t ht⟩
theorem ZaF.grow {S:Nat->Prop}{B:Nat} (h:W.grownBy W' none):ZaF S B W W':=
 ⟨h.os,h.tape,h.output,h.size,fun k o hk _ _=>(h.block k (Array.getElem?_eq_some_iff.1 hk).1 (by simp)).trans hk⟩
structure ZsW (w:World) (pb n:Nat) (D:DataW Unit) (W:World):Prop where
 own:W.ownsMap prog 153 (plainElem prog 3) pb n D
 ptr:Box W (w.heap.size+1+1) #[.map (some pb)]
 res:Box W (w.heap.size+1+1+1) #[.bool false]
 below:Zw_ w W
theorem ZsW.grow {w:World}{D:DataW Unit}{row:Option Nat} (h:ZsW w pb n D W) (hpb:pb < w.heap.size) (hg:W.grownBy W' row) (hr:∀ r,row=some r->w.heap.size+6<=r):ZsW w pb n D W':=
 ⟨h.own.kept hg (fun e=>by have:=hr _ e.symm;omega),h.ptr.of_block (hg.block _ h.ptr.lt (fun e=>by have:=hr _ e.symm;omega)),h.res.of_block (hg.block _ h.res.lt (fun e=>by have:=hr _ e.symm;omega)),
  h.below.trans ⟨hg.os,hg.tape,hg.output,hg.size,fun k hk=>hg.block k (by have:=h.below.size;omega) (fun e=>by have:=hr _ e.symm;omega)⟩⟩
section
variable (lo:Nat) (sk:Zy_) (fv:Value) (Fs:List Fd) (kind nm team:Zy_) (vv hv:Value) (en:Bool) (ver:Int) (V Ho:List Zy_) (Os:List Ob) (w:World)
theorem ZmB {D:DataW Unit} (hF:Zau lo w fv Fs) (hV:Zaf w vv V) (hH:Zaf w hv Ho) (hl:Fs.length=V.length) (n1:V.length<=1048576) (hown:w.ownsMap prog 153 (plainElem prog 3) pb n D) (hp:ZqI Os D) :
 Calls prog 213 #[.agg #[.string sk,fv],.agg #[.string kind,.string nm,.string team,vv,.bool en,hv,.int .i64 ver],.map (some pb)] w
  fun e w'=>e=.returned (.bool (Zia Os Fs V))/\Zw_ w w':=by
 have HF:=Zab hF;have HV:=Zab hV;have HO:=Zab hown;have HP:=Zab hp;have HL:=Zab hl;have HN:Hd (Fs.length<=1048576):=by unfold Hd;omega
 have hpb:pb < w.heap.size:=hown.lt
 have HCUT:=Zab (ZrA hF hV Os);obtain⟨fa,fcap,rfl⟩:=hF.form;obtain⟨va,vcap,rfl⟩:=hV.form';obtain⟨ha,hcap,rfl⟩:=hH.form';clear hF hV hH hown hp hl n1;refine (callsIn_wide (n:=5)).1 ?_;refine callsIn_of_wp_marks func213 rfl trivial ?_ rfl;simp only [ntmps213,List.size_toArray,List.length_cons,List.length_nil,Nat.reduceAdd,Nat.reduceSub,Array.replicate_succ,Array.replicate_zero,List.push_toArray,List.append_toArray,List.nil_append,List.cons_append]
 gi_wp2_with fail
 refine⟨trivial,(Zql sk kind nm team en ver _ Fence.wide _ trivial rfl fa Fs.length fcap va V.length vcap ha Ho.length hcap).mono ?_⟩;rintro e w1 ⟨rfl,hw1⟩
 obtain⟨wl,hwl,HX1,HX2,HT,hsz⟩:∃ wl,wl=w1/\
  Hd (Box wl (w.heap.size+1+1+1+1) #[.string sk,.slice fa Fs.length fcap])/\Hd (Box wl (w.heap.size+1+1+1+1+1) #[.string kind,.string nm,.string team,.slice va V.length vcap,.bool en,.slice ha Ho.length hcap,.int .i64 ver])/\
  Hd (ZsW w pb n D wl)/\wl.heap.size=w.heap.size+6:=by
  subst hw1;refine⟨_,rfl,(Box.new _ _ _ _ (by simp)).on (Zac _ _),Box.new _ _ _ _ (by simp),⟨?_,?_,?_,?_⟩,by simp⟩
  . exact (((((HO.o.alloc _).alloc _).alloc _).alloc _).alloc _).alloc _
  . exact (((Box.new _ _ _ _ (by simp)).on (Zac _ _)).on (Zac _ _)).on (Zac _ _)
  . exact ((Box.new _ _ _ _ (by simp)).on (Zac _ _)).on (Zac _ _)
  . exact (((((Zac _ _).trans ((Zac _ _).mono (by simp))).trans ((Zac _ _).mono (by simp;omega))).trans ((Zac _ _).mono (by simp;omega))).trans ((Zac _ _).mono (by simp;omega))).trans ((Zac _ _).mono (by simp;omega))
 subst hwl;clear hw1
 gi_wp2_with fail
 refine wpIn_rangeFunc_ownH rfl (by decide) (gf:=227) (lb:=#[.pointer (some ⟨w.heap.size+1+1+1+1,0,none⟩),.pointer (some ⟨w.heap.size+1+1+1+1+1,0,none⟩)]) rfl trivial (enters_of func227 (by kernel_rfl) rfl)
  (ZiQ lo sk _ Fs kind nm team _ _ en ver V wl _ (by decide) (fun _=>False) w _ _ HT.o.below HF.o HV.o HL.o HN.o (fun _ _ h=>h) (fun h=>h) HX1.o HX2.o)
  ZaF.trans ZaF.put Zb_ (fun _=>rfl)
  (fun pre W=>ZsW w pb n D W/\pre.all (fun t=>ZcR Os (ZgN t))=true)
  (fun c pre W=>c=.ret/\(W.cell? ⟨w.heap.size+1+1+1,0,none⟩=some (.bool false)/\w.heap.size<=W.heap.size/\Zw_ w W)/\pre.all (fun t=>ZcR Os (ZgN t))=false)
  (fun s A B row hs hg hr=>⟨hs.1.grow hpb hg (fun r e=>by have:=(hr r e).1;omega),hs.2⟩)
  (fun c s A B row hs hg hr=>⟨hs.1,⟨cell_kept hs.2.1.1 hg (fun r e=>(hr r e).2),Nat.le_trans hs.2.1.2.1 hg.size,hs.2.1.2.2.trans ⟨hg.os,hg.tape,hg.output,hg.size,fun k hk=>hg.block k (by have:=hs.2.1.2.1;omega) (fun e=>by have:=(hr _ e.symm).1;omega)⟩⟩,hs.2.2⟩)
  ⟨HT.o,rfl⟩
  (fun x a' W=>∃ β:Nat,a'={ tmps:=#[.agg #[.string sk,.slice fa Fs.length fcap],.agg #[.string kind,.string nm,.string team,.slice va V.length vcap,.bool en,.slice ha Ho.length hcap,.int .i64 ver],.map (some pb),.pointer (some ⟨w.heap.size,0,none⟩),.pointer (some ⟨w.heap.size+1,0,none⟩),.pointer (some ⟨w.heap.size+1+1,0,none⟩),.pointer (some ⟨w.heap.size+1+1+1,0,none⟩),.pointer (some ⟨β,0,none⟩),undef,undef,.agg #[.string sk,.slice fa Fs.length fcap],.agg #[.string kind,.string nm,.string team,.slice va V.length vcap,.bool en,.slice ha Ho.length hcap,.int .i64 ver],.func (.func 227) #[] #[.pointer (some ⟨w.heap.size+1+1+1+1,0,none⟩),.pointer (some ⟨w.heap.size+1+1+1+1+1,0,none⟩)],.agg #[.int .i64 x.1,.int .i64 x.2.1,.string (Zey x.2.2.1),.string (Zey x.2.2.2)],undef,undef,undef,undef,undef,undef,undef,undef,undef],defers:=[] }/\W.cell? ⟨β,2,none⟩=some (.string (Zey x.2.2.1))/\W.cell? ⟨β,3,none⟩=some (.string (Zey x.2.2.2)))
  (fun x a' s A B row hs hg hr=>by
    obtain⟨β,e1,e2,e3⟩:=hs;exact⟨β,e1,cell_kept e2 hg (fun r e=>(hr r e).2),cell_kept e3 hg (fun r e=>(hr r e).2)⟩) ?assign ?body ?done ?stop
 case assign=>
  intro l pre x W K hI hK;have HI:=Zab hI;have HK:=Zab hK;clear hI hK
  gi_wp2
  refine HK.o _ _ ((KeepsOthers.alloc _ _).from _) (ZaF.grow (World.grownBy_alloc _ _ none)) ⟨HI.o.1.grow hpb (World.grownBy_alloc _ _ none) (fun r e=>by cases e),HI.o.2⟩ ⟨W.heap.size,rfl,ZaR _ _ _ _ 2 rfl,ZaR _ _ _ _ 3 rfl⟩
 case body=>
  rintro l pre x a' W hll hrec ⟨hTW,hall⟩ ⟨β,rfl,hc2,hc3⟩ hlen;have HTW:=Zab hTW;have HALL:=Zab hall;obtain⟨v,ps,hrun,hv⟩:=hTW.own.look_ok ZcB underlying146 (Zi1 _) (plainElem_int underlying3 (by decide)) (Zdb.mk' (Zdw x.2.2.1) (Zdw x.2.2.2));obtain⟨c,rfl,hc,hwc⟩:=plainElem_int_inv underlying3 hv;rw [HP.o.has _ _ (Zdw _) (Zdw _)] at hrun;have HE:Hd (ZcR Os (ZgN x)=Os.any (ZgS (Zey x.2.2.1) (Zey x.2.2.2))):=rfl;have p0:=hTW.ptr.cell 0;have r0:=hTW.res.cell 0;have rf:=hTW.res.free 0;simp at p0 r0;clear hv hc hwc hTW hall hrec
  cases hq:Os.any (ZgS (Zey x.2.2.1) (Zey x.2.2.2)) with
  | true=>
   rw [hq] at hrun
   gi_wp2
   exact⟨KeepsFrom.refl _ _,ZaF.refl _ _ _,HTW.o,by rw [List.all_append,HALL.o];simp [HE.o,hq]⟩
  | false=>
   rw [hq] at hrun
   gi_wp2
   exact⟨(KeepsOthers.setCell _ _ _).from _,rfl,⟨World.cell?_setCell_same' _ _ _ (by rw [r0];rfl),by have:=HTW.o.below.size;simpa using this,HTW.o.below.setCell (p:=⟨w.heap.size+1+1+1,0,none⟩) (by simp only [];omega) _⟩,by rw [List.all_append,HALL.o];simp [HE.o,hq]⟩
 case done=>
  rintro Dd ys W hD rfl ⟨hTW,hall⟩ hK;have HTW:=Zab hTW;have HRES:Hd (Zia Os Fs V=true):=(HCUT.o Fs.length).symm.trans hall;have r0:=hTW.res.cell 0;have rf:=hTW.res.free 0;simp at r0;clear hTW hall
  gi_wp2
  have g:=grownBy_setCell' W (w.heap.size+1+1+1) (.bool true);have hK2:(W.setCell ⟨w.heap.size+1+1+1,0,none⟩ (.bool true)).heap[Dd]?=some (.deferred (some [])):=(g.block Dd (Array.getElem?_eq_some_iff.1 hK).1 (fun e=>by have:=Option.some.inj e;(try simp only [] at this);omega)).trans hK;have c1:(W.setCell ⟨w.heap.size+1+1+1,0,none⟩ (.bool true)).cell? ⟨w.heap.size+1+1+1,0,none⟩=some (.bool true):=World.cell?_setCell_same' _ _ _ (by rw [r0];rfl);have HB2:Zw_ w (W.setCell ⟨w.heap.size+1+1+1,0,none⟩ (.bool true)):=HTW.o.below.setCell (p:=⟨w.heap.size+1+1+1,0,none⟩) (by simp only [];omega) _;generalize W.setCell ⟨w.heap.size+1+1+1,0,none⟩ (.bool true)=W2 at*;refine⟨by simp,.inl ⟨_,_,rfl,run_takeDeferred hK2,?_⟩⟩
  have c2:(W2.putObj Dd (.deferred none)).cell? ⟨w.heap.size+1+1+1,0,none⟩=some (.bool true):=(World.cell?_of_block (a:=⟨w.heap.size+1+1+1,0,none⟩) ((grownBy_putObj' W2 Dd _).block _ (World.block_lt_of_cell? _ _ c1) (fun e=>by have:=Option.some.inj e;(try simp only [] at this);omega))).trans c1;refine⟨.bool true,by simp [results,results213,go_sem,c2],by rw [HRES.o],HB2.trans (belowK_b (w:=w) Zl_ W2 Dd _ _ (by omega) hK2 rfl rfl)⟩
 case stop=>
  rintro Dd c pre W hD ⟨k,hk,rfl⟩ ⟨rfl,⟨c1,hz,hB⟩,hall⟩ hK;have HB2:=Zab hB;have HRES:Hd (Zia Os Fs V=false):=Zqj hk (by rw [<- HCUT.o];exact hall);clear hB hall
  gi_wp2
  refine⟨by simp,.inl ⟨_,_,rfl,run_takeDeferred hK,?_⟩⟩;have c2:(W.putObj Dd (.deferred none)).cell? ⟨w.heap.size+1+1+1,0,none⟩=some (.bool false):=(World.cell?_of_block (a:=⟨w.heap.size+1+1+1,0,none⟩) ((grownBy_putObj' W Dd _).block _ (World.block_lt_of_cell? _ _ c1) (fun e=>by have:=Option.some.inj e;(try simp only [] at this);omega))).trans c1;refine⟨.bool false,by simp [results,results213,go_sem,c2],by rw [HRES.o],HB2.o.trans (belowK_b (w:=w) Zl_ W Dd _ _ (by omega) hK rfl rfl)⟩
end
end
open Go.RowKit Go.Deep
theorem Zqw {L:List Int} (h:vAt L 0=true):∀ i,i < 1->vAt L i=true:=fun i hi=>by
 have e:i=0:=by omega
 subst e;exact h
theorem Zl8 (lo:Nat) (v:Value) (L:List Int) (w:World) (hv:Zat lo w v L) :
 Calls prog 245 #[v] w fun e w'=>e=.returned (.bool (Zov L))/\w'=w:=by
 by_cases hL:L=[]
 . subst hL
   obtain⟨a,cap,rfl⟩:=hv.form;clear hv;go_enter func245,ntmps245;go_wp2
   go_loop [7] (fun i=>i=.int .i64 0) (fun _=>0)
   case atStart=>rfl
   case round=>
    subst hrel;go_wp2;go_ret;exact⟨rfl,rfl⟩
 . obtain⟨b,off,cap,rfl,hm,hbw,hc⟩:=hv.full hL
   clear hv;unfold maxLen at hm;go_enter func245,ntmps245;go_wp2
   go_loop [7] (fun i=>∃ k:Nat,i=.int .i64 k/\k<=L.length/\∀ i,i < k->vAt L i=true) (fun i=>L.length - (intOf i).toNat)
   case atStart=>exact⟨0,rfl,by omega,fun i h=>by omega⟩
   case round=>
    obtain⟨k,rfl,hk,hall⟩:=hrel;have HA:=Zab hall;clear hall
    by_cases hlt:k < L.length
    . have c0:=hc k hlt
      by_cases h1:L[k] < 1
      . have HR:Hd (Zov L=false):=ZeL hlt (ZiU hlt (by unfold inB;simp;omega))
        go_wp2;go_ret;exact⟨Zaa HR.o.symm,rfl⟩
      by_cases h5:5 < L[k]
      . have HR:Hd (Zov L=false):=ZeL hlt (ZiU hlt (by unfold inB;simp;omega))
        go_wp2;go_ret;exact⟨Zaa HR.o.symm,rfl⟩
      have HI:Hd (inB 1 5 L[k]=true):=by unfold Hd inB;simp;omega
      cases k with
      | zero=>
       have c0:w.cell? ⟨b,off,none⟩=some (.int .i64 L[0]):=by simpa using c0
       have HX:Hd (vAt L 0=true):=by unfold Hd;rw [ZfY hlt];exact HI.o
       go_wp2
       go_round
       . exact⟨1,by go_num,by omega,Zqw HX.o⟩
       . simp [intOf];omega
      | succ j=>
       have cj:=hc j (by omega)
       by_cases hls:L[j] < L[j+1]
       . have HX:Hd (vAt L (j+1)=true):=by unfold Hd;rw [ZcC hlt,HI.o,decide_eq_true hls];rfl
         go_wp2
         go_round
         case rel=>exact⟨j+2,by go_num,by omega,fun i hi=>by
                    by_cases e:i=j+1
                    . subst e;exact HX.o
                    . exact HA.o i (by omega)⟩
         . simp [intOf];omega
       . have HR:Hd (Zov L=false):=ZeL hlt (by rw [ZcC hlt,decide_eq_false hls];simp)
         go_wp2;go_ret;exact⟨Zaa HR.o.symm,rfl⟩
    . have HR:Hd (Zov L=decide (0 < L.length)):=ZhN (by omega) HA.o
      have hpos:0 < L.length:=List.length_pos_iff.2 hL
      have HT:Hd (decide (0 < L.length)=true):=by unfold Hd;simpa using hpos
      go_wp2;go_ret;exact⟨Zaa (by rw [HR.o,HT.o]),rfl⟩
theorem Zkh (lo:Nat) (r:Ru) (vv:Value) (w:World) (hv:Zat lo w vv r.vb) (hz:Zg6 r) :
 Calls prog 217 #[.agg #[vv,.string r.kd,.string r.tm,.string r.pf]] w fun e w'=>e=.returned (.bool (ZaW r))/\Zw_ w w':=by
 have HV:=Zab hv;have HZ:=Zab hz;obtain⟨a,cap,rfl⟩:=hv.form;clear hv hz;have hsz:=HZ.o.s3;unfold maxLen at hsz;go_enter func217,ntmps217;go_wp2_with fail;generalize hWa:w.alloc _=Wa;have HBa:Hd (Zw_ w Wa):=by rw [<- hWa];exact Zac _ _
 have FA:Hd (Box Wa w.heap.size #[.slice a r.vb.length cap,.string r.kd,.string r.tm,.string r.pf]):=by rw [<- hWa];exact Box.new _ _ _ _ rfl
 clear hWa;refine (Zl8 lo _ r.vb _ (HV.o.below HBa.o)).mono ?_;rintro e w1 ⟨rfl,rfl⟩;have a1:w1.cell? ⟨w.heap.size,1,none⟩=some (.string r.kd):=FA.o.cell 1;have a2:w1.cell? ⟨w.heap.size,2,none⟩=some (.string r.tm):=FA.o.cell 2;have a3:w1.cell? ⟨w.heap.size,3,none⟩=some (.string r.pf):=FA.o.cell 3
 cases q1:Zov r.vb with
 | false=>
  have HR:Hd (ZaW r=false):=by unfold Hd ZaW;rw [q1];rfl
  go_wp2;go_ret;exact⟨Zaa HR.o.symm,HBa.o⟩
 | true=>
  go_wp2_with fail;refine (ZbJ r.kd _ HZ.o.s1).mono ?_;rintro e w2 ⟨rfl,rfl⟩
  cases q2:Zai r.kd with
  | false=>
   have HR:Hd (ZaW r=false):=by unfold Hd ZaW;rw [q1,q2];rfl
   go_wp2;go_ret;exact⟨Zaa HR.o.symm,HBa.o⟩
  | true=>
   go_wp2_with fail;refine (ZbJ r.tm _ HZ.o.s2).mono ?_;rintro e w3 ⟨rfl,rfl⟩
   cases q3:Zai r.tm with
   | false=>
    have HR:Hd (ZaW r=false):=by unfold Hd ZaW;rw [q1,q2,q3];rfl
    go_wp2;go_ret;exact⟨Zaa HR.o.symm,HBa.o⟩
   | true=>
    by_cases q4:(r.pf.size:Int)<=16
    . have HR:Hd (ZaW r=Zf1 Zaw r.pf):=by unfold Hd ZaW;rw [q1,q2,q3,decide_eq_true q4];rfl
      go_wp2_with fail;refine (ZfR r.pf _ HZ.o.s3).mono ?_;rintro e w4 ⟨rfl,rfl⟩;generalize Zf1 Zaw r.pf=Q at*;go_wp2;go_ret;exact⟨Zaa HR.o.symm,HBa.o⟩
    . have HR:Hd (ZaW r=false):=by unfold Hd ZaW;rw [decide_eq_false q4];simp
      go_wp2;go_ret;exact⟨Zaa HR.o.symm,HBa.o⟩
end Go.Proofs.YtmappejlmapboaaGreat
