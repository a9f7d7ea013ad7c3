import Derived.Test.YtmappejlmapboaaGreatV21
import Derived.Test.YtmappejlmapboaaGreatV27
set_option maxHeartbeats 16000000
set_option maxRecDepth 100000
open Go.Proofs.Tryz
namespace Go.Proofs.YtmappejlmapboaaGreat
open Go.RowKit Go.Deep Go.Shelf Go.Maps
variable {W W':World} {pb n:Nat}
attribute [local go_sem] Oper.semAt_some
def ZcZ (Os:List Ob) (t:Tie):Bool:=Os.any (Zgo t.2.2.1 t.2.2.2)
def ZiQ (Os:List Ob) (Fs:List Fd) (V:List Zy_):Bool:=(Zdw Fs V Fs.length).all (ZcZ Os)
theorem ZoD (Fs:List Fd) (V:List Zy_) (k d:Nat):∃ R,Zdw Fs V (k+d)=Zdw Fs V k ++ R:=by
 induction d with
 | zero=>exact⟨[],by simp⟩
 | succ d ih=>
  obtain⟨R,hR⟩:=ih;rw [<- Nat.add_assoc,Zdw,hR,List.append_assoc];exact⟨_,rfl⟩
theorem ZoC {Os:List Ob}{Fs:List Fd}{V:List Zy_}{k:Nat} (hk:k<=Fs.length) (h:(Zdw Fs V k).all (ZcZ Os)=false):ZiQ Os Fs V=false:=by
 obtain⟨R,hR⟩:=ZoD Fs V k (Fs.length - k);rw [show k+(Fs.length - k)=Fs.length by omega] at hR;unfold ZiQ;rw [hR,List.all_append,h,Bool.false_and]
def ZiP (x:Tie):Tie:=(x.1,x.2.1,Zd3 x.2.2.1,Zd3 x.2.2.2)
theorem ZeW {lo:Nat}{w:World}{fv vv:Value}{Fs:List Fd}{V:List Zy_} (hF:Zau lo w fv Fs) (hV:Zaf w vv V):∀ (k:Nat),∀ t ∈ Zdw Fs V k,ZiP t=t:=by
 intro k
 induction k with
 | zero=>intro t ht;simp [Zdw] at ht
 | succ k ih=>
  intro t ht;rw [Zdw] at ht
  rcases List.mem_append.1 ht with ht | ht
  . exact ih t ht
  . split at ht
    . rename_i f s hf hs
      unfold Zfs at ht
      split at ht
      . simp at ht
        subst ht
        have h1:f.to.size<=maxLen:=by
         obtain⟨hk,rfl⟩:=List.getElem?_eq_some_iff.1 hf
         rcases hF with ⟨_,_,_,e0⟩ | ⟨b',off',cap',g1,g2,g3,g4,g5,g7⟩
         . simp [e0] at hk
         . exact (g7.2 k hk).1.s5
        have h2:s.size<=maxLen:=by
         have hm:=List.mem_of_getElem? hs
         rcases hV with ⟨_,_,_,e0⟩ | ⟨b',off',cap',g1,g2,g3,g4,g5,g6⟩
         . rw [e0] at hm;cases hm
         . exact g6 s hm
        unfold ZiP;dsimp only;rw [Zd5 h1,Zd5 h2]
      . simp at ht
    . simp at ht
theorem Zp2 {lo:Nat}{w:World}{fv vv:Value}{Fs:List Fd}{V:List Zy_} (hF:Zau lo w fv Fs) (hV:Zaf w vv V) (Os:List Ob) (k:Nat):(Zdw Fs V k).all (fun t=>ZcZ Os (ZiP t))=(Zdw Fs V k).all (ZcZ Os):=by
 rw [Bool.eq_iff_iff,List.all_eq_true,List.all_eq_true];exact⟨fun h t ht=>by rw [<- ZeW hF hV k t ht];exact h t ht,fun h t ht=>by rw [ZeW hF hV k t ht];exact h t ht⟩
theorem ZaD.grow {S:Nat->Prop}{B:Nat} (h:W.grownBy W' none):ZaD S B W W':=
 ⟨h.os,h.tape,h.output,h.size,fun k o hk _ _=>(h.block k (Array.getElem?_eq_some_iff.1 hk).1 (by simp)).trans hk⟩
structure Zry (w:World) (pb n:Nat) (D:DataW Unit) (W:World):Prop where
 own:W.ownsMap prog 153 (plainElem prog 3) pb n D
 ptr:Box W (w.heap.size+1+1) #[.map (some pb)]
 res:Box W (w.heap.size+1+1+1) #[.bool false]
 below:Zw_ w W
theorem Zry.grow {w:World}{D:DataW Unit}{row:Option Nat} (h:Zry w pb n D W) (hpb:pb < w.heap.size) (hg:W.grownBy W' row) (hr:∀ r,row=some r->w.heap.size+6<=r):Zry w pb n D W':=
 ⟨h.own.kept hg (fun e=>by have:=hr _ e.symm;omega),h.ptr.of_block (hg.block _ h.ptr.lt (fun e=>by have:=hr _ e.symm;omega)),h.res.of_block (hg.block _ h.res.lt (fun e=>by have:=hr _ e.symm;omega)),
  h.below.trans ⟨hg.os,hg.tape,hg.output,hg.size,fun k hk=>hg.block k (by have:=h.below.size;omega) (fun e=>by have:=hr _ e.symm;omega)⟩⟩
section
variable (lo:Nat) (sk:Zy_) (fv:Value) (Fs:List Fd) (kind nm team:Zy_) (vv hv:Value) (en:Bool) (ver:Int) (V Ho:List Zy_) (Os:List Ob) (w:World)
theorem Zln {D:DataW Unit} (hF:Zau lo w fv Fs) (hV:Zaf w vv V) (hH:Zaf w hv Ho) (hl:Fs.length=V.length) (n1:V.length<=1048576) (hown:w.ownsMap prog 153 (plainElem prog 3) pb n D) (hp:Zo0 Os D) :
 Calls prog 213 #[.agg #[.string sk,fv],.agg #[.string kind,.string nm,.string team,vv,.bool en,hv,.int .i64 ver],.map (some pb)] w
  fun e w'=>e=.returned (.bool (ZiQ Os Fs V))/\Zw_ w w':=by
 have HF:=Zab hF;have HV:=Zab hV;have HO:=Zab hown;have HP:=Zab hp;have HL:=Zab hl;have HN:Hd (Fs.length<=1048576):=by unfold Hd;omega
 have hpb:pb < w.heap.size:=hown.lt
 have HCUT:=Zab (Zp2 hF hV Os);obtain⟨fa,fcap,rfl⟩:=hF.form;obtain⟨va,vcap,rfl⟩:=hV.form';obtain⟨ha,hcap,rfl⟩:=hH.form';clear hF hV hH hown hp hl n1;refine (callsIn_wide (n:=5)).1 ?_;refine callsIn_of_wp_marks func213 rfl trivial ?_ rfl;simp only [ntmps213,List.size_toArray,List.length_cons,List.length_nil,Nat.reduceAdd,Nat.reduceSub,Array.replicate_succ,Array.replicate_zero,List.push_toArray,List.append_toArray,List.nil_append,List.cons_append]
 gi_wp2_with fail
 refine⟨trivial,(ZoE sk kind nm team en ver _ Fence.wide _ trivial rfl fa Fs.length fcap va V.length vcap ha Ho.length hcap).mono ?_⟩;rintro e w1 ⟨rfl,hw1⟩
 obtain⟨wl,hwl,HX1,HX2,HT,hsz⟩:∃ wl,wl=w1/\
  Hd (Box wl (w.heap.size+1+1+1+1) #[.string sk,.slice fa Fs.length fcap])/\Hd (Box wl (w.heap.size+1+1+1+1+1) #[.string kind,.string nm,.string team,.slice va V.length vcap,.bool en,.slice ha Ho.length hcap,.int .i64 ver])/\
  Hd (Zry w pb n D wl)/\wl.heap.size=w.heap.size+6:=by
  subst hw1;refine⟨_,rfl,(Box.new _ _ _ _ (by simp)).on (Zac _ _),Box.new _ _ _ _ (by simp),⟨?_,?_,?_,?_⟩,by simp⟩
  . exact (((((HO.o.alloc _).alloc _).alloc _).alloc _).alloc _).alloc _
  . exact (((Box.new _ _ _ _ (by simp)).on (Zac _ _)).on (Zac _ _)).on (Zac _ _)
  . exact ((Box.new _ _ _ _ (by simp)).on (Zac _ _)).on (Zac _ _)
  . exact (((((Zac _ _).trans ((Zac _ _).mono (by simp))).trans ((Zac _ _).mono (by simp;omega))).trans ((Zac _ _).mono (by simp;omega))).trans ((Zac _ _).mono (by simp;omega))).trans ((Zac _ _).mono (by simp;omega))
 subst hwl;clear hw1
 gi_wp2_with fail
 refine wpIn_rangeFunc_ownH rfl (by decide) (gf:=227) (lb:=#[.pointer (some ⟨w.heap.size+1+1+1+1,0,none⟩),.pointer (some ⟨w.heap.size+1+1+1+1+1,0,none⟩)]) rfl trivial (enters_of func227 (by kernel_rfl) rfl)
  (Zh0 lo sk _ Fs kind nm team _ _ en ver V wl _ (by decide) (fun _=>False) w _ _ HT.o.below HF.o HV.o HL.o HN.o (fun _ _ h=>h) (fun h=>h) HX1.o HX2.o)
  ZaD.trans ZaD.put Zb_ (fun _=>rfl)
  (fun pre W=>Zry w pb n D W/\pre.all (fun t=>ZcZ Os (ZiP t))=true)
  (fun c pre W=>c=.ret/\(W.cell? ⟨w.heap.size+1+1+1,0,none⟩=some (.bool false)/\w.heap.size<=W.heap.size/\Zw_ w W)/\pre.all (fun t=>ZcZ Os (ZiP t))=false)
  (fun s A B row hs hg hr=>⟨hs.1.grow hpb hg (fun r e=>by have:=(hr r e).1;omega),hs.2⟩)
  (fun c s A B row hs hg hr=>⟨hs.1,⟨cell_kept hs.2.1.1 hg (fun r e=>(hr r e).2),Nat.le_trans hs.2.1.2.1 hg.size,hs.2.1.2.2.trans ⟨hg.os,hg.tape,hg.output,hg.size,fun k hk=>hg.block k (by have:=hs.2.1.2.1;omega) (fun e=>by have:=(hr _ e.symm).1;omega)⟩⟩,hs.2.2⟩)
  ⟨HT.o,rfl⟩
  (fun x a' W=>∃ β:Nat,a'={ tmps:=#[.agg #[.string sk,.slice fa Fs.length fcap],.agg #[.string kind,.string nm,.string team,.slice va V.length vcap,.bool en,.slice ha Ho.length hcap,.int .i64 ver],.map (some pb),.pointer (some ⟨w.heap.size,0,none⟩),.pointer (some ⟨w.heap.size+1,0,none⟩),.pointer (some ⟨w.heap.size+1+1,0,none⟩),.pointer (some ⟨w.heap.size+1+1+1,0,none⟩),.pointer (some ⟨β,0,none⟩),undef,undef,.agg #[.string sk,.slice fa Fs.length fcap],.agg #[.string kind,.string nm,.string team,.slice va V.length vcap,.bool en,.slice ha Ho.length hcap,.int .i64 ver],.func (.func 227) #[] #[.pointer (some ⟨w.heap.size+1+1+1+1,0,none⟩),.pointer (some ⟨w.heap.size+1+1+1+1+1,0,none⟩)],.agg #[.int .i64 x.1,.int .i64 x.2.1,.string (Zd3 x.2.2.1),.string (Zd3 x.2.2.2)],undef,undef,undef,undef,undef,undef,undef,undef,undef],defers:=[] }/\W.cell? ⟨β,2,none⟩=some (.string (Zd3 x.2.2.1))/\W.cell? ⟨β,3,none⟩=some (.string (Zd3 x.2.2.2)))
  (fun x a' s A B row hs hg hr=>by
    obtain⟨β,e1,e2,e3⟩:=hs;exact⟨β,e1,cell_kept e2 hg (fun r e=>(hr r e).2),cell_kept e3 hg (fun r e=>(hr r e).2)⟩) ?assign ?body ?done ?stop
 case assign=>
  intro l pre x W K hI hK;have HI:=Zab hI;have HK:=Zab hK;clear hI hK
  gi_wp2
  refine HK.o _ _ ((KeepsOthers.alloc _ _).from _) (ZaD.grow (World.grownBy_alloc _ _ none)) ⟨HI.o.1.grow hpb (World.grownBy_alloc _ _ none) (fun r e=>by cases e),HI.o.2⟩ ⟨W.heap.size,rfl,Zbb _ _ _ _ 2 rfl,Zbb _ _ _ _ 3 rfl⟩
 case body=>
  rintro l pre x a' W hll hrec ⟨hTW,hall⟩ ⟨β,rfl,hc2,hc3⟩ hlen;have HTW:=Zab hTW;have HALL:=Zab hall;obtain⟨v,ps,hrun,hv⟩:=hTW.own.look_ok Zeo underlying146 (Zh9 _) (plainElem_int underlying3 (by decide)) (Zff.mk' (Zd4 x.2.2.1) (Zd4 x.2.2.2));obtain⟨c,rfl,hc,hwc⟩:=plainElem_int_inv underlying3 hv;rw [HP.o.has _ _ (Zd4 _) (Zd4 _)] at hrun;have HE:Hd (ZcZ Os (ZiP x)=Os.any (Zgo (Zd3 x.2.2.1) (Zd3 x.2.2.2))):=rfl;have p0:=hTW.ptr.cell 0;have r0:=hTW.res.cell 0;have rf:=hTW.res.free 0;simp at p0 r0;clear hv hc hwc hTW hall hrec
  cases hq:Os.any (Zgo (Zd3 x.2.2.1) (Zd3 x.2.2.2)) with
  | true=>
   rw [hq] at hrun
   gi_wp2
   exact⟨KeepsFrom.refl _ _,ZaD.refl _ _ _,HTW.o,by rw [List.all_append,HALL.o];simp [HE.o,hq]⟩
  | false=>
   rw [hq] at hrun
   gi_wp2
   exact⟨(KeepsOthers.setCell _ _ _).from _,rfl,⟨World.cell?_setCell_same' _ _ _ (by rw [r0];rfl),by have:=HTW.o.below.size;simpa using this,HTW.o.below.setCell (p:=⟨w.heap.size+1+1+1,0,none⟩) (by simp only [];omega) _⟩,by rw [List.all_append,HALL.o];simp [HE.o,hq]⟩
 case done=>
  rintro Dd ys W hD rfl ⟨hTW,hall⟩ hK;have HTW:=Zab hTW;have HRES:Hd (ZiQ Os Fs V=true):=(HCUT.o Fs.length).symm.trans hall;have r0:=hTW.res.cell 0;have rf:=hTW.res.free 0;simp at r0;clear hTW hall
  gi_wp2
  have g:=grownBy_setCell' W (w.heap.size+1+1+1) (.bool true);have hK2:(W.setCell ⟨w.heap.size+1+1+1,0,none⟩ (.bool true)).heap[Dd]?=some (.deferred (some [])):=(g.block Dd (Array.getElem?_eq_some_iff.1 hK).1 (fun e=>by have:=Option.some.inj e;(try simp only [] at this);omega)).trans hK;have c1:(W.setCell ⟨w.heap.size+1+1+1,0,none⟩ (.bool true)).cell? ⟨w.heap.size+1+1+1,0,none⟩=some (.bool true):=World.cell?_setCell_same' _ _ _ (by rw [r0];rfl);have HB2:Zw_ w (W.setCell ⟨w.heap.size+1+1+1,0,none⟩ (.bool true)):=HTW.o.below.setCell (p:=⟨w.heap.size+1+1+1,0,none⟩) (by simp only [];omega) _;generalize W.setCell ⟨w.heap.size+1+1+1,0,none⟩ (.bool true)=W2 at*;refine⟨by simp,.inl ⟨_,_,rfl,run_takeDeferred hK2,?_⟩⟩
  have c2:(W2.putObj Dd (.deferred none)).cell? ⟨w.heap.size+1+1+1,0,none⟩=some (.bool true):=(World.cell?_of_block (a:=⟨w.heap.size+1+1+1,0,none⟩) ((grownBy_putObj' W2 Dd _).block _ (World.block_lt_of_cell? _ _ c1) (fun e=>by have:=Option.some.inj e;(try simp only [] at this);omega))).trans c1;refine⟨.bool true,by simp [results,results213,go_sem,c2],by rw [HRES.o],HB2.trans (belowK_b (w:=w) Zl_ W2 Dd _ _ (by omega) hK2 rfl rfl)⟩
 case stop=>
  rintro Dd c pre W hD ⟨k,hk,rfl⟩ ⟨rfl,⟨c1,hz,hB⟩,hall⟩ hK;have HB2:=Zab hB;have HRES:Hd (ZiQ Os Fs V=false):=ZoC hk (by rw [<- HCUT.o];exact hall);clear hB hall
  gi_wp2
  refine⟨by simp,.inl ⟨_,_,rfl,run_takeDeferred hK,?_⟩⟩;have c2:(W.putObj Dd (.deferred none)).cell? ⟨w.heap.size+1+1+1,0,none⟩=some (.bool false):=(World.cell?_of_block (a:=⟨w.heap.size+1+1+1,0,none⟩) ((grownBy_putObj' W Dd _).block _ (World.block_lt_of_cell? _ _ c1) (fun e=>by have:=Option.some.inj e;(try simp only [] at this);omega))).trans c1;refine⟨.bool false,by simp [results,results213,go_sem,c2],by rw [HRES.o],HB2.o.trans (belowK_b (w:=w) Zl_ W Dd _ _ (by omega) hK rfl rfl)⟩
end
end Go.Proofs.YtmappejlmapboaaGreat
