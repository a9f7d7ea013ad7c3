import Derived.Test.YtcfjmagkinpaeaaGreatGJA
import Derived.Test.YtcfjmagkinpaeaaGreatGEE
import Derived.Test.YtcfjmagkinpaeaaGreatGNZ
import Derived.Test.YtcfjmagkinpaeaaGreatGOPB
set_option maxHeartbeats 16000000
set_option maxRecDepth 100000
open Go.Proofs.Tryz
namespace Go.Proofs.YtcfjmagkinpaeaaGreat
open Go.RowKit Go.Deep Go.Shelf Go.Maps
attribute [local go_sem] Oper.semAt_some
def Zde (Os:List Ob) (t:Tie):Bool:=Os.any (Zf9 t.2.2.1 t.2.2.2)
def ZiP (Os:List Ob) (Fs:List Fd) (V:List Zy_):Bool:=(Zei Fs V Fs.length).all (Zde Os)
theorem ZoD (Fs:List Fd) (V:List Zy_) (k d:Nat):∃ R,Zei Fs V (k+d)=Zei Fs V k ++ R:=by
 induction d with
 | zero=>exact⟨[],by simp⟩
 | succ d ih=>
  obtain⟨R,hR⟩:=ih;rw [← Nat.add_assoc,Zei,hR,List.append_assoc];exact⟨_,rfl⟩
theorem ZoC {Os:List Ob} {Fs:List Fd} {V:List Zy_} {k:Nat} (hk:k≤Fs.length) (h:(Zei Fs V k).all (Zde Os)=false):ZiP Os Fs V=false:=by
 obtain⟨R,hR⟩:=ZoD Fs V k (Fs.length - k);rw [show k+(Fs.length - k)=Fs.length by omega] at hR;unfold ZiP;rw [hR,List.all_append,h,Bool.false_and]
def Zse (x:Tie):Tie:=(x.1,x.2.1,Zha x.2.2.1,Zha x.2.2.2)
theorem Zg1 {lo:Nat} {w:World} {fv vv:Value} {Fs:List Fd} {V:List Zy_} (hF:Zav lo w fv Fs) (hV:Zaf w vv V):∀ (k:Nat),∀ t ∈ Zei Fs V k,Zse t=t:=by
 intro k
 induction k with
 | zero=>intro t ht;simp [Zei] at ht
 | succ k ih=>
  intro t ht;rw [Zei] at ht
  rcases List.mem_append.1 ht with ht | ht
  · exact ih t ht
  · split at ht
    · rename_i f s hf hs
      unfold ZfV at ht
      split at ht
      · simp at ht
        subst ht
        have h1:f.to.size≤maxLen:=by
         obtain⟨hk,rfl⟩:=List.getElem?_eq_some_iff.1 hf
         rcases hF with ⟨_,_,_,e0⟩ | ⟨b',off',cap',g1,g2,g3,g4,g5,g7⟩
         · simp [e0] at hk
         · exact (g7.2 k hk).1.s5
        have h2:s.size≤maxLen:=by
         have hm:=List.mem_of_getElem? hs
         rcases hV with ⟨_,_,_,e0⟩ | ⟨b',off',cap',g1,g2,g3,g4,g5,g6⟩
         · rw [e0] at hm;cases hm
         · exact g6 s hm
        unfold Zse;dsimp only;rw [Zd9 h1,Zd9 h2]
      · simp at ht
    · simp at ht
theorem Zqr {lo:Nat} {w:World} {fv vv:Value} {Fs:List Fd} {V:List Zy_} (hF:Zav lo w fv Fs) (hV:Zaf w vv V) (Os:List Ob) (k:Nat):(Zei Fs V k).all (fun t=>Zde Os (Zse t))=(Zei Fs V k).all (Zde Os):=by
 rw [Bool.eq_iff_iff,List.all_eq_true,List.all_eq_true];exact⟨fun h t ht=>by rw [← Zg1 hF hV k t ht];exact h t ht,fun h t ht=>by rw [Zg1 hF hV k t ht];exact h t ht⟩
theorem ZaT.grow {S:Nat→Prop} {B:Nat} {W W':World} (h:W.grownBy W' none):ZaT S B W W':=
 ⟨h.os,h.tape,h.output,h.size,fun k o hk _ _=>(h.block k (Array.getElem?_eq_some_iff.1 hk).1 (by simp)).trans hk⟩
structure Zsh (w:World) (pb n:Nat) (D:DataW Unit) (W:World):Prop where
 own:W.ownsMap prog 268 (plainElem prog 3) pb n D
 ptr:Box W (w.heap.size+1+1) #[.map (some pb)]
 res:Box W (w.heap.size+1+1+1) #[.bool false]
 below:Zw_ w W
theorem Zsh.grow {w:World} {pb n:Nat} {D:DataW Unit} {W W':World} {row:Option Nat} (h:Zsh w pb n D W) (hpb:pb < w.heap.size) (hg:W.grownBy W' row) (hr:∀ r,row=some r→w.heap.size+6≤r):Zsh w pb n D W':=
 ⟨h.own.kept hg (fun e=>by have:=hr _ e.symm;omega),h.ptr.of_block (hg.block _ h.ptr.lt (fun e=>by have:=hr _ e.symm;omega)),h.res.of_block (hg.block _ h.res.lt (fun e=>by have:=hr _ e.symm;omega)),
  h.below.trans ⟨hg.os,hg.tape,hg.output,hg.size,fun k hk=>hg.block k (by have:=h.below.size;omega) (fun e=>by have:=hr _ e.symm;omega)⟩⟩
section
variable (lo:Nat) (sk:Zy_) (fv:Value) (Fs:List Fd) (kind nm team:Zy_) (vv hv:Value) (en:Bool) (ver:Int) (V Ho:List Zy_) (Os:List Ob) (w:World)
theorem Zlr {D:DataW Unit} {pb n:Nat} (hF:Zav lo w fv Fs) (hV:Zaf w vv V) (hH:Zaf w hv Ho) (hl:Fs.length=V.length) (n1:V.length≤1048576) (hown:w.ownsMap prog 268 (plainElem prog 3) pb n D) (hp:Zps Os D) :
 Calls prog 136 #[.agg #[.string sk,fv],.agg #[.string kind,.string nm,.string team,vv,.bool en,hv,.int .i64 ver],.map (some pb)] w
  fun e w'=>e=.returned (.bool (ZiP Os Fs V))∧Zw_ w w':=by
 have HF:=Zab hF;have HV:=Zab hV;have HO:=Zab hown;have HP:=Zab hp;have HL:=Zab hl;have HN:Hid (Fs.length≤1048576):=by unfold Hid;omega
 have hpb:pb < w.heap.size:=hown.lt
 have HCUT:=Zab (Zqr hF hV Os);obtain⟨fa,fcap,rfl⟩:=hF.form;obtain⟨va,vcap,rfl⟩:=hV.form';obtain⟨ha,hcap,rfl⟩:=hH.form';clear hF hV hH hown hp hl n1;refine (callsIn_wide (n:=5)).1 ?_;refine callsIn_of_wp_marks func136 rfl trivial ?_ rfl;simp only [ntmps136,List.size_toArray,List.length_cons,List.length_nil,Nat.reduceAdd,Nat.reduceSub,Array.replicate_succ,Array.replicate_zero,List.push_toArray,List.append_toArray,List.nil_append,List.cons_append]
 gi_wp2_with fail
 refine⟨trivial,(Zr9 sk kind nm team en ver _ Fence.wide _ trivial rfl fa Fs.length fcap va V.length vcap ha Ho.length hcap).mono ?_⟩;rintro e w1 ⟨rfl,hw1⟩
 obtain⟨wl,hwl,HX1,HX2,HT,hsz⟩:∃ wl,wl=w1∧
  Hid (Box wl (w.heap.size+1+1+1+1) #[.string sk,.slice fa Fs.length fcap])∧Hid (Box wl (w.heap.size+1+1+1+1+1) #[.string kind,.string nm,.string team,.slice va V.length vcap,.bool en,.slice ha Ho.length hcap,.int .i64 ver])∧
  Hid (Zsh w pb n D wl)∧wl.heap.size=w.heap.size+6:=by
  subst hw1;refine⟨_,rfl,(Box.new _ _ _ _ (by simp)).on (Zac _ _),Box.new _ _ _ _ (by simp),⟨?_,?_,?_,?_⟩,by simp⟩
  · exact (((((HO.out.alloc _).alloc _).alloc _).alloc _).alloc _).alloc _
  · exact (((Box.new _ _ _ _ (by simp)).on (Zac _ _)).on (Zac _ _)).on (Zac _ _)
  · exact ((Box.new _ _ _ _ (by simp)).on (Zac _ _)).on (Zac _ _)
  · exact (((((Zac _ _).trans ((Zac _ _).mono (by simp))).trans ((Zac _ _).mono (by simp;omega))).trans ((Zac _ _).mono (by simp;omega))).trans ((Zac _ _).mono (by simp;omega))).trans ((Zac _ _).mono (by simp;omega))
 subst hwl;clear hw1
 gi_wp2_with fail
 refine wpIn_rangeFunc_ownH rfl (by decide) (gf:=227) (lb:=#[.pointer (some ⟨w.heap.size+1+1+1+1,0,none⟩),.pointer (some ⟨w.heap.size+1+1+1+1+1,0,none⟩)]) rfl trivial (enters_of func227 (by kernel_rfl) rfl)
  (ZmF lo sk _ Fs kind nm team _ _ en ver V wl _ (by decide) (fun _=>False) w _ _ HT.out.below HF.out HV.out HL.out HN.out (fun _ _ h=>h) (fun h=>h) HX1.out HX2.out)
  ZaT.trans ZaT.put Zb_ (fun _=>rfl)
  (fun pre W=>Zsh w pb n D W∧pre.all (fun t=>Zde Os (Zse t))=true)
  (fun c pre W=>c=.ret∧(W.cell? ⟨w.heap.size+1+1+1,0,none⟩=some (.bool false)∧w.heap.size≤W.heap.size∧Zw_ w W)∧pre.all (fun t=>Zde Os (Zse t))=false)
  (fun s A B row hs hg hr=>⟨hs.1.grow hpb hg (fun r e=>by have:=(hr r e).1;omega),hs.2⟩)
  (fun c s A B row hs hg hr=>⟨hs.1,⟨cell_kept hs.2.1.1 hg (fun r e=>(hr r e).2),Nat.le_trans hs.2.1.2.1 hg.size,hs.2.1.2.2.trans ⟨hg.os,hg.tape,hg.output,hg.size,fun k hk=>hg.block k (by have:=hs.2.1.2.1;omega) (fun e=>by have:=(hr _ e.symm).1;omega)⟩⟩,hs.2.2⟩)
  ⟨HT.out,rfl⟩
  (fun x a' W=>∃ β:Nat,a'={ tmps:=#[.agg #[.string sk,.slice fa Fs.length fcap],.agg #[.string kind,.string nm,.string team,.slice va V.length vcap,.bool en,.slice ha Ho.length hcap,.int .i64 ver],.map (some pb),.pointer (some ⟨w.heap.size,0,none⟩),.pointer (some ⟨w.heap.size+1,0,none⟩),.pointer (some ⟨w.heap.size+1+1,0,none⟩),.pointer (some ⟨w.heap.size+1+1+1,0,none⟩),.pointer (some ⟨β,0,none⟩),undef,undef,.agg #[.string sk,.slice fa Fs.length fcap],.agg #[.string kind,.string nm,.string team,.slice va V.length vcap,.bool en,.slice ha Ho.length hcap,.int .i64 ver],.func (.func 227) #[] #[.pointer (some ⟨w.heap.size+1+1+1+1,0,none⟩),.pointer (some ⟨w.heap.size+1+1+1+1+1,0,none⟩)],.agg #[.int .i64 x.1,.int .i64 x.2.1,.string (Zha x.2.2.1),.string (Zha x.2.2.2)],undef,undef,undef,undef,undef,undef,undef,undef,undef],defers:=[] }∧W.cell? ⟨β,2,none⟩=some (.string (Zha x.2.2.1))∧W.cell? ⟨β,3,none⟩=some (.string (Zha x.2.2.2)))
  (fun x a' s A B row hs hg hr=>by
    obtain⟨β,e1,e2,e3⟩:=hs;exact⟨β,e1,cell_kept e2 hg (fun r e=>(hr r e).2),cell_kept e3 hg (fun r e=>(hr r e).2)⟩) ?assign ?body ?done ?stop
 case assign=>
  intro l pre x W K hI hK;have HI:=Zab hI;have HK:=Zab hK;clear hI hK
  gi_wp2
  refine HK.out _ _ ((KeepsOthers.alloc _ _).from _) (ZaT.grow (World.grownBy_alloc _ _ none)) ⟨HI.out.1.grow hpb (World.grownBy_alloc _ _ none) (fun r e=>by cases e),HI.out.2⟩ ⟨W.heap.size,rfl,Zb8 _ _ _ _ 2 rfl,Zb8 _ _ _ _ 3 rfl⟩
 case body=>
  rintro l pre x a' W hll hrec ⟨hTW,hall⟩ ⟨β,rfl,hc2,hc3⟩ hlen;have HTW:=Zab hTW;have HALL:=Zab hall;obtain⟨v,ps,hrun,hv⟩:=hTW.own.look_ok Zk3 underlying211 (Zia _) (plainElem_int underlying3 (by decide)) (Zk4.mk' (Zfv x.2.2.1) (Zfv x.2.2.2));obtain⟨c,rfl,hc,hwc⟩:=plainElem_int_inv underlying3 hv;rw [HP.out.has _ _ (Zfv _) (Zfv _)] at hrun;have HE:Hid (Zde Os (Zse x)=Os.any (Zf9 (Zha x.2.2.1) (Zha x.2.2.2))):=rfl;have p0:=hTW.ptr.cell 0;have r0:=hTW.res.cell 0;have rf:=hTW.res.free 0;simp at p0 r0;clear hv hc hwc hTW hall hrec
  cases hq:Os.any (Zf9 (Zha x.2.2.1) (Zha x.2.2.2)) with
  | true=>
   rw [hq] at hrun
   gi_wp2
   exact⟨KeepsFrom.refl _ _,ZaT.refl _ _ _,HTW.out,by rw [List.all_append,HALL.out];simp [HE.out,hq]⟩
  | false=>
   rw [hq] at hrun
   gi_wp2
   exact⟨(KeepsOthers.setCell _ _ _).from _,rfl,⟨World.cell?_setCell_same' _ _ _ (by rw [r0];rfl),by have:=HTW.out.below.size;simpa using this,HTW.out.below.setCell (p:=⟨w.heap.size+1+1+1,0,none⟩) (by simp only [];omega) _⟩,by rw [List.all_append,HALL.out];simp [HE.out,hq]⟩
 case done=>
  rintro Dd ys W hD rfl ⟨hTW,hall⟩ hK;have HTW:=Zab hTW;have HRES:Hid (ZiP Os Fs V=true):=(HCUT.out Fs.length).symm.trans hall;have r0:=hTW.res.cell 0;have rf:=hTW.res.free 0;simp at r0;clear hTW hall
  gi_wp2
  have g:=grownBy_setCell' W (w.heap.size+1+1+1) (.bool true);have hK2:(W.setCell ⟨w.heap.size+1+1+1,0,none⟩ (.bool true)).heap[Dd]?=some (.deferred (some [])):=(g.block Dd (Array.getElem?_eq_some_iff.1 hK).1 (fun e=>by have:=Option.some.inj e;(try simp only [] at this);omega)).trans hK;have c1:(W.setCell ⟨w.heap.size+1+1+1,0,none⟩ (.bool true)).cell? ⟨w.heap.size+1+1+1,0,none⟩=some (.bool true):=World.cell?_setCell_same' _ _ _ (by rw [r0];rfl);have HB2:Zw_ w (W.setCell ⟨w.heap.size+1+1+1,0,none⟩ (.bool true)):=HTW.out.below.setCell (p:=⟨w.heap.size+1+1+1,0,none⟩) (by simp only [];omega) _;generalize W.setCell ⟨w.heap.size+1+1+1,0,none⟩ (.bool true)=W2 at*;refine⟨by simp,.inl ⟨_,_,rfl,run_takeDeferred hK2,?_⟩⟩
  have c2:(W2.putObj Dd (.deferred none)).cell? ⟨w.heap.size+1+1+1,0,none⟩=some (.bool true):=(World.cell?_of_block (a:=⟨w.heap.size+1+1+1,0,none⟩) ((grownBy_putObj' W2 Dd _).block _ (World.block_lt_of_cell? _ _ c1) (fun e=>by have:=Option.some.inj e;(try simp only [] at this);omega))).trans c1;refine⟨.bool true,by simp [results,results136,go_sem,c2],by rw [HRES.out],HB2.trans (belowK_b (w:=w) Zl_ W2 Dd _ _ (by omega) hK2 rfl rfl)⟩
 case stop=>
  rintro Dd c pre W hD ⟨k,hk,rfl⟩ ⟨rfl,⟨c1,hz,hB⟩,hall⟩ hK;have HB2:=Zab hB;have HRES:Hid (ZiP Os Fs V=false):=ZoC hk (by rw [← HCUT.out];exact hall);clear hB hall
  gi_wp2
  refine⟨by simp,.inl ⟨_,_,rfl,run_takeDeferred hK,?_⟩⟩;have c2:(W.putObj Dd (.deferred none)).cell? ⟨w.heap.size+1+1+1,0,none⟩=some (.bool false):=(World.cell?_of_block (a:=⟨w.heap.size+1+1+1,0,none⟩) ((grownBy_putObj' W Dd _).block _ (World.block_lt_of_cell? _ _ c1) (fun e=>by have:=Option.some.inj e;(try simp only [] at this);omega))).trans c1;refine⟨.bool false,by simp [results,results136,go_sem,c2],by rw [HRES.out],HB2.out.trans (belowK_b (w:=w) Zl_ W Dd _ _ (by omega) hK rfl rfl)⟩
end
end Go.Proofs.YtcfjmagkinpaeaaGreat
namespace Go.Proofs.YtcfjmagkinpaeaaGreat
open Go.RowKit Go.Deep Go.Maps
abbrev Zgd (W0:World) (b1:Nat) (cs1:Array Value) (b2:Nat) (cs2:Array Value) (b3:Nat) (cs3:Array Value) (W:World):Prop:=
 (∀ i,W.cell? ⟨b1,i,none⟩=cs1[i]?)∧(∀ i,W.cell? ⟨b2,i,none⟩=cs2[i]?)∧(∀ i,W.cell? ⟨b3,i,none⟩=cs3[i]?)∧Hid (Below W0.heap.size W0 W∧b1 < W0.heap.size∧b2 < W0.heap.size∧b3 < W0.heap.size)
theorem Zgd.drew {W0:World} {b1 b2 b3:Nat} {cs1 cs2 cs3:Array Value} (h1:Box W0 b1 cs1) (h2:Box W0 b2 cs2) (h3:Box W0 b3 cs3):Zgd W0 b1 cs1 b2 cs2 b3 cs3 W0.drew:=⟨h1.cell,h2.cell,h3.cell,Zb_.drew,h1.lt,h2.lt,h3.lt⟩
theorem Zgd.on {W0 W W':World} {b1 b2 b3:Nat} {cs1 cs2 cs3:Array Value} (h:Zgd W0 b1 cs1 b2 cs2 b3 cs3 W) (hb:Below W.heap.size W W'):Zgd W0 b1 cs1 b2 cs2 b3 cs3 W':=by
 obtain⟨h1,h2,h3,h4,h5,h6,h7⟩:=h;have:=h4.size;exact⟨fun i=>(hb.cell (p:=⟨b1,i,none⟩) (by simp only [];omega)).trans (h1 i),fun i=>(hb.cell (p:=⟨b2,i,none⟩) (by simp only [];omega)).trans (h2 i),fun i=>(hb.cell (p:=⟨b3,i,none⟩) (by simp only [];omega)).trans (h3 i),h4.trans (hb.mono h4.size),h5,h6,h7⟩
theorem ZfJ (k n t v e h r:Value) (W:World):(Instr.field 160 (.agg #[k,n,t,v,e,h,r]) 3).run prog W=.ok v W:=by
 simp [Instr.field,go_sem,run_underlying underlying160,Result.andThen,asAgg]
def Zcn (Ts:List Tm) (Fs:List Fd) (o:Ob) (F:List Zy_):Bool:=decide ((ZaV Fs o.nm o.tm o.vs o.hs o.ver).1=0)&&(ZeL Ts o.tm&&decide (F=o.vs))
section
variable (lo:Nat) (sv mv tv fv vv hv:Value) (Ss:List Sh) (Ms:List Md) (Ts:List Tm) (x:Sh) (o:Ob) (F:List Zy_) (w:World)
theorem Zjt (hl:ZaO lo w sv mv tv Ss Ms Ts) (hmb:Zau Ss Ms=true) (hx:Zb3 Ss o.kd=some x) (hF:Zav lo w fv x.fields) (hV:Zaf w vv o.vs) (hH:Zaf w hv o.hs) (hz:ZdY o) (n2:o.hs.length≤1048576) (hsh:Zco Ss Ms o.kd o.vs F) :
 Calls prog 135 #[.agg #[sv,mv,tv],.agg #[.string x.kind,fv],.agg #[.string o.kd,.string o.nm,.string o.tm,vv,.bool o.en,hv,.int .i64 o.ver]] w
  fun e w'=>e=.returned (.bool (Zcn Ts x.fields o F))∧Zw_ w w':=by
 have HL:=Zab hl;have HMB:=Zab hmb;have HX:=Zab hx;have HF:=Zab hF;have HV:=Zab hV;have HH:=Zab hH;have HSH:=Zab hsh;have s1:=hz.s1;have s2:=hz.s2;obtain⟨sa,sc,rfl⟩:=hl.shs.form;obtain⟨ma,mc,rfl⟩:=hl.mds.form;obtain⟨ta,tc,rfl⟩:=hl.tms.form;obtain⟨fa,fcap,rfl⟩:=hF.form;obtain⟨va,vcap,rfl⟩:=hV.form';obtain⟨ha,hcap,rfl⟩:=hH.form';have HQ:Hid (Zcn Ts x.fields o F=(decide ((ZaV x.fields o.nm o.tm o.vs o.hs o.ver).1=0)&&(ZeL Ts o.tm&&decide (F=o.vs)))):=rfl;have HP:=Zab (Zfy Ts o.tm);clear hl hmb hx hF hV hH hz hsh;go_enter func135,ntmps135;go_wp2_with fail;generalize hWa:(World.alloc (World.alloc (w.alloc _) _) _)=Wa;have HB:Hid (Zw_ w Wa):=by rw [← hWa];exact ((Zac w _).alloc (by simp) _).alloc (by simp;omega) _
 have HX1:Hid (Box Wa w.heap.size #[.slice sa Ss.length sc,.slice ma Ms.length mc,.slice ta Ts.length tc]):=by rw [← hWa];exact ((Box.new _ _ _ _ rfl).on (Zac _ _)).on (Zac _ _)
 have HX2:Hid (Box Wa (w.heap.size+1) #[.string x.kind,.slice fa x.fields.length fcap]):=by rw [← hWa];exact (Box.new _ _ _ _ (by simp)).on (Zac _ _)
 have HX3:Hid (Box Wa (w.heap.size+1+1) #[.string o.kd,.string o.nm,.string o.tm,.slice va o.vs.length vcap,.bool o.en,.slice ha o.hs.length hcap,.int .i64 o.ver]):=by rw [← hWa];exact Box.new _ _ _ _ (by simp)
 clear hWa;refine (Zgo x.kind o.kd o.nm o.tm _ _ _ o.en o.ver o.vs o.hs x.fields Wa lo (HV.out.below HB.out) (HH.out.below HB.out) (HF.out.below HB.out) s1 s2).mono ?_;rintro e w1 ⟨rfl,hb1⟩;have HB1:Hid (Zw_ w w1):=HB.out.trans (hb1.mono HB.out.size);have HY1:=Zab (HX1.out.on hb1);have HY2:=Zab (HX2.out.on hb1);have HY3:=Zab (HX3.out.on hb1);clear hb1 HX1 HX2 HX3 HB;have y2:=HY1.out.cell 2;have y3:=HY3.out.cell 2;simp at y2 y3
 by_cases hck:(ZaV x.fields o.nm o.tm o.vs o.hs o.ver).1=0
 case neg=>
  have HE:Hid (Zcn Ts x.fields o F=false):=by unfold Hid;rw [HQ.out,decide_eq_false hck];rfl
  rw [ZlY hck];go_wp2;go_ret;exact⟨Zaa HE.out.symm,HB1.out⟩
 have HLEN:=Zab (Zft hck);rw [ZlX hck];go_wp2_with fail;refine (ZbR lo _ Ts _ _ (HL.out.below HB1.out).tms).mono ?_;rintro e w2 ⟨rfl,hb2⟩;have HB2:Hid (Zw_ w w2):=HB1.out.trans (hb2.mono HB1.out.size);have HZ1:=Zab (HY1.out.on hb2);have HZ2:=Zab (HY2.out.on hb2);have HZ3:=Zab (HY3.out.on hb2);clear hb2 HY1 HY2 HY3 y2 y3 HB1
 cases h1:ZeL Ts o.tm with
 | false=>
  have HE:Hid (Zcn Ts x.fields o F=false):=by unfold Hid;rw [HQ.out,h1,Bool.false_and,Bool.and_false]
  have hd:decide (Zc9 Ts o.tm < 0)=true:=by rw [HP.out,h1];rfl
  go_wp2;go_ret;exact⟨Zaa HE.out.symm,HB2.out⟩
 | true=>
  have HE:Hid (Zcn Ts x.fields o F=decide (F=o.vs)):=by unfold Hid;rw [HQ.out,h1,decide_eq_true hck];rfl
  have hd:decide (Zc9 Ts o.tm < 0)=false:=by rw [HP.out,h1];rfl
  go_wp2;clear hd;have HD:Hid (Zw_ w w2.drew):=HB2.out.drew;have hfd:=ZfJ
  go_region_held3 (Zgd w2 w.heap.size #[.slice sa Ss.length sc,.slice ma Ms.length mc,.slice ta Ts.length tc] (w.heap.size+1) #[.string x.kind,.slice fa x.fields.length fcap] (w.heap.size+1+1) #[.string o.kd,.string o.nm,.string o.tm,.slice va o.vs.length vcap,.bool o.en,.slice ha o.hs.length hcap,.int .i64 o.ver])
   (first
     | (with_reducible exact Zgd.drew HZ1.out HZ2.out HZ3.out)
     | (with_reducible exact Zgd.on (by assumption) (by assumption)))
   (first
     | (go_at_call 187
        refine (ZjB o.kd o.nm o.tm _ _ _ _ o.en o.ver o.vs o.hs Ss Ms x o.kd _ lo lo (HV.out.below HD.out) (HH.out.below HD.out) (HF.out.below HD.out) (HL.out.below HD.out).mds HMB.out HX.out HLEN.out.symm n2).mono ?_;rintro e w3 ⟨v',h',F',rfl,hb3,⟨mid,hlo,hmi,hs3,hs4⟩,hfix⟩;have HFF:Hid (F'=F):=Zco.unique (Or.inl ⟨x,HMB.out,HX.out,HLEN.out.symm,hfix⟩) HSH.out;have HC3:Hid (Zw_ w w3):=HD.out.trans (hb3.mono HD.out.size);have HS3:=Zab hs3.at;obtain⟨va',vcap',rfl⟩:=hs3.form;obtain⟨ha',hcap',rfl⟩:=hs4.form;clear hfix hs3 hs4 hlo hmi)
     | (go_at_call 186
        refine (ZkE _ _ F' o.vs _ HS3.out (HV.out.below HC3.out)).mono ?_;rintro e w4 ⟨rfl,hb4⟩;have HC4:Hid (Zw_ w w4):=HC3.out.trans (hb4.mono HC3.out.size)))
  clear hfd;go_wp2;go_ret;exact⟨Zaa (by rw [HE.out,HFF.out]),HC4.out⟩
end
def Zku (Ss:List Sh) (Ts:List Tm) (Os:List Ob) (now:Int) (o:Ob) (F:List Zy_):Bool:=
 match Zb3 Ss o.kd with
 | some x=>Zcn Ts x.fields o F&&(inB 1 now o.ver&&ZiP Os x.fields o.vs)
 | none=>false
def ZnL (Ss:List Sh) (Ts:List Tm) (B:Bk) (FF:Nat→List Zy_) (i:Nat):Bool:=
 match B.os[i]? with
 | some o=>Zku Ss Ts B.os B.now o (FF i)
 | none=>true
def Zaw (Ss:List Sh) (Ts:List Tm) (B:Bk) (FF:Nat→List Zy_):Bool:=decide (B.os.length≤40)&&(Zcz Zf5 B.os&&(List.range B.os.length).all (ZnL Ss Ts B FF))
theorem Zkt {Ss:List Sh} {Ts:List Tm} {B:Bk} {FF:Nat→List Zy_} {i:Nat} (h:i < B.os.length):ZnL Ss Ts B FF i=Zku Ss Ts B.os B.now B.os[i] (FF i):=by
 unfold ZnL;rw [List.getElem?_eq_getElem h]
theorem ZhH {Ss:List Sh} {Ts:List Tm} {Os:List Ob} {now:Int} {o:Ob} {F:List Zy_} {x:Sh} (h:Zb3 Ss o.kd=some x):Zku Ss Ts Os now o F=(Zcn Ts x.fields o F&&(inB 1 now o.ver&&ZiP Os x.fields o.vs)):=by
 unfold Zku;rw [h]
theorem ZhG {Ss:List Sh} {Ts:List Tm} {Os:List Ob} {now:Int} {o:Ob} {F:List Zy_} (h:Zb3 Ss o.kd=none):Zku Ss Ts Os now o F=false:=by
 unfold Zku;rw [h]
theorem Zbz {Ss:List Sh} {Ts:List Tm} {B:Bk} {FF:Nat→List Zy_} {i:Nat} (h:i < B.os.length) (hn:Zku Ss Ts B.os B.now B.os[i] (FF i)=false):Zaw Ss Ts B FF=false:=by
 unfold Zaw;rw [ZaW h (show ZnL Ss Ts B FF i=false by rw [Zkt h];exact hn),Bool.and_false,Bool.and_false]
theorem ZgN {Ss:List Sh} {Ts:List Tm} {B:Bk} {FF:Nat→List Zy_} (hl:B.os.length≤40) (hr:Zcz Zf5 B.os=true) (h:∀ i,i < B.os.length→ZnL Ss Ts B FF i=true):Zaw Ss Ts B FF=true:=by
 unfold Zaw;rw [decide_eq_true hl,hr,Za0 h]
 rfl
theorem ZkG {p:Nat→Bool} {m:Nat} (h:∀ j,j < m→p j=true) (hm:p m=true):∀ j,j < m+1→p j=true:=fun j hj=>by
 by_cases e:j=m
 · subst e;exact hm
 · exact h j (by omega)
def Za2 (Ss:List Sh) (Ms:List Md) (Os:List Ob) (FF:Nat→List Zy_):Prop:=∀ i (h:i < Os.length),Zco Ss Ms Os[i].kd Os[i].vs (FF i)
section
variable (lo:Nat) (sv mv tv ov gv lv pv:Value) (Ss:List Sh) (Ms:List Md) (Ts:List Tm) (B:Bk) (FF:Nat→List Zy_) (w:World)
theorem ZgA (hl:ZaO lo w sv mv tv Ss Ms Ts) (hmb:Zau Ss Ms=true) (h:ZaH lo w ov gv lv pv B) (hn:ZcO B.os) (hsh:Za2 Ss Ms B.os FF) :
 Calls prog 85 #[.agg #[sv,mv,tv],.agg #[.int .i64 B.now,.int .i64 B.tick,.int .i64 B.given,ov,gv,lv,pv]] w fun e w'=>e=.returned (.bool (Zaw Ss Ts B FF))∧Zw_ w w':=by
 have HL:=Zab hl;have HK:=Zab h;have HMB:=Zab hmb;have HN:=Zab hn;have HSH:=Zab hsh;obtain⟨sa,sc,rfl⟩:=hl.shs.form;obtain⟨ma,mc,rfl⟩:=hl.mds.form;obtain⟨ta,tc,rfl⟩:=hl.tms.form;obtain⟨a0,k0,rfl⟩:=h.obs.form;obtain⟨a1,k1,rfl⟩:=h.grs.form;obtain⟨a2,k2,rfl⟩:=h.les.form;obtain⟨a3,k3,rfl⟩:=h.pus.form;have HI:Hid (Zaw Ss Ts B FF=(decide (B.os.length≤40)&&(Zcz Zf5 B.os&&(List.range B.os.length).all (ZnL Ss Ts B FF)))):=rfl;clear hl hmb h hn hsh
 by_cases hl:B.os.length≤40
 case neg=>
  have HE:Hid (Zaw Ss Ts B FF=false):=by unfold Hid;rw [HI.out,decide_eq_false hl];rfl
  have hgt:decide ((40:Int) < (B.os.length:Int))=true:=by simp;omega
  go_enter func85,ntmps85;go_wp2;go_ret;exact⟨Zaa HE.out.symm,(Zac w _).alloc (by simp) _⟩
 have hgt:decide ((40:Int) < (B.os.length:Int))=false:=by simp;omega
 go_enter func85,ntmps85;go_wp2_with fail;generalize hWa:(World.alloc (w.alloc _) _)=Wa;have HB:Hid (Zw_ w Wa):=by rw [← hWa];exact (Zac w _).alloc (by simp) _
 have HX:Hid (Box Wa w.heap.size #[.slice sa Ss.length sc,.slice ma Ms.length mc,.slice ta Ts.length tc]):=by rw [← hWa];exact (Box.new _ _ _ _ rfl).on (Zac _ _)
 have HY:Hid (Box Wa (w.heap.size+1) #[.int .i64 B.now,.int .i64 B.tick,.int .i64 B.given,.slice a0 B.os.length k0,.slice a1 B.gs.length k1,.slice a2 B.ls.length k2,.slice a3 B.ps.length k3]):=by rw [← hWa];exact Box.new _ _ _ _ (by simp)
 clear hWa;refine (ZlB lo _ B.os _ (HK.out.obs.below HB.out)).mono ?_;rintro e w1 ⟨rfl,hb1⟩;have HB1:Hid (Zw_ w w1):=HB.out.trans (hb1.mono HB.out.size);have HX1:=Zab (HX.out.on hb1);have HY1:=Zab (HY.out.on hb1);clear hb1 HB HX HY
 cases hr:Zcz Zf5 B.os with
 | false=>
  have HE:Hid (Zaw Ss Ts B FF=false):=by unfold Hid;rw [HI.out,hr,decide_eq_true hl];rfl
  go_wp2;go_ret;exact⟨Zaa HE.out.symm,HB1.out⟩
 | true=>
  have z3:=HY1.out.cell 3;simp at z3;go_wp2_with fail;refine (Zmi lo _ B.os _ (HK.out.obs.below HB1.out) HN.out.1).mono ?_;rintro e w2 ⟨rfl,hb2,D,ho,hpl⟩;have HB2:Hid (Zw_ w w2):=HB1.out.trans (hb2.mono HB1.out.size);have HX2:=Zab (HX1.out.on hb2);have HY2:=Zab (HY1.out.on hb2);have HO2:=Zab ho;have HPL:=Zab hpl;clear hb2 ho hpl z3 HB1 HX1 HY1;generalize w1.heap.size=pb at*;have z3:=HY2.out.cell 3;simp at z3;go_wp2;clear z3
  go_loopw [26] (fun i wr=>∃ k:Nat,i=.int .i64 k∧k≤B.os.length∧Zw_ w wr∧Box wr w.heap.size #[.slice sa Ss.length sc,.slice ma Ms.length mc,.slice ta Ts.length tc]∧Box wr (w.heap.size+1) #[.int .i64 B.now,.int .i64 B.tick,.int .i64 B.given,.slice a0 B.os.length k0,.slice a1 B.gs.length k1,.slice a2 B.ls.length k2,.slice a3 B.ps.length k3]∧wr.ownsMap prog 268 (plainElem prog 3) pb B.os.length D∧∀ j,j < k→ZnL Ss Ts B FF j=true) (fun i _=>B.os.length - (intOf i).toNat)
  case atStart=>exact⟨0,rfl,Nat.zero_le _,HB2.out,HX2.out,HY2.out,HO2.out,fun j h=>by omega⟩
  case round=>
   obtain⟨k,rfl,hk,hb,hx,hy,ho,hall⟩:=hrel;have HBr:=Zab hb;have HXr:=Zab hx;have HYr:=Zab hy;have HOr:=Zab ho;have HA:=Zab hall;clear hb hx hy ho hall HB2 HX2 HY2 HO2
   by_cases hlt:k < B.os.length
   · obtain⟨b,off,rfl,hbw,-,hc⟩:=HK.out.obs.full' (by omega)
     obtain⟨hs,vv0,vv1,hcell,hv0,hv1⟩:=hc k hlt;obtain⟨c0,c1,c2,c3,c4,c5,c6⟩:=hcell.below HBr.out hbw;have HZ:=Zab hs;have HV:=Zab hv0.at;have HH:=Zab hv1.at;obtain⟨va,vcap,rfl⟩:=hv0.at.form';obtain⟨ha,hcap,rfl⟩:=hv1.at.form';have HQ:=Zab (Zkt (Ss:=Ss) (Ts:=Ts) (FF:=FF) hlt);have n1:B.os[k].vs.length≤1048576:=(HN.out.2 k hlt).1;have n2:B.os[k].hs.length≤1048576:=(HN.out.2 k hlt).2;have x0:=HXr.out.cell 0;simp at x0;have xlt:=HXr.out.lt;have x0:∀ o,(wr.alloc o).cell? ⟨w.heap.size,0,none⟩=some (.slice sa Ss.length sc):=fun o=>(Zah _ _ _ _ xlt).trans x0
     clear hc hcell hs hv0 hv1 xlt;go_wp2_with fail;generalize hWb:wr.alloc _=Wb;have hbb:Below wr.heap.size wr Wb:=by rw [← hWb];exact Zac _ _
     have HBb:Hid (Zw_ w Wb):=HBr.out.trans (hbb.mono HBr.out.size);have HXb:=Zab (HXr.out.on hbb);have HYb:=Zab (HYr.out.on hbb);have HOb:=Zab (HOr.out.kept (ZaI hbb) (by simp));have HPb:Hid (Box Wb wr.heap.size #[.string B.os[k].kd,.string B.os[k].nm,.string B.os[k].tm,.slice va B.os[k].vs.length vcap,.bool B.os[k].en,.slice ha B.os[k].hs.length hcap,.int .i64 B.os[k].ver]):=by rw [← hWb];exact Box.new _ _ _ _ rfl
     clear hWb x0 hbb c0 c1 c2 c3 c4 c5 c6 HXr HYr HOr;generalize hβ:wr.heap.size=β at*;refine (Zeg lo _ Ss _ w _ HL.out.shs HBb.out).mono ?_;rintro e w3 ⟨hb3,hq⟩;have HB3:Hid (Zw_ w w3):=HBb.out.trans (hb3.mono HBb.out.size);have HX3:=Zab (HXb.out.on hb3);have HY3:=Zab (HYb.out.on hb3);have HP3:=Zab (HPb.out.on hb3);have HO3:=Zab (HOb.out.kept (ZaI hb3) (by simp));clear hb3 HBb HXb HYb HPb HOb
     rcases hq with ⟨x,fv,hsh,rfl,hF⟩ | ⟨hno,rfl⟩
     · have HF:=Zab hF
       have HXS:=Zab hsh;have HOS:=Zab (ZhH (Ts:=Ts) (Os:=B.os) (now:=B.now) (F:=FF k) hsh);obtain⟨fa,fcap,rfl⟩:=hF.form;clear hF hsh;have p0:∀ i o,(w3.alloc o).cell? ⟨w.heap.size,i,none⟩=#[Value.slice sa Ss.length sc,.slice ma Ms.length mc,.slice ta Ts.length tc][i]?:=fun i o=>(Zah _ _ _ _ HX3.out.lt).trans (HX3.out.cell i)
       have p1:∀ i o,(w3.alloc o).cell? ⟨β,i,none⟩=#[Value.string B.os[k].kd,.string B.os[k].nm,.string B.os[k].tm,.slice va B.os[k].vs.length vcap,.bool B.os[k].en,.slice ha B.os[k].hs.length hcap,.int .i64 B.os[k].ver][i]?:=fun i o=>(Zah _ _ _ _ HP3.out.lt).trans (HP3.out.cell i)
       go_wp2_with fail;generalize hWc:w3.alloc _=Wc;have hbc:Below w3.heap.size w3 Wc:=by rw [← hWc];exact Zac _ _
       have HBc:Hid (Zw_ w Wc):=HB3.out.trans (hbc.mono HB3.out.size);have HXc:=Zab (HX3.out.on hbc);have HYc:=Zab (HY3.out.on hbc);have HPc:=Zab (HP3.out.on hbc);have HOc:=Zab (HO3.out.kept (ZaI hbc) (by simp));have HSc:Hid (Box Wc w3.heap.size #[.string x.kind,.slice fa x.fields.length fcap]):=by rw [← hWc];exact Box.new _ _ _ _ rfl
       clear hWc p0 p1 hbc HX3 HY3 HP3 HO3;generalize hγ:w3.heap.size=γ at*;refine (Zjt lo _ _ _ _ _ _ Ss Ms Ts x B.os[k] (FF k) _ (HL.out.below HBc.out) HMB.out HXS.out (HF.out.below HBc.out) (HV.out.below HBc.out) (HH.out.below HBc.out) HZ.out n2 (HSH.out k hlt)).mono ?_;rintro e w5 ⟨rfl,hb5⟩;have HB5:Hid (Zw_ w w5):=HBc.out.trans (hb5.mono HBc.out.size);have HX5:=Zab (HXc.out.on hb5);have HY5:=Zab (HYc.out.on hb5);have HP5:=Zab (HPc.out.on hb5);have HS5:=Zab (HSc.out.on hb5);have HO5:=Zab (HOc.out.kept (ZaI hb5) (by simp));clear hb5 HBc HXc HYc HPc HSc HOc
       cases h1:Zcn Ts x.fields B.os[k] (FF k) with
       | false=>
        have HE:Hid (Zaw Ss Ts B FF=false):=Zbz hlt (by rw [HOS.out,h1];rfl);go_wp2;go_ret;exact⟨Zaa HE.out.symm,HB5.out⟩
       | true=>
        have y0:=HY5.out.cell 0;have q6:=HP5.out.cell 6;simp at y0 q6
        cases h2:inB 1 B.now B.os[k].ver with
        | false=>
         have HE:Hid (Zaw Ss Ts B FF=false):=Zbz hlt (by rw [HOS.out,h2,Bool.false_and,Bool.and_false]);go_wp2_with (go_at_call 130;refine (Zat _ _ _ _).mono ?_;rintro e w' ⟨rfl,rfl⟩);go_ret;exact⟨Zaa HE.out.symm,HB5.out⟩
        | true=>
         have q0:=HP5.out.cell 0;have q1:=HP5.out.cell 1;have q2:=HP5.out.cell 2;have q3:=HP5.out.cell 3;have q4:=HP5.out.cell 4;have q5:=HP5.out.cell 5;have r0:=HS5.out.cell 0;have r1:=HS5.out.cell 1;simp at q0 q1 q2 q3 q4 q5 r0 r1
         have HLEN:Hid (x.fields.length=B.os[k].vs.length):=by
          unfold Hid;have h3:=h1;unfold Zcn at h3;rw [Bool.and_eq_true] at h3;exact (Zft (of_decide_eq_true h3.1)).symm
         cases h3:ZiP B.os x.fields B.os[k].vs with
         | false=>
          have HE:Hid (Zaw Ss Ts B FF=false):=Zbz hlt (by rw [HOS.out,h3,Bool.and_false,Bool.and_false]);go_wp2_with (first|(go_at_call 130;refine (Zat _ _ _ _).mono ?_;rintro e w' ⟨rfl,rfl⟩)|(go_at_call 136;refine (Zlr lo x.kind _ x.fields B.os[k].kd B.os[k].nm B.os[k].tm _ _ B.os[k].en B.os[k].ver B.os[k].vs B.os[k].hs B.os _ (HF.out.below HB5.out) (HV.out.below HB5.out) (HH.out.below HB5.out) HLEN.out n1 HO5.out HPL.out).mono ?_;rintro e w6 ⟨rfl,hb6⟩));have HB6:Hid (Zw_ w w6):=HB5.out.trans (hb6.mono HB5.out.size);go_ret;exact⟨Zaa HE.out.symm,HB6.out⟩
         | true=>
          have HT:Hid (ZnL Ss Ts B FF k=true):=by unfold Hid;rw [HQ.out,HOS.out,h1,h2,h3];rfl
          go_wp2_with (first|(go_at_call 130;refine (Zat _ _ _ _).mono ?_;rintro e w' ⟨rfl,rfl⟩)|(go_at_call 136;refine (Zlr lo x.kind _ x.fields B.os[k].kd B.os[k].nm B.os[k].tm _ _ B.os[k].en B.os[k].ver B.os[k].vs B.os[k].hs B.os _ (HF.out.below HB5.out) (HV.out.below HB5.out) (HH.out.below HB5.out) HLEN.out n1 HO5.out HPL.out).mono ?_;rintro e w6 ⟨rfl,hb6⟩));have HB6:Hid (Zw_ w w6):=HB5.out.trans (hb6.mono HB5.out.size);have HX6:=Zab (HX5.out.on hb6);have HY6:=Zab (HY5.out.on hb6);have HO6:=Zab (HO5.out.kept (ZaI hb6) (by simp));clear hb6 HX5 HY5 HP5 HS5 HO5 y0 q0 q1 q2 q3 q4 q5 q6 r0 r1;go_roundw
          case rel=>exact⟨k+1,by go_num,by omega,HB6.out,HX6.out,HY6.out,HO6.out,ZkG HA.out HT.out⟩
          case measure=>simp [intOf];omega
     · have HE:Hid (Zaw Ss Ts B FF=false):=Zbz hlt (ZhG hno)
       have HB4:∀ o,Hid (Zw_ w (w3.alloc o)):=fun o=>HB3.out.trans ((Zac _ _).mono HB3.out.size)
       go_wp2;go_ret;exact⟨Zaa HE.out.symm,(HB4 _).out⟩
   · have HT:Hid (Zaw Ss Ts B FF=true):=ZgN hl hr (fun i hi=>HA.out i (by omega))
     go_wp2;go_ret;exact⟨Zaa HT.out.symm,HBr.out⟩
end
theorem Zkv {Ss:List Sh} {Ts:List Tm} {B:Bk} {FF:Nat→List Zy_} {m:Nat} (hm:m < B.os.length) (h:Zce Zf5 B.os m=false):Zaw Ss Ts B FF=false:=by
 unfold Zaw;rw [show Zcz Zf5 B.os=false from ZaW hm h,Bool.false_and,Bool.and_false]
theorem Zm5 {Ts:List Tm} {Fs:List Fd} {o:Ob} {F:List Zy_} (h:¬ (ZaV Fs o.nm o.tm o.vs o.hs o.ver).1=0):Zcn Ts Fs o F=false:=by unfold Zcn;rw [decide_eq_false h];rfl
theorem Zm6 {Ts:List Tm} {Fs:List Fd} {o:Ob} {F:List Zy_} (h:ZeL Ts o.tm=false):Zcn Ts Fs o F=false:=by unfold Zcn;rw [h,Bool.false_and,Bool.and_false]
theorem Zm7 {Ts:List Tm} {Fs:List Fd} {o:Ob} {F:List Zy_} (h:¬ F=o.vs):Zcn Ts Fs o F=false:=by unfold Zcn;rw [decide_eq_false h,Bool.and_false,Bool.and_false]
theorem Zm8 {Ts:List Tm} {Fs:List Fd} {o:Ob} {F:List Zy_} (h1:(ZaV Fs o.nm o.tm o.vs o.hs o.ver).1=0) (h2:ZeL Ts o.tm=true) (h3:F=o.vs):Zcn Ts Fs o F=true:=by unfold Zcn;rw [decide_eq_true h1,h2,decide_eq_true h3];rfl
section
variable (lo:Nat) (sv mv tv ov gv lv pv:Value) (Ss:List Sh) (Ms:List Md) (Ts:List Tm) (B:Bk) (FF:Nat→List Zy_) (w:World)
theorem ZgX (hl:ZaO lo w sv mv tv Ss Ms Ts) (hmb:Zau Ss Ms=true) (h:ZaH lo w ov gv lv pv B) (hn:ZcO B.os) (hsh:Za2 Ss Ms B.os FF) :
 Calls prog 55 #[.agg #[sv,mv,tv],.agg #[.int .i64 B.now,.int .i64 B.tick,.int .i64 B.given,ov,gv,lv,pv]] w fun e w'=>e=.returned (.bool (Zaw Ss Ts B FF))∧Zw_ w w':=by
 have HL:=Zab hl;have HK:=Zab h;have HMB:=Zab hmb;have HN:=Zab hn;have HSH:=Zab hsh;obtain⟨sa,sc,rfl⟩:=hl.shs.form;obtain⟨ma,mc,rfl⟩:=hl.mds.form;obtain⟨ta,tc,rfl⟩:=hl.tms.form;obtain⟨a0,k0,rfl⟩:=h.obs.form;obtain⟨a1,k1,rfl⟩:=h.grs.form;obtain⟨a2,k2,rfl⟩:=h.les.form;obtain⟨a3,k3,rfl⟩:=h.pus.form;have HI:Hid (Zaw Ss Ts B FF=(decide (B.os.length≤40)&&(Zcz Zf5 B.os&&(List.range B.os.length).all (ZnL Ss Ts B FF)))):=rfl;clear hl hmb h hn hsh
 by_cases hl:B.os.length≤40
 case neg=>
  have HE:Hid (Zaw Ss Ts B FF=false):=by unfold Hid;rw [HI.out,decide_eq_false hl];rfl
  have hgt:decide ((40:Int) < (B.os.length:Int))=true:=by simp;omega
  go_enter func55,ntmps55;go_wp2;go_ret;exact⟨Zaa HE.out.symm,(Zac w _).alloc (by simp) _⟩
 have hgt:decide ((40:Int) < (B.os.length:Int))=false:=by simp;omega
 go_enter func55,ntmps55;go_wp2;generalize hWa:(World.alloc (w.alloc _) _)=Wa;have HB:Hid (Zw_ w Wa):=by rw [← hWa];exact (Zac w _).alloc (by simp) _
 have HX:Hid (Box Wa w.heap.size #[.slice sa Ss.length sc,.slice ma Ms.length mc,.slice ta Ts.length tc]):=by rw [← hWa];exact (Box.new _ _ _ _ rfl).on (Zac _ _)
 have HY:Hid (Box Wa (w.heap.size+1) #[.int .i64 B.now,.int .i64 B.tick,.int .i64 B.given,.slice a0 B.os.length k0,.slice a1 B.gs.length k1,.slice a2 B.ls.length k2,.slice a3 B.ps.length k3]):=by rw [← hWa];exact Box.new _ _ _ _ (by simp)
 clear hWa hgt
 go_loopw [5] (fun i wr=>∃ m:Nat,i=.int .i64 m∧m≤B.os.length∧Zw_ w wr∧Box wr w.heap.size #[.slice sa Ss.length sc,.slice ma Ms.length mc,.slice ta Ts.length tc]∧Box wr (w.heap.size+1) #[.int .i64 B.now,.int .i64 B.tick,.int .i64 B.given,.slice a0 B.os.length k0,.slice a1 B.gs.length k1,.slice a2 B.ls.length k2,.slice a3 B.ps.length k3]∧(∀ j,j < m→ZnL Ss Ts B FF j=true)∧∀ j,j < m→Zce Zf5 B.os j=true) (fun i _=>B.os.length - (intOf i).toNat)
 case atStart=>exact⟨0,rfl,Nat.zero_le _,HB.out,HX.out,HY.out,fun j h=>by omega,fun j h=>by omega⟩
 case round=>
  obtain⟨m,rfl,hm,hb,hx,hy,hall,hris⟩:=hrel;have HBr:=Zab hb;have HXr:=Zab hx;have HYr:=Zab hy;have HA:=Zab hall;have HS:=Zab hris;have z3:=hy.cell 3;simp at z3;clear hb hx hy hall hris HB HX HY
  by_cases hlt:m < B.os.length
  · obtain⟨b,off,rfl,hbw,-,hc⟩:=HK.out.obs.full' (by omega)
    obtain⟨hs,vv0,vv1,hcell,hv0,hv1⟩:=hc m hlt;obtain⟨c0,c1,c2,c3,c4,c5,c6⟩:=hcell.below HBr.out hbw
    have HC:Hid (∀ k (h:k < B.os.length),w.cell? ⟨b,off+k*7,none⟩=some (.string B.os[k].kd)∧w.cell? ⟨b,off+k*7+1,none⟩=some (.string B.os[k].nm)):=fun k hk=>by
     obtain⟨_,_,_,hck,_,_⟩:=hc k hk;exact⟨hck.c0,hck.c1⟩
    have HZ:=Zab hs;have HV:=Zab hv0.at;have HH:=Zab hv1.at;obtain⟨va,vcap,rfl⟩:=hv0.at.form';obtain⟨ha,hcap,rfl⟩:=hv1.at.form';have HQ:=Zab (Zkt (Ss:=Ss) (Ts:=Ts) (FF:=FF) hlt);have n1:B.os[m].vs.length≤1048576:=(HN.out.2 m hlt).1;have n2:B.os[m].hs.length≤1048576:=(HN.out.2 m hlt).2;have x0:=HXr.out.cell 0;simp at x0;have xlt:=HXr.out.lt;have x0:∀ o,(wr.alloc o).cell? ⟨w.heap.size,0,none⟩=some (.slice sa Ss.length sc):=fun o=>(Zah _ _ _ _ xlt).trans x0
    clear hc hcell hs hv0 hv1 xlt;go_wp2_with fail;generalize hWb:wr.alloc _=Wb;have hbb:Below wr.heap.size wr Wb:=by rw [← hWb];exact Zac _ _
    have HBb:Hid (Zw_ w Wb):=HBr.out.trans (hbb.mono HBr.out.size);have HXb:=Zab (HXr.out.on hbb);have HYb:=Zab (HYr.out.on hbb);have HPb:Hid (Box Wb wr.heap.size #[.string B.os[m].kd,.string B.os[m].nm,.string B.os[m].tm,.slice va B.os[m].vs.length vcap,.bool B.os[m].en,.slice ha B.os[m].hs.length hcap,.int .i64 B.os[m].ver]):=by rw [← hWb];exact Box.new _ _ _ _ rfl
    clear hWb x0 z3 hbb c0 c1 c2 c3 c4 c5 c6 HXr HYr;generalize hβ:wr.heap.size=β at*;refine (Zke B.os[m].kd B.os[m].nm B.os[m].tm _ _ _ B.os[m].en B.os[m].ver B.os[m].vs B.os[m].hs Ss _ lo (HL.out.below HBb.out).shs (HV.out.below HBb.out) (HH.out.below HBb.out) HZ.out.s1 HZ.out.s2).mono ?_;rintro e w1 ⟨rfl,hb1⟩;have HB1:Hid (Zw_ w w1):=HBb.out.trans (hb1.mono HBb.out.size);have HX1:=Zab (HXb.out.on hb1);have HY1:=Zab (HYb.out.on hb1);have HP1:=Zab (HPb.out.on hb1);clear hb1 HBb HXb HYb HPb
    cases hsh:Zb3 Ss B.os[m].kd with
    | none=>
     have HE:Hid (Zaw Ss Ts B FF=false):=Zbz hlt (ZhG hsh);rw [ZiY (fun x hx=>by rw [hsh] at hx;cases hx)];go_wp2;go_ret;exact⟨Zaa HE.out.symm,HB1.out⟩
    | some x=>
     have HXS:=Zab hsh;have HOS:=Zab (ZhH (Ts:=Ts) (Os:=B.os) (now:=B.now) (F:=FF m) hsh);rw [Zgp hsh];clear hsh
     by_cases hck:(ZaV x.fields B.os[m].nm B.os[m].tm B.os[m].vs B.os[m].hs B.os[m].ver).1=0
     case neg=>
      have HE:Hid (Zaw Ss Ts B FF=false):=Zbz hlt (by rw [HOS.out,Zm5 hck];rfl);have hd:((ZaV x.fields B.os[m].nm B.os[m].tm B.os[m].vs B.os[m].hs B.os[m].ver).1 != 0)=true:=by simp [bne,hck]
      go_wp2;go_ret;exact⟨Zaa HE.out.symm,HB1.out⟩
     have hd:((ZaV x.fields B.os[m].nm B.os[m].tm B.os[m].vs B.os[m].hs B.os[m].ver).1 != 0)=false:=by simp [bne,hck]
     have HCK:=Zab hck;have HLEN:=Zab (Zft hck);clear hck;have t2:=HX1.out.cell 2;have q2:=HP1.out.cell 2;have q6:=HP1.out.cell 6;have y0:=HY1.out.cell 0;simp at t2 q2 q6 y0
     cases h1:ZeL Ts B.os[m].tm with
     | false=>
      have HE:Hid (Zaw Ss Ts B FF=false):=Zbz hlt (by rw [HOS.out,Zm6 h1];rfl);go_wp2_with (go_at_call 101;refine (ZaG lo _ Ts _ _ (HL.out.below HB1.out).tms).mono ?_;rintro e w1 ⟨rfl,rfl⟩);go_ret;exact⟨Zaa HE.out.symm,HB1.out⟩
     | true=>
      cases h2:inB 1 B.now B.os[m].ver with
      | false=>
       have HE:Hid (Zaw Ss Ts B FF=false):=Zbz hlt (by rw [HOS.out,h2,Bool.false_and,Bool.and_false]);go_wp2_with (first|(go_at_call 101;refine (ZaG lo _ Ts _ _ (HL.out.below HB1.out).tms).mono ?_;rintro e w1 ⟨rfl,rfl⟩)|(go_at_call 54;refine (Zal _ _ _ _).mono ?_;rintro e w1 ⟨rfl,rfl⟩));go_ret;exact⟨Zaa HE.out.symm,HB1.out⟩
      | true=>
       go_wp2_with (first|(go_at_call 101;refine (ZaG lo _ Ts _ _ (HL.out.below HB1.out).tms).mono ?_;rintro e w1 ⟨rfl,rfl⟩)|(go_at_call 54;refine (Zal _ _ _ _).mono ?_;rintro e w1 ⟨rfl,rfl⟩));clear hd t2 q2 q6 y0
       go_cut [76] (fun c wc=>c=.bool (!Zce Zf5 B.os m)∧Below w1.heap.size w1 wc)
       case first=>
        have y3:=HY1.out.cell 3;have q0:=HP1.out.cell 0;have q1:=HP1.out.cell 1;simp at y3 q0 q1
        by_cases h0:m=0
        · have hd0:decide (0 < m)=false:=by simp;omega
          have HRI:Hid (Zce Zf5 B.os m=true):=by unfold Hid;rw [h0];rfl
          clear h0
          go_quiet ((go_at_call 102;exact (Zc5 _ _ _ _ _).mono fun _ _ h=>⟨h.1,_,h.2⟩))
          go_wp2;go_meet;exact⟨congrArg Value.bool (by rw [HRI.out];rfl),below_drewN Zb_ _⟩
        · have hd0:decide (0 < m)=true:=by simp;omega
          obtain⟨k,hkm⟩:∃ k,m=k+1:=⟨m - 1,by omega⟩
          have hltk:k < B.os.length:=by omega
          have yk0:w1.cell? ⟨b,off+k*7,none⟩=some (.string B.os[k].kd):=(HB1.out.cell (p:=⟨b,off+k*7,none⟩) hbw).trans (HC.out k hltk).1;have yk1:w1.cell? ⟨b,off+k*7+1,none⟩=some (.string B.os[k].nm):=(HB1.out.cell (p:=⟨b,off+k*7+1,none⟩) hbw).trans (HC.out k hltk).2
          have HRI0:Hid (Zce Zf5 B.os m=decide (ZeK B.os[k].kd B.os[k].nm B.os[m].kd B.os[m].nm < 0)):=by
           subst hkm;unfold Hid;rw [Zdb hlt]
           rfl
          have e2:IntKind.i64.wrap ((m:Int) - 1)=k:=by rw [IntWalk.i64_left];unfold wrap64;omega
          have e3:wrap64 ((m:Int) - 1)=k:=by unfold wrap64;omega
          have e4:(m:Int) - 1=k:=by omega
          have HKM:=Zab hkm;clear h0 hkm
          by_cases hnu:ZeK B.os[k].kd B.os[k].nm B.os[m].kd B.os[m].nm < 0
          · have HRI:Hid (Zce Zf5 B.os m=true):=HRI0.out.trans (decide_eq_true hnu)
            have hd1:decide (0≤ZeK B.os[k].kd B.os[k].nm B.os[m].kd B.os[m].nm)=false:=by simp;omega
            clear hnu
            go_quiet ((go_at_call 102;exact (Zc5 _ _ _ _ _).mono fun _ _ h=>⟨h.1,_,h.2⟩))
            go_wp2;go_meet;exact⟨congrArg Value.bool (by rw [HRI.out];rfl),below_drewN Zb_ _⟩
          · have HRI:Hid (Zce Zf5 B.os m=false):=HRI0.out.trans (decide_eq_false hnu)
            have hd1:decide (0≤ZeK B.os[k].kd B.os[k].nm B.os[m].kd B.os[m].nm)=true:=by simp;omega
            clear hnu
            go_quiet ((go_at_call 102;exact (Zc5 _ _ _ _ _).mono fun _ _ h=>⟨h.1,_,h.2⟩))
            go_wp2;go_meet;exact⟨congrArg Value.bool (by rw [HRI.out];rfl),below_drewN Zb_ _⟩
       case rest=>
        obtain⟨hc76,hwn⟩:=hcut;have HW2:=Zab hwn;have HB2:Hid (Zw_ w wc):=HB1.out.trans (HW2.out.mono HB1.out.size);have HX2:=Zab (HX1.out.on HW2.out);have HY2:=Zab (HY1.out.on HW2.out);have HP2:=Zab (HP1.out.on HW2.out);clear hwn HX1 HY1 HP1
        cases hri:Zce Zf5 B.os m with
        | false=>
         have HE:Hid (Zaw Ss Ts B FF=false):=Zkv hlt hri;rw [hri] at hc76;subst hc76;go_wp2;go_ret;exact⟨Zaa HE.out.symm,HB2.out⟩
        | true=>
         have HR:=Zab hri;rw [hri] at hc76;subst hc76;clear hri;go_wp2;have HD:Hid (Zw_ w wc.drew):=HB2.out.drew;have hfd:=ZfJ
         go_region_held3 (ZaN wc w.heap.size #[.slice sa Ss.length sc,.slice ma Ms.length mc,.slice ta Ts.length tc] β #[.string B.os[m].kd,.string B.os[m].nm,.string B.os[m].tm,.slice va B.os[m].vs.length vcap,.bool B.os[m].en,.slice ha B.os[m].hs.length hcap,.int .i64 B.os[m].ver])
          (first
            | (with_reducible exact ZaN.drew HX2.out HP2.out)
            | (with_reducible exact ZaN.on (by assumption) (by assumption)))
          (first
            | (go_at_call 104
               refine (Zjk B.os[m].kd B.os[m].nm B.os[m].tm _ _ _ _ B.os[m].en B.os[m].ver B.os[m].vs B.os[m].hs Ss Ms _ lo lo (HL.out.below HD.out).shs (HL.out.below HD.out).mds (HV.out.below HD.out) (HH.out.below HD.out) n1 n2 HMB.out).mono ?_;rintro e w3 ⟨v',h',F',rfl,hb3,⟨mid,hlo,hmi,hs3,hs4⟩,hfix⟩;have HFF:Hid (F'=FF m):=Zco.unique hfix (HSH.out m hlt);have HC3:Hid (Zw_ w w3):=HD.out.trans (hb3.mono HD.out.size);have HS3:=Zab hs3.at;obtain⟨va',vcap',rfl⟩:=hs3.form;obtain⟨ha',hcap',rfl⟩:=hs4.form;clear hfix hs3 hs4 hlo hmi)
            | (go_at_call 103
               refine (ZiG _ _ F' B.os[m].vs _ HS3.out (HV.out.below HC3.out)).mono ?_;rintro e w4 ⟨he4,hb4⟩;obtain⟨dq,hdq⟩:∃ d,d=decide (F'=B.os[m].vs):=⟨_,rfl⟩
               rw [← hdq] at he4;subst he4;have HDQ:=Zab hdq;clear hdq;have HC4:Hid (Zw_ w w4):=HC3.out.trans (hb4.mono HC3.out.size)))
         have hb34:Below wc.heap.size wc w4:=(Zb_.drew.trans hb3).trans (hb4.mono ((Zb_.drew.trans hb3:Below wc.heap.size wc w3)).size);have HX4:=Zab (HX2.out.on hb34);have HY4:=Zab (HY2.out.on hb34);have HP4:=Zab (HP2.out.on hb34);have HF4:=Zab HFF.out;clear hb3 hb4 hb34 HX2 HY2 HP2 HC3 HS3 HD hfd
         cases dq with
         | false=>
          have hfv:¬ F'=B.os[m].vs:=of_decide_eq_false HDQ.out.symm;have HE:Hid (Zaw Ss Ts B FF=false):=Zbz hlt (by rw [HOS.out,Zm7 (fun e=>hfv (HF4.out.trans e))];rfl);clear hfv;go_wp2;go_ret;exact⟨Zaa HE.out.symm,HC4.out⟩
         | true=>
          have hfv:F'=B.os[m].vs:=of_decide_eq_true HDQ.out.symm;have HAL:Hid (Zcn Ts x.fields B.os[m] (FF m)=true):=Zm8 HCK.out h1 (by rw [← HF4.out];exact hfv);clear hfv;have x0:=HX4.out.cell 0;have q0:=HP4.out.cell 0;have q1:=HP4.out.cell 1;have q2:=HP4.out.cell 2;have q3:=HP4.out.cell 3;have q4:=HP4.out.cell 4;have q5:=HP4.out.cell 5;have q6:=HP4.out.cell 6;simp at x0 q0 q1 q2 q3 q4 q5 q6;go_wp2_with fail;clear x0 q0 q1 q2 q3 q4 q5 q6;refine (Zcx B.os[m].kd B.os[m].nm B.os[m].tm _ _ _ B.os[m].en B.os[m].ver B.os[m].vs B.os[m].hs Ss _ lo w HL.out.shs HC4.out (HV.out.below HC4.out) (HH.out.below HC4.out)).mono ?_;rintro e w5 ⟨hb5,hq⟩;have HB5:Hid (Zw_ w w5):=HC4.out.trans (hb5.mono HC4.out.size);have HX5:=Zab (HX4.out.on hb5);have HY5:=Zab (HY4.out.on hb5);have HP5:=Zab (HP4.out.on hb5);clear hb5 HX4 HY4 HP4 HC4
          rcases hq with ⟨x',fv,hsh',hl',rfl,hF⟩ | ⟨hno,_⟩
          case inr=>exact absurd HLEN.out.symm (hno x HXS.out)
          obtain rfl:x=x':=Option.some.inj (HXS.out.symm.trans hsh');have HF:=Zab hF;obtain⟨fa,fcap,rfl⟩:=hF.form;clear hF hsh' hl';go_wp2
          go_loopw [11] (fun i wr=>∃ q:Nat,i=.int .i64 q∧q≤x.fields.length∧Zw_ w wr∧Box wr w.heap.size #[.slice sa Ss.length sc,.slice ma Ms.length mc,.slice ta Ts.length tc]∧Box wr (w.heap.size+1) #[.int .i64 B.now,.int .i64 B.tick,.int .i64 B.given,.slice (some ⟨b,off,none⟩) B.os.length k0,.slice a1 B.gs.length k1,.slice a2 B.ls.length k2,.slice a3 B.ps.length k3]∧Box wr β #[.string B.os[m].kd,.string B.os[m].nm,.string B.os[m].tm,.slice va B.os[m].vs.length vcap,.bool B.os[m].en,.slice ha B.os[m].hs.length hcap,.int .i64 B.os[m].ver]∧(Zei x.fields B.os[m].vs q).all (Zde B.os)=true) (fun i _=>x.fields.length - (intOf i).toNat)
          case atStart=>exact⟨0,rfl,Nat.zero_le _,HB5.out,HX5.out,HY5.out,HP5.out,rfl⟩
          case round=>
           obtain⟨q,rfl,hq,hb,hx,hy,hp,hall⟩:=hrel;have HBi:=Zab hb;have HXi:=Zab hx;have HYi:=Zab hy;have HPi:=Zab hp;have HAi:=Zab hall;clear hb hx hy hp hall HB5 HX5 HY5 HP5
           by_cases hlq:q < x.fields.length
           · have hlv:q < B.os[m].vs.length:=by have:=HLEN.out;omega
             obtain⟨fb,foff,rfl,hfb,hfc⟩:=HF.out.full' (by omega);obtain⟨hsz,wv,hcell,hst⟩:=hfc q hlq;obtain⟨vb,voff,rfl,hvb,hvc,hvs⟩:=HV.out.spread (by omega);have HST:=Zab (ZjI hlq hlv);have HTO:Hid (ZfV q x.fields[q] B.os[m].vs[q]=if (x.fields[q].kd == 4&&!B.os[m].vs[q].toList.isEmpty)=true then [(q,x.fields[q].ro,x.fields[q].to,B.os[m].vs[q])] else []):=rfl;go_wp2
             go_cut [129] (fun c wc=>c=.bool (!(ZfV q x.fields[q] B.os[m].vs[q]).all (Zde B.os))∧Below wr.heap.size wr wc)
             case first=>
              have xn:Nonempty (In (Up wr)):=⟨⟨wr,Below.refl _ _⟩⟩;have xs:=fun (X:In (Up wr))=>ZcH X
              have z1:∀ X:In (Up wr),X.w.cell? ⟨fb,foff+q*11+1,none⟩=some (.int .i64 x.fields[q].kd):=fun X=>Up.cell X (hcell.below HBi.out hfb).c1
              have z5:∀ X:In (Up wr),X.w.cell? ⟨fb,foff+q*11+5,none⟩=some (.string x.fields[q].to):=fun X=>Up.cell X (hcell.below HBi.out hfb).c5
              have zv:∀ X:In (Up wr),X.w.cell? ⟨vb,voff+q,none⟩=some (.string B.os[m].vs[q]):=fun X=>Up.cell X ((HBi.out.cell (p:=⟨vb,voff+q,none⟩) hvb).trans (hvc q hlv))
              have q3:∀ X:In (Up wr),X.w.cell? ⟨β,3,none⟩=some (.slice (some ⟨vb,voff,none⟩) B.os[m].vs.length vcap):=fun X=>Up.cell X (by rw [HPi.out.cell 3];rfl)
              have x0:∀ X:In (Up wr),X.w.cell? ⟨w.heap.size+1,0,none⟩=some (.int .i64 B.now):=fun X=>Up.cell X (by rw [HYi.out.cell 0];rfl)
              have x1:∀ X:In (Up wr),X.w.cell? ⟨w.heap.size+1,1,none⟩=some (.int .i64 B.tick):=fun X=>Up.cell X (by rw [HYi.out.cell 1];rfl)
              have x2:∀ X:In (Up wr),X.w.cell? ⟨w.heap.size+1,2,none⟩=some (.int .i64 B.given):=fun X=>Up.cell X (by rw [HYi.out.cell 2];rfl)
              have x3:∀ X:In (Up wr),X.w.cell? ⟨w.heap.size+1,3,none⟩=some (.slice (some ⟨b,off,none⟩) B.os.length k0):=fun X=>Up.cell X (by rw [HYi.out.cell 3];rfl)
              have x4:∀ X:In (Up wr),X.w.cell? ⟨w.heap.size+1,4,none⟩=some (.slice a1 B.gs.length k1):=fun X=>Up.cell X (by rw [HYi.out.cell 4];rfl)
              have x5:∀ X:In (Up wr),X.w.cell? ⟨w.heap.size+1,5,none⟩=some (.slice a2 B.ls.length k2):=fun X=>Up.cell X (by rw [HYi.out.cell 5];rfl)
              have x6:∀ X:In (Up wr),X.w.cell? ⟨w.heap.size+1,6,none⟩=some (.slice a3 B.ps.length k3):=fun X=>Up.cell X (by rw [HYi.out.cell 6];rfl)
              have hd:=ZrD B.os x.fields[q].to B.os[m].vs[q];clear hfc hsz hcell hst hvc hvs;refine Zae (Up wr) (by kernel_rfl) (by kernel_rfl) (Zb_.drew) ?_
              cases hk1:(x.fields[q].kd == 4) with
              | false=>
               repeat (go_big_quiet_step ((go_at_call 106;rename_i X;exact (Zf7 lo _ _ _ _ B _ _ _ (HK.out.below (HBi.out.trans (X.h.mono HBi.out.size)))).mono fun _ _ h=>⟨h.1,Up.next X h.2⟩)))
               refine wpQuiet_nil ?_;intro wn hw;obtain⟨X,hX⟩:=hw;have HWN:Below wr.heap.size wr wn:=by rw [hX];exact X.h
               clear hX X xs xn z1 z5 zv q3 x0 x1 x2 x3 x4 x5 x6;go_wp2;go_meet;exact⟨congrArg Value.bool (by rw [HTO.out,hk1];rfl),HWN⟩
              | true=>
               cases hk2:B.os[m].vs[q].toList.isEmpty with
               | true=>
                repeat (go_big_quiet_step ((go_at_call 106;rename_i X;exact (Zf7 lo _ _ _ _ B _ _ _ (HK.out.below (HBi.out.trans (X.h.mono HBi.out.size)))).mono fun _ _ h=>⟨h.1,Up.next X h.2⟩)))
                refine wpQuiet_nil ?_;intro wn hw;obtain⟨X,hX⟩:=hw;have HWN:Below wr.heap.size wr wn:=by rw [hX];exact X.h
                clear hX X xs xn z1 z5 zv q3 x0 x1 x2 x3 x4 x5 x6;go_wp2;go_meet;exact⟨congrArg Value.bool (by rw [HTO.out,hk1,hk2];rfl),HWN⟩
               | false=>
                cases h3:B.os.any (Zf9 x.fields[q].to B.os[m].vs[q]) with
                | true=>
                 rw [h3] at hd
                 repeat (go_big_quiet_step ((go_at_call 106;rename_i X;exact (Zf7 lo _ _ _ _ B _ _ _ (HK.out.below (HBi.out.trans (X.h.mono HBi.out.size)))).mono fun _ _ h=>⟨h.1,Up.next X h.2⟩)))
                 refine wpQuiet_nil ?_;intro wn hw;obtain⟨X,hX⟩:=hw;have HWN:Below wr.heap.size wr wn:=by rw [hX];exact X.h
                 clear hX X xs xn z1 z5 zv q3 x0 x1 x2 x3 x4 x5 x6;go_wp2;go_meet;exact⟨congrArg Value.bool (by rw [HTO.out,hk1,hk2];show false=!(B.os.any (Zf9 x.fields[q].to B.os[m].vs[q])&&true);rw [h3];rfl),HWN⟩
                | false=>
                 rw [h3] at hd
                 repeat (go_big_quiet_step ((go_at_call 106;rename_i X;exact (Zf7 lo _ _ _ _ B _ _ _ (HK.out.below (HBi.out.trans (X.h.mono HBi.out.size)))).mono fun _ _ h=>⟨h.1,Up.next X h.2⟩)))
                 refine wpQuiet_nil ?_;intro wn hw;obtain⟨X,hX⟩:=hw;have HWN:Below wr.heap.size wr wn:=by rw [hX];exact X.h
                 clear hX X xs xn z1 z5 zv q3 x0 x1 x2 x3 x4 x5 x6;go_wp2;go_meet;exact⟨congrArg Value.bool (by rw [HTO.out,hk1,hk2];show true=!(B.os.any (Zf9 x.fields[q].to B.os[m].vs[q])&&true);rw [h3];rfl),HWN⟩
             case rest=>
              obtain⟨hc129,hwn⟩:=hcut;have HWN:=Zab hwn;have HWB:Hid (Zw_ w wc):=HBi.out.trans (HWN.out.mono HBi.out.size);have HXw:=Zab (HXi.out.on HWN.out);have HYw:=Zab (HYi.out.on HWN.out);have HPw:=Zab (HPi.out.on HWN.out);clear hwn hfc hsz hcell hst hvc hvs HXi HYi HPi
              cases hti:(ZfV q x.fields[q] B.os[m].vs[q]).all (Zde B.os) with
              | false=>
               have HE:Hid (Zaw Ss Ts B FF=false):=Zbz hlt (by rw [HOS.out,ZoC (show q+1≤x.fields.length by omega) (by rw [HST.out,List.all_append,hti,Bool.and_false]),Bool.and_false,Bool.and_false]);rw [hti] at hc129;subst hc129;go_wp2;go_ret;exact⟨Zaa HE.out.symm,HWB.out⟩
              | true=>
               have HAT:Hid ((Zei x.fields B.os[m].vs (q+1)).all (Zde B.os)=true):=by unfold Hid;rw [HST.out,List.all_append,HAi.out,hti];rfl
               rw [hti] at hc129;subst hc129;go_wp2;go_roundw
               case rel=>exact⟨q+1,by go_num,by omega,HWB.out,HXw.out,HYw.out,HPw.out,HAT.out⟩
               case measure=>simp [intOf];omega
           · have he:q=x.fields.length:=by omega
             subst he;have HT:Hid (ZnL Ss Ts B FF m=true):=by unfold Hid;rw [HQ.out,HOS.out,HAL.out,h2,show ZiP B.os x.fields B.os[m].vs=true from HAi.out];rfl
             go_wp2;go_roundw
             case rel=>exact⟨m+1,by go_num,by omega,HBi.out,HXi.out,HYi.out,ZkG HA.out HT.out,ZkG (p:=Zce Zf5 B.os) HS.out HR.out⟩
             case measure=>simp [intOf];omega
  · have HT:Hid (Zaw Ss Ts B FF=true):=ZgN hl (Za0 (fun j hj=>HS.out j (by omega))) (fun i hi=>HA.out i (by omega))
    go_wp2;go_ret;exact⟨Zaa HT.out.symm,HBr.out⟩
end
def Zbj (Ss:List Sh) (Ts:List Tm) (B:Bk) (FF:Nat→List Zy_):Bool:=ZdF B&&(Zaw Ss Ts B FF&&(ZaX B&&Zf8 Ss Ts B))
def ZeD (Ss:List Sh) (Ms:List Md) (Ts:List Tm) (B:Bk) (FF:Nat→List Zy_):Bool:=Zdm Ss Ms Ts&&Zbj Ss Ts B FF
theorem ZgG {Ss:List Sh} {Ms:List Md} {Ts:List Tm} (h:Zdm Ss Ms Ts=true):Zau Ss Ms=true:=by
 unfold Zdm at h;rw [Bool.and_eq_true] at h;exact h.1
theorem ZhS {B:Bk} (h:ZdF B=true):inB 0 1000000 B.tick=true:=by
 unfold ZdF at h;rw [Bool.and_eq_true,Bool.and_eq_true] at h;exact h.1.2
theorem Zkl {Ts:List Tm} {Ls:List Le} (h:ZaQ Ts Ls=true):Zcz Zdh Ls=true:=by
 unfold ZaQ at h;rw [Bool.and_eq_true,Bool.and_eq_true] at h;exact h.1.2
theorem Za2.exists (Ss:List Sh) (Ms:List Md) (Os:List Ob):∃ FF,Za2 Ss Ms Os FF:=by
 have h:∀ i,∃ F,∀ (h:i < Os.length),Zco Ss Ms Os[i].kd Os[i].vs F:=fun i=>by
  by_cases hi:i < Os.length
  · obtain⟨F,hF⟩:=Zco.exists Ss Ms Os[i].kd Os[i].vs
    exact⟨F,fun _=>hF⟩
  · exact⟨[],fun h=>absurd h hi⟩
 exact⟨fun i=>(h i).choose,fun i hi=>(h i).choose_spec hi⟩
section
variable (lo:Nat) (sv mv tv ov gv lv pv:Value) (Ss:List Sh) (Ms:List Md) (Ts:List Tm) (B:Bk) (FF:Nat→List Zy_) (w:World)
theorem ZdN (hl:ZaO lo w sv mv tv Ss Ms Ts) (hmb:Zau Ss Ms=true) (h:ZaH lo w ov gv lv pv B) (hn:Zbx B) (hsh:Za2 Ss Ms B.os FF) :
 Calls prog 43 #[.agg #[sv,mv,tv],.agg #[.int .i64 B.now,.int .i64 B.tick,.int .i64 B.given,ov,gv,lv,pv]] w fun e w'=>e=.returned (.bool (Zbj Ss Ts B FF))∧Zw_ w w':=by
 have HL:=Zab hl;have HK:=Zab h;have HN:=Zab hn;have HSH:=Zab hsh;have HMB:=Zab hmb;have HLL:Hid (B.ls.length≤1048576):=hn.2.2.1.1;have HI:Hid (Zbj Ss Ts B FF=(ZdF B&&(Zaw Ss Ts B FF&&(ZaX B&&(ZaQ Ts B.ls&&(Za8 B&&ZjE Ss Ts B)))))):=rfl;obtain⟨sa,sc,rfl⟩:=hl.shs.form;obtain⟨ma,mc,rfl⟩:=hl.mds.form;obtain⟨ta,tc,rfl⟩:=hl.tms.form;obtain⟨a0,k0,rfl⟩:=h.obs.form;obtain⟨a1,k1,rfl⟩:=h.grs.form;obtain⟨a2,k2,rfl⟩:=h.les.form;obtain⟨a3,k3,rfl⟩:=h.pus.form;clear hl hmb h hn hsh;go_enter func43,ntmps43;go_wp2_with fail;generalize hWa:(World.alloc (w.alloc _) _)=w0;have HB0:Hid (Zw_ w w0):=by rw [← hWa];exact (Zac w _).alloc (by simp) _
 have HX0:Hid (Box w0 w.heap.size #[.slice sa Ss.length sc,.slice ma Ms.length mc,.slice ta Ts.length tc]):=by rw [← hWa];exact (Box.new _ _ _ _ rfl).on (Zac _ _)
 have HY0:Hid (Box w0 (w.heap.size+1) #[.int .i64 B.now,.int .i64 B.tick,.int .i64 B.given,.slice a0 B.os.length k0,.slice a1 B.gs.length k1,.slice a2 B.ls.length k2,.slice a3 B.ps.length k3]):=by rw [← hWa];exact Box.new _ _ _ _ (by simp)
 clear hWa;refine (ZkJ lo _ _ _ _ B _ (HK.out.below HB0.out)).mono ?_;rintro e w1 ⟨rfl,hb⟩;have HB1:Hid (Zw_ w w1):=HB0.out.trans (hb.mono HB0.out.size);have HX1:=Zab (HX0.out.on hb);have HY1:=Zab (HY0.out.on hb);clear hb HB0 HX0 HY0
 cases h0:ZdF B with
 | false=>
  have HE:Hid (Zbj Ss Ts B FF=false):=by unfold Hid;rw [HI.out,h0];rfl
  go_wp2;go_ret;exact⟨Zaa HE.out.symm,HB1.out⟩
 | true=>
  have l0:=HX1.out.cell 0;have l1:=HX1.out.cell 1;have l2:=HX1.out.cell 2;have b0:=HY1.out.cell 0;have b1:=HY1.out.cell 1;have b2:=HY1.out.cell 2;have b3:=HY1.out.cell 3;have b4:=HY1.out.cell 4;have b5:=HY1.out.cell 5;have b6:=HY1.out.cell 6;simp at l0 l1 l2 b0 b1 b2 b3 b4 b5 b6;go_wp2_with fail;clear l0 l1 l2 b0 b1 b2 b3 b4 b5 b6;refine (ZgA lo _ _ _ _ _ _ _ Ss Ms Ts B FF _ (HL.out.below HB1.out) HMB.out (HK.out.below HB1.out) HN.out.1 HSH.out).mono ?_;rintro e w2 ⟨rfl,hb⟩;have HB2:Hid (Zw_ w w2):=HB1.out.trans (hb.mono HB1.out.size);have HX2:=Zab (HX1.out.on hb);have HY2:=Zab (HY1.out.on hb);clear hb HB1 HX1 HY1
  cases h1:Zaw Ss Ts B FF with
  | false=>
   have HE:Hid (Zbj Ss Ts B FF=false):=by unfold Hid;rw [HI.out,h0,h1];rfl
   go_wp2;go_ret;exact⟨Zaa HE.out.symm,HB2.out⟩
  | true=>
   have l0:=HX2.out.cell 0;have l1:=HX2.out.cell 1;have l2:=HX2.out.cell 2;have b0:=HY2.out.cell 0;have b1:=HY2.out.cell 1;have b2:=HY2.out.cell 2;have b3:=HY2.out.cell 3;have b4:=HY2.out.cell 4;have b5:=HY2.out.cell 5;have b6:=HY2.out.cell 6;simp at l0 l1 l2 b0 b1 b2 b3 b4 b5 b6;go_wp2_with fail;clear l0 l1 l2 b0 b1 b2 b3 b4 b5 b6;refine (Zhd lo _ _ _ _ B _ (HK.out.below HB2.out)).mono ?_;rintro e w3 ⟨rfl,hb⟩;have HB3:Hid (Zw_ w w3):=HB2.out.trans (hb.mono HB2.out.size);have HX3:=Zab (HX2.out.on hb);have HY3:=Zab (HY2.out.on hb);clear hb HB2 HX2 HY2
   cases h2:ZaX B with
   | false=>
    have HE:Hid (Zbj Ss Ts B FF=false):=by unfold Hid;rw [HI.out,h0,h1,h2];rfl
    go_wp2;go_ret;exact⟨Zaa HE.out.symm,HB3.out⟩
   | true=>
    have l0:=HX3.out.cell 0;have l1:=HX3.out.cell 1;have l2:=HX3.out.cell 2;have b0:=HY3.out.cell 0;have b1:=HY3.out.cell 1;have b2:=HY3.out.cell 2;have b3:=HY3.out.cell 3;have b4:=HY3.out.cell 4;have b5:=HY3.out.cell 5;have b6:=HY3.out.cell 6;simp at l0 l1 l2 b0 b1 b2 b3 b4 b5 b6;go_wp2_with fail;clear l0 l1 l2 b0 b1 b2 b3 b4 b5 b6;refine (Zgz lo _ _ _ _ Ss Ms Ts B.ls _ (HL.out.below HB3.out) (HK.out.below HB3.out).les).mono ?_;rintro e w4 ⟨rfl,hb⟩;have HB4:Hid (Zw_ w w4):=HB3.out.trans (hb.mono HB3.out.size);have HX4:=Zab (HX3.out.on hb);have HY4:=Zab (HY3.out.on hb);clear hb HB3 HX3 HY3
    cases h3:ZaQ Ts B.ls with
    | false=>
     have HE:Hid (Zbj Ss Ts B FF=false):=by unfold Hid;rw [HI.out,h0,h1,h2,h3];rfl
     go_wp2;go_ret;exact⟨Zaa HE.out.symm,HB4.out⟩
    | true=>
     have l0:=HX4.out.cell 0;have l1:=HX4.out.cell 1;have l2:=HX4.out.cell 2;have b0:=HY4.out.cell 0;have b1:=HY4.out.cell 1;have b2:=HY4.out.cell 2;have b3:=HY4.out.cell 3;have b4:=HY4.out.cell 4;have b5:=HY4.out.cell 5;have b6:=HY4.out.cell 6;simp at l0 l1 l2 b0 b1 b2 b3 b4 b5 b6;go_wp2_with fail;clear l0 l1 l2 b0 b1 b2 b3 b4 b5 b6;refine (Zhe lo _ _ _ _ B _ (HK.out.below HB4.out) HLL.out (Zkl h3) (ZhS h0)).mono ?_;rintro e w5 ⟨rfl,hb⟩;have HB5:Hid (Zw_ w w5):=HB4.out.trans (hb.mono HB4.out.size);have HX5:=Zab (HX4.out.on hb);have HY5:=Zab (HY4.out.on hb);clear hb HB4 HX4 HY4
     cases h4:Za8 B with
     | false=>
      have HE:Hid (Zbj Ss Ts B FF=false):=by unfold Hid;rw [HI.out,h0,h1,h2,h3,h4];rfl
      go_wp2;go_ret;exact⟨Zaa HE.out.symm,HB5.out⟩
     | true=>
      have l0:=HX5.out.cell 0;have l1:=HX5.out.cell 1;have l2:=HX5.out.cell 2;have b0:=HY5.out.cell 0;have b1:=HY5.out.cell 1;have b2:=HY5.out.cell 2;have b3:=HY5.out.cell 3;have b4:=HY5.out.cell 4;have b5:=HY5.out.cell 5;have b6:=HY5.out.cell 6;simp at l0 l1 l2 b0 b1 b2 b3 b4 b5 b6;go_wp2_with fail;clear l0 l1 l2 b0 b1 b2 b3 b4 b5 b6;refine (Zjf lo _ _ _ _ _ _ _ Ss Ms Ts B _ (HL.out.below HB5.out) (HK.out.below HB5.out) HN.out).mono ?_;rintro e w6 ⟨rfl,hb⟩;have HB6:Hid (Zw_ w w6):=HB5.out.trans (hb.mono HB5.out.size);have HX6:=Zab (HX5.out.on hb);have HY6:=Zab (HY5.out.on hb);clear hb HB5 HX5 HY5;have HE:Hid (Zbj Ss Ts B FF=ZjE Ss Ts B):=by unfold Hid;rw [HI.out,h0,h1,h2,h3,h4];rfl
      go_wp2;go_ret;exact⟨Zaa HE.out.symm,HB6.out⟩
theorem Zeh (hl:ZaO lo w sv mv tv Ss Ms Ts) (h:ZaH lo w ov gv lv pv B) (hn:Zbx B) (hsh:Za2 Ss Ms B.os FF) :
 Calls prog 22 #[.agg #[sv,mv,tv],.agg #[.int .i64 B.now,.int .i64 B.tick,.int .i64 B.given,ov,gv,lv,pv]] w fun e w'=>e=.returned (.bool (ZeD Ss Ms Ts B FF))∧Zw_ w w':=by
 have HL:=Zab hl;have HK:=Zab h;have HN:=Zab hn;have HSH:=Zab hsh;have HI:Hid (ZeD Ss Ms Ts B FF=(Zdm Ss Ms Ts&&(ZdF B&&(Zaw Ss Ts B FF&&(ZaX B&&Zf8 Ss Ts B))))):=rfl;have HTI:Hid (ZdF B=(inB 0 1000000 B.now&&inB 0 1000000 B.tick&&inB 0 B.now B.given)):=rfl;obtain⟨sa,sc,rfl⟩:=hl.shs.form;obtain⟨ma,mc,rfl⟩:=hl.mds.form;obtain⟨ta,tc,rfl⟩:=hl.tms.form;obtain⟨a0,k0,rfl⟩:=h.obs.form;obtain⟨a1,k1,rfl⟩:=h.grs.form;obtain⟨a2,k2,rfl⟩:=h.les.form;obtain⟨a3,k3,rfl⟩:=h.pus.form;clear hl h hn hsh;go_enter func22,ntmps22;go_wp2_with fail;generalize hWa:(World.alloc (w.alloc _) _)=w0;have HB0:Hid (Zw_ w w0):=by rw [← hWa];exact (Zac w _).alloc (by simp) _
 have HX0:Hid (Box w0 w.heap.size #[.slice sa Ss.length sc,.slice ma Ms.length mc,.slice ta Ts.length tc]):=by rw [← hWa];exact (Box.new _ _ _ _ rfl).on (Zac _ _)
 have HY0:Hid (Box w0 (w.heap.size+1) #[.int .i64 B.now,.int .i64 B.tick,.int .i64 B.given,.slice a0 B.os.length k0,.slice a1 B.gs.length k1,.slice a2 B.ls.length k2,.slice a3 B.ps.length k3]):=by rw [← hWa];exact Box.new _ _ _ _ (by simp)
 clear hWa;refine (ZiK lo _ _ _ Ss Ms Ts _ (HL.out.below HB0.out)).mono ?_;rintro e w1 ⟨rfl,hb⟩;have HB1:Hid (Zw_ w w1):=HB0.out.trans (hb.mono HB0.out.size);have HX1:=Zab (HX0.out.on hb);have HY1:=Zab (HY0.out.on hb);clear hb HB0 HX0 HY0;have b0:=HY1.out.cell 0;have b1:=HY1.out.cell 1;have b2:=HY1.out.cell 2;simp at b0 b1 b2
 cases h0:Zdm Ss Ms Ts with
 | false=>
  have HE:Hid (ZeD Ss Ms Ts B FF=false):=by unfold Hid;rw [HI.out,h0];rfl
  go_wp2;go_ret;exact⟨Zaa HE.out.symm,HB1.out⟩
 | true=>
  cases i0:inB 0 1000000 B.now with
  | false=>
   have HE:Hid (ZeD Ss Ms Ts B FF=false):=by unfold Hid;rw [HI.out,h0,HTI.out,i0];rfl
   go_wp2_with (go_at_call 54;refine (Zal _ _ _ _).mono ?_;rintro e w' ⟨rfl,rfl⟩);go_ret;exact⟨Zaa HE.out.symm,HB1.out⟩
  | true=>
   cases i1:inB 0 1000000 B.tick with
   | false=>
    have HE:Hid (ZeD Ss Ms Ts B FF=false):=by unfold Hid;rw [HI.out,h0,HTI.out,i0,i1];rfl
    go_wp2_with (go_at_call 54;refine (Zal _ _ _ _).mono ?_;rintro e w' ⟨rfl,rfl⟩);go_ret;exact⟨Zaa HE.out.symm,HB1.out⟩
   | true=>
    cases i2:inB 0 B.now B.given with
    | false=>
     have HE:Hid (ZeD Ss Ms Ts B FF=false):=by unfold Hid;rw [HI.out,h0,HTI.out,i0,i1,i2];rfl
     go_wp2_with (go_at_call 54;refine (Zal _ _ _ _).mono ?_;rintro e w' ⟨rfl,rfl⟩);go_ret;exact⟨Zaa HE.out.symm,HB1.out⟩
    | true=>
     have HT:Hid (ZdF B=true):=by unfold Hid;rw [HTI.out,i0,i1,i2];rfl
     have l0:=HX1.out.cell 0;have l1:=HX1.out.cell 1;have l2:=HX1.out.cell 2;have b3:=HY1.out.cell 3;have b4:=HY1.out.cell 4;have b5:=HY1.out.cell 5;have b6:=HY1.out.cell 6;simp at l0 l1 l2 b3 b4 b5 b6;go_wp2_with (go_at_call 54;refine (Zal _ _ _ _).mono ?_;rintro e w' ⟨rfl,rfl⟩);clear l0 l1 l2 b0 b1 b2 b3 b4 b5 b6;refine (ZgX lo _ _ _ _ _ _ _ Ss Ms Ts B FF _ (HL.out.below HB1.out) (ZgG h0) (HK.out.below HB1.out) HN.out.1 HSH.out).mono ?_;rintro e w2 ⟨rfl,hb⟩;have HB2:Hid (Zw_ w w2):=HB1.out.trans (hb.mono HB1.out.size);have HX2:=Zab (HX1.out.on hb);have HY2:=Zab (HY1.out.on hb);clear hb HB1 HX1 HY1
     cases h1:Zaw Ss Ts B FF with
     | false=>
      have HE:Hid (ZeD Ss Ms Ts B FF=false):=by unfold Hid;rw [HI.out,h0,HT.out,h1];rfl
      go_wp2;go_ret;exact⟨Zaa HE.out.symm,HB2.out⟩
     | true=>
      have l0:=HX2.out.cell 0;have l1:=HX2.out.cell 1;have l2:=HX2.out.cell 2;have b0:=HY2.out.cell 0;have b1:=HY2.out.cell 1;have b2:=HY2.out.cell 2;have b3:=HY2.out.cell 3;have b4:=HY2.out.cell 4;have b5:=HY2.out.cell 5;have b6:=HY2.out.cell 6;simp at l0 l1 l2 b0 b1 b2 b3 b4 b5 b6;go_wp2_with fail;clear l0 l1 l2 b0 b1 b2 b3 b4 b5 b6;refine (Zhj lo _ _ _ _ B _ (HK.out.below HB2.out)).mono ?_;rintro e w3 ⟨rfl,hb⟩;have HB3:Hid (Zw_ w w3):=HB2.out.trans (hb.mono HB2.out.size);have HX3:=Zab (HX2.out.on hb);have HY3:=Zab (HY2.out.on hb);clear hb HB2 HX2 HY2
      cases h2:ZaX B with
      | false=>
       have HE:Hid (ZeD Ss Ms Ts B FF=false):=by unfold Hid;rw [HI.out,h0,HT.out,h1,h2];rfl
       go_wp2;go_ret;exact⟨Zaa HE.out.symm,HB3.out⟩
      | true=>
       have l0:=HX3.out.cell 0;have l1:=HX3.out.cell 1;have l2:=HX3.out.cell 2;have b0:=HY3.out.cell 0;have b1:=HY3.out.cell 1;have b2:=HY3.out.cell 2;have b3:=HY3.out.cell 3;have b4:=HY3.out.cell 4;have b5:=HY3.out.cell 5;have b6:=HY3.out.cell 6;simp at l0 l1 l2 b0 b1 b2 b3 b4 b5 b6;go_wp2_with fail;clear l0 l1 l2 b0 b1 b2 b3 b4 b5 b6;refine (ZjD lo _ _ _ _ _ _ _ Ss Ms Ts B _ (HL.out.below HB3.out) (HK.out.below HB3.out) HN.out.1 (ZhS HT.out)).mono ?_;rintro e w4 ⟨rfl,hb⟩;have HB4:Hid (Zw_ w w4):=HB3.out.trans (hb.mono HB3.out.size);have HX4:=Zab (HX3.out.on hb);have HY4:=Zab (HY3.out.on hb);clear hb HB3 HX3 HY3;have HE:Hid (ZeD Ss Ms Ts B FF=Zf8 Ss Ts B):=by unfold Hid;rw [HI.out,h0,HT.out,h1,h2];rfl
       go_wp2;go_ret;exact⟨Zaa HE.out.symm,HB4.out⟩
end
end Go.Proofs.YtcfjmagkinpaeaaGreat
