import Derived.Test.YtfohnageehneoaaGreatUJA
import Derived.Test.YtfohnageehneoaaGreatUEE
set_option maxHeartbeats 16000000
set_option maxRecDepth 100000
open Go.Proofs.Tryz
namespace Go.Proofs.YtfohnageehneoaaGreat
open Go.RowKit Go.Deep Go.Shelf Go.Maps
variable {W W' W0:World} {pb n b1 b2 b3 i m:Nat} {cs1 cs2 cs3:Array Value} {now:Int}
attribute [local go_sem] Oper.semAt_some
def Zdh (Os:List Ob) (t:Tie):Bool:=Os.any (ZgG t.2.2.1 t.2.2.2)
def Ziy (Os:List Ob) (Fs:List Fd) (V:List Zy_):Bool:=(ZeB Fs V Fs.length).all (Zdh Os)
theorem ZpU (Fs:List Fd) (V:List Zy_) (k d:Nat):∃ R,ZeB Fs V (k+d)=ZeB Fs V k ++ R:=by
 induction d with
 | zero=>exact⟨[],by simp⟩
 | succ d ih=>
  obtain⟨R,hR⟩:=ih;rw [<- Nat.add_assoc,ZeB,hR,List.append_assoc];exact⟨_,rfl⟩
theorem Zoy {Os:List Ob}{Fs:List Fd}{V:List Zy_}{k:Nat} (hk:k<=Fs.length) (h:(ZeB Fs V k).all (Zdh Os)=false):Ziy Os Fs V=false:=by
 obtain⟨R,hR⟩:=ZpU Fs V k (Fs.length - k);rw [show k+(Fs.length - k)=Fs.length by omega] at hR;unfold Ziy;rw [hR,List.all_append,h,Bool.false_and]
def Zsg (x:Tie):Tie:=(x.1,x.2.1,ZhJ x.2.2.1,ZhJ x.2.2.2)
theorem ZgZ {lo:Nat}{w:World}{fv vv:Value}{Fs:List Fd}{V:List Zy_} (hF:Zav lo w fv Fs) (hV:Zag w vv V):∀ (k:Nat),∀ t ∈ ZeB Fs V k,Zsg t=t:=by
 intro k
 induction k with
 | zero=>intro t ht;simp [ZeB] at ht
 | succ k ih=>
  intro t ht;rw [ZeB] at ht
  rcases List.mem_append.1 ht with ht | ht
  . exact ih t ht
  . split at ht
    . rename_i f s hf hs
      unfold Zf9 at ht
      split at ht
      . simp at ht
        subst ht
        have h1:f.to.size<=maxLen:=by
         obtain⟨hk,rfl⟩:=List.getElem?_eq_some_iff.1 hf
         rcases hF with ⟨_,_,_,e0⟩ | ⟨b',off',cap',g1,g2,g3,g4,g5,g7⟩
         . simp [e0] at hk
         . exact (g7.2 k hk).1.s5
        have h2:s.size<=maxLen:=by
         have hm:=List.mem_of_getElem? hs
         rcases hV with ⟨_,_,_,e0⟩ | ⟨b',off',cap',g1,g2,g3,g4,g5,g6⟩
         . rw [e0] at hm;cases hm
         . exact g6 s hm
        unfold Zsg;dsimp only;rw [Zew h1,Zew h2]
      . simp at ht
    . simp at ht
theorem Zp3 {lo:Nat}{w:World}{fv vv:Value}{Fs:List Fd}{V:List Zy_} (hF:Zav lo w fv Fs) (hV:Zag w vv V) (Os:List Ob) (k:Nat):(ZeB Fs V k).all (fun t=>Zdh Os (Zsg t))=(ZeB Fs V k).all (Zdh Os):=by
 rw [Bool.eq_iff_iff,List.all_eq_true,List.all_eq_true];exact⟨fun h t ht=>by rw [<- ZgZ hF hV k t ht];exact h t ht,fun h t ht=>by rw [ZgZ hF hV k t ht];exact h t ht⟩
theorem ZaO.grow {S:Nat->Prop}{B:Nat} (h:W.grownBy W' none):ZaO S B W W':=
 ⟨h.os,h.tape,h.output,h.size,fun k o hk _ _=>(h.block k (Array.getElem?_eq_some_iff.1 hk).1 (by simp)).trans hk⟩
structure ZsE (w:World) (pb n:Nat) (D:DataW Unit) (W:World):Prop where
 own:W.ownsMap prog 317 (plainElem prog 3) pb n D
 ptr:Box W (w.heap.size+1+1) #[.map (some pb)]
 res:Box W (w.heap.size+1+1+1) #[.bool false]
 below:Zw_ w W
theorem ZsE.grow {w:World}{D:DataW Unit}{row:Option Nat} (h:ZsE w pb n D W) (hpb:pb < w.heap.size) (hg:W.grownBy W' row) (hr:∀ r,row=some r->w.heap.size+6<=r):ZsE w pb n D W':=
 ⟨h.own.kept hg (fun e=>by have:=hr _ e.symm;omega),h.ptr.of_block (hg.block _ h.ptr.lt (fun e=>by have:=hr _ e.symm;omega)),h.res.of_block (hg.block _ h.res.lt (fun e=>by have:=hr _ e.symm;omega)),
  h.below.trans ⟨hg.os,hg.tape,hg.output,hg.size,fun k hk=>hg.block k (by have:=h.below.size;omega) (fun e=>by have:=hr _ e.symm;omega)⟩⟩
section
variable (lo:Nat) (sk:Zy_) (fv:Value) (Fs:List Fd) (kind nm team:Zy_) (vv hv:Value) (en:Bool) (ver:Int) (V Ho:List Zy_) (Os:List Ob) (w:World)
theorem Zmc {D:DataW Unit} (hF:Zav lo w fv Fs) (hV:Zag w vv V) (hH:Zag w hv Ho) (hl:Fs.length=V.length) (n1:V.length<=1048576) (hown:w.ownsMap prog 317 (plainElem prog 3) pb n D) (hp:Zqu Os D) :
 Calls prog 236 #[.agg #[.string sk,fv],.agg #[.string kind,.string nm,.string team,vv,.bool en,hv,.int .i64 ver],.map (some pb)] w
  fun e w'=>e=.returned (.bool (Ziy Os Fs V))/\Zw_ w w':=by
 have HF:=Zab hF;have HV:=Zab hV;have HO:=Zab hown;have HP:=Zab hp;have HL:=Zab hl;have HN:Hd (Fs.length<=1048576):=by unfold Hd;omega
 have hpb:pb < w.heap.size:=hown.lt
 have HCUT:=Zab (Zp3 hF hV Os);obtain⟨fa,fcap,rfl⟩:=hF.form;obtain⟨va,vcap,rfl⟩:=hV.form';obtain⟨ha,hcap,rfl⟩:=hH.form';clear hF hV hH hown hp hl n1;refine (callsIn_wide (n:=5)).1 ?_;refine callsIn_of_wp_marks func236 rfl trivial ?_ rfl;simp only [ntmps236,List.size_toArray,List.length_cons,List.length_nil,Nat.reduceAdd,Nat.reduceSub,Array.replicate_succ,Array.replicate_zero,List.push_toArray,List.append_toArray,List.nil_append,List.cons_append]
 gi_wp2_with fail
 refine⟨trivial,(Zrl sk kind nm team en ver _ Fence.wide _ trivial rfl fa Fs.length fcap va V.length vcap ha Ho.length hcap).mono ?_⟩;rintro e w1 ⟨rfl,hw1⟩
 obtain⟨wl,hwl,HX1,HX2,HT,hsz⟩:∃ wl,wl=w1/\
  Hd (Box wl (w.heap.size+1+1+1+1) #[.string sk,.slice fa Fs.length fcap])/\Hd (Box wl (w.heap.size+1+1+1+1+1) #[.string kind,.string nm,.string team,.slice va V.length vcap,.bool en,.slice ha Ho.length hcap,.int .i64 ver])/\
  Hd (ZsE w pb n D wl)/\wl.heap.size=w.heap.size+6:=by
  subst hw1;refine⟨_,rfl,(Box.new _ _ _ _ (by simp)).on (Zac _ _),Box.new _ _ _ _ (by simp),⟨?_,?_,?_,?_⟩,by simp⟩
  . exact (((((HO.o.alloc _).alloc _).alloc _).alloc _).alloc _).alloc _
  . exact (((Box.new _ _ _ _ (by simp)).on (Zac _ _)).on (Zac _ _)).on (Zac _ _)
  . exact ((Box.new _ _ _ _ (by simp)).on (Zac _ _)).on (Zac _ _)
  . exact (((((Zac _ _).trans ((Zac _ _).mono (by simp))).trans ((Zac _ _).mono (by simp;omega))).trans ((Zac _ _).mono (by simp;omega))).trans ((Zac _ _).mono (by simp;omega))).trans ((Zac _ _).mono (by simp;omega))
 subst hwl;clear hw1
 gi_wp2_with fail
 refine wpIn_rangeFunc_ownH rfl (by decide) (gf:=280) (lb:=#[.pointer (some ⟨w.heap.size+1+1+1+1,0,none⟩),.pointer (some ⟨w.heap.size+1+1+1+1+1,0,none⟩)]) rfl trivial (enters_of func280 (by kernel_rfl) rfl)
  (Zmr lo sk _ Fs kind nm team _ _ en ver V wl _ (by decide) (fun _=>False) w _ _ HT.o.below HF.o HV.o HL.o HN.o (fun _ _ h=>h) (fun h=>h) HX1.o HX2.o)
  ZaO.trans ZaO.put Zb_ (fun _=>rfl)
  (fun pre W=>ZsE w pb n D W/\pre.all (fun t=>Zdh Os (Zsg t))=true)
  (fun c pre W=>c=.ret/\(W.cell? ⟨w.heap.size+1+1+1,0,none⟩=some (.bool false)/\w.heap.size<=W.heap.size/\Zw_ w W)/\pre.all (fun t=>Zdh Os (Zsg t))=false)
  (fun s A B row hs hg hr=>⟨hs.1.grow hpb hg (fun r e=>by have:=(hr r e).1;omega),hs.2⟩)
  (fun c s A B row hs hg hr=>⟨hs.1,⟨cell_kept hs.2.1.1 hg (fun r e=>(hr r e).2),Nat.le_trans hs.2.1.2.1 hg.size,hs.2.1.2.2.trans ⟨hg.os,hg.tape,hg.output,hg.size,fun k hk=>hg.block k (by have:=hs.2.1.2.1;omega) (fun e=>by have:=(hr _ e.symm).1;omega)⟩⟩,hs.2.2⟩)
  ⟨HT.o,rfl⟩
  (fun x a' W=>∃ β:Nat,a'={ tmps:=#[.agg #[.string sk,.slice fa Fs.length fcap],.agg #[.string kind,.string nm,.string team,.slice va V.length vcap,.bool en,.slice ha Ho.length hcap,.int .i64 ver],.map (some pb),.pointer (some ⟨w.heap.size,0,none⟩),.pointer (some ⟨w.heap.size+1,0,none⟩),.pointer (some ⟨w.heap.size+1+1,0,none⟩),.pointer (some ⟨w.heap.size+1+1+1,0,none⟩),.pointer (some ⟨β,0,none⟩),undef,undef,.agg #[.string sk,.slice fa Fs.length fcap],.agg #[.string kind,.string nm,.string team,.slice va V.length vcap,.bool en,.slice ha Ho.length hcap,.int .i64 ver],.func (.func 280) #[] #[.pointer (some ⟨w.heap.size+1+1+1+1,0,none⟩),.pointer (some ⟨w.heap.size+1+1+1+1+1,0,none⟩)],.agg #[.int .i64 x.1,.int .i64 x.2.1,.string (ZhJ x.2.2.1),.string (ZhJ x.2.2.2)],undef,undef,undef,undef,undef,undef,undef,undef,undef],defers:=[] }/\W.cell? ⟨β,2,none⟩=some (.string (ZhJ x.2.2.1))/\W.cell? ⟨β,3,none⟩=some (.string (ZhJ x.2.2.2)))
  (fun x a' s A B row hs hg hr=>by
    obtain⟨β,e1,e2,e3⟩:=hs;exact⟨β,e1,cell_kept e2 hg (fun r e=>(hr r e).2),cell_kept e3 hg (fun r e=>(hr r e).2)⟩) ?assign ?body ?done ?stop
 case assign=>
  intro l pre x W K hI hK;have HI:=Zab hI;have HK:=Zab hK;clear hI hK
  gi_wp2
  refine HK.o _ _ ((KeepsOthers.alloc _ _).from _) (ZaO.grow (World.grownBy_alloc _ _ none)) ⟨HI.o.1.grow hpb (World.grownBy_alloc _ _ none) (fun r e=>by cases e),HI.o.2⟩ ⟨W.heap.size,rfl,ZbH _ _ _ _ 2 rfl,ZbH _ _ _ _ 3 rfl⟩
 case body=>
  rintro l pre x a' W hll hrec ⟨hTW,hall⟩ ⟨β,rfl,hc2,hc3⟩ hlen;have HTW:=Zab hTW;have HALL:=Zab hall;obtain⟨v,ps,hrun,hv⟩:=hTW.own.look_ok ZlO underlying292 (ZiK _) (plainElem_int underlying3 (by decide)) (Zl3.mk' (ZfP x.2.2.1) (ZfP x.2.2.2));obtain⟨c,rfl,hc,hwc⟩:=plainElem_int_inv underlying3 hv;rw [HP.o.has _ _ (ZfP _) (ZfP _)] at hrun;have HE:Hd (Zdh Os (Zsg x)=Os.any (ZgG (ZhJ x.2.2.1) (ZhJ x.2.2.2))):=rfl;have p0:=hTW.ptr.cell 0;have r0:=hTW.res.cell 0;have rf:=hTW.res.free 0;simp at p0 r0;clear hv hc hwc hTW hall hrec
  cases hq:Os.any (ZgG (ZhJ x.2.2.1) (ZhJ x.2.2.2)) with
  | true=>
   rw [hq] at hrun
   gi_wp2
   exact⟨KeepsFrom.refl _ _,ZaO.refl _ _ _,HTW.o,by rw [List.all_append,HALL.o];simp [HE.o,hq]⟩
  | false=>
   rw [hq] at hrun
   gi_wp2
   exact⟨(KeepsOthers.setCell _ _ _).from _,rfl,⟨World.cell?_setCell_same' _ _ _ (by rw [r0];rfl),by have:=HTW.o.below.size;simpa using this,HTW.o.below.setCell (p:=⟨w.heap.size+1+1+1,0,none⟩) (by dsimp;omega) _⟩,by rw [List.all_append,HALL.o];simp [HE.o,hq]⟩
 case done=>
  rintro Dd ys W hD rfl ⟨hTW,hall⟩ hK;have HTW:=Zab hTW;have HRES:Hd (Ziy Os Fs V=true):=(HCUT.o Fs.length).symm.trans hall;have r0:=hTW.res.cell 0;have rf:=hTW.res.free 0;simp at r0;clear hTW hall
  gi_wp2
  have g:=grownBy_setCell' W (w.heap.size+1+1+1) (.bool true);have hK2:(W.setCell ⟨w.heap.size+1+1+1,0,none⟩ (.bool true)).heap[Dd]?=some (.deferred (some [])):=(g.block Dd (Array.getElem?_eq_some_iff.1 hK).1 (fun e=>by have:=Option.some.inj e;(try simp only [] at this);omega)).trans hK;have c1:(W.setCell ⟨w.heap.size+1+1+1,0,none⟩ (.bool true)).cell? ⟨w.heap.size+1+1+1,0,none⟩=some (.bool true):=World.cell?_setCell_same' _ _ _ (by rw [r0];rfl);have HB2:Zw_ w (W.setCell ⟨w.heap.size+1+1+1,0,none⟩ (.bool true)):=HTW.o.below.setCell (p:=⟨w.heap.size+1+1+1,0,none⟩) (by dsimp;omega) _;generalize W.setCell ⟨w.heap.size+1+1+1,0,none⟩ (.bool true)=W2 at*;refine⟨by simp,.inl ⟨_,_,rfl,run_takeDeferred hK2,?_⟩⟩
  have c2:(W2.putObj Dd (.deferred none)).cell? ⟨w.heap.size+1+1+1,0,none⟩=some (.bool true):=(World.cell?_of_block (a:=⟨w.heap.size+1+1+1,0,none⟩) ((grownBy_putObj' W2 Dd _).block _ (World.block_lt_of_cell? _ _ c1) (fun e=>by have:=Option.some.inj e;(try simp only [] at this);omega))).trans c1;refine⟨.bool true,by simp [results,results236,go_sem,c2],by rw [HRES.o],HB2.trans (belowK_b (w:=w) Zl_ W2 Dd _ _ (by omega) hK2 rfl rfl)⟩
 case stop=>
  rintro Dd c pre W hD ⟨k,hk,rfl⟩ ⟨rfl,⟨c1,hz,hB⟩,hall⟩ hK;have HB2:=Zab hB;have HRES:Hd (Ziy Os Fs V=false):=Zoy hk (by rw [<- HCUT.o];exact hall);clear hB hall
  gi_wp2
  refine⟨by simp,.inl ⟨_,_,rfl,run_takeDeferred hK,?_⟩⟩;have c2:(W.putObj Dd (.deferred none)).cell? ⟨w.heap.size+1+1+1,0,none⟩=some (.bool false):=(World.cell?_of_block (a:=⟨w.heap.size+1+1+1,0,none⟩) ((grownBy_putObj' W Dd _).block _ (World.block_lt_of_cell? _ _ c1) (fun e=>by have:=Option.some.inj e;(try simp only [] at this);omega))).trans c1;refine⟨.bool false,by simp [results,results236,go_sem,c2],by rw [HRES.o],HB2.o.trans (belowK_b (w:=w) Zl_ W Dd _ _ (by omega) hK rfl rfl)⟩
end
open Go.RowKit Go.Deep Go.Maps
abbrev ZjI (W0:World) (b1:Nat) (cs1:Array Value) (b2:Nat) (cs2:Array Value) (b3:Nat) (cs3:Array Value) (W:World):Prop:=
 (∀ i,W.cell? ⟨b1,i,none⟩=cs1[i]?)/\(∀ i,W.cell? ⟨b2,i,none⟩=cs2[i]?)/\(∀ i,W.cell? ⟨b3,i,none⟩=cs3[i]?)/\Hd (Below W0.heap.size W0 W/\b1 < W0.heap.size/\b2 < W0.heap.size/\b3 < W0.heap.size)
theorem ZjI.drew (h1:Box W0 b1 cs1) (h2:Box W0 b2 cs2) (h3:Box W0 b3 cs3):ZjI W0 b1 cs1 b2 cs2 b3 cs3 W0.drew:=⟨h1.cell,h2.cell,h3.cell,Zb_.drew,h1.lt,h2.lt,h3.lt⟩
theorem ZjI.on (h:ZjI W0 b1 cs1 b2 cs2 b3 cs3 W) (hb:Below W.heap.size W W'):ZjI W0 b1 cs1 b2 cs2 b3 cs3 W':=by
 obtain⟨h1,h2,h3,h4,h5,h6,h7⟩:=h;have:=h4.size;exact⟨fun i=>(hb.cell (p:=⟨b1,i,none⟩) (by dsimp;omega)).trans (h1 i),fun i=>(hb.cell (p:=⟨b2,i,none⟩) (by dsimp;omega)).trans (h2 i),fun i=>(hb.cell (p:=⟨b3,i,none⟩) (by dsimp;omega)).trans (h3 i),h4.trans (hb.mono h4.size),h5,h6,h7⟩
theorem Zgf (k n t v e h r:Value) (W:World):(Instr.field 155 (.agg #[k,n,t,v,e,h,r]) 3).run prog W=.ok v W:=by
 simp [Instr.field,go_sem,run_underlying underlying155,Result.andThen,asAgg]
def ZcA (Ts:List Tm) (Fs:List Fd) (o:Ob) (F:List Zy_):Bool:=decide ((ZaV Fs o.nm o.tm o.vs o.hs o.ver).1=0)&&(Zec Ts o.tm&&decide (F=o.vs))
section
variable (lo:Nat) (sv mv tv fv vv hv:Value) (Ss:List Sh) (Ms:List Md) (Ts:List Tm) (x:Sh) (o:Ob) (F:List Zy_) (w:World)
theorem Zkl (hl:ZbC lo w sv mv tv Ss Ms Ts) (hmb:Zay Ss Ms=true) (hx:Zcz Ss o.kd=some x) (hF:Zav lo w fv x.fields) (hV:Zag w vv o.vs) (hH:Zag w hv o.hs) (hz:ZcN o) (n2:o.hs.length<=1048576) (hsh:ZcF Ss Ms o.kd o.vs F) :
 Calls prog 235 #[.agg #[sv,mv,tv],.agg #[.string x.kind,fv],.agg #[.string o.kd,.string o.nm,.string o.tm,vv,.bool o.en,hv,.int .i64 o.ver]] w
  fun e w'=>e=.returned (.bool (ZcA Ts x.fields o F))/\Zw_ w w':=by
 have HL:=Zab hl;have HMB:=Zab hmb;have HX:=Zab hx;have HF:=Zab hF;have HV:=Zab hV;have HH:=Zab hH;have HSH:=Zab hsh;have s1:=hz.s1;have s2:=hz.s2;obtain⟨sa,sc,rfl⟩:=hl.shs.form;obtain⟨ma,mc,rfl⟩:=hl.mds.form;obtain⟨ta,tc,rfl⟩:=hl.tms.form;obtain⟨fa,fcap,rfl⟩:=hF.form;obtain⟨va,vcap,rfl⟩:=hV.form';obtain⟨ha,hcap,rfl⟩:=hH.form';have HQ:Hd (ZcA Ts x.fields o F=(decide ((ZaV x.fields o.nm o.tm o.vs o.hs o.ver).1=0)&&(Zec Ts o.tm&&decide (F=o.vs)))):=rfl;have HP:=Zab (Zia Ts o.tm);clear hl hmb hx hF hV hH hz hsh;go_enter func235,ntmps235;go_wp2_with fail;generalize hWa:(World.alloc (World.alloc (w.alloc _) _) _)=Wa;have HB:Hd (Zw_ w Wa):=by rw [<- hWa];exact ((Zac w _).alloc (by simp) _).alloc (by simp;omega) _
 have HX1:Hd (Box Wa w.heap.size #[.slice sa Ss.length sc,.slice ma Ms.length mc,.slice ta Ts.length tc]):=by rw [<- hWa];exact ((Box.new _ _ _ _ rfl).on (Zac _ _)).on (Zac _ _)
 have HX2:Hd (Box Wa (w.heap.size+1) #[.string x.kind,.slice fa x.fields.length fcap]):=by rw [<- hWa];exact (Box.new _ _ _ _ (by simp)).on (Zac _ _)
 have HX3:Hd (Box Wa (w.heap.size+1+1) #[.string o.kd,.string o.nm,.string o.tm,.slice va o.vs.length vcap,.bool o.en,.slice ha o.hs.length hcap,.int .i64 o.ver]):=by rw [<- hWa];exact Box.new _ _ _ _ (by simp)
 clear hWa;refine (Zho x.kind o.kd o.nm o.tm _ _ _ o.en o.ver o.vs o.hs x.fields Wa lo (HV.o.below HB.o) (HH.o.below HB.o) (HF.o.below HB.o) s1 s2).mono ?_;rintro e w1 ⟨rfl,hb1⟩;have HB1:Hd (Zw_ w w1):=HB.o.trans (hb1.mono HB.o.size);have HY1:=Zab (HX1.o.on hb1);have HY2:=Zab (HX2.o.on hb1);have HY3:=Zab (HX3.o.on hb1);clear hb1 HX1 HX2 HX3 HB;have y2:=HY1.o.cell 2;have y3:=HY3.o.cell 2;simp at y2 y3
 by_cases hck:(ZaV x.fields o.nm o.tm o.vs o.hs o.ver).1=0
 case neg=>
  have HE:Hd (ZcA Ts x.fields o F=false):=by unfold Hd;rw [HQ.o,decide_eq_false hck];rfl
  rw [ZnG hck];go_wp2;go_ret;exact⟨Zaa HE.o.symm,HB1.o⟩
 have HLEN:=Zab (Zf0 hck);rw [ZmB hck];go_wp2_with fail;refine (Zb3 lo _ Ts _ _ (HL.o.below HB1.o).tms).mono ?_;rintro e w2 ⟨rfl,hb2⟩;have HB2:Hd (Zw_ w w2):=HB1.o.trans (hb2.mono HB1.o.size);have HZ1:=Zab (HY1.o.on hb2);have HZ2:=Zab (HY2.o.on hb2);have HZ3:=Zab (HY3.o.on hb2);clear hb2 HY1 HY2 HY3 y2 y3 HB1
 cases h1:Zec Ts o.tm with
 | false=>
  have HE:Hd (ZcA Ts x.fields o F=false):=by unfold Hd;rw [HQ.o,h1,Bool.false_and,Bool.and_false]
  have hd:decide (ZcB Ts o.tm < 0)=true:=by rw [HP.o,h1];rfl
  go_wp2;go_ret;exact⟨Zaa HE.o.symm,HB2.o⟩
 | true=>
  have HE:Hd (ZcA Ts x.fields o F=decide (F=o.vs)):=by unfold Hd;rw [HQ.o,h1,decide_eq_true hck];rfl
  have hd:decide (ZcB Ts o.tm < 0)=false:=by rw [HP.o,h1];rfl
  go_wp2;clear hd;have HD:Hd (Zw_ w w2.drew):=HB2.o.drew;have hfd:=Zgf
  go_region_held3 (ZjI w2 w.heap.size #[.slice sa Ss.length sc,.slice ma Ms.length mc,.slice ta Ts.length tc] (w.heap.size+1) #[.string x.kind,.slice fa x.fields.length fcap] (w.heap.size+1+1) #[.string o.kd,.string o.nm,.string o.tm,.slice va o.vs.length vcap,.bool o.en,.slice ha o.hs.length hcap,.int .i64 o.ver])
   (first
     | (with_reducible exact ZjI.drew HZ1.o HZ2.o HZ3.o)
     | (with_reducible exact ZjI.on (by assumption) (by assumption)))
   (first
     | (go_at_call 265
        refine (Zkp o.kd o.nm o.tm _ _ _ _ o.en o.ver o.vs o.hs Ss Ms x o.kd _ lo lo (HV.o.below HD.o) (HH.o.below HD.o) (HF.o.below HD.o) (HL.o.below HD.o).mds HMB.o HX.o HLEN.o.symm n2).mono ?_;rintro e w3 ⟨v',h',F',rfl,hb3,⟨mid,hlo,hmi,hs3,hs4⟩,hfix⟩;have HFF:Hd (F'=F):=ZcF.unique (Or.inl ⟨x,HMB.o,HX.o,HLEN.o.symm,hfix⟩) HSH.o;have HC3:Hd (Zw_ w w3):=HD.o.trans (hb3.mono HD.o.size);have HS3:=Zab hs3.at;obtain⟨va',vcap',rfl⟩:=hs3.form;obtain⟨ha',hcap',rfl⟩:=hs4.form;clear hfix hs3 hs4 hlo hmi)
     | (go_at_call 264
        refine (Zk8 _ _ F' o.vs _ HS3.o (HV.o.below HC3.o)).mono ?_;rintro e w4 ⟨rfl,hb4⟩;have HC4:Hd (Zw_ w w4):=HC3.o.trans (hb4.mono HC3.o.size)))
  clear hfd;go_wp2;go_ret;exact⟨Zaa (by rw [HE.o,HFF.o]),HC4.o⟩
end
def ZlG (Ss:List Sh) (Ts:List Tm) (Os:List Ob) (now:Int) (o:Ob) (F:List Zy_):Bool:=
 match Zcz Ss o.kd with
 | some x=>ZcA Ts x.fields o F&&(inB 1 now o.ver&&Ziy Os x.fields o.vs)
 | none=>false
def ZoM (Ss:List Sh) (Ts:List Tm) (B:Bk) (FF:Nat->List Zy_) (i:Nat):Bool:=
 match B.os[i]? with
 | some o=>ZlG Ss Ts B.os B.now o (FF i)
 | none=>true
def Zaz (Ss:List Sh) (Ts:List Tm) (B:Bk) (FF:Nat->List Zy_):Bool:=decide (B.os.length<=40)&&(Zdn Zgz B.os&&(List.range B.os.length).all (ZoM Ss Ts B FF))
theorem Zlz {Ss:List Sh}{Ts:List Tm}{B:Bk}{FF:Nat->List Zy_} (h:i < B.os.length):ZoM Ss Ts B FF i=ZlG Ss Ts B.os B.now B.os[i] (FF i):=by
 unfold ZoM;rw [List.getElem?_eq_getElem h]
theorem Zie {Ss:List Sh}{Ts:List Tm}{Os:List Ob}{o:Ob}{F:List Zy_}{x:Sh} (h:Zcz Ss o.kd=some x):ZlG Ss Ts Os now o F=(ZcA Ts x.fields o F&&(inB 1 now o.ver&&Ziy Os x.fields o.vs)):=by
 unfold ZlG;rw [h]
theorem Zh8 {Ss:List Sh}{Ts:List Tm}{Os:List Ob}{o:Ob}{F:List Zy_} (h:Zcz Ss o.kd=none):ZlG Ss Ts Os now o F=false:=by
 unfold ZlG;rw [h]
theorem ZbB {Ss:List Sh}{Ts:List Tm}{B:Bk}{FF:Nat->List Zy_} (h:i < B.os.length) (hn:ZlG Ss Ts B.os B.now B.os[i] (FF i)=false):Zaz Ss Ts B FF=false:=by
 unfold Zaz;rw [Za3 h (show ZoM Ss Ts B FF i=false by rw [Zlz h];exact hn),Bool.and_false,Bool.and_false]
theorem ZgQ {Ss:List Sh}{Ts:List Tm}{B:Bk}{FF:Nat->List Zy_} (hl:B.os.length<=40) (hr:Zdn Zgz B.os=true) (h:∀ i,i < B.os.length->ZoM Ss Ts B FF i=true):Zaz Ss Ts B FF=true:=by
 unfold Zaz;rw [decide_eq_true hl,hr,Za7 h]
 rfl
theorem Zlp {p:Nat->Bool} (h:∀ j,j < m->p j=true) (hm:p m=true):∀ j,j < m+1->p j=true:=fun j hj=>by
 by_cases e:j=m
 . subst e;exact hm
 . exact h j (by omega)
def Zb1 (Ss:List Sh) (Ms:List Md) (Os:List Ob) (FF:Nat->List Zy_):Prop:=∀ i (h:i < Os.length),ZcF Ss Ms Os[i].kd Os[i].vs (FF i)
section
variable (lo:Nat) (sv mv tv ov gv lv pv:Value) (Ss:List Sh) (Ms:List Md) (Ts:List Tm) (B:Bk) (FF:Nat->List Zy_) (w:World)
theorem Zg5 (hl:ZbC lo w sv mv tv Ss Ms Ts) (hmb:Zay Ss Ms=true) (h:ZaY lo w ov gv lv pv B) (hn:Zbp B.os) (hsh:Zb1 Ss Ms B.os FF) :
 Calls prog 204 #[.agg #[sv,mv,tv],.agg #[.int .i64 B.now,.int .i64 B.tick,.int .i64 B.given,ov,gv,lv,pv]] w fun e w'=>e=.returned (.bool (Zaz Ss Ts B FF))/\Zw_ w w':=by
 have HL:=Zab hl;have HK:=Zab h;have HMB:=Zab hmb;have HN:=Zab hn;have HSH:=Zab hsh;obtain⟨sa,sc,rfl⟩:=hl.shs.form;obtain⟨ma,mc,rfl⟩:=hl.mds.form;obtain⟨ta,tc,rfl⟩:=hl.tms.form;obtain⟨a0,k0,rfl⟩:=h.obs.form;obtain⟨a1,k1,rfl⟩:=h.grs.form;obtain⟨a2,k2,rfl⟩:=h.les.form;obtain⟨a3,k3,rfl⟩:=h.pus.form;have HI:Hd (Zaz Ss Ts B FF=(decide (B.os.length<=40)&&(Zdn Zgz B.os&&(List.range B.os.length).all (ZoM Ss Ts B FF)))):=rfl;clear hl hmb h hn hsh
 by_cases hl:B.os.length<=40
 case neg=>
  have HE:Hd (Zaz Ss Ts B FF=false):=by unfold Hd;rw [HI.o,decide_eq_false hl];rfl
  have hgt:decide ((40:Int) < (B.os.length:Int))=true:=by simp;omega
  go_enter func204,ntmps204;go_wp2;go_ret;exact⟨Zaa HE.o.symm,(Zac w _).alloc (by simp) _⟩
 have hgt:decide ((40:Int) < (B.os.length:Int))=false:=by simp;omega
 go_enter func204,ntmps204;go_wp2_with fail;generalize hWa:(World.alloc (w.alloc _) _)=Wa;have HB:Hd (Zw_ w Wa):=by rw [<- hWa];exact (Zac w _).alloc (by simp) _
 have HX:Hd (Box Wa w.heap.size #[.slice sa Ss.length sc,.slice ma Ms.length mc,.slice ta Ts.length tc]):=by rw [<- hWa];exact (Box.new _ _ _ _ rfl).on (Zac _ _)
 have HY:Hd (Box Wa (w.heap.size+1) #[.int .i64 B.now,.int .i64 B.tick,.int .i64 B.given,.slice a0 B.os.length k0,.slice a1 B.gs.length k1,.slice a2 B.ls.length k2,.slice a3 B.ps.length k3]):=by rw [<- hWa];exact Box.new _ _ _ _ (by simp)
 clear hWa;refine (Znh lo _ B.os _ (HK.o.obs.below HB.o)).mono ?_;rintro e w1 ⟨rfl,hb1⟩;have HB1:Hd (Zw_ w w1):=HB.o.trans (hb1.mono HB.o.size);have HX1:=Zab (HX.o.on hb1);have HY1:=Zab (HY.o.on hb1);clear hb1 HB HX HY
 cases hr:Zdn Zgz B.os with
 | false=>
  have HE:Hd (Zaz Ss Ts B FF=false):=by unfold Hd;rw [HI.o,hr,decide_eq_true hl];rfl
  go_wp2;go_ret;exact⟨Zaa HE.o.symm,HB1.o⟩
 | true=>
  have z3:=HY1.o.cell 3;simp at z3;go_wp2_with fail;refine (Zm0 lo _ B.os _ (HK.o.obs.below HB1.o) HN.o.1).mono ?_;rintro e w2 ⟨rfl,hb2,D,ho,hpl⟩;have HB2:Hd (Zw_ w w2):=HB1.o.trans (hb2.mono HB1.o.size);have HX2:=Zab (HX1.o.on hb2);have HY2:=Zab (HY1.o.on hb2);have HO2:=Zab ho;have HPL:=Zab hpl;clear hb2 ho hpl z3 HB1 HX1 HY1;generalize w1.heap.size=pb at*;have z3:=HY2.o.cell 3;simp at z3;go_wp2;clear z3
  go_loopw [26] (fun i wr=>∃ k:Nat,i=.int .i64 k/\k<=B.os.length/\Zw_ w wr/\Box wr w.heap.size #[.slice sa Ss.length sc,.slice ma Ms.length mc,.slice ta Ts.length tc]/\Box wr (w.heap.size+1) #[.int .i64 B.now,.int .i64 B.tick,.int .i64 B.given,.slice a0 B.os.length k0,.slice a1 B.gs.length k1,.slice a2 B.ls.length k2,.slice a3 B.ps.length k3]/\wr.ownsMap prog 317 (plainElem prog 3) pb B.os.length D/\∀ j,j < k->ZoM Ss Ts B FF j=true) (fun i _=>B.os.length - (intOf i).toNat)
  case atStart=>exact⟨0,rfl,Nat.zero_le _,HB2.o,HX2.o,HY2.o,HO2.o,fun j h=>by omega⟩
  case round=>
   obtain⟨k,rfl,hk,hb,hx,hy,ho,hall⟩:=hrel;have HBr:=Zab hb;have HXr:=Zab hx;have HYr:=Zab hy;have HOr:=Zab ho;have HA:=Zab hall;clear hb hx hy ho hall HB2 HX2 HY2 HO2
   by_cases hlt:k < B.os.length
   . obtain⟨b,off,rfl,hbw,-,hc⟩:=HK.o.obs.full' (by omega)
     obtain⟨hs,vv0,vv1,hcell,hv0,hv1⟩:=hc k hlt;obtain⟨c0,c1,c2,c3,c4,c5,c6⟩:=hcell.below HBr.o hbw;have HZ:=Zab hs;have HV:=Zab hv0.at;have HH:=Zab hv1.at;obtain⟨va,vcap,rfl⟩:=hv0.at.form';obtain⟨ha,hcap,rfl⟩:=hv1.at.form';have HQ:=Zab (Zlz (Ss:=Ss) (Ts:=Ts) (FF:=FF) hlt);have n1:B.os[k].vs.length<=1048576:=(HN.o.2 k hlt).1;have n2:B.os[k].hs.length<=1048576:=(HN.o.2 k hlt).2;have x0:=HXr.o.cell 0;simp at x0;have xlt:=HXr.o.lt;have x0:∀ o,(wr.alloc o).cell? ⟨w.heap.size,0,none⟩=some (.slice sa Ss.length sc):=fun o=>(Zak _ _ _ _ xlt).trans x0
     clear hc hcell hs hv0 hv1 xlt;go_wp2_with fail;generalize hWb:wr.alloc _=Wb;have hbb:Below wr.heap.size wr Wb:=by rw [<- hWb];exact Zac _ _
     have HBb:Hd (Zw_ w Wb):=HBr.o.trans (hbb.mono HBr.o.size);have HXb:=Zab (HXr.o.on hbb);have HYb:=Zab (HYr.o.on hbb);have HOb:=Zab (HOr.o.kept (ZaM hbb) (by simp));have HPb:Hd (Box Wb wr.heap.size #[.string B.os[k].kd,.string B.os[k].nm,.string B.os[k].tm,.slice va B.os[k].vs.length vcap,.bool B.os[k].en,.slice ha B.os[k].hs.length hcap,.int .i64 B.os[k].ver]):=by rw [<- hWb];exact Box.new _ _ _ _ rfl
     clear hWb x0 hbb c0 c1 c2 c3 c4 c5 c6 HXr HYr HOr;generalize hβ:wr.heap.size=β at*;refine (Zel lo _ Ss _ w _ HL.o.shs HBb.o).mono ?_;rintro e w3 ⟨hb3,hq⟩;have HB3:Hd (Zw_ w w3):=HBb.o.trans (hb3.mono HBb.o.size);have HX3:=Zab (HXb.o.on hb3);have HY3:=Zab (HYb.o.on hb3);have HP3:=Zab (HPb.o.on hb3);have HO3:=Zab (HOb.o.kept (ZaM hb3) (by simp));clear hb3 HBb HXb HYb HPb HOb
     rcases hq with ⟨x,fv,hsh,rfl,hF⟩ | ⟨hno,rfl⟩
     . have HF:=Zab hF
       have HXS:=Zab hsh;have HOS:=Zab (Zie (Ts:=Ts) (Os:=B.os) (now:=B.now) (F:=FF k) hsh);obtain⟨fa,fcap,rfl⟩:=hF.form;clear hF hsh;have p0:∀ i o,(w3.alloc o).cell? ⟨w.heap.size,i,none⟩=#[Value.slice sa Ss.length sc,.slice ma Ms.length mc,.slice ta Ts.length tc][i]?:=fun i o=>(Zak _ _ _ _ HX3.o.lt).trans (HX3.o.cell i)
       have p1:∀ i o,(w3.alloc o).cell? ⟨β,i,none⟩=#[Value.string B.os[k].kd,.string B.os[k].nm,.string B.os[k].tm,.slice va B.os[k].vs.length vcap,.bool B.os[k].en,.slice ha B.os[k].hs.length hcap,.int .i64 B.os[k].ver][i]?:=fun i o=>(Zak _ _ _ _ HP3.o.lt).trans (HP3.o.cell i)
       go_wp2_with fail;generalize hWc:w3.alloc _=Wc;have hbc:Below w3.heap.size w3 Wc:=by rw [<- hWc];exact Zac _ _
       have HBc:Hd (Zw_ w Wc):=HB3.o.trans (hbc.mono HB3.o.size);have HXc:=Zab (HX3.o.on hbc);have HYc:=Zab (HY3.o.on hbc);have HPc:=Zab (HP3.o.on hbc);have HOc:=Zab (HO3.o.kept (ZaM hbc) (by simp));have HSc:Hd (Box Wc w3.heap.size #[.string x.kind,.slice fa x.fields.length fcap]):=by rw [<- hWc];exact Box.new _ _ _ _ rfl
       clear hWc p0 p1 hbc HX3 HY3 HP3 HO3;generalize hγ:w3.heap.size=γ at*;refine (Zkl lo _ _ _ _ _ _ Ss Ms Ts x B.os[k] (FF k) _ (HL.o.below HBc.o) HMB.o HXS.o (HF.o.below HBc.o) (HV.o.below HBc.o) (HH.o.below HBc.o) HZ.o n2 (HSH.o k hlt)).mono ?_;rintro e w5 ⟨rfl,hb5⟩;have HB5:Hd (Zw_ w w5):=HBc.o.trans (hb5.mono HBc.o.size);have HX5:=Zab (HXc.o.on hb5);have HY5:=Zab (HYc.o.on hb5);have HP5:=Zab (HPc.o.on hb5);have HS5:=Zab (HSc.o.on hb5);have HO5:=Zab (HOc.o.kept (ZaM hb5) (by simp));clear hb5 HBc HXc HYc HPc HSc HOc
       cases h1:ZcA Ts x.fields B.os[k] (FF k) with
       | false=>
        have HE:Hd (Zaz Ss Ts B FF=false):=ZbB hlt (by rw [HOS.o,h1];rfl);go_wp2;go_ret;exact⟨Zaa HE.o.symm,HB5.o⟩
       | true=>
        have y0:=HY5.o.cell 0;have q6:=HP5.o.cell 6;simp at y0 q6
        cases h2:inB 1 B.now B.os[k].ver with
        | false=>
         have HE:Hd (Zaz Ss Ts B FF=false):=ZbB hlt (by rw [HOS.o,h2,Bool.false_and,Bool.and_false]);go_wp2_with (go_at_call 111;refine (ZaQ _ _ _ _).mono ?_;rintro e w' ⟨rfl,rfl⟩);go_ret;exact⟨Zaa HE.o.symm,HB5.o⟩
        | true=>
         have q0:=HP5.o.cell 0;have q1:=HP5.o.cell 1;have q2:=HP5.o.cell 2;have q3:=HP5.o.cell 3;have q4:=HP5.o.cell 4;have q5:=HP5.o.cell 5;have r0:=HS5.o.cell 0;have r1:=HS5.o.cell 1;simp at q0 q1 q2 q3 q4 q5 r0 r1
         have HLEN:Hd (x.fields.length=B.os[k].vs.length):=by
          unfold Hd;have h3:=h1;unfold ZcA at h3;rw [Bool.and_eq_true] at h3;exact (Zf0 (of_decide_eq_true h3.1)).symm
         cases h3:Ziy B.os x.fields B.os[k].vs with
         | false=>
          have HE:Hd (Zaz Ss Ts B FF=false):=ZbB hlt (by rw [HOS.o,h3,Bool.and_false,Bool.and_false]);go_wp2_with (first|(go_at_call 111;refine (ZaQ _ _ _ _).mono ?_;rintro e w' ⟨rfl,rfl⟩)|(go_at_call 236;refine (Zmc lo x.kind _ x.fields B.os[k].kd B.os[k].nm B.os[k].tm _ _ B.os[k].en B.os[k].ver B.os[k].vs B.os[k].hs B.os _ (HF.o.below HB5.o) (HV.o.below HB5.o) (HH.o.below HB5.o) HLEN.o n1 HO5.o HPL.o).mono ?_;rintro e w6 ⟨rfl,hb6⟩));have HB6:Hd (Zw_ w w6):=HB5.o.trans (hb6.mono HB5.o.size);go_ret;exact⟨Zaa HE.o.symm,HB6.o⟩
         | true=>
          have HT:Hd (ZoM Ss Ts B FF k=true):=by unfold Hd;rw [HQ.o,HOS.o,h1,h2,h3];rfl
          go_wp2_with (first|(go_at_call 111;refine (ZaQ _ _ _ _).mono ?_;rintro e w' ⟨rfl,rfl⟩)|(go_at_call 236;refine (Zmc lo x.kind _ x.fields B.os[k].kd B.os[k].nm B.os[k].tm _ _ B.os[k].en B.os[k].ver B.os[k].vs B.os[k].hs B.os _ (HF.o.below HB5.o) (HV.o.below HB5.o) (HH.o.below HB5.o) HLEN.o n1 HO5.o HPL.o).mono ?_;rintro e w6 ⟨rfl,hb6⟩));have HB6:Hd (Zw_ w w6):=HB5.o.trans (hb6.mono HB5.o.size);have HX6:=Zab (HX5.o.on hb6);have HY6:=Zab (HY5.o.on hb6);have HO6:=Zab (HO5.o.kept (ZaM hb6) (by simp));clear hb6 HX5 HY5 HP5 HS5 HO5 y0 q0 q1 q2 q3 q4 q5 q6 r0 r1;go_roundw
          . exact⟨k+1,by go_num,by omega,HB6.o,HX6.o,HY6.o,HO6.o,Zlp HA.o HT.o⟩
          . simp [intOf];omega
     . have HE:Hd (Zaz Ss Ts B FF=false):=ZbB hlt (Zh8 hno)
       have HB4:∀ o,Hd (Zw_ w (w3.alloc o)):=fun o=>HB3.o.trans ((Zac _ _).mono HB3.o.size)
       go_wp2;go_ret;exact⟨Zaa HE.o.symm,(HB4 _).o⟩
   . have HT:Hd (Zaz Ss Ts B FF=true):=ZgQ hl hr (fun i hi=>HA.o i (by omega))
     go_wp2;go_ret;exact⟨Zaa HT.o.symm,HBr.o⟩
end
theorem Zk6 {Ss:List Sh}{Ts:List Tm}{B:Bk}{FF:Nat->List Zy_} (hm:m < B.os.length) (h:ZcP Zgz B.os m=false):Zaz Ss Ts B FF=false:=by
 unfold Zaz;rw [show Zdn Zgz B.os=false from Za3 hm h,Bool.false_and,Bool.and_false]
theorem Zpu {Ts:List Tm}{Fs:List Fd}{o:Ob}{F:List Zy_} (h:¬ (ZaV Fs o.nm o.tm o.vs o.hs o.ver).1=0):ZcA Ts Fs o F=false:=by unfold ZcA;rw [decide_eq_false h];rfl
theorem ZoZ {Ts:List Tm}{Fs:List Fd}{o:Ob}{F:List Zy_} (h:Zec Ts o.tm=false):ZcA Ts Fs o F=false:=by unfold ZcA;rw [h,Bool.false_and,Bool.and_false]
theorem ZpD {Ts:List Tm}{Fs:List Fd}{o:Ob}{F:List Zy_} (h:¬ F=o.vs):ZcA Ts Fs o F=false:=by unfold ZcA;rw [decide_eq_false h,Bool.and_false,Bool.and_false]
theorem Zpe {Ts:List Tm}{Fs:List Fd}{o:Ob}{F:List Zy_} (h1:(ZaV Fs o.nm o.tm o.vs o.hs o.ver).1=0) (h2:Zec Ts o.tm=true) (h3:F=o.vs):ZcA Ts Fs o F=true:=by unfold ZcA;rw [decide_eq_true h1,h2,decide_eq_true h3];rfl
section
variable (lo:Nat) (sv mv tv ov gv lv pv:Value) (Ss:List Sh) (Ms:List Md) (Ts:List Tm) (B:Bk) (FF:Nat->List Zy_) (w:World)
theorem Zg2 (hl:ZbC lo w sv mv tv Ss Ms Ts) (hmb:Zay Ss Ms=true) (h:ZaY lo w ov gv lv pv B) (hn:Zbp B.os) (hsh:Zb1 Ss Ms B.os FF) :
 Calls prog 93 #[.agg #[sv,mv,tv],.agg #[.int .i64 B.now,.int .i64 B.tick,.int .i64 B.given,ov,gv,lv,pv]] w fun e w'=>e=.returned (.bool (Zaz Ss Ts B FF))/\Zw_ w w':=by
 have HL:=Zab hl;have HK:=Zab h;have HMB:=Zab hmb;have HN:=Zab hn;have HSH:=Zab hsh;obtain⟨sa,sc,rfl⟩:=hl.shs.form;obtain⟨ma,mc,rfl⟩:=hl.mds.form;obtain⟨ta,tc,rfl⟩:=hl.tms.form;obtain⟨a0,k0,rfl⟩:=h.obs.form;obtain⟨a1,k1,rfl⟩:=h.grs.form;obtain⟨a2,k2,rfl⟩:=h.les.form;obtain⟨a3,k3,rfl⟩:=h.pus.form;have HI:Hd (Zaz Ss Ts B FF=(decide (B.os.length<=40)&&(Zdn Zgz B.os&&(List.range B.os.length).all (ZoM Ss Ts B FF)))):=rfl;clear hl hmb h hn hsh
 by_cases hl:B.os.length<=40
 case neg=>
  have HE:Hd (Zaz Ss Ts B FF=false):=by unfold Hd;rw [HI.o,decide_eq_false hl];rfl
  have hgt:decide ((40:Int) < (B.os.length:Int))=true:=by simp;omega
  go_enter func93,ntmps93;go_wp2;go_ret;exact⟨Zaa HE.o.symm,(Zac w _).alloc (by simp) _⟩
 have hgt:decide ((40:Int) < (B.os.length:Int))=false:=by simp;omega
 go_enter func93,ntmps93;go_wp2;generalize hWa:(World.alloc (w.alloc _) _)=Wa;have HB:Hd (Zw_ w Wa):=by rw [<- hWa];exact (Zac w _).alloc (by simp) _
 have HX:Hd (Box Wa w.heap.size #[.slice sa Ss.length sc,.slice ma Ms.length mc,.slice ta Ts.length tc]):=by rw [<- hWa];exact (Box.new _ _ _ _ rfl).on (Zac _ _)
 have HY:Hd (Box Wa (w.heap.size+1) #[.int .i64 B.now,.int .i64 B.tick,.int .i64 B.given,.slice a0 B.os.length k0,.slice a1 B.gs.length k1,.slice a2 B.ls.length k2,.slice a3 B.ps.length k3]):=by rw [<- hWa];exact Box.new _ _ _ _ (by simp)
 clear hWa hgt
 go_loopw [5] (fun i wr=>∃ m:Nat,i=.int .i64 m/\m<=B.os.length/\Zw_ w wr/\Box wr w.heap.size #[.slice sa Ss.length sc,.slice ma Ms.length mc,.slice ta Ts.length tc]/\Box wr (w.heap.size+1) #[.int .i64 B.now,.int .i64 B.tick,.int .i64 B.given,.slice a0 B.os.length k0,.slice a1 B.gs.length k1,.slice a2 B.ls.length k2,.slice a3 B.ps.length k3]/\(∀ j,j < m->ZoM Ss Ts B FF j=true)/\∀ j,j < m->ZcP Zgz B.os j=true) (fun i _=>B.os.length - (intOf i).toNat)
 case atStart=>exact⟨0,rfl,Nat.zero_le _,HB.o,HX.o,HY.o,fun j h=>by omega,fun j h=>by omega⟩
 case round=>
  obtain⟨m,rfl,hm,hb,hx,hy,hall,hris⟩:=hrel;have HBr:=Zab hb;have HXr:=Zab hx;have HYr:=Zab hy;have HA:=Zab hall;have HS:=Zab hris;have z3:=hy.cell 3;simp at z3;clear hb hx hy hall hris HB HX HY
  by_cases hlt:m < B.os.length
  . obtain⟨b,off,rfl,hbw,-,hc⟩:=HK.o.obs.full' (by omega)
    obtain⟨hs,vv0,vv1,hcell,hv0,hv1⟩:=hc m hlt;obtain⟨c0,c1,c2,c3,c4,c5,c6⟩:=hcell.below HBr.o hbw
    have HC:Hd (∀ k (h:k < B.os.length),w.cell? ⟨b,off+k*7,none⟩=some (.string B.os[k].kd)/\w.cell? ⟨b,off+k*7+1,none⟩=some (.string B.os[k].nm)):=fun k hk=>by
     obtain⟨_,_,_,hck,_,_⟩:=hc k hk;exact⟨hck.c0,hck.c1⟩
    have HZ:=Zab hs;have HV:=Zab hv0.at;have HH:=Zab hv1.at;obtain⟨va,vcap,rfl⟩:=hv0.at.form';obtain⟨ha,hcap,rfl⟩:=hv1.at.form';have HQ:=Zab (Zlz (Ss:=Ss) (Ts:=Ts) (FF:=FF) hlt);have n1:B.os[m].vs.length<=1048576:=(HN.o.2 m hlt).1;have n2:B.os[m].hs.length<=1048576:=(HN.o.2 m hlt).2;have x0:=HXr.o.cell 0;simp at x0;have xlt:=HXr.o.lt;have x0:∀ o,(wr.alloc o).cell? ⟨w.heap.size,0,none⟩=some (.slice sa Ss.length sc):=fun o=>(Zak _ _ _ _ xlt).trans x0
    clear hc hcell hs hv0 hv1 xlt;go_wp2_with fail;generalize hWb:wr.alloc _=Wb;have hbb:Below wr.heap.size wr Wb:=by rw [<- hWb];exact Zac _ _
    have HBb:Hd (Zw_ w Wb):=HBr.o.trans (hbb.mono HBr.o.size);have HXb:=Zab (HXr.o.on hbb);have HYb:=Zab (HYr.o.on hbb);have HPb:Hd (Box Wb wr.heap.size #[.string B.os[m].kd,.string B.os[m].nm,.string B.os[m].tm,.slice va B.os[m].vs.length vcap,.bool B.os[m].en,.slice ha B.os[m].hs.length hcap,.int .i64 B.os[m].ver]):=by rw [<- hWb];exact Box.new _ _ _ _ rfl
    clear hWb x0 z3 hbb c0 c1 c2 c3 c4 c5 c6 HXr HYr;generalize hβ:wr.heap.size=β at*;refine (Zk1 B.os[m].kd B.os[m].nm B.os[m].tm _ _ _ B.os[m].en B.os[m].ver B.os[m].vs B.os[m].hs Ss _ lo (HL.o.below HBb.o).shs (HV.o.below HBb.o) (HH.o.below HBb.o) HZ.o.s1 HZ.o.s2).mono ?_;rintro e w1 ⟨rfl,hb1⟩;have HB1:Hd (Zw_ w w1):=HBb.o.trans (hb1.mono HBb.o.size);have HX1:=Zab (HXb.o.on hb1);have HY1:=Zab (HYb.o.on hb1);have HP1:=Zab (HPb.o.on hb1);clear hb1 HBb HXb HYb HPb
    cases hsh:Zcz Ss B.os[m].kd with
    | none=>
     have HE:Hd (Zaz Ss Ts B FF=false):=ZbB hlt (Zh8 hsh);rw [Zj7 (fun x hx=>by rw [hsh] at hx;cases hx)];go_wp2;go_ret;exact⟨Zaa HE.o.symm,HB1.o⟩
    | some x=>
     have HXS:=Zab hsh;have HOS:=Zab (Zie (Ts:=Ts) (Os:=B.os) (now:=B.now) (F:=FF m) hsh);rw [Zhh hsh];clear hsh
     by_cases hck:(ZaV x.fields B.os[m].nm B.os[m].tm B.os[m].vs B.os[m].hs B.os[m].ver).1=0
     case neg=>
      have HE:Hd (Zaz Ss Ts B FF=false):=ZbB hlt (by rw [HOS.o,Zpu hck];rfl);have hd:((ZaV x.fields B.os[m].nm B.os[m].tm B.os[m].vs B.os[m].hs B.os[m].ver).1 != 0)=true:=by simp [bne,hck]
      go_wp2;go_ret;exact⟨Zaa HE.o.symm,HB1.o⟩
     have hd:((ZaV x.fields B.os[m].nm B.os[m].tm B.os[m].vs B.os[m].hs B.os[m].ver).1 != 0)=false:=by simp [bne,hck]
     have HCK:=Zab hck;have HLEN:=Zab (Zf0 hck);clear hck;have t2:=HX1.o.cell 2;have q2:=HP1.o.cell 2;have q6:=HP1.o.cell 6;have y0:=HY1.o.cell 0;simp at t2 q2 q6 y0
     cases h1:Zec Ts B.os[m].tm with
     | false=>
      have HE:Hd (Zaz Ss Ts B FF=false):=ZbB hlt (by rw [HOS.o,ZoZ h1];rfl);go_wp2_with (go_at_call 71;refine (Za9 lo _ Ts _ _ (HL.o.below HB1.o).tms).mono ?_;rintro e w1 ⟨rfl,rfl⟩);go_ret;exact⟨Zaa HE.o.symm,HB1.o⟩
     | true=>
      cases h2:inB 1 B.now B.os[m].ver with
      | false=>
       have HE:Hd (Zaz Ss Ts B FF=false):=ZbB hlt (by rw [HOS.o,h2,Bool.false_and,Bool.and_false]);go_wp2_with (first|(go_at_call 71;refine (Za9 lo _ Ts _ _ (HL.o.below HB1.o).tms).mono ?_;rintro e w1 ⟨rfl,rfl⟩)|(go_at_call 38;refine (Zar _ _ _ _).mono ?_;rintro e w1 ⟨rfl,rfl⟩));go_ret;exact⟨Zaa HE.o.symm,HB1.o⟩
      | true=>
       go_wp2_with (first|(go_at_call 71;refine (Za9 lo _ Ts _ _ (HL.o.below HB1.o).tms).mono ?_;rintro e w1 ⟨rfl,rfl⟩)|(go_at_call 38;refine (Zar _ _ _ _).mono ?_;rintro e w1 ⟨rfl,rfl⟩));clear hd t2 q2 q6 y0
       go_cut [76] (fun c wc=>c=.bool (!ZcP Zgz B.os m)/\Below w1.heap.size w1 wc)
       case first=>
        have y3:=HY1.o.cell 3;have q0:=HP1.o.cell 0;have q1:=HP1.o.cell 1;simp at y3 q0 q1
        by_cases h0:m=0
        . have hd0:decide (0 < m)=false:=by simp;omega
          have HRI:Hd (ZcP Zgz B.os m=true):=by unfold Hd;rw [h0];rfl
          clear h0
          go_quiet ((go_at_call 73;exact (ZcO _ _ _ _ _).mono fun _ _ h=>⟨h.1,_,h.2⟩))
          go_wp2;go_meet;exact⟨congrArg Value.bool (by rw [HRI.o];rfl),below_drewN Zb_ _⟩
        . have hd0:decide (0 < m)=true:=by simp;omega
          obtain⟨k,hkm⟩:∃ k,m=k+1:=⟨m - 1,by omega⟩
          have hltk:k < B.os.length:=by omega
          have yk0:w1.cell? ⟨b,off+k*7,none⟩=some (.string B.os[k].kd):=(HB1.o.cell (p:=⟨b,off+k*7,none⟩) hbw).trans (HC.o k hltk).1;have yk1:w1.cell? ⟨b,off+k*7+1,none⟩=some (.string B.os[k].nm):=(HB1.o.cell (p:=⟨b,off+k*7+1,none⟩) hbw).trans (HC.o k hltk).2
          have HRI0:Hd (ZcP Zgz B.os m=decide (Zd0 B.os[k].kd B.os[k].nm B.os[m].kd B.os[m].nm < 0)):=by
           subst hkm;unfold Hd;rw [Zd9 hlt]
           rfl
          have e2:IntKind.i64.wrap ((m:Int) - 1)=k:=by rw [IntWalk.i64_left];unfold wrap64;omega
          have e3:wrap64 ((m:Int) - 1)=k:=by unfold wrap64;omega
          have e4:(m:Int) - 1=k:=by omega
          have HKM:=Zab hkm;clear h0 hkm
          by_cases hnu:Zd0 B.os[k].kd B.os[k].nm B.os[m].kd B.os[m].nm < 0
          . have HRI:Hd (ZcP Zgz B.os m=true):=HRI0.o.trans (decide_eq_true hnu)
            have hd1:decide (0<=Zd0 B.os[k].kd B.os[k].nm B.os[m].kd B.os[m].nm)=false:=by simp;omega
            clear hnu
            go_quiet ((go_at_call 73;exact (ZcO _ _ _ _ _).mono fun _ _ h=>⟨h.1,_,h.2⟩))
            go_wp2;go_meet;exact⟨congrArg Value.bool (by rw [HRI.o];rfl),below_drewN Zb_ _⟩
          . have HRI:Hd (ZcP Zgz B.os m=false):=HRI0.o.trans (decide_eq_false hnu)
            have hd1:decide (0<=Zd0 B.os[k].kd B.os[k].nm B.os[m].kd B.os[m].nm)=true:=by simp;omega
            clear hnu
            go_quiet ((go_at_call 73;exact (ZcO _ _ _ _ _).mono fun _ _ h=>⟨h.1,_,h.2⟩))
            go_wp2;go_meet;exact⟨congrArg Value.bool (by rw [HRI.o];rfl),below_drewN Zb_ _⟩
       case rest=>
        obtain⟨hc76,hwn⟩:=hcut;have HW2:=Zab hwn;have HB2:Hd (Zw_ w wc):=HB1.o.trans (HW2.o.mono HB1.o.size);have HX2:=Zab (HX1.o.on HW2.o);have HY2:=Zab (HY1.o.on HW2.o);have HP2:=Zab (HP1.o.on HW2.o);clear hwn HX1 HY1 HP1
        cases hri:ZcP Zgz B.os m with
        | false=>
         have HE:Hd (Zaz Ss Ts B FF=false):=Zk6 hlt hri;rw [hri] at hc76;subst hc76;go_wp2;go_ret;exact⟨Zaa HE.o.symm,HB2.o⟩
        | true=>
         have HR:=Zab hri;rw [hri] at hc76;subst hc76;clear hri;go_wp2;have HD:Hd (Zw_ w wc.drew):=HB2.o.drew;have hfd:=Zgf
         go_region_held3 (ZaB wc w.heap.size #[.slice sa Ss.length sc,.slice ma Ms.length mc,.slice ta Ts.length tc] β #[.string B.os[m].kd,.string B.os[m].nm,.string B.os[m].tm,.slice va B.os[m].vs.length vcap,.bool B.os[m].en,.slice ha B.os[m].hs.length hcap,.int .i64 B.os[m].ver])
          (first
            | (with_reducible exact ZaB.drew HX2.o HP2.o)
            | (with_reducible exact ZaB.on (by assumption) (by assumption)))
          (first
            | (go_at_call 155
               refine (Zj8 B.os[m].kd B.os[m].nm B.os[m].tm _ _ _ _ B.os[m].en B.os[m].ver B.os[m].vs B.os[m].hs Ss Ms _ lo lo (HL.o.below HD.o).shs (HL.o.below HD.o).mds (HV.o.below HD.o) (HH.o.below HD.o) n1 n2 HMB.o).mono ?_;rintro e w3 ⟨v',h',F',rfl,hb3,⟨mid,hlo,hmi,hs3,hs4⟩,hfix⟩;have HFF:Hd (F'=FF m):=ZcF.unique hfix (HSH.o m hlt);have HC3:Hd (Zw_ w w3):=HD.o.trans (hb3.mono HD.o.size);have HS3:=Zab hs3.at;obtain⟨va',vcap',rfl⟩:=hs3.form;obtain⟨ha',hcap',rfl⟩:=hs4.form;clear hfix hs3 hs4 hlo hmi)
            | (go_at_call 154
               refine (Zi1 _ _ F' B.os[m].vs _ HS3.o (HV.o.below HC3.o)).mono ?_;rintro e w4 ⟨he4,hb4⟩;obtain⟨dq,hdq⟩:∃ d,d=decide (F'=B.os[m].vs):=⟨_,rfl⟩
               rw [<- hdq] at he4;subst he4;have HDQ:=Zab hdq;clear hdq;have HC4:Hd (Zw_ w w4):=HC3.o.trans (hb4.mono HC3.o.size)))
         have hb34:Below wc.heap.size wc w4:=(Zb_.drew.trans hb3).trans (hb4.mono ((Zb_.drew.trans hb3:Below wc.heap.size wc w3)).size);have HX4:=Zab (HX2.o.on hb34);have HY4:=Zab (HY2.o.on hb34);have HP4:=Zab (HP2.o.on hb34);have HF4:=Zab HFF.o;clear hb3 hb4 hb34 HX2 HY2 HP2 HC3 HS3 HD hfd
         cases dq with
         | false=>
          have hfv:¬ F'=B.os[m].vs:=of_decide_eq_false HDQ.o.symm;have HE:Hd (Zaz Ss Ts B FF=false):=ZbB hlt (by rw [HOS.o,ZpD (fun e=>hfv (HF4.o.trans e))];rfl);clear hfv;go_wp2;go_ret;exact⟨Zaa HE.o.symm,HC4.o⟩
         | true=>
          have hfv:F'=B.os[m].vs:=of_decide_eq_true HDQ.o.symm;have HAL:Hd (ZcA Ts x.fields B.os[m] (FF m)=true):=Zpe HCK.o h1 (by rw [<- HF4.o];exact hfv);clear hfv;have x0:=HX4.o.cell 0;have q0:=HP4.o.cell 0;have q1:=HP4.o.cell 1;have q2:=HP4.o.cell 2;have q3:=HP4.o.cell 3;have q4:=HP4.o.cell 4;have q5:=HP4.o.cell 5;have q6:=HP4.o.cell 6;simp at x0 q0 q1 q2 q3 q4 q5 q6;go_wp2_with fail;clear x0 q0 q1 q2 q3 q4 q5 q6;refine (ZcK B.os[m].kd B.os[m].nm B.os[m].tm _ _ _ B.os[m].en B.os[m].ver B.os[m].vs B.os[m].hs Ss _ lo w HL.o.shs HC4.o (HV.o.below HC4.o) (HH.o.below HC4.o)).mono ?_;rintro e w5 ⟨hb5,hq⟩;have HB5:Hd (Zw_ w w5):=HC4.o.trans (hb5.mono HC4.o.size);have HX5:=Zab (HX4.o.on hb5);have HY5:=Zab (HY4.o.on hb5);have HP5:=Zab (HP4.o.on hb5);clear hb5 HX4 HY4 HP4 HC4
          rcases hq with ⟨x',fv,hsh',hl',rfl,hF⟩ | ⟨hno,_⟩
          case inr=>exact absurd HLEN.o.symm (hno x HXS.o)
          obtain rfl:x=x':=Option.some.inj (HXS.o.symm.trans hsh');have HF:=Zab hF;obtain⟨fa,fcap,rfl⟩:=hF.form;clear hF hsh' hl';go_wp2
          go_loopw [11] (fun i wr=>∃ q:Nat,i=.int .i64 q/\q<=x.fields.length/\Zw_ w wr/\Box wr w.heap.size #[.slice sa Ss.length sc,.slice ma Ms.length mc,.slice ta Ts.length tc]/\Box wr (w.heap.size+1) #[.int .i64 B.now,.int .i64 B.tick,.int .i64 B.given,.slice (some ⟨b,off,none⟩) B.os.length k0,.slice a1 B.gs.length k1,.slice a2 B.ls.length k2,.slice a3 B.ps.length k3]/\Box wr β #[.string B.os[m].kd,.string B.os[m].nm,.string B.os[m].tm,.slice va B.os[m].vs.length vcap,.bool B.os[m].en,.slice ha B.os[m].hs.length hcap,.int .i64 B.os[m].ver]/\(ZeB x.fields B.os[m].vs q).all (Zdh B.os)=true) (fun i _=>x.fields.length - (intOf i).toNat)
          case atStart=>exact⟨0,rfl,Nat.zero_le _,HB5.o,HX5.o,HY5.o,HP5.o,rfl⟩
          case round=>
           obtain⟨q,rfl,hq,hb,hx,hy,hp,hall⟩:=hrel;have HBi:=Zab hb;have HXi:=Zab hx;have HYi:=Zab hy;have HPi:=Zab hp;have HAi:=Zab hall;clear hb hx hy hp hall HB5 HX5 HY5 HP5
           by_cases hlq:q < x.fields.length
           . have hlv:q < B.os[m].vs.length:=by have:=HLEN.o;omega
             obtain⟨fb,foff,rfl,hfb,hfc⟩:=HF.o.full' (by omega);obtain⟨hsz,wv,hcell,hst⟩:=hfc q hlq;obtain⟨vb,voff,rfl,hvb,hvc,hvs⟩:=HV.o.spread (by omega);have HST:=Zab (Zkc hlq hlv);have HTO:Hd (Zf9 q x.fields[q] B.os[m].vs[q]=if (x.fields[q].kd == 4&&!B.os[m].vs[q].toList.isEmpty)=true then [(q,x.fields[q].ro,x.fields[q].to,B.os[m].vs[q])] else []):=rfl;go_wp2
             go_cut [129] (fun c wc=>c=.bool (!(Zf9 q x.fields[q] B.os[m].vs[q]).all (Zdh B.os))/\Below wr.heap.size wr wc)
             case first=>
              have xn:Nonempty (In (Up wr)):=⟨⟨wr,Below.refl _ _⟩⟩;have xs:=fun (X:In (Up wr))=>ZbJ X
              have z1:∀ X:In (Up wr),X.w.cell? ⟨fb,foff+q*11+1,none⟩=some (.int .i64 x.fields[q].kd):=fun X=>Up.cell X (hcell.below HBi.o hfb).c1
              have z5:∀ X:In (Up wr),X.w.cell? ⟨fb,foff+q*11+5,none⟩=some (.string x.fields[q].to):=fun X=>Up.cell X (hcell.below HBi.o hfb).c5
              have zv:∀ X:In (Up wr),X.w.cell? ⟨vb,voff+q,none⟩=some (.string B.os[m].vs[q]):=fun X=>Up.cell X ((HBi.o.cell (p:=⟨vb,voff+q,none⟩) hvb).trans (hvc q hlv))
              have q3:∀ X:In (Up wr),X.w.cell? ⟨β,3,none⟩=some (.slice (some ⟨vb,voff,none⟩) B.os[m].vs.length vcap):=fun X=>Up.cell X (by rw [HPi.o.cell 3];rfl)
              have x0:∀ X:In (Up wr),X.w.cell? ⟨w.heap.size+1,0,none⟩=some (.int .i64 B.now):=fun X=>Up.cell X (by rw [HYi.o.cell 0];rfl)
              have x1:∀ X:In (Up wr),X.w.cell? ⟨w.heap.size+1,1,none⟩=some (.int .i64 B.tick):=fun X=>Up.cell X (by rw [HYi.o.cell 1];rfl)
              have x2:∀ X:In (Up wr),X.w.cell? ⟨w.heap.size+1,2,none⟩=some (.int .i64 B.given):=fun X=>Up.cell X (by rw [HYi.o.cell 2];rfl)
              have x3:∀ X:In (Up wr),X.w.cell? ⟨w.heap.size+1,3,none⟩=some (.slice (some ⟨b,off,none⟩) B.os.length k0):=fun X=>Up.cell X (by rw [HYi.o.cell 3];rfl)
              have x4:∀ X:In (Up wr),X.w.cell? ⟨w.heap.size+1,4,none⟩=some (.slice a1 B.gs.length k1):=fun X=>Up.cell X (by rw [HYi.o.cell 4];rfl)
              have x5:∀ X:In (Up wr),X.w.cell? ⟨w.heap.size+1,5,none⟩=some (.slice a2 B.ls.length k2):=fun X=>Up.cell X (by rw [HYi.o.cell 5];rfl)
              have x6:∀ X:In (Up wr),X.w.cell? ⟨w.heap.size+1,6,none⟩=some (.slice a3 B.ps.length k3):=fun X=>Up.cell X (by rw [HYi.o.cell 6];rfl)
              have hd:=Zr6 B.os x.fields[q].to B.os[m].vs[q];clear hfc hsz hcell hst hvc hvs;refine Zam (Up wr) (by kernel_rfl) (by kernel_rfl) (Zb_.drew) ?_
              cases hk1:(x.fields[q].kd == 4) with
              | false=>
               repeat (go_big_quiet_step ((go_at_call 157;rename_i X;exact (ZgF lo _ _ _ _ B _ _ _ (HK.o.below (HBi.o.trans (X.h.mono HBi.o.size)))).mono fun _ _ h=>⟨h.1,Up.next X h.2⟩)))
               refine wpQuiet_nil ?_;intro wn hw;obtain⟨X,hX⟩:=hw;have HWN:Below wr.heap.size wr wn:=by rw [hX];exact X.h
               clear hX X xs xn z1 z5 zv q3 x0 x1 x2 x3 x4 x5 x6;go_wp2;go_meet;exact⟨congrArg Value.bool (by rw [HTO.o,hk1];rfl),HWN⟩
              | true=>
               cases hk2:B.os[m].vs[q].toList.isEmpty with
               | true=>
                repeat (go_big_quiet_step ((go_at_call 157;rename_i X;exact (ZgF lo _ _ _ _ B _ _ _ (HK.o.below (HBi.o.trans (X.h.mono HBi.o.size)))).mono fun _ _ h=>⟨h.1,Up.next X h.2⟩)))
                refine wpQuiet_nil ?_;intro wn hw;obtain⟨X,hX⟩:=hw;have HWN:Below wr.heap.size wr wn:=by rw [hX];exact X.h
                clear hX X xs xn z1 z5 zv q3 x0 x1 x2 x3 x4 x5 x6;go_wp2;go_meet;exact⟨congrArg Value.bool (by rw [HTO.o,hk1,hk2];rfl),HWN⟩
               | false=>
                cases h3:B.os.any (ZgG x.fields[q].to B.os[m].vs[q]) with
                | true=>
                 rw [h3] at hd
                 repeat (go_big_quiet_step ((go_at_call 157;rename_i X;exact (ZgF lo _ _ _ _ B _ _ _ (HK.o.below (HBi.o.trans (X.h.mono HBi.o.size)))).mono fun _ _ h=>⟨h.1,Up.next X h.2⟩)))
                 refine wpQuiet_nil ?_;intro wn hw;obtain⟨X,hX⟩:=hw;have HWN:Below wr.heap.size wr wn:=by rw [hX];exact X.h
                 clear hX X xs xn z1 z5 zv q3 x0 x1 x2 x3 x4 x5 x6;go_wp2;go_meet;exact⟨congrArg Value.bool (by rw [HTO.o,hk1,hk2];show false=!(B.os.any (ZgG x.fields[q].to B.os[m].vs[q])&&true);rw [h3];rfl),HWN⟩
                | false=>
                 rw [h3] at hd
                 repeat (go_big_quiet_step ((go_at_call 157;rename_i X;exact (ZgF lo _ _ _ _ B _ _ _ (HK.o.below (HBi.o.trans (X.h.mono HBi.o.size)))).mono fun _ _ h=>⟨h.1,Up.next X h.2⟩)))
                 refine wpQuiet_nil ?_;intro wn hw;obtain⟨X,hX⟩:=hw;have HWN:Below wr.heap.size wr wn:=by rw [hX];exact X.h
                 clear hX X xs xn z1 z5 zv q3 x0 x1 x2 x3 x4 x5 x6;go_wp2;go_meet;exact⟨congrArg Value.bool (by rw [HTO.o,hk1,hk2];show true=!(B.os.any (ZgG x.fields[q].to B.os[m].vs[q])&&true);rw [h3];rfl),HWN⟩
             case rest=>
              obtain⟨hc129,hwn⟩:=hcut;have HWN:=Zab hwn;have HWB:Hd (Zw_ w wc):=HBi.o.trans (HWN.o.mono HBi.o.size);have HXw:=Zab (HXi.o.on HWN.o);have HYw:=Zab (HYi.o.on HWN.o);have HPw:=Zab (HPi.o.on HWN.o);clear hwn hfc hsz hcell hst hvc hvs HXi HYi HPi
              cases hti:(Zf9 q x.fields[q] B.os[m].vs[q]).all (Zdh B.os) with
              | false=>
               have HE:Hd (Zaz Ss Ts B FF=false):=ZbB hlt (by rw [HOS.o,Zoy (show q+1<=x.fields.length by omega) (by rw [HST.o,List.all_append,hti,Bool.and_false]),Bool.and_false,Bool.and_false]);rw [hti] at hc129;subst hc129;go_wp2;go_ret;exact⟨Zaa HE.o.symm,HWB.o⟩
              | true=>
               have HAT:Hd ((ZeB x.fields B.os[m].vs (q+1)).all (Zdh B.os)=true):=by unfold Hd;rw [HST.o,List.all_append,HAi.o,hti];rfl
               rw [hti] at hc129;subst hc129;go_wp2;go_roundw
               . exact⟨q+1,by go_num,by omega,HWB.o,HXw.o,HYw.o,HPw.o,HAT.o⟩
               . simp [intOf];omega
           . have he:q=x.fields.length:=by omega
             subst he;have HT:Hd (ZoM Ss Ts B FF m=true):=by unfold Hd;rw [HQ.o,HOS.o,HAL.o,h2,show Ziy B.os x.fields B.os[m].vs=true from HAi.o];rfl
             go_wp2;go_roundw
             . exact⟨m+1,by go_num,by omega,HBi.o,HXi.o,HYi.o,Zlp HA.o HT.o,Zlp (p:=ZcP Zgz B.os) HS.o HR.o⟩
             . simp [intOf];omega
  . have HT:Hd (Zaz Ss Ts B FF=true):=ZgQ hl (Za7 (fun j hj=>HS.o j (by omega))) (fun i hi=>HA.o i (by omega))
    go_wp2;go_ret;exact⟨Zaa HT.o.symm,HBr.o⟩
end
def ZdE (Ss:List Sh) (Ts:List Tm) (B:Bk) (FF:Nat->List Zy_):Bool:=ZdM B&&(Zaz Ss Ts B FF&&(Za0 B&&Zgk Ss Ts B))
def ZcW (Ss:List Sh) (Ms:List Md) (Ts:List Tm) (B:Bk) (FF:Nat->List Zy_):Bool:=Zkx Ss Ms Ts&&ZdE Ss Ts B FF
theorem Zke {Ss:List Sh}{Ms:List Md}{Ts:List Tm} (h:Zkx Ss Ms Ts=true):Zay Ss Ms=true:=by
 unfold Zkx at h;rw [Bool.and_eq_true] at h;exact h.1
theorem Zih {B:Bk} (h:ZdM B=true):inB 0 1000000 B.tick=true:=by
 unfold ZdM at h;rw [Bool.and_eq_true,Bool.and_eq_true] at h;exact h.1.2
theorem Zlr {Ts:List Tm}{Ls:List Le} (h:ZaI Ts Ls=true):Zdn Zce Ls=true:=by
 unfold ZaI at h;rw [Bool.and_eq_true,Bool.and_eq_true] at h;exact h.1.2
theorem Zb1.exists (Ss:List Sh) (Ms:List Md) (Os:List Ob):∃ FF,Zb1 Ss Ms Os FF:=by
 have h:∀ i,∃ F,∀ (h:i < Os.length),ZcF Ss Ms Os[i].kd Os[i].vs F:=fun i=>by
  by_cases hi:i < Os.length
  . obtain⟨F,hF⟩:=ZcF.exists Ss Ms Os[i].kd Os[i].vs
    exact⟨F,fun _=>hF⟩
  . exact⟨[],fun h=>absurd h hi⟩
 exact⟨fun i=>(h i).choose,fun i hi=>(h i).choose_spec hi⟩
section
variable (lo:Nat) (sv mv tv ov gv lv pv:Value) (Ss:List Sh) (Ms:List Md) (Ts:List Tm) (B:Bk) (FF:Nat->List Zy_) (w:World)
theorem Zjd (hl:ZbC lo w sv mv tv Ss Ms Ts) (hmb:Zay Ss Ms=true) (h:ZaY lo w ov gv lv pv B) (hn:ZaE B) (hsh:Zb1 Ss Ms B.os FF) :
 Calls prog 161 #[.agg #[sv,mv,tv],.agg #[.int .i64 B.now,.int .i64 B.tick,.int .i64 B.given,ov,gv,lv,pv]] w fun e w'=>e=.returned (.bool (ZdE Ss Ts B FF))/\Zw_ w w':=by
 have HL:=Zab hl;have HK:=Zab h;have HN:=Zab hn;have HSH:=Zab hsh;have HMB:=Zab hmb;have HLL:Hd (B.ls.length<=1048576):=hn.2.2.1.1;have HI:Hd (ZdE Ss Ts B FF=(ZdM B&&(Zaz Ss Ts B FF&&(Za0 B&&(ZaI Ts B.ls&&(Za8 B&&Zkz Ss Ts B)))))):=rfl;obtain⟨sa,sc,rfl⟩:=hl.shs.form;obtain⟨ma,mc,rfl⟩:=hl.mds.form;obtain⟨ta,tc,rfl⟩:=hl.tms.form;obtain⟨a0,k0,rfl⟩:=h.obs.form;obtain⟨a1,k1,rfl⟩:=h.grs.form;obtain⟨a2,k2,rfl⟩:=h.les.form;obtain⟨a3,k3,rfl⟩:=h.pus.form;clear hl hmb h hn hsh;go_enter func161,ntmps161;go_wp2_with fail;generalize hWa:(World.alloc (w.alloc _) _)=w0;have HB0:Hd (Zw_ w w0):=by rw [<- hWa];exact (Zac w _).alloc (by simp) _
 have HX0:Hd (Box w0 w.heap.size #[.slice sa Ss.length sc,.slice ma Ms.length mc,.slice ta Ts.length tc]):=by rw [<- hWa];exact (Box.new _ _ _ _ rfl).on (Zac _ _)
 have HY0:Hd (Box w0 (w.heap.size+1) #[.int .i64 B.now,.int .i64 B.tick,.int .i64 B.given,.slice a0 B.os.length k0,.slice a1 B.gs.length k1,.slice a2 B.ls.length k2,.slice a3 B.ps.length k3]):=by rw [<- hWa];exact Box.new _ _ _ _ (by simp)
 clear hWa;refine (Zln lo _ _ _ _ B _ (HK.o.below HB0.o)).mono ?_;rintro e w1 ⟨rfl,hb⟩;have HB1:Hd (Zw_ w w1):=HB0.o.trans (hb.mono HB0.o.size);have HX1:=Zab (HX0.o.on hb);have HY1:=Zab (HY0.o.on hb);clear hb HB0 HX0 HY0
 cases h0:ZdM B with
 | false=>
  have HE:Hd (ZdE Ss Ts B FF=false):=by unfold Hd;rw [HI.o,h0];rfl
  go_wp2;go_ret;exact⟨Zaa HE.o.symm,HB1.o⟩
 | true=>
  have l0:=HX1.o.cell 0;have l1:=HX1.o.cell 1;have l2:=HX1.o.cell 2;have b0:=HY1.o.cell 0;have b1:=HY1.o.cell 1;have b2:=HY1.o.cell 2;have b3:=HY1.o.cell 3;have b4:=HY1.o.cell 4;have b5:=HY1.o.cell 5;have b6:=HY1.o.cell 6;simp at l0 l1 l2 b0 b1 b2 b3 b4 b5 b6;go_wp2_with fail;clear l0 l1 l2 b0 b1 b2 b3 b4 b5 b6;refine (Zg5 lo _ _ _ _ _ _ _ Ss Ms Ts B FF _ (HL.o.below HB1.o) HMB.o (HK.o.below HB1.o) HN.o.1 HSH.o).mono ?_;rintro e w2 ⟨rfl,hb⟩;have HB2:Hd (Zw_ w w2):=HB1.o.trans (hb.mono HB1.o.size);have HX2:=Zab (HX1.o.on hb);have HY2:=Zab (HY1.o.on hb);clear hb HB1 HX1 HY1
  cases h1:Zaz Ss Ts B FF with
  | false=>
   have HE:Hd (ZdE Ss Ts B FF=false):=by unfold Hd;rw [HI.o,h0,h1];rfl
   go_wp2;go_ret;exact⟨Zaa HE.o.symm,HB2.o⟩
  | true=>
   have l0:=HX2.o.cell 0;have l1:=HX2.o.cell 1;have l2:=HX2.o.cell 2;have b0:=HY2.o.cell 0;have b1:=HY2.o.cell 1;have b2:=HY2.o.cell 2;have b3:=HY2.o.cell 3;have b4:=HY2.o.cell 4;have b5:=HY2.o.cell 5;have b6:=HY2.o.cell 6;simp at l0 l1 l2 b0 b1 b2 b3 b4 b5 b6;go_wp2_with fail;clear l0 l1 l2 b0 b1 b2 b3 b4 b5 b6;refine (ZhN lo _ _ _ _ B _ (HK.o.below HB2.o)).mono ?_;rintro e w3 ⟨rfl,hb⟩;have HB3:Hd (Zw_ w w3):=HB2.o.trans (hb.mono HB2.o.size);have HX3:=Zab (HX2.o.on hb);have HY3:=Zab (HY2.o.on hb);clear hb HB2 HX2 HY2
   cases h2:Za0 B with
   | false=>
    have HE:Hd (ZdE Ss Ts B FF=false):=by unfold Hd;rw [HI.o,h0,h1,h2];rfl
    go_wp2;go_ret;exact⟨Zaa HE.o.symm,HB3.o⟩
   | true=>
    have l0:=HX3.o.cell 0;have l1:=HX3.o.cell 1;have l2:=HX3.o.cell 2;have b0:=HY3.o.cell 0;have b1:=HY3.o.cell 1;have b2:=HY3.o.cell 2;have b3:=HY3.o.cell 3;have b4:=HY3.o.cell 4;have b5:=HY3.o.cell 5;have b6:=HY3.o.cell 6;simp at l0 l1 l2 b0 b1 b2 b3 b4 b5 b6;go_wp2_with fail;clear l0 l1 l2 b0 b1 b2 b3 b4 b5 b6;refine (ZgJ lo _ _ _ _ Ss Ms Ts B.ls _ (HL.o.below HB3.o) (HK.o.below HB3.o).les).mono ?_;rintro e w4 ⟨rfl,hb⟩;have HB4:Hd (Zw_ w w4):=HB3.o.trans (hb.mono HB3.o.size);have HX4:=Zab (HX3.o.on hb);have HY4:=Zab (HY3.o.on hb);clear hb HB3 HX3 HY3
    cases h3:ZaI Ts B.ls with
    | false=>
     have HE:Hd (ZdE Ss Ts B FF=false):=by unfold Hd;rw [HI.o,h0,h1,h2,h3];rfl
     go_wp2;go_ret;exact⟨Zaa HE.o.symm,HB4.o⟩
    | true=>
     have l0:=HX4.o.cell 0;have l1:=HX4.o.cell 1;have l2:=HX4.o.cell 2;have b0:=HY4.o.cell 0;have b1:=HY4.o.cell 1;have b2:=HY4.o.cell 2;have b3:=HY4.o.cell 3;have b4:=HY4.o.cell 4;have b5:=HY4.o.cell 5;have b6:=HY4.o.cell 6;simp at l0 l1 l2 b0 b1 b2 b3 b4 b5 b6;go_wp2_with fail;clear l0 l1 l2 b0 b1 b2 b3 b4 b5 b6;refine (ZhM lo _ _ _ _ B _ (HK.o.below HB4.o) HLL.o (Zlr h3) (Zih h0)).mono ?_;rintro e w5 ⟨rfl,hb⟩;have HB5:Hd (Zw_ w w5):=HB4.o.trans (hb.mono HB4.o.size);have HX5:=Zab (HX4.o.on hb);have HY5:=Zab (HY4.o.on hb);clear hb HB4 HX4 HY4
     cases h4:Za8 B with
     | false=>
      have HE:Hd (ZdE Ss Ts B FF=false):=by unfold Hd;rw [HI.o,h0,h1,h2,h3,h4];rfl
      go_wp2;go_ret;exact⟨Zaa HE.o.symm,HB5.o⟩
     | true=>
      have l0:=HX5.o.cell 0;have l1:=HX5.o.cell 1;have l2:=HX5.o.cell 2;have b0:=HY5.o.cell 0;have b1:=HY5.o.cell 1;have b2:=HY5.o.cell 2;have b3:=HY5.o.cell 3;have b4:=HY5.o.cell 4;have b5:=HY5.o.cell 5;have b6:=HY5.o.cell 6;simp at l0 l1 l2 b0 b1 b2 b3 b4 b5 b6;go_wp2_with fail;clear l0 l1 l2 b0 b1 b2 b3 b4 b5 b6;refine (Zjv lo _ _ _ _ _ _ _ Ss Ms Ts B _ (HL.o.below HB5.o) (HK.o.below HB5.o) HN.o).mono ?_;rintro e w6 ⟨rfl,hb⟩;have HB6:Hd (Zw_ w w6):=HB5.o.trans (hb.mono HB5.o.size);have HX6:=Zab (HX5.o.on hb);have HY6:=Zab (HY5.o.on hb);clear hb HB5 HX5 HY5;have HE:Hd (ZdE Ss Ts B FF=Zkz Ss Ts B):=by unfold Hd;rw [HI.o,h0,h1,h2,h3,h4];rfl
      go_wp2;go_ret;exact⟨Zaa HE.o.symm,HB6.o⟩
theorem Zgg (hl:ZbC lo w sv mv tv Ss Ms Ts) (h:ZaY lo w ov gv lv pv B) (hn:ZaE B) (hsh:Zb1 Ss Ms B.os FF) :
 Calls prog 107 #[.agg #[sv,mv,tv],.agg #[.int .i64 B.now,.int .i64 B.tick,.int .i64 B.given,ov,gv,lv,pv]] w fun e w'=>e=.returned (.bool (ZcW Ss Ms Ts B FF))/\Zw_ w w':=by
 have HL:=Zab hl;have HK:=Zab h;have HN:=Zab hn;have HSH:=Zab hsh;have HI:Hd (ZcW Ss Ms Ts B FF=(Zkx Ss Ms Ts&&ZdE Ss Ts B FF)):=rfl;obtain⟨sa,sc,rfl⟩:=hl.shs.form;obtain⟨ma,mc,rfl⟩:=hl.mds.form;obtain⟨ta,tc,rfl⟩:=hl.tms.form;obtain⟨a0,k0,rfl⟩:=h.obs.form;obtain⟨a1,k1,rfl⟩:=h.grs.form;obtain⟨a2,k2,rfl⟩:=h.les.form;obtain⟨a3,k3,rfl⟩:=h.pus.form;clear hl h hn hsh;go_enter func107,ntmps107;go_wp2_with fail;generalize hWa:(World.alloc (w.alloc _) _)=w0;have HB0:Hd (Zw_ w w0):=by rw [<- hWa];exact (Zac w _).alloc (by simp) _
 have HX0:Hd (Box w0 w.heap.size #[.slice sa Ss.length sc,.slice ma Ms.length mc,.slice ta Ts.length tc]):=by rw [<- hWa];exact (Box.new _ _ _ _ rfl).on (Zac _ _)
 have HY0:Hd (Box w0 (w.heap.size+1) #[.int .i64 B.now,.int .i64 B.tick,.int .i64 B.given,.slice a0 B.os.length k0,.slice a1 B.gs.length k1,.slice a2 B.ls.length k2,.slice a3 B.ps.length k3]):=by rw [<- hWa];exact Box.new _ _ _ _ (by simp)
 clear hWa;refine (ZiJ lo _ _ _ Ss Ms Ts _ (HL.o.below HB0.o)).mono ?_;rintro e w1 ⟨rfl,hb⟩;have HB1:Hd (Zw_ w w1):=HB0.o.trans (hb.mono HB0.o.size);have HX1:=Zab (HX0.o.on hb);have HY1:=Zab (HY0.o.on hb);clear hb HB0 HX0 HY0
 cases h0:Zkx Ss Ms Ts with
 | false=>
  have HE:Hd (ZcW Ss Ms Ts B FF=false):=by unfold Hd;rw [HI.o,h0];rfl
  go_wp2;go_ret;exact⟨Zaa HE.o.symm,HB1.o⟩
 | true=>
  have HE:Hd (ZcW Ss Ms Ts B FF=ZdE Ss Ts B FF):=by unfold Hd;rw [HI.o,h0];rfl
  have l0:=HX1.o.cell 0;have l1:=HX1.o.cell 1;have l2:=HX1.o.cell 2;have b0:=HY1.o.cell 0;have b1:=HY1.o.cell 1;have b2:=HY1.o.cell 2;have b3:=HY1.o.cell 3;have b4:=HY1.o.cell 4;have b5:=HY1.o.cell 5;have b6:=HY1.o.cell 6;simp at l0 l1 l2 b0 b1 b2 b3 b4 b5 b6;go_wp2_with fail;clear l0 l1 l2 b0 b1 b2 b3 b4 b5 b6;refine (Zjd lo _ _ _ _ _ _ _ Ss Ms Ts B FF _ (HL.o.below HB1.o) (Zke h0) (HK.o.below HB1.o) HN.o HSH.o).mono ?_;rintro e w2 ⟨rfl,hb⟩;have HB2:Hd (Zw_ w w2):=HB1.o.trans (hb.mono HB1.o.size);go_wp2;go_ret;exact⟨Zaa HE.o.symm,HB2.o⟩
theorem ZjV (hl:ZbC lo w sv mv tv Ss Ms Ts) (h:ZaY lo w ov gv lv pv B) (hn:ZaE B) (hsh:Zb1 Ss Ms B.os FF) :
 Calls prog 34 #[.agg #[sv,mv,tv],.agg #[.int .i64 B.now,.int .i64 B.tick,.int .i64 B.given,ov,gv,lv,pv]] w fun e w'=>e=.returned (.bool (ZcW Ss Ms Ts B FF))/\Zw_ w w':=by
 have HL:=Zab hl;have HK:=Zab h;have HN:=Zab hn;have HSH:=Zab hsh;have HI:Hd (ZcW Ss Ms Ts B FF=(Zkx Ss Ms Ts&&(ZdM B&&(Zaz Ss Ts B FF&&(Za0 B&&Zgk Ss Ts B))))):=rfl;have HTI:Hd (ZdM B=(inB 0 1000000 B.now&&inB 0 1000000 B.tick&&inB 0 B.now B.given)):=rfl;obtain⟨sa,sc,rfl⟩:=hl.shs.form;obtain⟨ma,mc,rfl⟩:=hl.mds.form;obtain⟨ta,tc,rfl⟩:=hl.tms.form;obtain⟨a0,k0,rfl⟩:=h.obs.form;obtain⟨a1,k1,rfl⟩:=h.grs.form;obtain⟨a2,k2,rfl⟩:=h.les.form;obtain⟨a3,k3,rfl⟩:=h.pus.form;clear hl h hn hsh;go_enter func34,ntmps34;go_wp2_with fail;generalize hWa:(World.alloc (w.alloc _) _)=w0;have HB0:Hd (Zw_ w w0):=by rw [<- hWa];exact (Zac w _).alloc (by simp) _
 have HX0:Hd (Box w0 w.heap.size #[.slice sa Ss.length sc,.slice ma Ms.length mc,.slice ta Ts.length tc]):=by rw [<- hWa];exact (Box.new _ _ _ _ rfl).on (Zac _ _)
 have HY0:Hd (Box w0 (w.heap.size+1) #[.int .i64 B.now,.int .i64 B.tick,.int .i64 B.given,.slice a0 B.os.length k0,.slice a1 B.gs.length k1,.slice a2 B.ls.length k2,.slice a3 B.ps.length k3]):=by rw [<- hWa];exact Box.new _ _ _ _ (by simp)
 clear hWa;refine (Zji lo _ _ _ Ss Ms Ts _ (HL.o.below HB0.o)).mono ?_;rintro e w1 ⟨rfl,hb⟩;have HB1:Hd (Zw_ w w1):=HB0.o.trans (hb.mono HB0.o.size);have HX1:=Zab (HX0.o.on hb);have HY1:=Zab (HY0.o.on hb);clear hb HB0 HX0 HY0;have b0:=HY1.o.cell 0;have b1:=HY1.o.cell 1;have b2:=HY1.o.cell 2;simp at b0 b1 b2
 cases h0:Zkx Ss Ms Ts with
 | false=>
  have HE:Hd (ZcW Ss Ms Ts B FF=false):=by unfold Hd;rw [HI.o,h0];rfl
  go_wp2;go_ret;exact⟨Zaa HE.o.symm,HB1.o⟩
 | true=>
  cases i0:inB 0 1000000 B.now with
  | false=>
   have HE:Hd (ZcW Ss Ms Ts B FF=false):=by unfold Hd;rw [HI.o,h0,HTI.o,i0];rfl
   go_wp2_with (go_at_call 38;refine (Zar _ _ _ _).mono ?_;rintro e w' ⟨rfl,rfl⟩);go_ret;exact⟨Zaa HE.o.symm,HB1.o⟩
  | true=>
   cases i1:inB 0 1000000 B.tick with
   | false=>
    have HE:Hd (ZcW Ss Ms Ts B FF=false):=by unfold Hd;rw [HI.o,h0,HTI.o,i0,i1];rfl
    go_wp2_with (go_at_call 38;refine (Zar _ _ _ _).mono ?_;rintro e w' ⟨rfl,rfl⟩);go_ret;exact⟨Zaa HE.o.symm,HB1.o⟩
   | true=>
    cases i2:inB 0 B.now B.given with
    | false=>
     have HE:Hd (ZcW Ss Ms Ts B FF=false):=by unfold Hd;rw [HI.o,h0,HTI.o,i0,i1,i2];rfl
     go_wp2_with (go_at_call 38;refine (Zar _ _ _ _).mono ?_;rintro e w' ⟨rfl,rfl⟩);go_ret;exact⟨Zaa HE.o.symm,HB1.o⟩
    | true=>
     have HT:Hd (ZdM B=true):=by unfold Hd;rw [HTI.o,i0,i1,i2];rfl
     have l0:=HX1.o.cell 0;have l1:=HX1.o.cell 1;have l2:=HX1.o.cell 2;have b3:=HY1.o.cell 3;have b4:=HY1.o.cell 4;have b5:=HY1.o.cell 5;have b6:=HY1.o.cell 6;simp at l0 l1 l2 b3 b4 b5 b6;go_wp2_with (go_at_call 38;refine (Zar _ _ _ _).mono ?_;rintro e w' ⟨rfl,rfl⟩);clear l0 l1 l2 b0 b1 b2 b3 b4 b5 b6;refine (Zg2 lo _ _ _ _ _ _ _ Ss Ms Ts B FF _ (HL.o.below HB1.o) (Zke h0) (HK.o.below HB1.o) HN.o.1 HSH.o).mono ?_;rintro e w2 ⟨rfl,hb⟩;have HB2:Hd (Zw_ w w2):=HB1.o.trans (hb.mono HB1.o.size);have HX2:=Zab (HX1.o.on hb);have HY2:=Zab (HY1.o.on hb);clear hb HB1 HX1 HY1
     cases h1:Zaz Ss Ts B FF with
     | false=>
      have HE:Hd (ZcW Ss Ms Ts B FF=false):=by unfold Hd;rw [HI.o,h0,HT.o,h1];rfl
      go_wp2;go_ret;exact⟨Zaa HE.o.symm,HB2.o⟩
     | true=>
      have l0:=HX2.o.cell 0;have l1:=HX2.o.cell 1;have l2:=HX2.o.cell 2;have b0:=HY2.o.cell 0;have b1:=HY2.o.cell 1;have b2:=HY2.o.cell 2;have b3:=HY2.o.cell 3;have b4:=HY2.o.cell 4;have b5:=HY2.o.cell 5;have b6:=HY2.o.cell 6;simp at l0 l1 l2 b0 b1 b2 b3 b4 b5 b6;go_wp2_with fail;clear l0 l1 l2 b0 b1 b2 b3 b4 b5 b6;refine (ZhB lo _ _ _ _ B _ (HK.o.below HB2.o)).mono ?_;rintro e w3 ⟨rfl,hb⟩;have HB3:Hd (Zw_ w w3):=HB2.o.trans (hb.mono HB2.o.size);have HX3:=Zab (HX2.o.on hb);have HY3:=Zab (HY2.o.on hb);clear hb HB2 HX2 HY2
      cases h2:Za0 B with
      | false=>
       have HE:Hd (ZcW Ss Ms Ts B FF=false):=by unfold Hd;rw [HI.o,h0,HT.o,h1,h2];rfl
       go_wp2;go_ret;exact⟨Zaa HE.o.symm,HB3.o⟩
      | true=>
       have l0:=HX3.o.cell 0;have l1:=HX3.o.cell 1;have l2:=HX3.o.cell 2;have b0:=HY3.o.cell 0;have b1:=HY3.o.cell 1;have b2:=HY3.o.cell 2;have b3:=HY3.o.cell 3;have b4:=HY3.o.cell 4;have b5:=HY3.o.cell 5;have b6:=HY3.o.cell 6;simp at l0 l1 l2 b0 b1 b2 b3 b4 b5 b6;go_wp2_with fail;clear l0 l1 l2 b0 b1 b2 b3 b4 b5 b6;refine (ZjM lo _ _ _ _ _ _ _ Ss Ms Ts B _ (HL.o.below HB3.o) (HK.o.below HB3.o) HN.o.1 (Zih HT.o)).mono ?_;rintro e w4 ⟨rfl,hb⟩;have HB4:Hd (Zw_ w w4):=HB3.o.trans (hb.mono HB3.o.size);have HX4:=Zab (HX3.o.on hb);have HY4:=Zab (HY3.o.on hb);clear hb HB3 HX3 HY3;have HE:Hd (ZcW Ss Ms Ts B FF=Zgk Ss Ts B):=by unfold Hd;rw [HI.o,h0,HT.o,h1,h2];rfl
       go_wp2;go_ret;exact⟨Zaa HE.o.symm,HB4.o⟩
end
end Go.Proofs.YtfohnageehneoaaGreat
