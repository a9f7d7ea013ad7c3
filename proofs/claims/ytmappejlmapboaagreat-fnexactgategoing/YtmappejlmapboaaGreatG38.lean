import Derived.Test.YtmappejlmapboaaGreatG30
import Derived.Test.YtmappejlmapboaaGreatG37
set_option maxHeartbeats 16000000
set_option maxRecDepth 100000
open Go.Proofs.Tryz
namespace Go.Proofs.YtmappejlmapboaaGreat
open Go.RowKit Go.Deep Go.Maps
variable {W0:World} {b1 b2 b3:Nat} {cs1 cs2 cs3:Array Value}
abbrev ZjR (W0:World) (b1:Nat) (cs1:Array Value) (b2:Nat) (cs2:Array Value) (b3:Nat) (cs3:Array Value) (W:World):Prop:=
 (∀ i,W.cell? ⟨b1,i,none⟩=cs1[i]?)/\(∀ i,W.cell? ⟨b2,i,none⟩=cs2[i]?)/\(∀ i,W.cell? ⟨b3,i,none⟩=cs3[i]?)/\Hd (Below W0.heap.size W0 W/\b1 < W0.heap.size/\b2 < W0.heap.size/\b3 < W0.heap.size)
theorem ZjR.drew (h1:Box W0 b1 cs1) (h2:Box W0 b2 cs2) (h3:Box W0 b3 cs3):ZjR W0 b1 cs1 b2 cs2 b3 cs3 W0.drew:=⟨h1.cell,h2.cell,h3.cell,Zb_.drew,h1.lt,h2.lt,h3.lt⟩
theorem ZjR.on {W W':World} (h:ZjR W0 b1 cs1 b2 cs2 b3 cs3 W) (hb:Below W.heap.size W W'):ZjR W0 b1 cs1 b2 cs2 b3 cs3 W':=by
 obtain⟨h1,h2,h3,h4,h5,h6,h7⟩:=h;have:=h4.size;exact⟨fun i=>(hb.cell (p:=⟨b1,i,none⟩) (by simp only [];omega)).trans (h1 i),fun i=>(hb.cell (p:=⟨b2,i,none⟩) (by simp only [];omega)).trans (h2 i),fun i=>(hb.cell (p:=⟨b3,i,none⟩) (by simp only [];omega)).trans (h3 i),h4.trans (hb.mono h4.size),h5,h6,h7⟩
theorem Zgw (k n t v e h r:Value) (W:World):(Instr.field 128 (.agg #[k,n,t,v,e,h,r]) 3).run prog W=.ok v W:=by
 simp [Instr.field,go_sem,run_underlying underlying128,Result.andThen,asAgg]
def Zcs (Ts:List Tm) (Fs:List Fd) (o:Ob) (F:List Zy_):Bool:=decide ((ZaP Fs o.nm o.tm o.vs o.hs o.ver).1=0)&&(Zgf Ts o.tm&&decide (F=o.vs))
section
variable (lo:Nat) (sv mv tv fv vv hv:Value) (Ss:List Sh) (Ms:List Md) (Ts:List Tm) (x:Sh) (o:Ob) (F:List Zy_) (w:World)
theorem ZkE (hl:ZbF lo w sv mv tv Ss Ms Ts) (hmb:Zax Ss Ms=true) (hx:Zcj Ss o.kd=some x) (hF:Zau lo w fv x.fields) (hV:Zaf w vv o.vs) (hH:Zaf w hv o.hs) (hz:Zc5 o) (n2:o.hs.length<=1048576) (hsh:Zcx Ss Ms o.kd o.vs F) :
 Calls prog 212 #[.agg #[sv,mv,tv],.agg #[.string x.kind,fv],.agg #[.string o.kd,.string o.nm,.string o.tm,vv,.bool o.en,hv,.int .i64 o.ver]] w
  fun e w'=>e=.returned (.bool (Zcs Ts x.fields o F))/\Zw_ w w':=by
 have HL:=Zab hl;have HMB:=Zab hmb;have HX:=Zab hx;have HF:=Zab hF;have HV:=Zab hV;have HH:=Zab hH;have HSH:=Zab hsh;have s1:=hz.s1;have s2:=hz.s2;obtain⟨sa,sc,rfl⟩:=hl.shs.form;obtain⟨ma,mc,rfl⟩:=hl.mds.form;obtain⟨ta,tc,rfl⟩:=hl.tms.form;obtain⟨fa,fcap,rfl⟩:=hF.form;obtain⟨va,vcap,rfl⟩:=hV.form';obtain⟨ha,hcap,rfl⟩:=hH.form';have HQ:Hd (Zcs Ts x.fields o F=(decide ((ZaP x.fields o.nm o.tm o.vs o.hs o.ver).1=0)&&(Zgf Ts o.tm&&decide (F=o.vs)))):=rfl;have HP:=Zab (ZiF Ts o.tm);clear hl hmb hx hF hV hH hz hsh;go_enter func212,ntmps212;go_wp2_with fail;generalize hWa:(World.alloc (World.alloc (w.alloc _) _) _)=Wa;have HB:Hd (Zw_ w Wa):=by rw [<- hWa];exact ((Zac w _).alloc (by simp) _).alloc (by simp;omega) _
 have HX1:Hd (Box Wa w.heap.size #[.slice sa Ss.length sc,.slice ma Ms.length mc,.slice ta Ts.length tc]):=by rw [<- hWa];exact ((Box.new _ _ _ _ rfl).on (Zac _ _)).on (Zac _ _)
 have HX2:Hd (Box Wa (w.heap.size+1) #[.string x.kind,.slice fa x.fields.length fcap]):=by rw [<- hWa];exact (Box.new _ _ _ _ (by simp)).on (Zac _ _)
 have HX3:Hd (Box Wa (w.heap.size+1+1) #[.string o.kd,.string o.nm,.string o.tm,.slice va o.vs.length vcap,.bool o.en,.slice ha o.hs.length hcap,.int .i64 o.ver]):=by rw [<- hWa];exact Box.new _ _ _ _ (by simp)
 clear hWa;refine (Zhb x.kind o.kd o.nm o.tm _ _ _ o.en o.ver o.vs o.hs x.fields Wa lo (HV.o.below HB.o) (HH.o.below HB.o) (HF.o.below HB.o) s1 s2).mono ?_;rintro e w1 ⟨rfl,hb1⟩;have HB1:Hd (Zw_ w w1):=HB.o.trans (hb1.mono HB.o.size);have HY1:=Zab (HX1.o.on hb1);have HY2:=Zab (HX2.o.on hb1);have HY3:=Zab (HX3.o.on hb1);clear hb1 HX1 HX2 HX3 HB;have y2:=HY1.o.cell 2;have y3:=HY3.o.cell 2;simp at y2 y3
 by_cases hck:(ZaP x.fields o.nm o.tm o.vs o.hs o.ver).1=0
 case neg=>
  have HE:Hd (Zcs Ts x.fields o F=false):=by unfold Hd;rw [HQ.o,decide_eq_false hck];rfl
  rw [Zm6 hck];go_wp2;go_ret;exact⟨Zaa HE.o.symm,HB1.o⟩
 have HLEN:=Zab (ZeQ hck);rw [Zm5 hck];go_wp2_with fail;refine (Zcu lo _ Ts _ _ (HL.o.below HB1.o).tms).mono ?_;rintro e w2 ⟨rfl,hb2⟩;have HB2:Hd (Zw_ w w2):=HB1.o.trans (hb2.mono HB1.o.size);have HZ1:=Zab (HY1.o.on hb2);have HZ2:=Zab (HY2.o.on hb2);have HZ3:=Zab (HY3.o.on hb2);clear hb2 HY1 HY2 HY3 y2 y3 HB1
 cases h1:Zgf Ts o.tm with
 | false=>
  have HE:Hd (Zcs Ts x.fields o F=false):=by unfold Hd;rw [HQ.o,h1,Bool.false_and,Bool.and_false]
  have hd:decide (Zdr Ts o.tm < 0)=true:=by rw [HP.o,h1];rfl
  go_wp2;go_ret;exact⟨Zaa HE.o.symm,HB2.o⟩
 | true=>
  have HE:Hd (Zcs Ts x.fields o F=decide (F=o.vs)):=by unfold Hd;rw [HQ.o,h1,decide_eq_true hck];rfl
  have hd:decide (Zdr Ts o.tm < 0)=false:=by rw [HP.o,h1];rfl
  go_wp2;clear hd;have HD:Hd (Zw_ w w2.drew):=HB2.o.drew;have hfd:=Zgw
  go_region_held3 (ZjR w2 w.heap.size #[.slice sa Ss.length sc,.slice ma Ms.length mc,.slice ta Ts.length tc] (w.heap.size+1) #[.string x.kind,.slice fa x.fields.length fcap] (w.heap.size+1+1) #[.string o.kd,.string o.nm,.string o.tm,.slice va o.vs.length vcap,.bool o.en,.slice ha o.hs.length hcap,.int .i64 o.ver])
   (first
     | (with_reducible exact ZjR.drew HZ1.o HZ2.o HZ3.o)
     | (with_reducible exact ZjR.on (by assumption) (by assumption)))
   (first
     | (go_at_call 243
        refine (ZkN o.kd o.nm o.tm _ _ _ _ o.en o.ver o.vs o.hs Ss Ms x o.kd _ lo lo (HV.o.below HD.o) (HH.o.below HD.o) (HF.o.below HD.o) (HL.o.below HD.o).mds HMB.o HX.o HLEN.o.symm n2).mono ?_;rintro e w3 ⟨v',h',F',rfl,hb3,⟨mid,hlo,hmi,hs3,hs4⟩,hfix⟩;have HFF:Hd (F'=F):=Zcx.unique (Or.inl ⟨x,HMB.o,HX.o,HLEN.o.symm,hfix⟩) HSH.o;have HC3:Hd (Zw_ w w3):=HD.o.trans (hb3.mono HD.o.size);have HS3:=Zab hs3.at;obtain⟨va',vcap',rfl⟩:=hs3.form;obtain⟨ha',hcap',rfl⟩:=hs4.form;clear hfix hs3 hs4 hlo hmi)
     | (go_at_call 242
        refine (ZlW _ _ F' o.vs _ HS3.o (HV.o.below HC3.o)).mono ?_;rintro e w4 ⟨rfl,hb4⟩;have HC4:Hd (Zw_ w w4):=HC3.o.trans (hb4.mono HC3.o.size)))
  clear hfd;go_wp2;go_ret;exact⟨Zaa (by rw [HE.o,HFF.o]),HC4.o⟩
end
end Go.Proofs.YtmappejlmapboaaGreat
