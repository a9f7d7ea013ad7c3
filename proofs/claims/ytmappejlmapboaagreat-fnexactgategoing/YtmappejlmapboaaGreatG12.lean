import Derived.Test.YtmappejlmapboaaGreatG11
set_option maxHeartbeats 16000000
set_option maxRecDepth 100000
open Go.Proofs.Tryz
namespace Go.Proofs.YtmappejlmapboaaGreat
open Go.RowKit Go.Deep
section
theorem ZaI.set' {lo:Nat}{w:World}{v:Value}{Ss:List Sh} (h:ZaI lo w v Ss) {p:Addr} (hp:p.block < lo) (u:Value):ZaI lo (w.setCell p u) v Ss:=by
 rcases h with h | ⟨b,off,cap,h1,h2,h3,h4,h5,h7⟩
 . exact Or.inl h
 . refine Or.inr ⟨b,off,cap,h1,h2,h3,by simpa [World.setCell] using h4,h5,fun i hi=>?_⟩
   obtain⟨hs,fv,c0,c1,hF⟩:=h7 i hi;exact⟨hs,fv,by rw [Zar _ _ _ _ (by simp only [];omega)];exact c0,by rw [Zar _ _ _ _ (by simp only [];omega)];exact c1,hF.setCell hp u⟩
structure ZbF (lo:Nat) (w:World) (sv mv tv:Value) (Ss:List Sh) (Ms:List Md) (Ts:List Tm):Prop where
 shs:ZaI lo w sv Ss
 mds:Zbc lo w mv Ms
 tms:Zbk lo w tv Ts
theorem ZbF.below {lo:Nat}{w w':World}{sv mv tv:Value}{Ss:List Sh}{Ms:List Md}{Ts:List Tm} (h:ZbF lo w sv mv tv Ss Ms Ts) (hb:Zw_ w w'):ZbF lo w' sv mv tv Ss Ms Ts:=
 ⟨h.shs.below hb,h.mds.below hb,h.tms.below hb⟩
theorem ZbF.mono {lo lo':Nat}{w:World}{sv mv tv:Value}{Ss:List Sh}{Ms:List Md}{Ts:List Tm} (h:ZbF lo w sv mv tv Ss Ms Ts) (hl:lo'<=lo):ZbF lo' w sv mv tv Ss Ms Ts:=
 ⟨h.shs.mono hl,h.mds.mono hl,h.tms.mono hl⟩
def ZfB (Ss:List Sh) (Ms:List Md) (Ts:List Tm):Prop:=ZfE Ss/\Ms.length<=1048576/\Ts.length<=1048576
section
variable (lo:Nat) (sv mv tv:Value) (Ss:List Sh) (Ms:List Md) (Ts:List Tm) (w:World)
theorem Zp9 (left:Int) (h0:0<=left) (h1:left<=1048576) (h:ZbF lo w sv mv tv Ss Ms Ts) :
 Calls prog 7 #[.agg #[sv,mv,tv],.int .i64 left] w
  fun e w'=>∃ r:Int,e=.returned (.int .i64 r)/\Zw_ w w'/\-1<=r/\r<=left/\(0<=r->ZfB Ss Ms Ts):=by
 have HL:=Zab h;obtain⟨a,cap,rfl⟩:=h.shs.form;obtain⟨a1,cap1,rfl⟩:=h.mds.form;obtain⟨a2,cap2,rfl⟩:=h.tms.form;clear h;go_enter func7,ntmps7;go_wp2_with fail;have hX:=Box.new w #[.slice a Ss.length cap,.slice a1 Ms.length cap1,.slice a2 Ts.length cap2] 26 _ rfl;have hB0:=Zac w (.cells #[.slice a Ss.length cap,.slice a1 Ms.length cap1,.slice a2 Ts.length cap2] 26);refine (Zqf lo _ Ss _ _ (by omega) (by omega) (HL.o.below hB0).shs).mono ?_;rintro e w1 ⟨r,rfl,hb1,q0,q1,q2⟩;have hX1:=Zab (hX.on hb1);have HB1:=Zab (hB0.trans (hb1.mono hB0.size));have c1:=hX1.o.cell 1;have c2:=hX1.o.cell 2;simp at c1 c2;clear hb1 hB0 hX;have Q:=Zab q2;clear q2
 by_cases hr:r < 0
 . go_wp2
   go_ret;exact⟨-1,rfl,HB1.o,by omega,by omega,fun h=>by omega⟩
 go_wp2_with fail;refine (Zqb lo _ Ms _ _ (by omega) (by omega) (HL.o.below HB1.o).mds).mono ?_;rintro e w2 ⟨r2,rfl,hb2,p0,p1,p2⟩;have hX2:=Zab (hX1.o.on hb2);have HB2:=Zab (HB1.o.trans (hb2.mono HB1.o.size));have d2:=hX2.o.cell 2;simp at d2;clear hb2 HB1 hX1 c1 c2;have Q2:=Zab p2;clear p2
 by_cases hr2:r2 < 0
 . go_wp2
   go_ret;exact⟨-1,rfl,HB2.o,by omega,by omega,fun h=>by omega⟩
 go_wp2_with fail;refine (Zqg lo _ Ts _ _ (by omega) (by omega) (HL.o.below HB2.o).tms).mono ?_;rintro e w3 ⟨r3,rfl,hb3,s0,s1,s2⟩;have HB3:=Zab (HB2.o.trans (hb3.mono HB2.o.size));have Q3:=Zab s2;clear hb3 s2
 by_cases hr3:r3 < 0
 . go_wp2
   go_ret;exact⟨-1,rfl,HB3.o,by omega,by omega,fun h=>by omega⟩
 go_wp2;go_ret;exact⟨_,rfl,HB3.o,by omega,by omega,fun h=>⟨Q.o (by omega),by have:=Q2.o (by omega);omega,by have:=Q3.o (by omega);omega⟩⟩
theorem ZmX (lo':Nat) (sv' mv' tv':Value) (h:ZbF lo w sv mv tv Ss Ms Ts) (h':ZbF lo' w sv' mv' tv' Ss Ms Ts) :
 Calls prog 14 #[.agg #[sv,mv,tv],.agg #[sv',mv',tv']] w fun e w'=>e=.returned (.bool true)/\Zw_ w w':=by
 have HL:=Zab h;have HR:=Zab h';obtain⟨a,cap,rfl⟩:=h.shs.form;obtain⟨a1,cap1,rfl⟩:=h.mds.form;obtain⟨a2,cap2,rfl⟩:=h.tms.form;obtain⟨a',cap',rfl⟩:=h'.shs.form;obtain⟨a1',cap1',rfl⟩:=h'.mds.form;obtain⟨a2',cap2',rfl⟩:=h'.tms.form;clear h h';go_enter func14,ntmps14;go_wp2_with fail;have hX:=Box.new w #[.slice a Ss.length cap,.slice a1 Ms.length cap1,.slice a2 Ts.length cap2] 41 _ rfl;have hB0:=Zac w (.cells #[.slice a Ss.length cap,.slice a1 Ms.length cap1,.slice a2 Ts.length cap2] 41);have hsz:(w.alloc (.cells #[.slice a Ss.length cap,.slice a1 Ms.length cap1,.slice a2 Ts.length cap2] 41)).heap.size=w.heap.size+1:=by simp
 generalize w.alloc (.cells #[.slice a Ss.length cap,.slice a1 Ms.length cap1,.slice a2 Ts.length cap2] 41)=wx at hX hB0 hsz |-;have hY:=Box.new wx #[.slice a' Ss.length cap',.slice a1' Ms.length cap1',.slice a2' Ts.length cap2'] 41 _ hsz;have hB1:=Zac wx (.cells #[.slice a' Ss.length cap',.slice a1' Ms.length cap1',.slice a2' Ts.length cap2'] 41);have hX1:=hX.on hB1;have HB:=Zab (hB0.trans (hB1.mono hB0.size));generalize wx.alloc (.cells #[.slice a' Ss.length cap',.slice a1' Ms.length cap1',.slice a2' Ts.length cap2'] 41)=wy at hY hX1 HB |-;clear hX hB0 hB1 hsz;refine (Zm3 lo lo' _ _ Ss _ (HL.o.below HB.o).shs (HR.o.below HB.o).shs).mono ?_;rintro e w1 ⟨rfl,hb1⟩;have HX:=Zab (hX1.on hb1);have HY:=Zab (hY.on hb1);have HB1:=Zab (HB.o.trans (hb1.mono HB.o.size));clear hb1 hX1 hY HB;have c1:=HX.o.cell 1;have d1:=HY.o.cell 1;simp at c1 d1;go_wp2_with fail
 clear c1 d1;refine (ZmZ lo lo' _ _ Ms _ (HL.o.below HB1.o).mds (HR.o.below HB1.o).mds).mono ?_;rintro e w2 ⟨rfl,hb2⟩;have HX:=Zab (HX.o.on hb2);have HY:=Zab (HY.o.on hb2);have HB2:=Zab (HB1.o.trans (hb2.mono HB1.o.size));clear hb2 HB1;have c1:=HX.o.cell 2;have d1:=HY.o.cell 2;simp at c1 d1;go_wp2_with fail;clear c1 d1;refine (Zm4 lo lo' _ _ Ts _ (HL.o.below HB2.o).tms (HR.o.below HB2.o).tms).mono ?_;rintro e w3 ⟨rfl,hb3⟩;have HB3:=Zab (HB2.o.trans (hb3.mono HB2.o.size));clear hb3 HB2;go_wp2;go_ret;exact⟨rfl,HB3.o⟩
theorem ZhL (h:ZbF lo w sv mv tv Ss Ms Ts) (hn:ZfB Ss Ms Ts) :
 Calls prog 10 #[.agg #[sv,mv,tv]] w
  fun e w'=>∃ a cap a1 cap1 a2 cap2,e=.returned (.agg #[.slice a Ss.length cap,.slice a1 Ms.length cap1,.slice a2 Ts.length cap2])/\Zw_ w w'/\
   ZbF w.heap.size w' (.slice a Ss.length cap) (.slice a1 Ms.length cap1) (.slice a2 Ts.length cap2) Ss Ms Ts:=by
 have HL:=Zab h;obtain⟨a,cap,rfl⟩:=h.shs.form;obtain⟨a1,cap1,rfl⟩:=h.mds.form;obtain⟨a2,cap2,rfl⟩:=h.tms.form;clear h;go_enter func10,ntmps10;go_wp2_with fail
 obtain⟨wz,hwz,HX,HR,HO,HB⟩:∃ wz,wz=((w.alloc (.cells #[.slice a Ss.length cap,.slice a1 Ms.length cap1,.slice a2 Ts.length cap2] 26)).alloc (.cells #[.slice none 0 0,.slice none 0 0,.slice none 0 0] 41)).alloc (.cells #[.slice none 0 0,.slice none 0 0,.slice none 0 0] 41)/\
  Hd (Box wz w.heap.size #[.slice a Ss.length cap,.slice a1 Ms.length cap1,.slice a2 Ts.length cap2])/\Hd (Box wz (w.heap.size+1) #[.slice none 0 0,.slice none 0 0,.slice none 0 0])/\
  Hd (Box wz (w.heap.size+1+1) #[.slice none 0 0,.slice none 0 0,.slice none 0 0])/\Hd (Zw_ w wz):=
  ⟨_,rfl,((Box.new w _ _ _ rfl).on (Zac _ _)).on (Zac _ _),(Box.new _ _ _ _ (by simp)).on (Zac _ _),Box.new _ _ _ _ (by simp),((Zac _ _).trans ((Zac _ _).mono (by simp))).trans ((Zac _ _).mono (by simp;omega))⟩
 rw [<- hwz];clear hwz;have hz0:w.heap.size+3<=wz.heap.size:=by have:=HO.o.lt;omega
 refine (Zqt lo _ Ss _ (HL.o.below HB.o).shs hn.1).mono ?_;rintro e w1 ⟨v1,rfl,hb1,hs1⟩;obtain⟨b1,k1,rfl⟩:=hs1.form;have HX1:=Zab (HX.o.on hb1);have HR1:=Zab (HR.o.on hb1);have HO1:=Zab (HO.o.on hb1);have HB1:=Zab (HB.o.trans (hb1.mono HB.o.size));have HS1:Hd (ZaI (w.heap.size+3) w1 (.slice b1 Ss.length k1) Ss):=hs1.mono hz0;clear hb1 hs1 HX HR HO HB hz0;have o0:=HO1.o.cell 0;have f0:=HO1.o.free 0;have x1:=HX1.o.cell 1;simp at o0 f0 x1;go_wp2_with fail;clear o0 f0 x1
 obtain⟨wq,hwq,HX,HR,HO,HB,HS⟩:∃ wq,wq=w1.setCell ⟨w.heap.size+1+1,0,none⟩ (.slice b1 Ss.length k1)/\
  Hd (Box wq w.heap.size #[.slice a Ss.length cap,.slice a1 Ms.length cap1,.slice a2 Ts.length cap2])/\Hd (Box wq (w.heap.size+1) #[.slice none 0 0,.slice none 0 0,.slice none 0 0])/\
  Hd (Box wq (w.heap.size+1+1) #[.slice b1 Ss.length k1,.slice none 0 0,.slice none 0 0])/\Hd (Zw_ w wq)/\Hd (ZaI (w.heap.size+3) wq (.slice b1 Ss.length k1) Ss):=
  ⟨_,rfl,HX1.o.setFar (by simp only [];omega) _,HR1.o.setFar (by simp only [];omega) _,HO1.o.set (k:=0) (.slice b1 Ss.length k1) (by simp),HB1.o.setCell (by simp only [];omega) _,HS1.o.set' (by simp only [];omega) _⟩
 rw [<- hwq];clear hwq HX1 HR1 HO1 HB1 HS1;have hz0:w.heap.size+3<=wq.heap.size:=by have:=HO.o.lt;omega
 refine (ZiS lo _ Ms _ (HL.o.below HB.o).mds hn.2.1).mono ?_;rintro e w2 ⟨v2,rfl,hb2,hs2,-⟩;obtain⟨b2,k2,rfl⟩:=hs2.form;have HX2:=Zab (HX.o.on hb2);have HR2:=Zab (HR.o.on hb2);have HO2:=Zab (HO.o.on hb2);have HB2:=Zab (HB.o.trans (hb2.mono HB.o.size));have HS2:=Zab (HS.o.below hb2);have HM2:Hd (Zbc (w.heap.size+3) w2 (.slice b2 Ms.length k2) Ms):=hs2.mono hz0;clear hb2 hs2 HX HR HO HB hz0 HS;have o0:=HO2.o.cell 1;have f0:=HO2.o.free 1;have x1:=HX2.o.cell 2;simp at o0 f0 x1;go_wp2_with fail;clear o0 f0 x1
 obtain⟨wq,hwq,HR,HO,HB,HS,HM⟩:∃ wq,wq=w2.setCell ⟨w.heap.size+1+1,1,none⟩ (.slice b2 Ms.length k2)/\
  Hd (Box wq (w.heap.size+1) #[.slice none 0 0,.slice none 0 0,.slice none 0 0])/\
  Hd (Box wq (w.heap.size+1+1) #[.slice b1 Ss.length k1,.slice b2 Ms.length k2,.slice none 0 0])/\Hd (Zw_ w wq)/\Hd (ZaI (w.heap.size+3) wq (.slice b1 Ss.length k1) Ss)/\Hd (Zbc (w.heap.size+3) wq (.slice b2 Ms.length k2) Ms):=
  ⟨_,rfl,HR2.o.setFar (by simp only [];omega) _,HO2.o.set (k:=1) (.slice b2 Ms.length k2) (by simp),HB2.o.setCell (by simp only [];omega) _,HS2.o.set' (by simp only [];omega) _,HM2.o.setCell (by simp only [];omega) _⟩
 rw [<- hwq];clear hwq HX2 HR2 HO2 HB2 HS2 HM2;have hz0:w.heap.size+3<=wq.heap.size:=by have:=HO.o.lt;omega
 refine (Zqu lo _ Ts _ (HL.o.below HB.o).tms hn.2.2).mono ?_;rintro e w3 ⟨v3,rfl,hb3,hs3⟩;obtain⟨b3,k3,rfl⟩:=hs3.form;have HR3:=Zab (HR.o.on hb3);have HO3:=Zab (HO.o.on hb3);have HB3:=Zab (HB.o.trans (hb3.mono HB.o.size));have HS3:=Zab (HS.o.below hb3);have HM3:=Zab (HM.o.below hb3);have HT3:Hd (Zbk (w.heap.size+3) w3 (.slice b3 Ts.length k3) Ts):=hs3.mono hz0;clear hb3 hs3 HR HO HB hz0 HS HM;have o0:=HO3.o.cell 0;have o1:=HO3.o.cell 1;have o2:=HO3.o.cell 2;have f2:=HO3.o.free 2;have r0:=HR3.o.cell 0;have r1:=HR3.o.cell 1;have r2:=HR3.o.cell 2;have g0:=HR3.o.free 0;have g1:=HR3.o.free 1;have g2:=HR3.o.free 2;simp at o0 o1 o2 r0 r1 r2;go_wp2;refine bodyPost_ret (v:=.agg #[.slice b1 Ss.length k1,.slice b2 Ms.length k2,.slice b3 Ts.length k3]) (by simp [results,results10,go_sem,r0,r1,r2]) rfl ⟨_,_,_,_,_,_,rfl,?_,?_,?_,?_⟩
 . repeat (refine Below.setCell ?_ (by simp only [];omega) _)
   exact HB3.o
 . refine ZaI.mono (lo:=w.heap.size+3) ?_ (by omega)
   repeat (refine ZaI.set' ?_ (by simp only [];omega) _)
   exact HS3.o
 . refine Zbc.mono (lo:=w.heap.size+3) ?_ (by omega)
   repeat (refine Zbc.setCell ?_ (by simp only [];omega) _)
   exact HM3.o
 . refine Zbk.mono (lo:=w.heap.size+3) ?_ (by omega)
   repeat (refine Zbk.setCell ?_ (by simp only [];omega) _)
   exact HT3.o
end
end
section
theorem Zaf.spread {w:World}{a:Option Addr}{n cap:Nat}{L:List Zy_} (h:Zaf w (.slice a n cap) L) (hL:0 < L.length) :
 ∃ b off,a=some ⟨b,off,none⟩/\b < w.heap.size/\(∀ i (h:i < L.length),w.cell? ⟨b,off+i,none⟩=some (.string L[i]))/\∀ s ∈ L,s.size<=maxLen:=by
 rcases h with ⟨_,_,_,rfl⟩ | ⟨b,off,_,h1,_,_,h4,h5,h6⟩
 . simp at hL
 . cases h1
   exact⟨b,off,rfl,h4,h5,h6⟩
theorem Zi6 (s:Zy_):0<=Zi5 s/\Zi5 s<=9999999:=by
 unfold Zi5
 split
 . rename_i h
   have h7:s.size<=7/\Zf1 ZcX s=true:=by
    unfold ZeA inB at h;simp only [Bool.and_eq_true,decide_eq_true_eq] at h;exact⟨by omega,h.2⟩
   have:=Zcv s s.size Zl_ h7.1 (by
    rw [List.take_of_length_le (by simp)];exact h7.2)
   rw [ZdE Zl_] at this
   omega
 . omega
theorem Zmc (s:Zy_):Zi5 s=if 0 < Zmm s then Zmm s else 0:=by
 have:=Zi6 s;unfold Zi5 Zmm at*
 split
 . rename_i h
   rw [if_pos h] at this
   split <;> omega
 . simp
def ZrP (r:Zy_) (f:Fd) (s:Zy_):Int:=if (f.kd == 1&&f.we.toList == r.toList)=true then Zi5 s else 0
def Ze1 (r:Zy_) (Fs:List Fd) (V:List Zy_):Nat->Int
 | 0=>0
 | k+1=>Ze1 r Fs V k+(match Fs[k]?,V[k]? with | some f,some s=>ZrP r f s | _,_=>0)
theorem ZsL (r:Zy_) (f:Fd) (s:Zy_):0<=ZrP r f s/\ZrP r f s<=9999999:=by
 have:=Zi6 s;unfold ZrP
 split <;> omega
theorem Zk1 {r:Zy_}{Fs:List Fd}{V:List Zy_}{k:Nat} (hf:k < Fs.length) (hv:k < V.length):Ze1 r Fs V (k+1)=Ze1 r Fs V k+ZrP r Fs[k] V[k]:=by
 rw [Ze1];simp [hf,hv]
theorem ZsM (r:Zy_) (Fs:List Fd) (V:List Zy_) (k:Nat):0<=Ze1 r Fs V k/\Ze1 r Fs V k<=9999999*k:=by
 induction k with
 | zero=>simp [Ze1]
 | succ k ih=>
  rw [Ze1]
  split
  . rename_i f s _ _
    have:=ZsL r f s
    push_cast
    omega
  . push_cast
    omega
def ZdT (Ss:List Sh) (kind:Zy_) (V:List Zy_) (r:Zy_):Int:=
 if r.toList.isEmpty=true then 0 else
 match Zcj Ss kind with
 | some x=>if x.fields.length=V.length then (if (r.toList == kind.toList)=true then 1 else 0)+Ze1 r x.fields V V.length else 0
 | none=>0
theorem ZmH {Ss:List Sh}{kind:Zy_}{V:List Zy_}{r:Zy_} (h:∀ x,Zcj Ss kind=some x->x.fields.length≠V.length):ZdT Ss kind V r=0:=by
 unfold ZdT
 split
 . rfl
 . cases hs:Zcj Ss kind with
   | none=>rfl
   | some x=>simp [h x hs]
theorem ZkX {Ss:List Sh}{kind:Zy_}{V:List Zy_}{r:Zy_} (h:r.toList.isEmpty=true):ZdT Ss kind V r=0:=by
 unfold ZdT;rw [if_pos h]
theorem ZkY {Ss:List Sh}{kind:Zy_}{V:List Zy_}{r:Zy_}{x:Sh} (h:Zcj Ss kind=some x) (hl:x.fields.length=V.length) (hr:r.toList.isEmpty=false) :
 ZdT Ss kind V r=(if (r.toList == kind.toList)=true then 1 else 0)+Ze1 r x.fields V V.length:=by
 unfold ZdT;rw [h];simp [hr,hl]
section
variable (lo:Nat) (sv mv tv:Value) (Ss:List Sh) (Ms:List Md) (Ts:List Tm) (kind nm team:Zy_) (vv hv:Value) (en:Bool) (ver:Int) (V Ho:List Zy_) (r:Zy_) (w:World)
theorem Zh9 (h:ZbF lo w sv mv tv Ss Ms Ts) (hV:Zaf w vv V) (hH:Zaf w hv Ho) (n1:V.length<=1048576) :
 Calls prog 152 #[.agg #[sv,mv,tv],.agg #[.string kind,.string nm,.string team,vv,.bool en,hv,.int .i64 ver],.string r] w
  fun e w'=>e=.returned (.int .i64 (ZdT Ss kind V r))/\Zw_ w w':=by
 have HL:=Zab h;have HV:=Zab hV;have HH:=Zab hH;obtain⟨a,cap,rfl⟩:=h.shs.form;obtain⟨a1,cap1,rfl⟩:=h.mds.form;obtain⟨a2,cap2,rfl⟩:=h.tms.form;obtain⟨va,vcap,rfl⟩:=hV.form';obtain⟨ha,hcap,rfl⟩:=hH.form';clear h hV hH;go_enter func152,ntmps152;go_wp2_with fail
 obtain⟨wz,hwz,HO,HB⟩:∃ wz,wz=(w.alloc (.cells #[.slice a Ss.length cap,.slice a1 Ms.length cap1,.slice a2 Ts.length cap2] 41)).alloc (.cells #[.string kind,.string nm,.string team,.slice va V.length vcap,.bool en,.slice ha Ho.length hcap,.int .i64 ver] 128)/\
  Hd (Box wz (w.heap.size+1) #[.string kind,.string nm,.string team,.slice va V.length vcap,.bool en,.slice ha Ho.length hcap,.int .i64 ver])/\Hd (Zw_ w wz):=
  ⟨_,rfl,Box.new _ _ _ _ (by simp),(Zac _ _).trans ((Zac _ _).mono (by simp))⟩
 rw [<- hwz];clear hwz;refine (Zcn kind nm team _ _ _ en ver V Ho Ss wz lo wz (HL.o.below HB.o).shs Zb_ (HV.o.below HB.o) (HH.o.below HB.o)).mono ?_;rintro e w1 ⟨hb1,hq⟩;have HO1:=Zab (HO.o.on hb1);have HB1:=Zab (HB.o.trans (hb1.mono HB.o.size))
 rcases hq with ⟨x,fv,hsh,hlen,rfl,hF⟩ | ⟨hno,fa,fcap,rfl⟩
 . have HF:=Zab (hF.below hb1)
   obtain⟨fa,fcap,rfl⟩:=hF.form;have HS:=Zab hsh;have HN:=Zab hlen;clear hb1 hF hsh HO HB hlen
   cases hr:r.toList.isEmpty with
   | true=>
    have HQ:=Zab (ZkX (Ss:=Ss) (kind:=kind) (V:=V) hr);go_wp2;go_ret;exact⟨ZaD HQ.o.symm,HB1.o⟩
   | false=>
    have HQ:=Zab (ZkY HS.o HN.o hr);have hbd:=ZsM r x.fields V;have HBD:=Zab hbd;have o0:=HO1.o.cell 0;have o3:=HO1.o.cell 3;simp at o0 o3;have hvl:x.fields.length<=1048576:=by have:=HN.o;omega
    have HV1:=Zab (HV.o.below HB1.o);clear hbd
    cases hk:(r.toList == kind.toList) with
    | true=>
     have HE:Hd (ZdT Ss kind V r=1+Ze1 r x.fields V V.length):=by unfold Hd;rw [HQ.o,hk];rfl
     go_wp2
     go_loop [9,10] (fun n i=>∃ k:Nat,n=.int .i64 (1+Ze1 r x.fields V k)/\i=.int .i64 k/\k<=x.fields.length) (fun _ i=>x.fields.length - (intOf i).toNat)
     case atStart=>exact⟨0,by simp [Ze1],rfl,by omega⟩
     case round=>
      obtain⟨k,rfl,rfl,hkl⟩:=hrel
      by_cases hlt:k < x.fields.length
      . have hlv:k < V.length:=by have:=HN.o;omega
        obtain⟨fb,foff,rfl,hfb,hfc⟩:=HF.o.full' (by omega);obtain⟨hsz,wv,hcell,-⟩:=hfc k hlt;obtain⟨c0,c1,c2,c3,c4,c5,c6,c7,c8,c9,c10⟩:=hcell;obtain⟨vb,voff,rfl,hvb,hvc,hvs⟩:=HV1.o.spread (by omega);have hvk:=hvc k hlv;have hvz:V[k].size<=maxLen:=hvs _ (List.getElem_mem hlv);have HST:=Zab (Zk1 (r:=r) hlt hlv);have HDN:=Zab (Zmc V[k]);have hbd:=HBD.o k;have hbn:=Zi6 V[k];have hW:ZrP r x.fields[k] V[k]=if (x.fields[k].kd == 1&&x.fields[k].we.toList == r.toList)=true then Zi5 V[k] else 0:=rfl
        have HW:=Zab hW;clear hfc hvc hvs c0 c2 c3 c4 c5 c6 c7 c8 c9 hsz hW
        cases hk1:(x.fields[k].kd == 1) with
        | false=>
         have HE2:Hd (Ze1 r x.fields V (k+1)=Ze1 r x.fields V k):=by unfold Hd;rw [HST.o,HW.o,hk1];simp
         go_wp2_with (go_at_call 193;refine (Zbf _ _ hvz).mono ?_;rintro e w2 ⟨rfl,rfl⟩)
         go_round
         . exact⟨k+1,by rw [HE2.o],by go_num,by omega⟩
         . simp [intOf];omega
        | true=>
         cases hk2:(x.fields[k].we.toList == r.toList) with
         | false=>
          have HE2:Hd (Ze1 r x.fields V (k+1)=Ze1 r x.fields V k):=by unfold Hd;rw [HST.o,HW.o,hk1,hk2];simp
          go_wp2_with (go_at_call 193;refine (Zbf _ _ hvz).mono ?_;rintro e w2 ⟨rfl,rfl⟩)
          go_round
          . exact⟨k+1,by rw [HE2.o],by go_num,by omega⟩
          . simp [intOf];omega
         | true=>
          by_cases hn:0 < Zmm V[k]
          . have HE2:Hd (Ze1 r x.fields V (k+1)=Ze1 r x.fields V k+Zmm V[k]):=by unfold Hd;rw [HST.o,HW.o,hk1,hk2,HDN.o,if_pos hn];simp
            have hb2:=HBD.o (k+1);rw [HE2.o] at hb2
            push_cast at hb2
            go_wp2_with (go_at_call 193;refine (Zbf _ _ hvz).mono ?_;rintro e w2 ⟨rfl,rfl⟩)
            go_round
            . exact⟨k+1,by rw [HE2.o];congr 1;omega,by go_num,by omega⟩
            . simp [intOf];omega
          . have HE2:Hd (Ze1 r x.fields V (k+1)=Ze1 r x.fields V k):=by unfold Hd;rw [HST.o,HW.o,hk1,hk2,HDN.o,if_neg hn];simp
            go_wp2_with (go_at_call 193;refine (Zbf _ _ hvz).mono ?_;rintro e w2 ⟨rfl,rfl⟩)
            go_round
            . exact⟨k+1,by rw [HE2.o],by go_num,by omega⟩
            . simp [intOf];omega
      . have he:k=V.length:=by have:=HN.o;omega
        subst he;go_wp2;go_ret;exact⟨ZaD (by have:=HE.o;omega),HB1.o⟩
    | false=>
     have HE:Hd (ZdT Ss kind V r=0+Ze1 r x.fields V V.length):=by unfold Hd;rw [HQ.o,hk];rfl
     go_wp2
     go_loop [9,10] (fun n i=>∃ k:Nat,n=.int .i64 (0+Ze1 r x.fields V k)/\i=.int .i64 k/\k<=x.fields.length) (fun _ i=>x.fields.length - (intOf i).toNat)
     case atStart=>exact⟨0,by simp [Ze1],rfl,by omega⟩
     case round=>
      obtain⟨k,rfl,rfl,hkl⟩:=hrel
      by_cases hlt:k < x.fields.length
      . have hlv:k < V.length:=by have:=HN.o;omega
        obtain⟨fb,foff,rfl,hfb,hfc⟩:=HF.o.full' (by omega);obtain⟨hsz,wv,hcell,-⟩:=hfc k hlt;obtain⟨c0,c1,c2,c3,c4,c5,c6,c7,c8,c9,c10⟩:=hcell;obtain⟨vb,voff,rfl,hvb,hvc,hvs⟩:=HV1.o.spread (by omega);have hvk:=hvc k hlv;have hvz:V[k].size<=maxLen:=hvs _ (List.getElem_mem hlv);have HST:=Zab (Zk1 (r:=r) hlt hlv);have HDN:=Zab (Zmc V[k]);have hbd:=HBD.o k;have hbn:=Zi6 V[k];have hW:ZrP r x.fields[k] V[k]=if (x.fields[k].kd == 1&&x.fields[k].we.toList == r.toList)=true then Zi5 V[k] else 0:=rfl
        have HW:=Zab hW;clear hfc hvc hvs c0 c2 c3 c4 c5 c6 c7 c8 c9 hsz hW
        cases hk1:(x.fields[k].kd == 1) with
        | false=>
         have HE2:Hd (Ze1 r x.fields V (k+1)=Ze1 r x.fields V k):=by unfold Hd;rw [HST.o,HW.o,hk1];simp
         go_wp2_with (go_at_call 193;refine (Zbf _ _ hvz).mono ?_;rintro e w2 ⟨rfl,rfl⟩)
         go_round
         . exact⟨k+1,by rw [HE2.o];congr 1;omega,by go_num,by omega⟩
         . simp [intOf];omega
        | true=>
         cases hk2:(x.fields[k].we.toList == r.toList) with
         | false=>
          have HE2:Hd (Ze1 r x.fields V (k+1)=Ze1 r x.fields V k):=by unfold Hd;rw [HST.o,HW.o,hk1,hk2];simp
          go_wp2_with (go_at_call 193;refine (Zbf _ _ hvz).mono ?_;rintro e w2 ⟨rfl,rfl⟩)
          go_round
          . exact⟨k+1,by rw [HE2.o];congr 1;omega,by go_num,by omega⟩
          . simp [intOf];omega
         | true=>
          by_cases hn:0 < Zmm V[k]
          . have HE2:Hd (Ze1 r x.fields V (k+1)=Ze1 r x.fields V k+Zmm V[k]):=by unfold Hd;rw [HST.o,HW.o,hk1,hk2,HDN.o,if_pos hn];simp
            have hb2:=HBD.o (k+1);rw [HE2.o] at hb2
            push_cast at hb2
            go_wp2_with (go_at_call 193;refine (Zbf _ _ hvz).mono ?_;rintro e w2 ⟨rfl,rfl⟩)
            go_round
            . exact⟨k+1,by rw [HE2.o];congr 1;omega,by go_num,by omega⟩
            . simp [intOf];omega
          . have HE2:Hd (Ze1 r x.fields V (k+1)=Ze1 r x.fields V k):=by unfold Hd;rw [HST.o,HW.o,hk1,hk2,HDN.o,if_neg hn];simp
            go_wp2_with (go_at_call 193;refine (Zbf _ _ hvz).mono ?_;rintro e w2 ⟨rfl,rfl⟩)
            go_round
            . exact⟨k+1,by rw [HE2.o];congr 1;omega,by go_num,by omega⟩
            . simp [intOf];omega
      . have he:k=V.length:=by have:=HN.o;omega
        subst he;go_wp2;go_ret;exact⟨ZaD (by have:=HE.o;omega),HB1.o⟩
 . have HQ:=Zab (ZmH (r:=r) hno)
   clear hb1 HO HB hno;go_wp2;go_ret;exact⟨ZaD HQ.o.symm,HB1.o⟩
end
end
section
variable {lo B k:Nat} {w wr:World} {v:Value} {L:List Int}
structure Ru where
 vb:List Int
 kd:Zy_
 tm:Zy_
 pf:Zy_
def Zat (lo:Nat) (w:World) (v:Value) (L:List Int):Prop:=
 (∃ (a:Option Addr) (cap:Nat),v=.slice a 0 cap/\L=[])\/
 ∃ (b off cap:Nat),v=.slice (some ⟨b,off,none⟩) L.length cap/\L≠[]/\L.length<=maxLen/\b < w.heap.size/\lo<=b/\
  ∀ i (h:i < L.length),w.cell? ⟨b,off+i,none⟩=some (.int .i64 L[i])
theorem Zat.below {w':World} (h:Zat lo w v L) (hb:Zw_ w w'):Zat lo w' v L:=by
 rcases h with h | ⟨b,off,cap,h1,h2,h3,h4,h5,h6⟩
 . exact Or.inl h
 . exact Or.inr ⟨b,off,cap,h1,h2,h3,Zk_ h4 hb.size,h5,fun i hi=>by rw [hb.cell (p:=⟨b,_,none⟩) h4];exact h6 i hi⟩
theorem Zat.mono {lo':Nat} (h:Zat lo w v L) (hl:lo'<=lo):Zat lo' w v L:=by
 rcases h with h | ⟨b,off,cap,h1,h2,h3,h4,h5,h6⟩
 . exact Or.inl h
 . exact Or.inr ⟨b,off,cap,h1,h2,h3,h4,Nat.le_trans hl h5,h6⟩
theorem Zat.form (h:Zat lo w v L):∃ a cap,v=.slice a L.length cap:=by
 rcases h with ⟨a,cap,h,rfl⟩ | ⟨b,off,cap,h,_⟩
 . exact⟨a,cap,h⟩
 . exact⟨_,cap,h⟩
theorem Zat.max (h:Zat lo w v L):L.length<=maxLen:=by
 rcases h with ⟨a,cap,h,rfl⟩ | ⟨b,off,cap,h,_,h3,_⟩
 . exact Nat.zero_le _
 . exact h3
theorem Zat.full (h:Zat lo w v L) (hne:L≠[]):∃ (b off cap:Nat),v=.slice (some ⟨b,off,none⟩) L.length cap/\L.length<=maxLen/\b < w.heap.size/\
 ∀ i (h:i < L.length),w.cell? ⟨b,off+i,none⟩=some (.int .i64 L[i]):=by
 rcases h with ⟨_,_,_,h⟩ | ⟨b,off,cap,h1,_,h3,h4,_,h6⟩
 . exact absurd h hne
 . exact⟨b,off,cap,h1,h3,h4,h6⟩
theorem Zat.full' {a:Option Addr}{n cap:Nat} (h:Zat lo w (.slice a n cap) L) (hL:0 < L.length) :
 ∃ b off,a=some ⟨b,off,none⟩/\b < w.heap.size/\∀ i (h:i < L.length),w.cell? ⟨b,off+i,none⟩=some (.int .i64 L[i]):=by
 rcases h with ⟨a',cap',h,rfl⟩ | ⟨b',off',cap',h1,h2,h3,h4,h5,h6⟩
 . simp at hL
 . injection h1 with e1 e2 e3
   exact⟨b',off',e1,h4,h6⟩
theorem Zat.setCell (h:Zat lo w v L) {p:Addr} (hp:p.block < lo) (u:Value):Zat lo (w.setCell p u) v L:=by
 rcases h with h | ⟨b,off,cap,h1,h2,h3,h4,h5,h6⟩
 . exact Or.inl h
 . refine Or.inr ⟨b,off,cap,h1,h2,h3,by simpa [World.setCell] using h4,h5,fun i hi=>?_⟩
   rw [Zar _ _ _ _ (by show b≠p.block;omega)];exact h6 i hi
theorem ZnU (lo:Nat) (v:Value) (L:List Int) (left:Int) (w:World) (h0:0<=left) (h1:left<=1048576) (hv:Zat lo w v L) :
 Calls prog 165 #[v,.int .i64 left] w fun e w'=>∃ r:Int,e=.returned (.int .i64 r)/\w'=w/\ZsN L.length left r:=by
 have hm:=hv.max;unfold maxLen at hm;obtain⟨a,cap,rfl⟩:=hv.form
 by_cases hle:(L.length:Int)<=left
 . go_enter func165,ntmps165
   go_wp2;go_ret;exact⟨_,rfl,rfl,by omega,by omega,fun _=>hle⟩
 . go_enter func165,ntmps165
   go_wp2;go_ret;exact⟨-1,rfl,rfl,by omega,by omega,fun h=>by omega⟩
theorem Zd0 (lo lo':Nat) (v v':Value) (L:List Int) (w:World) (hv:Zat lo w v L) (hv':Zat lo' w v' L) :
 Calls prog 13 #[v,v'] w fun e w'=>e=.returned (.bool true)/\Zw_ w w':=by
 by_cases hL:L=[]
 . subst hL
   obtain⟨a,cap,rfl⟩:=hv.form;obtain⟨a',cap',rfl⟩:=hv'.form;clear hv hv';go_enter func13,ntmps13;go_wp2
   go_loop [5] (fun i=>i=.int .i64 0) (fun _=>0)
   case atStart=>rfl
   case round=>
    subst hrel;go_wp2;go_ret;exact⟨rfl,Below.refl _ _⟩
 . obtain⟨b,off,cap,rfl,hm,hbw,hc⟩:=hv.full hL
   obtain⟨b',off',cap',rfl,_,hbw',hc'⟩:=hv'.full hL;clear hv hv';unfold maxLen at hm;go_enter func13,ntmps13;go_wp2
   go_loopw [5] (fun i wr=>∃ k:Nat,i=.int .i64 k/\k<=L.length/\Zw_ w wr) (fun i _=>L.length - (intOf i).toNat)
   case atStart=>exact⟨0,rfl,by omega,Below.refl _ _⟩
   case round=>
    obtain⟨k,rfl,hk,hb⟩:=hrel
    by_cases hlt:k < L.length
    . have c0:wr.cell? ⟨b,off+k,none⟩=some (.int .i64 L[k]):=by rw [hb.cell (p:=⟨b,_,none⟩) hbw];exact hc k hlt
      have d0:wr.cell? ⟨b',off'+k,none⟩=some (.int .i64 L[k]):=by rw [hb.cell (p:=⟨b',_,none⟩) hbw'];exact hc' k hlt
      have HB:=Zab hb;clear hb;go_wp2
      try go_quiet (fail)
      try go_wp2
      go_roundw
      . exact⟨k+1,by go_num,by omega,by first | exact HB.o | exact below_drewN HB.o _⟩
      . simp [intOf];omega
    . go_wp2
      go_ret;exact⟨rfl,hb⟩
theorem Tryz.info3:(prog.info? 3).map (fun i=>(i.zero,i.size,i.bytes))=some (some (.int .i64 0),1,8):=by kernel_rfl
def ZqS (L:List Int) (k i:Nat):Value:=if i < k then .int .i64 (L.getD i 0) else .int .i64 0
def Zc4 (wr:World) (B:Nat) (L:List Int) (k:Nat):Prop:=wr.rowIs B 3 L.length (ZqS L k)
theorem Zc4.step (h:Zc4 wr B L k) (hk:k < L.length):Zc4 (wr.setCell ⟨B,k,none⟩ (.int .i64 L[k])) B L (k+1):=by
 unfold Zc4 at*;refine (h.set k (.int .i64 L[k])).congr fun i hi=>?_
 unfold ZqS
 by_cases e:i=k
 . subst e;simp [hk]
 . by_cases e2:i < k
   . simp [e,e2,Nat.lt_succ_of_lt e2]
   . have:¬ i < k+1:=by omega
     simp [e,e2,this]
theorem Zc4.done (h:Zc4 wr B L k) (hk:L.length<=k) (hne:L≠[]) (hm:L.length<=maxLen):Zat B wr (.slice (some ⟨B,0,none⟩) L.length L.length) L:=by
 refine Or.inr ⟨B,0,L.length,rfl,hne,hm,World.rowIs.lt h,Nat.le_refl _,fun i hi=>?_⟩;rw [Nat.zero_add,World.rowIs.cell h hi];unfold ZqS;rw [if_pos (by omega),List.getD_eq_getElem?_getD,List.getElem?_eq_getElem hi];rfl
theorem Zn2 (lo:Nat) (v:Value) (L:List Int) (w:World) (hv:Zat lo w v L) (hn:L.length<=1048576) :
 Calls prog 177 #[v] w fun e w'=>∃ v',e=.returned v'/\Zw_ w w'/\Zat w.heap.size w' v' L:=by
 by_cases hL:L=[]
 . subst hL
   obtain⟨a,cap,rfl⟩:=hv.form;clear hv
   have hmk:∀ u:World,(Instr.makeSlice 35 (.int .i64 0) (.int .i64 0)).run prog u=.ok (.slice (some ⟨u.heap.size,0,none⟩) 0 0) (u.alloc (.cells (madeCells #[.int .i64 0] 0) 3)):=
    fun u=>run_make_row' 35 3 (.int .i64 0) 8 underlying35 Tryz.info3 rfl .i64 .i64 0 (by omega) (by omega) u
   go_enter func177,ntmps177;go_wp2
   go_loop [4] (fun i=>i=.int .i64 0) (fun _=>0)
   case atStart=>rfl
   case round=>
    subst hrel;go_wp2;go_ret;exact⟨_,rfl,Zb_.alloc Zl_ _,Or.inl ⟨_,_,rfl,rfl⟩⟩
 . obtain⟨b,off,cap,rfl,hm,hbw,hc⟩:=hv.full hL
   clear hv;have HM:Hd (L.length<=maxLen):=hm;unfold maxLen at hm
   have hmk:∀ u:World,(Instr.makeSlice 35 (.int .i64 (L.length:Int)) (.int .i64 (L.length:Int))).run prog u=.ok (.slice (some ⟨u.heap.size,0,none⟩) L.length L.length) (u.alloc (.cells (madeCells #[.int .i64 0] L.length) 3)):=
    fun u=>run_make_row' 35 3 (.int .i64 0) 8 underlying35 Tryz.info3 rfl .i64 .i64 L.length (by omega) (by omega) u
   go_enter func177,ntmps177;go_wp2;clear hmk
   go_loopw [4] (fun i wr=>∃ k:Nat,i=.int .i64 k/\k<=L.length/\Zw_ w wr/\Zc4 wr w.heap.size L k) (fun i _=>L.length - (intOf i).toNat)
   case atStart=>exact⟨0,rfl,by omega,Zb_.alloc Zl_ _,World.rowIs_made w (.int .i64 0) L.length 3⟩
   case round=>
    obtain⟨k,rfl,hk,hb,hf⟩:=hrel
    by_cases hlt:k < L.length
    . have hck:wr.cell? ⟨b,off+k,none⟩=some (.int .i64 L[k]):=by rw [hb.cell (p:=⟨b,off+k,none⟩) hbw];exact hc k hlt
      have hold:wr.cell? ⟨w.heap.size,k,none⟩=some _:=World.rowIs.cell hf hlt;have hfz:wr.frozen? ⟨w.heap.size,k,none⟩=false:=World.rowIs.frozen hf k;go_wp2;go_roundw
      . exact⟨k+1,by go_num,by omega,hb.setCell Zl_ _,hf.step hlt⟩
      . simp [intOf];omega
    . go_wp2
      go_ret;exact⟨_,rfl,hb,hf.done (by omega) hL HM.o⟩
structure Zg6 (r:Ru):Prop where
 s1:r.kd.size<=maxLen
 s2:r.tm.size<=maxLen
 s3:r.pf.size<=maxLen
theorem ZnW (lo:Nat) (r:Ru) (vv:Value) (left:Int) (w:World) (h0:0<=left) (h1:left<=1048576) (hv:Zat lo w vv r.vb) (hz:Zg6 r) :
 Calls prog 123 #[.agg #[vv,.string r.kd,.string r.tm,.string r.pf],.int .i64 left] w
  fun e w'=>∃ q:Int,e=.returned (.int .i64 q)/\Zw_ w w'/\ZsN r.vb.length left q:=by
 obtain⟨s1,s2,s3⟩:=hz;unfold maxLen at s1 s2 s3;have HV:=Zab hv;obtain⟨a,cap,rfl⟩:=hv.form;clear hv;have HW:∀ o,Hd (Zw_ w (w.alloc o)):=fun o=>Zac _ _
 go_enter func123,ntmps123;go_wp2_with fail;refine (ZnU lo _ r.vb _ _ (by omega) (by omega) (HV.o.below (HW _).o)).mono ?_;rintro e w1 ⟨q,rfl,rfl,hr0,hr1,hr2⟩;have HR:=Zab hr2;clear hr2;go_wp2
 all_goals go_ret
 all_goals refine⟨_,rfl,(HW _).o,by omega,by omega,fun _=>?_⟩
 all_goals have:=HR.o (by omega)
 all_goals omega
theorem Zn9 (lo:Nat) (r:Ru) (vv:Value) (w:World) (hv:Zat lo w vv r.vb) (hn:r.vb.length<=1048576) :
 Calls prog 140 #[.agg #[vv,.string r.kd,.string r.tm,.string r.pf]] w
  fun e w'=>∃ v',e=.returned (.agg #[v',.string r.kd,.string r.tm,.string r.pf])/\Zw_ w w'/\Zat w.heap.size w' v' r.vb:=by
 have HV:=Zab hv;obtain⟨a,cap,rfl⟩:=hv.form;clear hv;go_enter func140,ntmps140;go_wp2_with fail;refine (Zn2 lo _ r.vb _ (HV.o.below ?_) hn).mono ?_
 . exact ((Zb_.alloc Zl_ _).alloc (by simp) _).alloc (by simp;omega) _
 rintro e w1 ⟨v',rfl,hb,hs⟩;obtain⟨a',cap',rfl⟩:=hs.form;have HS:Hd (Zat (w.heap.size+3) w1 (.slice a' r.vb.length cap') r.vb):=hs.mono (by simp);clear hs;have hz:w.heap.size+2 < w1.heap.size:=by have:=hb.size;simp at this;omega
 have hc:∀ b o,b < w.heap.size+3->w1.cell? ⟨b,o,none⟩=_:=fun b o h=>hb.cell (p:=⟨b,o,none⟩) (by simpa using h)
 have hf:∀ b o,b < w.heap.size+3->w1.frozen? ⟨b,o,none⟩=_:=fun b o h=>hb.frozen (p:=⟨b,o,none⟩) (by simpa using h)
 have HB:Hd (Zw_ w w1):=(((Zb_.alloc Zl_ _).alloc (by simp) _).alloc (by simp;omega) _).trans (hb.mono (by simp;omega));clear hb;go_wp2;refine bodyPost_ret (v:=.agg #[.slice a' r.vb.length cap',.string r.kd,.string r.tm,.string r.pf]) (by simp [results,results140,go_sem,hc]) rfl ⟨_,rfl,?_,?_⟩
 . repeat (refine Below.setCell ?_ (by simp only [];omega) _)
   exact HB.o
 . refine Zat.mono (lo:=w.heap.size+3) ?_ (by omega)
   repeat (refine Zat.setCell ?_ (by simp only [];omega) _)
   exact HS.o
theorem Zld (lo lo':Nat) (r:Ru) (vv vv':Value) (w:World) (hv:Zat lo w vv r.vb) (hv':Zat lo' w vv' r.vb) :
 Calls prog 148 #[.agg #[vv,.string r.kd,.string r.tm,.string r.pf],.agg #[vv',.string r.kd,.string r.tm,.string r.pf]] w
  fun e w'=>e=.returned (.bool true)/\Zw_ w w':=by
 have HV:=Zab hv;have HV':=Zab hv';obtain⟨a,cap,rfl⟩:=hv.form;obtain⟨a',cap',rfl⟩:=hv'.form;clear hv hv';go_enter func148,ntmps148;go_wp2_with fail;generalize hWa:(World.alloc (w.alloc _) _)=Wa;have HBa:Hd (Zw_ w Wa):=by rw [<- hWa];exact (Zac w _).alloc (by simp) _
 have FA:Hd (Box Wa w.heap.size #[.slice a r.vb.length cap,.string r.kd,.string r.tm,.string r.pf]):=by rw [<- hWa];exact (Box.new _ _ _ _ rfl).on (Zac _ _)
 have FB:Hd (Box Wa (w.heap.size+1) #[.slice a' r.vb.length cap',.string r.kd,.string r.tm,.string r.pf]):=by rw [<- hWa];exact Box.new _ _ _ _ (by simp)
 clear hWa;refine (Zd0 lo lo' _ _ r.vb _ (HV.o.below HBa.o) (HV'.o.below HBa.o)).mono ?_;rintro e w1 ⟨rfl,hb1⟩;have HB1:Hd (Zw_ w w1):=HBa.o.trans (hb1.mono HBa.o.size);have g:=(FA.o.on hb1).cell;have g':=(FB.o.on hb1).cell;have a1:w1.cell? ⟨w.heap.size,1,none⟩=some (.string r.kd):=g 1;have a2:w1.cell? ⟨w.heap.size,2,none⟩=some (.string r.tm):=g 2;have a3:w1.cell? ⟨w.heap.size,3,none⟩=some (.string r.pf):=g 3;have b1:w1.cell? ⟨w.heap.size+1,1,none⟩=some (.string r.kd):=g' 1;have b2:w1.cell? ⟨w.heap.size+1,2,none⟩=some (.string r.tm):=g' 2;have b3:w1.cell? ⟨w.heap.size+1,3,none⟩=some (.string r.pf):=g' 3;clear g g' hb1;go_wp2;go_ret;exact⟨rfl,HB1.o⟩
end
theorem ZdH (lo:Nat) (v:Value) (Ts:List Tm) (s:Zy_) (w:World) (hv:Zbk lo w v Ts) :
 Calls prog 169 #[v,.string s] w fun e w'=>e=.returned (.string (ovB Ts s))/\w'=w:=by
 by_cases hL:Ts=[]
 . subst hL
   obtain⟨a,cap,rfl⟩:=hv.form;clear hv;go_enter func169,ntmps169;go_wp2
   go_loop [5] (fun i=>i=.int .i64 0) (fun _=>0)
   case atStart=>rfl
   case round=>
    subst hrel;go_wp2;go_ret;exact⟨rfl,rfl⟩
 . obtain⟨b,off,cap,rfl,hm,hbw,_,hc⟩:=hv.full hL
   clear hv;unfold maxLen at hm;go_enter func169,ntmps169;go_wp2
   go_loop [5] (fun i=>∃ k:Nat,i=.int .i64 k/\k<=Ts.length/\∀ j (hj:j < Ts.length),j < k->(Ts[j].nm.toList == s.toList)=false) (fun i=>Ts.length - (intOf i).toNat)
   case atStart=>exact⟨0,rfl,by omega,fun j _ h=>by omega⟩
   case round=>
    obtain⟨k,rfl,hk,hall⟩:=hrel;have HA:=Zab hall;clear hall
    by_cases hlt:k < Ts.length
    . obtain⟨_,hcell⟩:=hc k hlt
      obtain⟨c0,c1⟩:=hcell
      cases he:(Ts[k].nm.toList == s.toList) with
      | true=>
       go_wp2;go_ret;exact⟨Zjw (Ztd hlt he HA.o).symm,rfl⟩
      | false=>
       go_wp2
       go_round
       case rel=>exact⟨k+1,by go_num,by omega,fun j hj h=>by
                  by_cases e:j=k
                  . subst e;exact he
                  . exact HA.o j hj (by omega)⟩
       . simp [intOf];omega
    . go_wp2
      go_ret;exact⟨Zjw (Ztf fun j hj=>HA.o j hj (by omega)).symm,rfl⟩
theorem Zbd (lo:Nat) (v:Value) (Ts:List Tm) (s:Zy_) (w:World) (hv:Zbk lo w v Ts) :
 Calls prog 127 #[v,.string s] w fun e w'=>e=.returned (.bool (Zgf Ts s))/\w'=w:=by
 by_cases hL:Ts=[]
 . subst hL
   obtain⟨a,cap,rfl⟩:=hv.form;clear hv;go_enter func127,ntmps127;go_wp2
   go_loop [5] (fun i=>i=.int .i64 0) (fun _=>0)
   case atStart=>rfl
   case round=>
    subst hrel;go_wp2;go_ret;exact⟨rfl,rfl⟩
 . obtain⟨b,off,cap,rfl,hm,hbw,_,hc⟩:=hv.full hL
   clear hv;unfold maxLen at hm;go_enter func127,ntmps127;go_wp2
   go_loop [5] (fun i=>∃ k:Nat,i=.int .i64 k/\k<=Ts.length/\∀ j (hj:j < Ts.length),j < k->(Ts[j].nm.toList == s.toList)=false) (fun i=>Ts.length - (intOf i).toNat)
   case atStart=>exact⟨0,rfl,by omega,fun j _ h=>by omega⟩
   case round=>
    obtain⟨k,rfl,hk,hall⟩:=hrel;have HA:=Zab hall;clear hall
    by_cases hlt:k < Ts.length
    . obtain⟨_,hcell⟩:=hc k hlt
      obtain⟨c0,c1⟩:=hcell
      cases he:(Ts[k].nm.toList == s.toList) with
      | true=>
       go_wp2;go_ret;exact⟨Zaa (Zkf hlt he).symm,rfl⟩
      | false=>
       go_wp2
       go_round
       case rel=>exact⟨k+1,by go_num,by omega,fun j hj h=>by
                  by_cases e:j=k
                  . subst e;exact he
                  . exact HA.o j hj (by omega)⟩
       . simp [intOf];omega
    . go_wp2
      go_ret;exact⟨Zaa (Zpp fun j hj=>HA.o j hj (by omega)).symm,rfl⟩
section
variable (nm ov:Zy_) (w:World)
theorem ZoK (s:Zy_) (B:Nat) (hB:B < w.heap.size) (hs:w.cell? ⟨B,0,none⟩=some (.string s)) :
 Calls prog 238 #[.agg #[.string nm,.string ov],.pointer (some ⟨B,0,none⟩)] w
  fun e w'=>e=.returned (.bool (nm.toList == s.toList))/\Zw_ w w':=by
 go_enter func238,ntmps238;go_wp2;go_ret;exact⟨rfl,Zb_.alloc Zl_ _⟩
end
theorem Zh2 (lo:Nat) (v:Value) (Ts:List Tm) (s:Zy_) (B:Nat) (w:World) (hv:Zbk lo w v Ts) (hB:B < w.heap.size) (hs:w.cell? ⟨B,0,none⟩=some (.string s)) :
 Calls prog 237 #[v,.func (.func 238) #[] #[.pointer (some ⟨B,0,none⟩)]] w fun e w'=>e=.returned (.int .i64 (Zdr Ts s))/\Zw_ w w':=by
 by_cases hL:Ts=[]
 . subst hL
   obtain⟨a,cap,rfl⟩:=hv.form;clear hv;go_enter func237,ntmps237;go_wp2
   go_loop [8] (fun i=>i=.int .i64 0) (fun _=>0)
   case atStart=>rfl
   case round=>
    subst hrel;go_wp2;go_ret;exact⟨rfl,Below.refl _ _⟩
 . obtain⟨b,off,cap,rfl,hm,hbw,_,hc⟩:=hv.full hL
   clear hv;unfold maxLen at hm;go_enter func237,ntmps237;go_wp2
   go_loopw [8] (fun i wr=>∃ k:Nat,i=.int .i64 k/\k<=Ts.length/\Zw_ w wr/\∀ j (hj:j < Ts.length),j < k->(Ts[j].nm.toList == s.toList)=false) (fun i _=>Ts.length - (intOf i).toNat)
   case atStart=>exact⟨0,rfl,by omega,Below.refl _ _,fun j _ h=>by omega⟩
   case round=>
    obtain⟨k,rfl,hk,hb,hall⟩:=hrel;have HA:=Zab hall;have HB:=Zab hb;clear hall hb
    by_cases hlt:k < Ts.length
    . obtain⟨_,hcell⟩:=hc k hlt
      obtain⟨c0,c1⟩:=hcell.below HB.o hbw;clear hcell;go_wp2_with fail;refine (ZoK _ _ _ s B (Zk_ hB HB.o.size) (by rw [HB.o.cell (p:=⟨B,0,none⟩) hB];exact hs)).mono ?_;rintro e w1 ⟨rfl,hb1⟩;have HB1:Hd (Zw_ w w1):=HB.o.trans (hb1.mono HB.o.size);clear hb1 c0 c1
      cases he:(Ts[k].nm.toList == s.toList) with
      | true=>
       go_wp2;go_ret;exact⟨by rw [Zny hlt he HA.o];rfl,HB1.o⟩
      | false=>
       go_wp2;go_roundw
       case rel=>exact⟨k+1,by go_num,by omega,HB1.o,fun j hj h=>by
                  by_cases e:j=k
                  . subst e;exact he
                  . exact HA.o j hj (by omega)⟩
       . simp [intOf];omega
    . go_wp2
      go_ret;exact⟨by rw [ZpR fun j hj=>HA.o j hj (by omega)];rfl,HB.o⟩
theorem Zcu (lo:Nat) (v:Value) (Ts:List Tm) (s:Zy_) (w:World) (hv:Zbk lo w v Ts) :
 Calls prog 207 #[v,.string s] w fun e w'=>e=.returned (.int .i64 (Zdr Ts s))/\Zw_ w w':=by
 have HV:=Zab hv;obtain⟨a,cap,rfl⟩:=hv.form;clear hv;have HW:∀ o,Hd (Zw_ w (w.alloc o)):=fun o=>Zac _ _
 go_enter func207,ntmps207;go_wp2_with fail;refine (Zh2 lo _ Ts s _ _ (HV.o.below (HW _).o) (by simp) (by simp)).mono ?_;rintro e w1 ⟨rfl,hb⟩;have HB:Hd (Zw_ w w1):=(HW _).o.trans (hb.mono (by simp));clear hb;go_wp2;go_ret;exact⟨rfl,HB.o⟩
theorem ZiC (lo:Nat) (v:Value) (Ts:List Tm) (s:Zy_) (w:World) (hv:Zbk lo w v Ts) :
 Calls prog 230 #[v,.string s] w fun e w'=>e=.returned (.string (ovB Ts s))/\Zw_ w w':=by
 have HV:=Zab hv;obtain⟨a,cap,rfl⟩:=hv.form;clear hv;go_enter func230,ntmps230;go_wp2_with fail;refine (Zcu lo _ Ts s _ HV.o).mono ?_;rintro e w1 ⟨rfl,hb⟩;have HB:=Zab hb;clear hb
 by_cases hp:plT Ts s < Ts.length
 . rw [ZhD hp]
   have hmx:=HV.o.max;obtain⟨b,off,rfl,hbw,hc⟩:=HV.o.full' (by omega);obtain⟨_,hcell⟩:=hc _ hp;obtain⟨c0,c1⟩:=hcell.below HB.o hbw;have HO:=Zab (Zte hp);unfold maxLen at hmx;clear hc hcell;generalize plT Ts s=p at*;go_wp2;go_ret;exact⟨Zjw HO.o.symm,HB.o⟩
 . rw [ZhC hp]
   have HO:=Zab (ZrK hp);go_wp2;go_ret;exact⟨Zjw HO.o.symm,HB.o⟩
theorem Zjj (lo:Nat) (v:Value) (Ts:List Tm) (a b:Zy_) (w:World) (hv:Zbk lo w v Ts) :
 Calls prog 197 #[v,.string a,.string b] w fun e w'=>e=.returned (.bool (Zbb Ts a b))/\Zw_ w w':=by
 have HV:=Zab hv;obtain⟨ta,tcap,rfl⟩:=hv.form;clear hv
 cases hab:(a.toList == b.toList) with
 | true=>
  go_enter func197,ntmps197;go_wp2;go_ret;exact⟨Zaa (by simp [Zbb,hab]),Below.refl _ _⟩
 | false=>
  have HU:Hd (Zbb Ts a b=Zfh Ts b 4 a):=by unfold Hd Zbb;rw [hab];rfl
  go_enter func197,ntmps197;go_wp2;clear hab
  go_loopw [1,10] (fun x n wr=>∃ (k:Nat) (a':Zy_),x=.string a'/\n=.int .i64 k/\k<=4/\Zbb Ts a b=Zfh Ts b (4 - k) a'/\Zw_ w wr) (fun _ n _=>4 - (intOf n).toNat)
  case atStart=>exact⟨0,a,rfl,rfl,by omega,HU.o,Below.refl _ _⟩
  case round=>
   obtain⟨k,a',rfl,rfl,hk,hu,hb⟩:=hrel;have HU:=Zab hu;have HB:=Zab hb;clear hu hb
   by_cases hlt:k < 4
   . have HS:Hd (Zbb Ts a b=if (ovB Ts a').toList.isEmpty then false else if (ovB Ts a').toList == b.toList then true else Zfh Ts b (4 - (k+1)) (ovB Ts a')):=by
      unfold Hd;rw [HU.o,show 4 - k=(4 - (k+1))+1 from by omega]
      rfl
     clear HU;go_wp2_with fail;refine (ZiC lo _ Ts a' _ (HV.o.below HB.o)).mono ?_;rintro e w1 ⟨rfl,hb1⟩;have HB1:Hd (Zw_ w w1):=HB.o.trans (hb1.mono HB.o.size);clear hb1;clear HB
     cases he:(ovB Ts a').toList.isEmpty with
     | true=>
      have HR:Hd (Zbb Ts a b=false):=by unfold Hd;rw [HS.o,if_pos he]
      go_wp2;go_ret;exact⟨Zaa HR.o.symm,HB1.o⟩
     | false=>
      cases he2:((ovB Ts a').toList == b.toList) with
      | true=>
       have HR:Hd (Zbb Ts a b=true):=by unfold Hd;rw [HS.o,if_neg (by simp [he]),if_pos he2]
       go_wp2;go_ret;exact⟨Zaa HR.o.symm,HB1.o⟩
      | false=>
       have HR:Hd (Zbb Ts a b=Zfh Ts b (4 - (k+1)) (ovB Ts a')):=by unfold Hd;rw [HS.o,if_neg (by simp [he]),if_neg (by simp [he2])]
       go_wp2;go_roundw
       . exact⟨k+1,_,rfl,by go_num,by omega,HR.o,HB1.o⟩
       . simp [intOf];omega
   . have HR:Hd (Zbb Ts a b=false):=by unfold Hd;rw [HU.o,show 4 - k=0 from by omega];rfl
     go_wp2;go_ret;exact⟨Zaa HR.o.symm,HB.o⟩
theorem Zd9 (lo:Nat) (v:Value) (Ts:List Tm) (a:Zy_) (w:World) (hv:Zbk lo w v Ts) :
 Calls prog 208 #[v,.string a] w fun e w'=>e=.returned (.bool (ZaS Ts 5 a))/\Zw_ w w':=by
 have HV:=Zab hv;obtain⟨ta,tcap,rfl⟩:=hv.form;clear hv;go_enter func208,ntmps208;go_wp2
 go_loopw [1,5] (fun x n wr=>∃ (k:Nat) (a':Zy_),x=.string a'/\n=.int .i64 k/\k<=5/\ZaS Ts 5 a=ZaS Ts (5 - k) a'/\Zw_ w wr) (fun _ n _=>5 - (intOf n).toNat)
 case atStart=>exact⟨0,a,rfl,rfl,by omega,rfl,Below.refl _ _⟩
 case round=>
  obtain⟨k,a',rfl,rfl,hk,hu,hb⟩:=hrel;have HU:=Zab hu;have HB:=Zab hb;clear hu hb
  by_cases hlt:k < 5
  . have HS:Hd (ZaS Ts 5 a=if (ovB Ts a').toList.isEmpty then false else ZaS Ts (5 - (k+1)) (ovB Ts a')):=by
     unfold Hd;rw [HU.o,show 5 - k=(5 - (k+1))+1 from by omega]
     rfl
    clear HU;go_wp2_with fail;refine (ZiC lo _ Ts a' _ (HV.o.below HB.o)).mono ?_;rintro e w1 ⟨rfl,hb1⟩;have HB1:Hd (Zw_ w w1):=HB.o.trans (hb1.mono HB.o.size);clear hb1 HB
    cases he:(ovB Ts a').toList.isEmpty with
    | true=>
     have HR:Hd (ZaS Ts 5 a=false):=by unfold Hd;rw [HS.o,if_pos he]
     go_wp2;go_ret;exact⟨Zaa HR.o.symm,HB1.o⟩
    | false=>
     have HR:Hd (ZaS Ts 5 a=ZaS Ts (5 - (k+1)) (ovB Ts a')):=by unfold Hd;rw [HS.o,if_neg (by simp [he])]
     go_wp2;go_roundw
     . exact⟨k+1,_,rfl,by go_num,by omega,HR.o,HB1.o⟩
     . simp [intOf];omega
  . have HR:Hd (ZaS Ts 5 a=true):=by unfold Hd;rw [HU.o,show 5 - k=0 from by omega];rfl
    go_wp2;go_ret;exact⟨Zaa HR.o.symm,HB.o⟩
end Go.Proofs.YtmappejlmapboaaGreat
