import Derived.Test.YtbdhbihhgfpnnaaGreatV25
set_option maxHeartbeats 16000000
set_option maxRecDepth 100000
open Go.Proofs.Tryz
namespace Go.Proofs.YtbdhbihhgfpnnaaGreat
section
open Go.RowKit Go.Deep Go.Maps
def ZiA (Ps:List Pu):List Tri:=Ps.map fun p=>(p.tm,p.re,p.am)
theorem Zo3 (Ps:List Pu) (t r:Zy_):Zkq (ZiA Ps) t r=ZeU Ps t r:=by
 unfold Zkq ZiA ZeU;rw [List.map_map]
 congr 1
 refine List.map_congr_left fun p _=>?_
 unfold Zli;simp only [Function.comp]
 by_cases h:p.tm=t/\p.re=r
 . obtain⟨h1,h2⟩:=h
   rw [if_pos ⟨h1,h2⟩,if_pos (by rw [Bool.and_eq_true];exact⟨ZaI.2 h1,ZaI.2 h2⟩)]
 . rw [if_neg h,if_neg (fun hb=>h (by rw [Bool.and_eq_true] at hb;exact⟨ZaI.1 hb.1,ZaI.1 hb.2⟩))]
theorem Znm (lo:Nat) (v:Value) (Ps:List Pu) (w:World) (hv:Zca lo w v Ps) (hn:Ps.length<=1048576) :
 Calls prog 182 #[v] w
  fun e w'=>e=.returned (.map (some w.heap.size))/\Zw_ w w'/\∃ D:DataW Unit,w'.ownsMap prog 253 (plainElem prog 3) w.heap.size Ps.length D/\ZeY (ZiA Ps) D:=by
 have HV:=Zab hv;obtain⟨a,cap,rfl⟩:=hv.form;clear hv;have hmm:=@run_makeMap prog;go_enter func182,ntmps182;go_wp2;clear hmm
 go_loopw [9] (fun i wr=>∃ k:Nat,i=.int .i64 k/\k<=Ps.length/\Zw_ w wr/\∃ D:DataW Unit,wr.ownsMap prog 253 (plainElem prog 3) w.heap.size k D/\ZeY (ZiA (Ps.take k)) D) (fun i _=>Ps.length - (intOf i).toNat)
 case atStart=>exact⟨0,rfl,Nat.zero_le _,Zac _ _,.map [],World.ownsMap_made _ _ _ _,ZeY.start⟩
 case round=>
  obtain⟨k,rfl,hk,hb,D,ho,hsum⟩:=hrel;have HB:=Zab hb;have HSUM:=Zab hsum;clear hb hsum
  by_cases hlt:k < Ps.length
  . obtain⟨b,off,rfl,hbw,-,hc⟩:=HV.o.full' (by omega)
    obtain⟨hs,hcell⟩:=hc k hlt;obtain⟨c0,c1,c2,c3,c4⟩:=hcell.below HB.o hbw;have HZ:=Zab hs;have HT:Hd (ZiA (Ps.take (k+1))=ZiA (Ps.take k) ++ [(Ps[k].tm,Ps[k].re,Ps[k].am)]):=by unfold Hd ZiA;rw [List.take_succ_eq_append_getElem hlt,List.map_append];rfl
    have hol:=ho.lt
    obtain⟨Wb,hWb,HYb,HBb,HOb⟩:∃ Wb,Wb=wr.alloc (.cells #[.string Ps[k].dr,.string Ps[k].tm,.string Ps[k].re,.int .i64 Ps[k].am,.int .i64 Ps[k].un] 188)/\Hd (Box Wb wr.heap.size #[.string Ps[k].dr,.string Ps[k].tm,.string Ps[k].re,.int .i64 Ps[k].am,.int .i64 Ps[k].un])/\Hd (Zw_ w Wb)/\Hd (Wb.ownsMap prog 253 (plainElem prog 3) w.heap.size k D):=by
     refine⟨_,rfl,?_,?_,?_⟩
     . exact Box.new _ _ _ _ rfl
     . exact HB.o.trans ((Zac _ _).mono HB.o.size)
     . exact ho.alloc _
    obtain⟨c,v0,st,w1,hent,hat,hwc,hl0,hl1,hg1,hs1,hst⟩:=Zi9 ZkZ underlying248 underlying3 Zh9 HOb.o.drew (by unfold maxLen;omega) (Zgh.mk' hs.s1 hs.s2);have ew:IntKind.i64.wrap (c+Ps[k].am)=wrap64 (c+Ps[k].am):=IntWalk.i64_left _;obtain⟨w2,hrun2,ho2,hg2,hs2⟩:=hst (IntKind.i64.wrap (c+Ps[k].am)) (by rw [ew];exact wrap64_wf _);rw [ew] at ho2;have HO2:=Zab ho2;have HG2:=Zab hg2;have HAT:=Zab hat;have y1:=HYb.o.cell 1;have y2:=HYb.o.cell 2;have y3:=HYb.o.cell 3;simp at y1 y2 y3;simp only [goInt] at hent hrun2;clear ew hst ho2 hg2 hg1 hat ho hc hcell hs hs1 hs2 hwc;go_wp2;rw [<- hWb];clear hWb
    go_region
    all_goals go_wp2
    all_goals go_roundw
    all_goals first
     | (case rel=>exact⟨k+1,by go_num,by omega,Zbm HBb.o.drew HG2.o Zl_,_,HO2.o,by rw [HT.o];exact HSUM.o.step HZ.o.s1 HZ.o.s2 HAT.o _⟩)
     | (case measure=>simp [intOf];omega)
  . have he:k=Ps.length:=by omega
    subst he;have HT:Hd (ZiA (Ps.take Ps.length)=ZiA Ps):=by unfold Hd;rw [List.take_length]
    have HO:=Zab ho;clear ho;go_wp2;go_ret;exact⟨rfl,HB.o,D,HO.o,HT.o ▸ HSUM.o⟩
def ZeC (Ss:List Sh) (Ts:List Tm) (B:Bk) (g:Le):Bool:=decide (wrap64 (Zc7 Ss Ts B.os g.tm g.re+ZeU B.ps g.tm g.re+g.fr)=g.mo)
def ZjQ (Ss:List Sh) (Ts:List Tm) (B:Bk):Bool:=B.ls.all (ZeC Ss Ts B)
section
variable (lo:Nat) (sv mv tv ov gv lv pv:Value) (Ss:List Sh) (Ms:List Md) (Ts:List Tm) (B:Bk) (w:World)
theorem Zjp (hl:ZdQ lo w sv mv tv Ss Ms Ts) (h:Za2 lo w ov gv lv pv B) (hn:Zbl B) :
 Calls prog 129 #[.agg #[sv,mv,tv],.agg #[.int .i64 B.now,.int .i64 B.tick,.int .i64 B.given,ov,gv,lv,pv]] w fun e w'=>e=.returned (.bool (ZjQ Ss Ts B))/\Zw_ w w':=by
 have HL:=Zab hl;have HK:=Zab h;have HTR:=Zab (ZrD hl.shs h.obs.sizes);have hpl:B.ps.length<=1048576:=hn.2.2.2.1;have hll:B.ls.length<=1048576:=hn.2.2.1.1;have HOS:Hd (ZcG B.os):=hn.1;obtain⟨sa,sc,rfl⟩:=hl.shs.form;obtain⟨ma,mc,rfl⟩:=hl.mds.form;obtain⟨ta,tc,rfl⟩:=hl.tms.form;obtain⟨a0,k0,rfl⟩:=h.obs.form;obtain⟨a1,k1,rfl⟩:=h.grs.form;obtain⟨a2,k2,rfl⟩:=h.les.form;obtain⟨a3,k3,rfl⟩:=h.pus.form;clear h hl hn;go_enter func129,ntmps129;go_wp2;generalize hWa:(World.alloc (w.alloc _) _)=Wa;have HB:Hd (Zw_ w Wa):=by rw [<- hWa];exact (Zac w _).alloc (by simp) _
 have HX:Hd (Box Wa w.heap.size #[.slice sa Ss.length sc,.slice ma Ms.length mc,.slice ta Ts.length tc]):=by rw [<- hWa];exact (Box.new _ _ _ _ rfl).on (Zac _ _)
 have HY:Hd (Box Wa (w.heap.size+1) #[.int .i64 B.now,.int .i64 B.tick,.int .i64 B.given,.slice a0 B.os.length k0,.slice a1 B.gs.length k1,.slice a2 B.ls.length k2,.slice a3 B.ps.length k3]):=by rw [<- hWa];exact Box.new _ _ _ _ (by simp)
 clear hWa;have HD:Hd (Zw_ w Wa.drew):=HB.o.drew
 go_region_held3 (Zby Wa w.heap.size #[.slice sa Ss.length sc,.slice ma Ms.length mc,.slice ta Ts.length tc] (w.heap.size+1) #[.int .i64 B.now,.int .i64 B.tick,.int .i64 B.given,.slice a0 B.os.length k0,.slice a1 B.gs.length k1,.slice a2 B.ls.length k2,.slice a3 B.ps.length k3])
  (first
    | (with_reducible exact Zby.drew HX.o HY.o)
    | (with_reducible exact Zby.on (by assumption) (by assumption)))
  (first
    | (go_at_call 181
       refine (ZkR lo _ _ Ss B.os _ (HL.o.below HD.o).shs (HK.o.below HD.o).obs HOS.o).mono ?_;rintro e w1 ⟨rfl,hb1,D,ho,hsum⟩;have HC1:Hd (Zw_ w w1):=HD.o.trans (hb1.mono HD.o.size);have HOW:Hd (w1.ownsMap prog 253 (plainElem prog 3) Wa.heap.size (Zcj Ss B.os).length D):=ho;have HSU:=Zab hsum;clear ho hsum)
    | (go_at_call 182
       refine (Znm lo _ B.ps _ (HK.o.below HC1.o).pus hpl).mono ?_;rintro e w2 ⟨rfl,hb2,D2,ho2,hsum2⟩;have HC2:Hd (Zw_ w w2):=HC1.o.trans (hb2.mono HC1.o.size);have HOW2:=Zab (HOW.o.kept (ZaF hb2) (by simp));have HOD:=Zab ho2;have HSD:=Zab hsum2;clear ho2 hsum2))
 have HCa:Hd (Below Wa.heap.size Wa w2):=(Zb_.drew.trans hb1).trans (hb2.mono ((Zb_.drew.trans hb1:Below Wa.heap.size Wa w1)).size);have HX2:=Zab (HX.o.on HCa.o);have HY2:=Zab (HY.o.on HCa.o);clear HCa hb1 hb2 HOW HC1 HD HB HX HY;generalize Wa.heap.size=ba at*;generalize w1.heap.size=bd at*;have y5:=HY2.o.cell 5;simp at y5;go_wp2;clear y5
 go_loopw [21] (fun i wr=>∃ k:Nat,i=.int .i64 k/\k<=B.ls.length/\Zw_ w wr/\Box wr w.heap.size #[.slice sa Ss.length sc,.slice ma Ms.length mc,.slice ta Ts.length tc]/\wr.ownsMap prog 253 (plainElem prog 3) ba (Zcj Ss B.os).length D/\wr.ownsMap prog 253 (plainElem prog 3) bd B.ps.length D2/\∀ j (h:j < B.ls.length),j < k->ZeC Ss Ts B B.ls[j]=true) (fun i _=>B.ls.length - (intOf i).toNat)
 case atStart=>exact⟨0,rfl,Nat.zero_le _,HC2.o,HX2.o,HOW2.o,HOD.o,fun j _ h=>by omega⟩
 case round=>
  obtain⟨k,rfl,hk,hb,hx,hoa,hod,hall⟩:=hrel;have HBr:=Zab hb;have HXr:=Zab hx;have HOA:=Zab hoa;have HODr:=Zab hod;have HA:=Zab hall;clear hb hx hoa hod hall
  by_cases hlt:k < B.ls.length
  . obtain⟨b,off,rfl,hbw,-,hc⟩:=HK.o.les.full' (by omega)
    obtain⟨hs,hcell⟩:=hc k hlt;obtain⟨c0,c1,c2,c3⟩:=hcell.below HBr.o hbw;have HZ:=Zab hs;have HQ:Hd (ZeC Ss Ts B B.ls[k]=decide (wrap64 (Zc7 Ss Ts B.os B.ls[k].tm B.ls[k].re+ZeU B.ps B.ls[k].tm B.ls[k].re+B.ls[k].fr)=B.ls[k].mo)):=rfl;have HUZ:=Zab (ZmN Ss Ts B.ls[k].tm B.ls[k].re B.os);have x2:=HXr.o.cell 2;simp at x2;have xlt:=HXr.o.lt;have x2:∀ o,(wr.alloc o).cell? ⟨w.heap.size,2,none⟩=some (.slice ta Ts.length tc):=fun o=>(Zai _ _ _ _ xlt).trans x2
    clear hc hcell hs xlt;go_wp2_with fail;generalize hWb:wr.alloc _=Wb;have HBb:Hd (Zw_ w Wb):=by rw [<- hWb];exact HBr.o.trans ((Zac _ _).mono HBr.o.size)
    have HXb:Hd (Box Wb w.heap.size #[.slice sa Ss.length sc,.slice ma Ms.length mc,.slice ta Ts.length tc]):=by rw [<- hWb];exact HXr.o.on (Zac _ _)
    have HYb:Hd (Box Wb wr.heap.size #[.string B.ls[k].tm,.string B.ls[k].re,.int .i64 B.ls[k].mo,.int .i64 B.ls[k].fr]):=by rw [<- hWb];exact Box.new _ _ _ _ rfl
    have HOA1:Hd (Wb.ownsMap prog 253 (plainElem prog 3) ba (Zcj Ss B.os).length D):=by rw [<- hWb];exact HOA.o.alloc _
    have HOD1:Hd (Wb.ownsMap prog 253 (plainElem prog 3) bd B.ps.length D2):=by rw [<- hWb];exact HODr.o.alloc _
    clear hWb x2 HOA HODr;refine (ZiL lo _ Ts _ _ _ _ (HL.o.below HBb.o).tms HOA1.o HSU.o HTR.o).mono ?_;rintro e w3 ⟨rfl,hb3⟩;have HB3:Hd (Zw_ w w3):=HBb.o.trans (hb3.mono HBb.o.size);have HX3:=Zab (HXb.o.on hb3);have HY3:=Zab (HYb.o.on hb3);have HOA3:=Zab (HOA1.o.kept (ZaF hb3) (by simp));have HOD3:=Zab (HOD1.o.kept (ZaF hb3) (by simp))
    have hlk:∀ n,(Instr.lookup 248 (.map (some bd)) (.agg #[.string B.ls[k].tm,.string B.ls[k].re]) false).run prog (w3.drewN n)=.ok (.int .i64 (wrap64 (ZeU B.ps B.ls[k].tm B.ls[k].re))) (w3.drewN n):=fun n=>by
     obtain⟨c,hl,hat,-⟩:=(Zdq HOD3.o (w':=w3.drewN n) (by simp)).lookup_int Zh8 underlying248 underlying3 (Zh9 _) (Zgh.mk' HZ.o.s0 HZ.o.s1);rw [HSD.o.sums _ _ HZ.o.s0 HZ.o.s1,Zo3] at hat;injection hat with hat
     injection hat with _ hat
     rw [hat];exact hl
    have y0:=HY3.o.cell 0;have y1:=HY3.o.cell 1;have y2:=HY3.o.cell 2;have y3:=HY3.o.cell 3;simp at y0 y1 y2 y3;clear hb3 HBb HXb HYb HOA1 HOD1;have HV:Hd (wrap64 (wrap64 (wrap64 ((Zcj Ss B.os).map (Zg3 Ts B.ls[k].tm B.ls[k].re)).sum+wrap64 (ZeU B.ps B.ls[k].tm B.ls[k].re))+B.ls[k].fr)=wrap64 (Zc7 Ss Ts B.os B.ls[k].tm B.ls[k].re+ZeU B.ps B.ls[k].tm B.ls[k].re+B.ls[k].fr)):=by unfold Hd;rw [Zg6,Zfj,HUZ.o]
    go_wp2
    go_quiet (fail)
    have HBn:Hd (Zw_ w (w3.drewN nq)):=below_drewN HB3.o _;have HXn:=Zab (HX3.o.on (below_drewN Zb_ nq));have HOAn:=Zab (Zdq HOA3.o (w':=w3.drewN nq) (by simp));have HODn:=Zab (Zdq HOD3.o (w':=w3.drewN nq) (by simp));clear hlk
    by_cases hq:wrap64 (wrap64 (wrap64 ((Zcj Ss B.os).map (Zg3 Ts B.ls[k].tm B.ls[k].re)).sum+wrap64 (ZeU B.ps B.ls[k].tm B.ls[k].re))+B.ls[k].fr)=B.ls[k].mo
    . have HT:Hd (ZeC Ss Ts B B.ls[k]=true):=by unfold Hd;rw [HQ.o,<- HV.o];exact decide_eq_true hq
      have hd:(wrap64 (wrap64 (wrap64 ((Zcj Ss B.os).map (Zg3 Ts B.ls[k].tm B.ls[k].re)).sum+wrap64 (ZeU B.ps B.ls[k].tm B.ls[k].re))+B.ls[k].fr) != B.ls[k].mo)=false:=by simp [hq]
      clear hq;go_wp2;go_roundw
      . exact⟨k+1,by go_num,by omega,HBn.o,HXn.o,HOAn.o,HODn.o,Zbr HA.o hlt HT.o⟩
      . simp [intOf];omega
    . have HN:Hd (ZjQ Ss Ts B=false):=Zbc hlt (by rw [HQ.o,<- HV.o];exact decide_eq_false hq)
      have hd:(wrap64 (wrap64 (wrap64 ((Zcj Ss B.os).map (Zg3 Ts B.ls[k].tm B.ls[k].re)).sum+wrap64 (ZeU B.ps B.ls[k].tm B.ls[k].re))+B.ls[k].fr) != B.ls[k].mo)=true:=by simp [hq]
      clear hq;go_wp2;go_ret;exact⟨Zaa HN.o.symm,HBn.o⟩
  . have HT:Hd (ZjQ Ss Ts B=true):=Zb2 (fun i hi=>HA.o i hi (by omega))
    go_wp2;go_ret;exact⟨Zaa HT.o.symm,HBr.o⟩
end
end
open Go.RowKit Go.Deep
variable {W0:World} {m:Nat}
abbrev Up (W0:World):World->Prop:=fun W=>Below W0.heap.size W0 W
theorem Up.cell (X:In (Up W0)) {p:Addr} {v:Value} (h:W0.cell? p=some v):X.w.cell? p=some v:=
 (Below.cell (show Below W0.heap.size W0 X.w from X.h) (World.block_lt_of_cell? W0 _ h)).trans h
theorem Up.next (X:In (Up W0)) {W':World} (h:Below X.w.heap.size X.w W'):∃ Y:In (Up W0),W'=Y.w:=
 ⟨⟨W',X.h.trans (h.mono X.h.size)⟩,rfl⟩
theorem ZlZ {B:Bk} (hm:m < B.gs.length) (h:gnB B.given B.gs[m]=false):ZaX B=false:=by
 unfold ZaX;rw [Zbc hm h,Bool.and_false]
theorem Zl0 {B:Bk} (hm:m < B.gs.length) (h:Zcx Zf3 B.gs m=false):ZaX B=false:=by
 unfold ZaX;rw [show Zdl Zf3 B.gs=false from ZaC hm h,Bool.and_false,Bool.false_and]
theorem Zl1 {B:Bk} (hl:B.gs.length<=24) (h1:∀ j (h:j < B.gs.length),gnB B.given B.gs[j]=true) (h2:∀ j,j < B.gs.length->Zcx Zf3 B.gs j=true):ZaX B=true:=by
 unfold ZaX;rw [decide_eq_true hl,Zb2 h1,show Zdl Zf3 B.gs=true from ZaH h2]
 rfl
section
variable (lo:Nat) (ov gv lv pv:Value) (B:Bk) (w:World)
theorem Zhk (h:Za2 lo w ov gv lv pv B) :
 Calls prog 48 #[.agg #[.int .i64 B.now,.int .i64 B.tick,.int .i64 B.given,ov,gv,lv,pv]] w fun e w'=>e=.returned (.bool (ZaX B))/\Zw_ w w':=by
 have HG:=Zab h.grs;obtain⟨a0,k0,rfl⟩:=h.obs.form;obtain⟨a1,k1,rfl⟩:=h.grs.form;obtain⟨a2,k2,rfl⟩:=h.les.form;obtain⟨a3,k3,rfl⟩:=h.pus.form;clear h
 by_cases hl:B.gs.length<=24
 case neg=>
  have HE:Hd (ZaX B=false):=by unfold Hd ZaX;rw [decide_eq_false hl];rfl
  have hgt:decide ((24:Int) < (B.gs.length:Int))=true:=by simp;omega
  go_enter func48,ntmps48;go_wp2;go_ret;exact⟨Zaa HE.o.symm,Zac _ _⟩
 have hgt:decide ((24:Int) < (B.gs.length:Int))=false:=by simp;omega
 go_enter func48,ntmps48;go_wp2;generalize hWa:w.alloc _=Wa;have HB:Hd (Zw_ w Wa):=by rw [<- hWa];exact Zac w _
 have HX:Hd (Box Wa w.heap.size #[.int .i64 B.now,.int .i64 B.tick,.int .i64 B.given,.slice a0 B.os.length k0,.slice a1 B.gs.length k1,.slice a2 B.ls.length k2,.slice a3 B.ps.length k3]):=by rw [<- hWa];exact Box.new _ _ _ _ rfl
 clear hWa hgt
 go_loopw [3] (fun i wr=>∃ m:Nat,i=.int .i64 m/\m<=B.gs.length/\Zw_ w wr/\Box wr w.heap.size #[.int .i64 B.now,.int .i64 B.tick,.int .i64 B.given,.slice a0 B.os.length k0,.slice a1 B.gs.length k1,.slice a2 B.ls.length k2,.slice a3 B.ps.length k3]/\(∀ j (h:j < B.gs.length),j < m->gnB B.given B.gs[j]=true)/\∀ j,j < m->Zcx Zf3 B.gs j=true) (fun i _=>B.gs.length - (intOf i).toNat)
 case atStart=>exact⟨0,rfl,Nat.zero_le _,HB.o,HX.o,fun j _ h=>by omega,fun j h=>by omega⟩
 case round=>
  obtain⟨m,rfl,hm,hb,hx,hall,hris⟩:=hrel;have HBr:=Zab hb;have HXr:=Zab hx;have HA:=Zab hall;have HS:=Zab hris;have x4:=hx.cell 4;simp at x4;clear hb hx hall hris HB HX
  by_cases hlt:m < B.gs.length
  . obtain⟨b,off,rfl,hbw,-,hc⟩:=HG.o.full' (by omega)
    obtain⟨hs,vv0,hcell,hv0⟩:=hc m hlt;obtain⟨c0,c1,c2,c3,c4,c5,c6⟩:=hcell.below HBr.o hbw;have HZ:=Zab hs;obtain⟨va,vcap,rfl⟩:=hv0.form;have HQ:Hd (gnB B.given B.gs[m]=(inB 1 B.given B.gs[m].nu&&Zan B.gs[m].tw&&Zag B.gs[m].gb&&ZaT B.gs[m].ru)):=rfl;have HEN:Hd (Zag B.gs[m].gb=(B.gs[m].gb.toList.isEmpty || Zan B.gs[m].gb)):=rfl;have HRZ:Hd (ZeX B.gs[m].ru):=⟨HZ.o.s2,HZ.o.s3,HZ.o.s4⟩;go_wp2;generalize hWq:wr.alloc _=Wq;have HBq:Hd (Below wr.heap.size wr Wq):=by rw [<- hWq];exact Zac _ _
    have HYq:Hd (Box Wq wr.heap.size #[.int .i64 B.gs[m].nu,.string B.gs[m].tw,.string B.gs[m].gb,.slice va B.gs[m].vb.length vcap,.string B.gs[m].kd,.string B.gs[m].tm,.string B.gs[m].pf]):=by rw [<- hWq];exact Box.new _ _ _ _ rfl
    clear hWq;have HXq:=Zab (HXr.o.on HBq.o);have HBw:Hd (Zw_ w Wq):=HBr.o.trans (HBq.o.mono HBr.o.size);have HVq:=Zab (hv0.below HBw.o);clear c0 c1 c2 c3 c4 c5 c6 hcell hv0 hs;generalize hβ:wr.heap.size=β at*
    go_cut [65] (fun c wc=>c=.bool (!(gnB B.given B.gs[m]&&Zcx Zf3 B.gs m))/\Below Wq.heap.size Wq wc)
    case first=>
     have xn:Nonempty (In (Up Wq)):=⟨⟨Wq,Below.refl _ _⟩⟩;have x0:∀ X:In (Up Wq),X.w.cell? ⟨w.heap.size,2,none⟩=some (.int .i64 B.given):=fun X=>Up.cell X (by rw [HXq.o.cell 2];rfl)
     have xg:∀ X:In (Up Wq),X.w.cell? ⟨w.heap.size,4,none⟩=some (.slice (some ⟨b,off,none⟩) B.gs.length k1):=fun X=>Up.cell X (by rw [HXq.o.cell 4];rfl)
     have y0:∀ X:In (Up Wq),X.w.cell? ⟨β,0,none⟩=some (.int .i64 B.gs[m].nu):=fun X=>Up.cell X (by rw [HYq.o.cell 0];rfl)
     have y1:∀ X:In (Up Wq),X.w.cell? ⟨β,1,none⟩=some (.string B.gs[m].tw):=fun X=>Up.cell X (by rw [HYq.o.cell 1];rfl)
     have y2:∀ X:In (Up Wq),X.w.cell? ⟨β,2,none⟩=some (.string B.gs[m].gb):=fun X=>Up.cell X (by rw [HYq.o.cell 2];rfl)
     have y3:∀ X:In (Up Wq),X.w.cell? ⟨β,3,none⟩=some (.slice va B.gs[m].vb.length vcap):=fun X=>Up.cell X (by rw [HYq.o.cell 3];rfl)
     have y4:∀ X:In (Up Wq),X.w.cell? ⟨β,4,none⟩=some (.string B.gs[m].kd):=fun X=>Up.cell X (by rw [HYq.o.cell 4];rfl)
     have y5:∀ X:In (Up Wq),X.w.cell? ⟨β,5,none⟩=some (.string B.gs[m].tm):=fun X=>Up.cell X (by rw [HYq.o.cell 5];rfl)
     have y6:∀ X:In (Up Wq),X.w.cell? ⟨β,6,none⟩=some (.string B.gs[m].pf):=fun X=>Up.cell X (by rw [HYq.o.cell 6];rfl)
     have xs:=fun (X:In (Up Wq))=>Zb4 X
     have sw0:=HZ.o.s0;have sw1:=HZ.o.s1
     by_cases h0:m=0
     . have hd0:decide (0 < m)=false:=by simp;omega
       have HRI:Hd (Zcx Zf3 B.gs m=true):=by unfold Hd;rw [h0];rfl
       clear h0 hc;refine Zal (Up Wq) (by kernel_rfl) (by kernel_rfl) (Zb_.drew) ?_
       cases h1:inB 1 B.given B.gs[m].nu with
       | false=>
        repeat (go_big_quiet_step (
         first
         | (go_at_call 46;rename_i X;exact (Zap _ _ _ _).mono fun _ _ h=>⟨h.1,X,h.2⟩)
         | (go_at_call 43;rename_i X;exact (Zad _ _ (by with_reducible assumption)).mono fun _ _ h=>⟨h.1,X,h.2⟩)
         | (go_at_call 44;rename_i X;exact (Zaz lo B.gs[m].ru _ _ (HVq.o.below X.h) HRZ.o).mono fun _ _ h=>⟨h.1,Up.next X h.2⟩)))
        refine wpQuiet_nil ?_;intro wn hw;obtain⟨X,hX⟩:=hw;have HWN:Below Wq.heap.size Wq wn:=by rw [hX];exact X.h
        clear hX X x0 xg xs xn y0 y1 y2 y3 y4 y5 y6;go_wp2;go_meet;exact⟨congrArg Value.bool (by rw [HQ.o,h1];rfl),HWN⟩
       | true=>
        cases h2:Zan B.gs[m].tw with
        | false=>
         repeat (go_big_quiet_step (
          first
          | (go_at_call 46;rename_i X;exact (Zap _ _ _ _).mono fun _ _ h=>⟨h.1,X,h.2⟩)
          | (go_at_call 43;rename_i X;exact (Zad _ _ (by with_reducible assumption)).mono fun _ _ h=>⟨h.1,X,h.2⟩)
          | (go_at_call 44;rename_i X;exact (Zaz lo B.gs[m].ru _ _ (HVq.o.below X.h) HRZ.o).mono fun _ _ h=>⟨h.1,Up.next X h.2⟩)))
         refine wpQuiet_nil ?_;intro wn hw;obtain⟨X,hX⟩:=hw;have HWN:Below Wq.heap.size Wq wn:=by rw [hX];exact X.h
         clear hX X x0 xg xs xn y0 y1 y2 y3 y4 y5 y6;go_wp2;go_meet;exact⟨congrArg Value.bool (by rw [HQ.o,h1,h2];rfl),HWN⟩
        | true=>
         cases hg:B.gs[m].gb.toList.isEmpty with
         | false=>
          cases h3:Zan B.gs[m].gb with
          | false=>
           have h5:Zag B.gs[m].gb=false:=by rw [HEN.o,hg,h3];rfl
           repeat (go_big_quiet_step (
            first
            | (go_at_call 46;rename_i X;exact (Zap _ _ _ _).mono fun _ _ h=>⟨h.1,X,h.2⟩)
            | (go_at_call 43;rename_i X;exact (Zad _ _ (by with_reducible assumption)).mono fun _ _ h=>⟨h.1,X,h.2⟩)
            | (go_at_call 44;rename_i X;exact (Zaz lo B.gs[m].ru _ _ (HVq.o.below X.h) HRZ.o).mono fun _ _ h=>⟨h.1,Up.next X h.2⟩)))
           refine wpQuiet_nil ?_;intro wn hw;obtain⟨X,hX⟩:=hw;have HWN:Below Wq.heap.size Wq wn:=by rw [hX];exact X.h
           clear hX X x0 xg xs xn y0 y1 y2 y3 y4 y5 y6;go_wp2;go_meet;exact⟨congrArg Value.bool (by rw [HQ.o,h1,h2,h5];rfl),HWN⟩
          | true=>
           have h5:Zag B.gs[m].gb=true:=by rw [HEN.o,hg,h3];rfl
           cases h4:ZaT B.gs[m].ru with
           | false=>
            repeat (go_big_quiet_step (
             first
             | (go_at_call 46;rename_i X;exact (Zap _ _ _ _).mono fun _ _ h=>⟨h.1,X,h.2⟩)
             | (go_at_call 43;rename_i X;exact (Zad _ _ (by with_reducible assumption)).mono fun _ _ h=>⟨h.1,X,h.2⟩)
             | (go_at_call 44;rename_i X;exact (Zaz lo B.gs[m].ru _ _ (HVq.o.below X.h) HRZ.o).mono fun _ _ h=>⟨h.1,Up.next X h.2⟩)))
            refine wpQuiet_nil ?_;intro wn hw;obtain⟨X,hX⟩:=hw;have HWN:Below Wq.heap.size Wq wn:=by rw [hX];exact X.h
            clear hX X x0 xg xs xn y0 y1 y2 y3 y4 y5 y6;go_wp2;go_meet;exact⟨congrArg Value.bool (by rw [HQ.o,h1,h2,h5,h4];rfl),HWN⟩
           | true=>
            repeat (go_big_quiet_step (
             first
             | (go_at_call 46;rename_i X;exact (Zap _ _ _ _).mono fun _ _ h=>⟨h.1,X,h.2⟩)
             | (go_at_call 43;rename_i X;exact (Zad _ _ (by with_reducible assumption)).mono fun _ _ h=>⟨h.1,X,h.2⟩)
             | (go_at_call 44;rename_i X;exact (Zaz lo B.gs[m].ru _ _ (HVq.o.below X.h) HRZ.o).mono fun _ _ h=>⟨h.1,Up.next X h.2⟩)))
            refine wpQuiet_nil ?_;intro wn hw;obtain⟨X,hX⟩:=hw;have HWN:Below Wq.heap.size Wq wn:=by rw [hX];exact X.h
            clear hX X x0 xg xs xn y0 y1 y2 y3 y4 y5 y6;go_wp2;go_meet;exact⟨congrArg Value.bool (by rw [HQ.o,h1,h2,h5,h4,HRI.o];rfl),HWN⟩
         | true=>
          have h5:Zag B.gs[m].gb=true:=by rw [HEN.o,hg];rfl
          cases h4:ZaT B.gs[m].ru with
          | false=>
           repeat (go_big_quiet_step (
            first
            | (go_at_call 46;rename_i X;exact (Zap _ _ _ _).mono fun _ _ h=>⟨h.1,X,h.2⟩)
            | (go_at_call 43;rename_i X;exact (Zad _ _ (by with_reducible assumption)).mono fun _ _ h=>⟨h.1,X,h.2⟩)
            | (go_at_call 44;rename_i X;exact (Zaz lo B.gs[m].ru _ _ (HVq.o.below X.h) HRZ.o).mono fun _ _ h=>⟨h.1,Up.next X h.2⟩)))
           refine wpQuiet_nil ?_;intro wn hw;obtain⟨X,hX⟩:=hw;have HWN:Below Wq.heap.size Wq wn:=by rw [hX];exact X.h
           clear hX X x0 xg xs xn y0 y1 y2 y3 y4 y5 y6;go_wp2;go_meet;exact⟨congrArg Value.bool (by rw [HQ.o,h1,h2,h5,h4];rfl),HWN⟩
          | true=>
           repeat (go_big_quiet_step (
            first
            | (go_at_call 46;rename_i X;exact (Zap _ _ _ _).mono fun _ _ h=>⟨h.1,X,h.2⟩)
            | (go_at_call 43;rename_i X;exact (Zad _ _ (by with_reducible assumption)).mono fun _ _ h=>⟨h.1,X,h.2⟩)
            | (go_at_call 44;rename_i X;exact (Zaz lo B.gs[m].ru _ _ (HVq.o.below X.h) HRZ.o).mono fun _ _ h=>⟨h.1,Up.next X h.2⟩)))
           refine wpQuiet_nil ?_;intro wn hw;obtain⟨X,hX⟩:=hw;have HWN:Below Wq.heap.size Wq wn:=by rw [hX];exact X.h
           clear hX X x0 xg xs xn y0 y1 y2 y3 y4 y5 y6;go_wp2;go_meet;exact⟨congrArg Value.bool (by rw [HQ.o,h1,h2,h5,h4,HRI.o];rfl),HWN⟩
     . have hd0:decide (0 < m)=true:=by simp;omega
       obtain⟨k,hkm⟩:∃ k,m=k+1:=⟨m - 1,by omega⟩
       have hltk:k < B.gs.length:=by omega
       obtain⟨hsk,vvk,hck,hvk⟩:=hc k hltk;have yk:∀ X:In (Up Wq),X.w.cell? ⟨b,off+k*7,none⟩=some (.int .i64 B.gs[k].nu):=fun X=>Up.cell X (hck.below HBw.o hbw).c0
       have HRI0:Hd (Zcx Zf3 B.gs m=decide (B.gs[k].nu < B.gs[m].nu)):=by
        subst hkm;unfold Hd;rw [Zdk hlt];unfold Zf3;exact decide_eq_decide.2 Zk2
       have e2:IntKind.i64.wrap ((m:Int) - 1)=k:=by rw [IntWalk.i64_left];unfold wrap64;omega
       have e3:wrap64 ((m:Int) - 1)=k:=by unfold wrap64;omega
       have e4:(m:Int) - 1=k:=by omega
       have HKM:=Zab hkm;clear h0 hc hsk hck hvk hkm;refine Zal (Up Wq) (by kernel_rfl) (by kernel_rfl) (Zb_.drew) ?_
       cases h1:inB 1 B.given B.gs[m].nu with
       | false=>
        repeat (go_big_quiet_step (
         first
         | (go_at_call 46;rename_i X;exact (Zap _ _ _ _).mono fun _ _ h=>⟨h.1,X,h.2⟩)
         | (go_at_call 43;rename_i X;exact (Zad _ _ (by with_reducible assumption)).mono fun _ _ h=>⟨h.1,X,h.2⟩)
         | (go_at_call 44;rename_i X;exact (Zaz lo B.gs[m].ru _ _ (HVq.o.below X.h) HRZ.o).mono fun _ _ h=>⟨h.1,Up.next X h.2⟩)))
        refine wpQuiet_nil ?_;intro wn hw;obtain⟨X,hX⟩:=hw;have HWN:Below Wq.heap.size Wq wn:=by rw [hX];exact X.h
        clear hX X x0 xg xs xn y0 y1 y2 y3 y4 y5 y6;go_wp2;go_meet;exact⟨congrArg Value.bool (by rw [HQ.o,h1];rfl),HWN⟩
       | true=>
        by_cases hnu:B.gs[k].nu < B.gs[m].nu
        . have HRI:Hd (Zcx Zf3 B.gs m=true):=HRI0.o.trans (decide_eq_true hnu)
          have hd1:decide (B.gs[m].nu<=B.gs[k].nu)=false:=by simp;omega
          cases h2:Zan B.gs[m].tw with
          | false=>
           repeat (go_big_quiet_step (
            first
            | (go_at_call 46;rename_i X;exact (Zap _ _ _ _).mono fun _ _ h=>⟨h.1,X,h.2⟩)
            | (go_at_call 43;rename_i X;exact (Zad _ _ (by with_reducible assumption)).mono fun _ _ h=>⟨h.1,X,h.2⟩)
            | (go_at_call 44;rename_i X;exact (Zaz lo B.gs[m].ru _ _ (HVq.o.below X.h) HRZ.o).mono fun _ _ h=>⟨h.1,Up.next X h.2⟩)))
           refine wpQuiet_nil ?_;intro wn hw;obtain⟨X,hX⟩:=hw;have HWN:Below Wq.heap.size Wq wn:=by rw [hX];exact X.h
           clear hX X x0 xg xs xn y0 y1 y2 y3 y4 y5 y6;go_wp2;go_meet;exact⟨congrArg Value.bool (by rw [HQ.o,h1,h2];rfl),HWN⟩
          | true=>
           cases hg:B.gs[m].gb.toList.isEmpty with
           | false=>
            cases h3:Zan B.gs[m].gb with
            | false=>
             have h5:Zag B.gs[m].gb=false:=by rw [HEN.o,hg,h3];rfl
             repeat (go_big_quiet_step (
              first
              | (go_at_call 46;rename_i X;exact (Zap _ _ _ _).mono fun _ _ h=>⟨h.1,X,h.2⟩)
              | (go_at_call 43;rename_i X;exact (Zad _ _ (by with_reducible assumption)).mono fun _ _ h=>⟨h.1,X,h.2⟩)
              | (go_at_call 44;rename_i X;exact (Zaz lo B.gs[m].ru _ _ (HVq.o.below X.h) HRZ.o).mono fun _ _ h=>⟨h.1,Up.next X h.2⟩)))
             refine wpQuiet_nil ?_;intro wn hw;obtain⟨X,hX⟩:=hw;have HWN:Below Wq.heap.size Wq wn:=by rw [hX];exact X.h
             clear hX X x0 xg xs xn y0 y1 y2 y3 y4 y5 y6;go_wp2;go_meet;exact⟨congrArg Value.bool (by rw [HQ.o,h1,h2,h5];rfl),HWN⟩
            | true=>
             have h5:Zag B.gs[m].gb=true:=by rw [HEN.o,hg,h3];rfl
             cases h4:ZaT B.gs[m].ru with
             | false=>
              repeat (go_big_quiet_step (
               first
               | (go_at_call 46;rename_i X;exact (Zap _ _ _ _).mono fun _ _ h=>⟨h.1,X,h.2⟩)
               | (go_at_call 43;rename_i X;exact (Zad _ _ (by with_reducible assumption)).mono fun _ _ h=>⟨h.1,X,h.2⟩)
               | (go_at_call 44;rename_i X;exact (Zaz lo B.gs[m].ru _ _ (HVq.o.below X.h) HRZ.o).mono fun _ _ h=>⟨h.1,Up.next X h.2⟩)))
              refine wpQuiet_nil ?_;intro wn hw;obtain⟨X,hX⟩:=hw;have HWN:Below Wq.heap.size Wq wn:=by rw [hX];exact X.h
              clear hX X x0 xg xs xn y0 y1 y2 y3 y4 y5 y6;go_wp2;go_meet;exact⟨congrArg Value.bool (by rw [HQ.o,h1,h2,h5,h4];rfl),HWN⟩
             | true=>
              repeat (go_big_quiet_step (
               first
               | (go_at_call 46;rename_i X;exact (Zap _ _ _ _).mono fun _ _ h=>⟨h.1,X,h.2⟩)
               | (go_at_call 43;rename_i X;exact (Zad _ _ (by with_reducible assumption)).mono fun _ _ h=>⟨h.1,X,h.2⟩)
               | (go_at_call 44;rename_i X;exact (Zaz lo B.gs[m].ru _ _ (HVq.o.below X.h) HRZ.o).mono fun _ _ h=>⟨h.1,Up.next X h.2⟩)))
              refine wpQuiet_nil ?_;intro wn hw;obtain⟨X,hX⟩:=hw;have HWN:Below Wq.heap.size Wq wn:=by rw [hX];exact X.h
              clear hX X x0 xg xs xn y0 y1 y2 y3 y4 y5 y6;go_wp2;go_meet;exact⟨congrArg Value.bool (by rw [HQ.o,h1,h2,h5,h4,HRI.o];rfl),HWN⟩
           | true=>
            have h5:Zag B.gs[m].gb=true:=by rw [HEN.o,hg];rfl
            cases h4:ZaT B.gs[m].ru with
            | false=>
             repeat (go_big_quiet_step (
              first
              | (go_at_call 46;rename_i X;exact (Zap _ _ _ _).mono fun _ _ h=>⟨h.1,X,h.2⟩)
              | (go_at_call 43;rename_i X;exact (Zad _ _ (by with_reducible assumption)).mono fun _ _ h=>⟨h.1,X,h.2⟩)
              | (go_at_call 44;rename_i X;exact (Zaz lo B.gs[m].ru _ _ (HVq.o.below X.h) HRZ.o).mono fun _ _ h=>⟨h.1,Up.next X h.2⟩)))
             refine wpQuiet_nil ?_;intro wn hw;obtain⟨X,hX⟩:=hw;have HWN:Below Wq.heap.size Wq wn:=by rw [hX];exact X.h
             clear hX X x0 xg xs xn y0 y1 y2 y3 y4 y5 y6;go_wp2;go_meet;exact⟨congrArg Value.bool (by rw [HQ.o,h1,h2,h5,h4];rfl),HWN⟩
            | true=>
             repeat (go_big_quiet_step (
              first
              | (go_at_call 46;rename_i X;exact (Zap _ _ _ _).mono fun _ _ h=>⟨h.1,X,h.2⟩)
              | (go_at_call 43;rename_i X;exact (Zad _ _ (by with_reducible assumption)).mono fun _ _ h=>⟨h.1,X,h.2⟩)
              | (go_at_call 44;rename_i X;exact (Zaz lo B.gs[m].ru _ _ (HVq.o.below X.h) HRZ.o).mono fun _ _ h=>⟨h.1,Up.next X h.2⟩)))
             refine wpQuiet_nil ?_;intro wn hw;obtain⟨X,hX⟩:=hw;have HWN:Below Wq.heap.size Wq wn:=by rw [hX];exact X.h
             clear hX X x0 xg xs xn y0 y1 y2 y3 y4 y5 y6;go_wp2;go_meet;exact⟨congrArg Value.bool (by rw [HQ.o,h1,h2,h5,h4,HRI.o];rfl),HWN⟩
        . have HRF:Hd (Zcx Zf3 B.gs m=false):=HRI0.o.trans (decide_eq_false hnu)
          have hd1:decide (B.gs[m].nu<=B.gs[k].nu)=true:=by simp;omega
          repeat (go_big_quiet_step (
           first
           | (go_at_call 46;rename_i X;exact (Zap _ _ _ _).mono fun _ _ h=>⟨h.1,X,h.2⟩)
           | (go_at_call 43;rename_i X;exact (Zad _ _ (by with_reducible assumption)).mono fun _ _ h=>⟨h.1,X,h.2⟩)
           | (go_at_call 44;rename_i X;exact (Zaz lo B.gs[m].ru _ _ (HVq.o.below X.h) HRZ.o).mono fun _ _ h=>⟨h.1,Up.next X h.2⟩)))
          refine wpQuiet_nil ?_;intro wn hw;obtain⟨X,hX⟩:=hw;have HWN:Below Wq.heap.size Wq wn:=by rw [hX];exact X.h
          clear hX X x0 xg xs xn y0 y1 y2 y3 y4 y5 y6;go_wp2;go_meet;exact⟨congrArg Value.bool (by rw [HRF.o,Bool.and_false];rfl),HWN⟩
    case rest=>
     obtain⟨hc65,hwn⟩:=hcut;have HWN:=Zab hwn;have HWB:Hd (Zw_ w wc):=HBw.o.trans (HWN.o.mono HBw.o.size);clear hwn hc
     cases hgn:gnB B.given B.gs[m] with
     | false=>
      have HN:Hd (ZaX B=false):=ZlZ hlt hgn;rw [hgn] at hc65;subst hc65;go_wp2;go_ret;exact⟨Zaa HN.o.symm,HWB.o⟩
     | true=>
      cases hri:Zcx Zf3 B.gs m with
      | false=>
       have HN:Hd (ZaX B=false):=Zl0 hlt hri;rw [hgn,hri] at hc65;subst hc65;go_wp2;go_ret;exact⟨Zaa HN.o.symm,HWB.o⟩
      | true=>
       have HT:=Zab hgn;have HR:=Zab hri;rw [hgn,hri] at hc65;subst hc65;go_wp2;go_roundw
       case rel=>exact⟨m+1,by go_num,by omega,HWB.o,HXq.o.on HWN.o,Zbr HA.o hlt HT.o,fun j hj=>by
                  by_cases e:j=m
                  . subst e;exact HR.o
                  . exact HS.o j (by omega)⟩
       . simp [intOf];omega
  . have HT:Hd (ZaX B=true):=Zl1 hl (fun j hj=>HA.o j hj (by omega)) (fun j hj=>HS.o j (by omega))
    go_wp2;go_ret;exact⟨Zaa HT.o.symm,HBr.o⟩
end
end Go.Proofs.YtbdhbihhgfpnnaaGreat
