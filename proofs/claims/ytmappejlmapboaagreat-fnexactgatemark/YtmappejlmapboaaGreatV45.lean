import Derived.Test.YtmappejlmapboaaGreatV40
set_option maxHeartbeats 16000000
set_option maxRecDepth 100000
open Go.Proofs.Tryz
namespace Go.Proofs.YtmappejlmapboaaGreat
open Go.RowKit Go.Deep Go.Maps
def ZiC (Ps:List Pu):List Tri:=Ps.map fun p=>(p.tm,p.re,p.am)
theorem Zpc (Ps:List Pu) (t r:Zy_):Zkc (ZiC Ps) t r=Ze0 Ps t r:=by
 unfold Zkc ZiC Ze0;rw [List.map_map]
 congr 1
 refine List.map_congr_left fun p _=>?_
 unfold Zla;simp only [Function.comp]
 by_cases h:p.tm=t/\p.re=r
 . obtain⟨h1,h2⟩:=h
   rw [if_pos ⟨h1,h2⟩,if_pos (by rw [Bool.and_eq_true];exact⟨ZaF.2 h1,ZaF.2 h2⟩)]
 . rw [if_neg h,if_neg (fun hb=>h (by rw [Bool.and_eq_true] at hb;exact⟨ZaF.1 hb.1,ZaF.1 hb.2⟩))]
theorem Znv (lo:Nat) (v:Value) (Ps:List Pu) (w:World) (hv:ZbV lo w v Ps) (hn:Ps.length<=1048576) :
 Calls prog 223 #[v] w
  fun e w'=>e=.returned (.map (some w.heap.size))/\Zw_ w w'/\∃ D:DataW Unit,w'.ownsMap prog 251 (plainElem prog 3) w.heap.size Ps.length D/\Ze7 (ZiC Ps) D:=by
 have HV:=Zab hv;obtain⟨a,cap,rfl⟩:=hv.form;clear hv;have hmm:=@run_makeMap prog;go_enter func223,ntmps223;go_wp2;clear hmm
 go_loopw [9] (fun i wr=>∃ k:Nat,i=.int .i64 k/\k<=Ps.length/\Zw_ w wr/\∃ D:DataW Unit,wr.ownsMap prog 251 (plainElem prog 3) w.heap.size k D/\Ze7 (ZiC (Ps.take k)) D) (fun i _=>Ps.length - (intOf i).toNat)
 case atStart=>exact⟨0,rfl,Nat.zero_le _,Zac _ _,.map [],World.ownsMap_made _ _ _ _,Ze7.start⟩
 case round=>
  obtain⟨k,rfl,hk,hb,D,ho,hsum⟩:=hrel;have HB:=Zab hb;have HSUM:=Zab hsum;clear hb hsum
  by_cases hlt:k < Ps.length
  . obtain⟨b,off,rfl,hbw,-,hc⟩:=HV.o.full' (by omega)
    obtain⟨hs,hcell⟩:=hc k hlt;obtain⟨c0,c1,c2,c3,c4⟩:=hcell.below HB.o hbw;have HZ:=Zab hs;have HT:Hd (ZiC (Ps.take (k+1))=ZiC (Ps.take k) ++ [(Ps[k].tm,Ps[k].re,Ps[k].am)]):=by unfold Hd ZiC;rw [List.take_succ_eq_append_getElem hlt,List.map_append];rfl
    have hol:=ho.lt
    obtain⟨Wb,hWb,HYb,HBb,HOb⟩:∃ Wb,Wb=wr.alloc (.cells #[.string Ps[k].dr,.string Ps[k].tm,.string Ps[k].re,.int .i64 Ps[k].am,.int .i64 Ps[k].un] 144)/\Hd (Box Wb wr.heap.size #[.string Ps[k].dr,.string Ps[k].tm,.string Ps[k].re,.int .i64 Ps[k].am,.int .i64 Ps[k].un])/\Hd (Zw_ w Wb)/\Hd (Wb.ownsMap prog 251 (plainElem prog 3) w.heap.size k D):=by
     refine⟨_,rfl,?_,?_,?_⟩
     . exact Box.new _ _ _ _ rfl
     . exact HB.o.trans ((Zac _ _).mono HB.o.size)
     . exact ho.alloc _
    obtain⟨c,v0,st,w1,hent,hat,hwc,hl0,hl1,hg1,hs1,hst⟩:=Zi6 ZfT underlying218 underlying3 Zh9 HOb.o.drew (by unfold maxLen;omega) (ZdZ.mk' hs.s1 hs.s2);have ew:IntKind.i64.wrap (c+Ps[k].am)=wrap64 (c+Ps[k].am):=IntWalk.i64_left _;obtain⟨w2,hrun2,ho2,hg2,hs2⟩:=hst (IntKind.i64.wrap (c+Ps[k].am)) (by rw [ew];exact wrap64_wf _);rw [ew] at ho2;have HO2:=Zab ho2;have HG2:=Zab hg2;have HAT:=Zab hat;have y1:=HYb.o.cell 1;have y2:=HYb.o.cell 2;have y3:=HYb.o.cell 3;simp at y1 y2 y3;simp only [goInt] at hent hrun2;clear ew hst ho2 hg2 hg1 hat ho hc hcell hs hs1 hs2 hwc;go_wp2;rw [<- hWb];clear hWb
    go_region
    all_goals go_wp2
    all_goals go_roundw
    all_goals first
     | (case rel=>exact⟨k+1,by go_num,by omega,Zcn HBb.o.drew HG2.o Zl_,_,HO2.o,by rw [HT.o];exact HSUM.o.step HZ.o.s1 HZ.o.s2 HAT.o _⟩)
     | (case measure=>simp [intOf];omega)
  . have he:k=Ps.length:=by omega
    subst he;have HT:Hd (ZiC (Ps.take Ps.length)=ZiC Ps):=by unfold Hd;rw [List.take_length]
    have HO:=Zab ho;clear ho;go_wp2;go_ret;exact⟨rfl,HB.o,D,HO.o,HT.o ▸ HSUM.o⟩
def ZeJ (Ss:List Sh) (Ts:List Tm) (B:Bk) (g:Le):Bool:=decide (wrap64 (Zc2 Ss Ts B.os g.tm g.re+Ze0 B.ps g.tm g.re+g.fr)=g.mo)
def ZjM (Ss:List Sh) (Ts:List Tm) (B:Bk):Bool:=B.ls.all (ZeJ Ss Ts B)
section
variable (lo:Nat) (sv mv tv ov gv lv pv:Value) (Ss:List Sh) (Ms:List Md) (Ts:List Tm) (B:Bk) (w:World)
theorem Zjj (hl:Zbw lo w sv mv tv Ss Ms Ts) (h:ZaX lo w ov gv lv pv B) (hn:Zbj B) :
 Calls prog 185 #[.agg #[sv,mv,tv],.agg #[.int .i64 B.now,.int .i64 B.tick,.int .i64 B.given,ov,gv,lv,pv]] w fun e w'=>e=.returned (.bool (ZjM Ss Ts B))/\Zw_ w w':=by
 have HL:=Zab hl;have HK:=Zab h;have HTR:=Zab (Zrl hl.shs h.obs.sizes);have hpl:B.ps.length<=1048576:=hn.2.2.2.1;have hll:B.ls.length<=1048576:=hn.2.2.1.1;have HOS:Hd (Zbv B.os):=hn.1;obtain⟨sa,sc,rfl⟩:=hl.shs.form;obtain⟨ma,mc,rfl⟩:=hl.mds.form;obtain⟨ta,tc,rfl⟩:=hl.tms.form;obtain⟨a0,k0,rfl⟩:=h.obs.form;obtain⟨a1,k1,rfl⟩:=h.grs.form;obtain⟨a2,k2,rfl⟩:=h.les.form;obtain⟨a3,k3,rfl⟩:=h.pus.form;clear h hl hn;go_enter func185,ntmps185;go_wp2;generalize hWa:(World.alloc (w.alloc _) _)=Wa;have HB:Hd (Zw_ w Wa):=by rw [<- hWa];exact (Zac w _).alloc (by simp) _
 have HX:Hd (Box Wa w.heap.size #[.slice sa Ss.length sc,.slice ma Ms.length mc,.slice ta Ts.length tc]):=by rw [<- hWa];exact (Box.new _ _ _ _ rfl).on (Zac _ _)
 have HY:Hd (Box Wa (w.heap.size+1) #[.int .i64 B.now,.int .i64 B.tick,.int .i64 B.given,.slice a0 B.os.length k0,.slice a1 B.gs.length k1,.slice a2 B.ls.length k2,.slice a3 B.ps.length k3]):=by rw [<- hWa];exact Box.new _ _ _ _ (by simp)
 clear hWa;have HD:Hd (Zw_ w Wa.drew):=HB.o.drew
 go_region_held3 (Zbp Wa w.heap.size #[.slice sa Ss.length sc,.slice ma Ms.length mc,.slice ta Ts.length tc] (w.heap.size+1) #[.int .i64 B.now,.int .i64 B.tick,.int .i64 B.given,.slice a0 B.os.length k0,.slice a1 B.gs.length k1,.slice a2 B.ls.length k2,.slice a3 B.ps.length k3])
  (first
    | (with_reducible exact Zbp.drew HX.o HY.o)
    | (with_reducible exact Zbp.on (by assumption) (by assumption)))
  (first
    | (go_at_call 159
       refine (ZkW lo _ _ Ss B.os _ (HL.o.below HD.o).shs (HK.o.below HD.o).obs HOS.o).mono ?_;rintro e w1 ⟨rfl,hb1,D,ho,hsum⟩;have HC1:Hd (Zw_ w w1):=HD.o.trans (hb1.mono HD.o.size);have HOW:Hd (w1.ownsMap prog 251 (plainElem prog 3) Wa.heap.size (Zcj Ss B.os).length D):=ho;have HSU:=Zab hsum;clear ho hsum)
    | (go_at_call 223
       refine (Znv lo _ B.ps _ (HK.o.below HC1.o).pus hpl).mono ?_;rintro e w2 ⟨rfl,hb2,D2,ho2,hsum2⟩;have HC2:Hd (Zw_ w w2):=HC1.o.trans (hb2.mono HC1.o.size);have HOW2:=Zab (HOW.o.kept (ZaI hb2) (by simp));have HOD:=Zab ho2;have HSD:=Zab hsum2;clear ho2 hsum2))
 have HCa:Hd (Below Wa.heap.size Wa w2):=(Zb_.drew.trans hb1).trans (hb2.mono ((Zb_.drew.trans hb1:Below Wa.heap.size Wa w1)).size);have HX2:=Zab (HX.o.on HCa.o);have HY2:=Zab (HY.o.on HCa.o);clear HCa hb1 hb2 HOW HC1 HD HB HX HY;generalize Wa.heap.size=ba at*;generalize w1.heap.size=bd at*;have y5:=HY2.o.cell 5;simp at y5;go_wp2;clear y5
 go_loopw [21] (fun i wr=>∃ k:Nat,i=.int .i64 k/\k<=B.ls.length/\Zw_ w wr/\Box wr w.heap.size #[.slice sa Ss.length sc,.slice ma Ms.length mc,.slice ta Ts.length tc]/\wr.ownsMap prog 251 (plainElem prog 3) ba (Zcj Ss B.os).length D/\wr.ownsMap prog 251 (plainElem prog 3) bd B.ps.length D2/\∀ j (h:j < B.ls.length),j < k->ZeJ Ss Ts B B.ls[j]=true) (fun i _=>B.ls.length - (intOf i).toNat)
 case atStart=>exact⟨0,rfl,Nat.zero_le _,HC2.o,HX2.o,HOW2.o,HOD.o,fun j _ h=>by omega⟩
 case round=>
  obtain⟨k,rfl,hk,hb,hx,hoa,hod,hall⟩:=hrel;have HBr:=Zab hb;have HXr:=Zab hx;have HOA:=Zab hoa;have HODr:=Zab hod;have HA:=Zab hall;clear hb hx hoa hod hall
  by_cases hlt:k < B.ls.length
  . obtain⟨b,off,rfl,hbw,-,hc⟩:=HK.o.les.full' (by omega)
    obtain⟨hs,hcell⟩:=hc k hlt;obtain⟨c0,c1,c2,c3⟩:=hcell.below HBr.o hbw;have HZ:=Zab hs;have HQ:Hd (ZeJ Ss Ts B B.ls[k]=decide (wrap64 (Zc2 Ss Ts B.os B.ls[k].tm B.ls[k].re+Ze0 B.ps B.ls[k].tm B.ls[k].re+B.ls[k].fr)=B.ls[k].mo)):=rfl;have HUZ:=Zab (ZmY Ss Ts B.ls[k].tm B.ls[k].re B.os);have x2:=HXr.o.cell 2;simp at x2;have xlt:=HXr.o.lt;have x2:∀ o,(wr.alloc o).cell? ⟨w.heap.size,2,none⟩=some (.slice ta Ts.length tc):=fun o=>(Zaj _ _ _ _ xlt).trans x2
    clear hc hcell hs xlt;go_wp2_with fail;generalize hWb:wr.alloc _=Wb;have HBb:Hd (Zw_ w Wb):=by rw [<- hWb];exact HBr.o.trans ((Zac _ _).mono HBr.o.size)
    have HXb:Hd (Box Wb w.heap.size #[.slice sa Ss.length sc,.slice ma Ms.length mc,.slice ta Ts.length tc]):=by rw [<- hWb];exact HXr.o.on (Zac _ _)
    have HYb:Hd (Box Wb wr.heap.size #[.string B.ls[k].tm,.string B.ls[k].re,.int .i64 B.ls[k].mo,.int .i64 B.ls[k].fr]):=by rw [<- hWb];exact Box.new _ _ _ _ rfl
    have HOA1:Hd (Wb.ownsMap prog 251 (plainElem prog 3) ba (Zcj Ss B.os).length D):=by rw [<- hWb];exact HOA.o.alloc _
    have HOD1:Hd (Wb.ownsMap prog 251 (plainElem prog 3) bd B.ps.length D2):=by rw [<- hWb];exact HODr.o.alloc _
    clear hWb x2 HOA HODr;refine (ZiO lo _ Ts _ _ _ _ (HL.o.below HBb.o).tms HOA1.o HSU.o HTR.o).mono ?_;rintro e w3 ⟨rfl,hb3⟩;have HB3:Hd (Zw_ w w3):=HBb.o.trans (hb3.mono HBb.o.size);have HX3:=Zab (HXb.o.on hb3);have HY3:=Zab (HYb.o.on hb3);have HOA3:=Zab (HOA1.o.kept (ZaI hb3) (by simp));have HOD3:=Zab (HOD1.o.kept (ZaI hb3) (by simp))
    have hlk:∀ n,(Instr.lookup 218 (.map (some bd)) (.agg #[.string B.ls[k].tm,.string B.ls[k].re]) false).run prog (w3.drewN n)=.ok (.int .i64 (wrap64 (Ze0 B.ps B.ls[k].tm B.ls[k].re))) (w3.drewN n):=fun n=>by
     obtain⟨c,hl,hat,-⟩:=(ZcV HOD3.o (w':=w3.drewN n) (by simp)).lookup_int Zh8 underlying218 underlying3 (Zh9 _) (ZdZ.mk' HZ.o.s0 HZ.o.s1);rw [HSD.o.sums _ _ HZ.o.s0 HZ.o.s1,Zpc] at hat;injection hat with hat
     injection hat with _ hat
     rw [hat];exact hl
    have y0:=HY3.o.cell 0;have y1:=HY3.o.cell 1;have y2:=HY3.o.cell 2;have y3:=HY3.o.cell 3;simp at y0 y1 y2 y3;clear hb3 HBb HXb HYb HOA1 HOD1;have HV:Hd (wrap64 (wrap64 (wrap64 ((Zcj Ss B.os).map (Zg7 Ts B.ls[k].tm B.ls[k].re)).sum+wrap64 (Ze0 B.ps B.ls[k].tm B.ls[k].re))+B.ls[k].fr)=wrap64 (Zc2 Ss Ts B.os B.ls[k].tm B.ls[k].re+Ze0 B.ps B.ls[k].tm B.ls[k].re+B.ls[k].fr)):=by unfold Hd;rw [Zhb,Zfu,HUZ.o]
    go_wp2
    go_quiet (fail)
    have HBn:Hd (Zw_ w (w3.drewN nq)):=below_drewN HB3.o _;have HXn:=Zab (HX3.o.on (below_drewN Zb_ nq));have HOAn:=Zab (ZcV HOA3.o (w':=w3.drewN nq) (by simp));have HODn:=Zab (ZcV HOD3.o (w':=w3.drewN nq) (by simp));clear hlk
    by_cases hq:wrap64 (wrap64 (wrap64 ((Zcj Ss B.os).map (Zg7 Ts B.ls[k].tm B.ls[k].re)).sum+wrap64 (Ze0 B.ps B.ls[k].tm B.ls[k].re))+B.ls[k].fr)=B.ls[k].mo
    . have HT:Hd (ZeJ Ss Ts B B.ls[k]=true):=by unfold Hd;rw [HQ.o,<- HV.o];exact decide_eq_true hq
      have hd:(wrap64 (wrap64 (wrap64 ((Zcj Ss B.os).map (Zg7 Ts B.ls[k].tm B.ls[k].re)).sum+wrap64 (Ze0 B.ps B.ls[k].tm B.ls[k].re))+B.ls[k].fr) != B.ls[k].mo)=false:=by simp [hq]
      clear hq;go_wp2;go_roundw
      . exact⟨k+1,by go_num,by omega,HBn.o,HXn.o,HOAn.o,HODn.o,Zc9 HA.o hlt HT.o⟩
      . simp [intOf];omega
    . have HN:Hd (ZjM Ss Ts B=false):=Zcr hlt (by rw [HQ.o,<- HV.o];exact decide_eq_false hq)
      have hd:(wrap64 (wrap64 (wrap64 ((Zcj Ss B.os).map (Zg7 Ts B.ls[k].tm B.ls[k].re)).sum+wrap64 (Ze0 B.ps B.ls[k].tm B.ls[k].re))+B.ls[k].fr) != B.ls[k].mo)=true:=by simp [hq]
      clear hq;go_wp2;go_ret;exact⟨Zaa HN.o.symm,HBn.o⟩
  . have HT:Hd (ZjM Ss Ts B=true):=Zd0 (fun i hi=>HA.o i hi (by omega))
    go_wp2;go_ret;exact⟨Zaa HT.o.symm,HBr.o⟩
end
end Go.Proofs.YtmappejlmapboaaGreat
