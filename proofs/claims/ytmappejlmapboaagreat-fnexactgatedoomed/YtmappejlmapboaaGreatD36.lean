import Derived.Test.YtmappejlmapboaaGreatD35
set_option maxHeartbeats 16000000
set_option maxRecDepth 100000
open Go.Proofs.Tryz
namespace Go.Proofs.YtmappejlmapboaaGreat
open Go.RowKit Go.Deep
theorem ZhZ (lo:Nat) (sv mv tv ov gv lv pv:Value) (Ss:List Sh) (Ms:List Md) (Ts:List Tm) (B:Bk) (i j:Nat) (ro:Int) (w:World) (hl:ZbH lo w sv mv tv Ss Ms Ts) (h:ZaU lo w ov gv lv pv B) (hs:ZfX Ss B.os) (hi:i < B.os.length) (hj:j < B.os.length) :
 Calls prog 72 #[.agg #[sv,mv,tv],.agg #[.int .i64 B.now,.int .i64 B.tick,.int .i64 B.given,ov,gv,lv,pv],.int .i64 i,.int .i64 j,.int .i64 ro] w fun e w'=>e=.returned (.bool (Zcz Ss B.os[i] ro B.os[j].kd B.os[j].nm))/\Zw_ w w':=by
 have HL:=Zab hl;have HK:=Zab h;obtain⟨x,hx,hxl⟩:=hs i hi;have HXS:=Zab hx;have HLEN:=Zab hxl;have HI:Hd (Zcz Ss B.os[i] ro B.os[j].kd B.os[j].nm=ZdZ x.fields B.os[i].vs ro B.os[j].kd B.os[j].nm x.fields.length):=by unfold Hd Zcz;rw [hx]
 obtain⟨sa,sc,rfl⟩:=hl.shs.form;obtain⟨ma,mc,rfl⟩:=hl.mds.form;obtain⟨ta,tc,rfl⟩:=hl.tms.form;obtain⟨a0,k0,rfl⟩:=h.obs.form;obtain⟨a1,k1,rfl⟩:=h.grs.form;obtain⟨a2,k2,rfl⟩:=h.les.form;obtain⟨a3,k3,rfl⟩:=h.pus.form;obtain⟨b,off,rfl,hbw,-,hc⟩:=h.obs.full' (by omega);obtain⟨hsz,vv0,vv1,hcell,hv0,hv1⟩:=hc i hi;obtain⟨_,jv0,jv1,hcj,_,_⟩:=hc j hj;have HC:=Zab hcell;have HCJ:=Zab hcj;have HV:=Zab hv0.at;have HH:=Zab hv1.at;obtain⟨va,vcap,rfl⟩:=hv0.at.form';obtain⟨ha,hcap,rfl⟩:=hv1.at.form';have hbd:=h.obs.max;unfold maxLen at hbd;clear hl h hs hx hxl hc hsz hcell hcj hv0 hv1;have i0:(0:Int)<=(i:Int):=by omega
 have i1:(i:Int) < (B.os.length:Int):=by omega
 have j0:(0:Int)<=(j:Int):=by omega
 have j1:(j:Int) < (B.os.length:Int):=by omega
 generalize hoi:B.os[i]=o at*;generalize hoj:B.os[j]=t at*;clear hoi hoj;obtain⟨c0,c1,c2,c3,c4,c5,c6⟩:=HC.o;go_enter func72,ntmps72
 go_upto_region 2 with fail
 generalize hWa:World.alloc (World.alloc (World.alloc w _) _) _=Wa;have HB:Hd (Zw_ w Wa):=by unfold Hd;rw [<- hWa];exact ((Zac w _).alloc (by simp) _).alloc (by simp;omega) _
 have FL:Hd (Box Wa w.heap.size #[.slice sa Ss.length sc,.slice ma Ms.length mc,.slice ta Ts.length tc]):=by unfold Hd;rw [<- hWa];exact ((Box.new _ _ _ _ rfl).on (Zac _ _)).on (Zac _ _)
 have FB:Hd (Box Wa (w.heap.size+1) #[.int .i64 B.now,.int .i64 B.tick,.int .i64 B.given,.slice (some ⟨b,off,none⟩) B.os.length k0,.slice a1 B.gs.length k1,.slice a2 B.ls.length k2,.slice a3 B.ps.length k3]):=by unfold Hd;rw [<- hWa];exact (Box.new _ _ _ _ (by simp)).on (Zac _ _)
 have FO:Hd (Box Wa (w.heap.size+1+1) #[.string o.kd,.string o.nm,.string o.tm,.slice va o.vs.length vcap,.bool o.en,.slice ha o.hs.length hcap,.int .i64 o.ver]):=by unfold Hd;rw [<- hWa];exact Box.new _ _ _ _ (by simp)
 clear hWa c0 c1 c2 c3 c4 c5 c6;have g0:=FL.o.cell;have g2:=FO.o.cell;go_wp2_with fail;clear g0 g2;refine (Zcr o.kd o.nm o.tm _ _ _ o.en o.ver o.vs o.hs Ss _ lo w HL.o.shs HB.o (HV.o.below HB.o) (HH.o.below HB.o)).mono ?_;rintro e w1 ⟨hb,hq⟩
 rcases hq with ⟨y,fv,hy,hyl,rfl,hF⟩ | ⟨hno,-⟩
 case inr=>exact absurd HLEN.o (hno x HXS.o)
 have e1:y=x:=by have:=HXS.o;rw [hy] at this;exact Option.some.inj this
 subst e1;have HF:=Zab hF;obtain⟨fa,fcap,rfl⟩:=hF.form
 have hfm:y.fields.length<=maxLen:=by
  rcases hF with ⟨_,_,_,h⟩ | ⟨_,_,_,_,_,h,_⟩
  . rw [h];simp
  . exact h
 unfold maxLen at hfm;replace HB:Hd (Zw_ w w1):=bt HB.o hb;replace FB:=Zab (FB.o.on hb);replace FO:=Zab (FO.o.on hb);clear hb hF hy hyl FL;go_wp2
 go_loopw [14] (fun q wr=>∃ m:Nat,q=.int .i64 m/\m<=y.fields.length/\Zw_ w wr/\Box wr (w.heap.size+1) #[.int .i64 B.now,.int .i64 B.tick,.int .i64 B.given,.slice (some ⟨b,off,none⟩) B.os.length k0,.slice a1 B.gs.length k1,.slice a2 B.ls.length k2,.slice a3 B.ps.length k3]/\Box wr (w.heap.size+1+1) #[.string o.kd,.string o.nm,.string o.tm,.slice va o.vs.length vcap,.bool o.en,.slice ha o.hs.length hcap,.int .i64 o.ver]/\ZdZ y.fields o.vs ro t.kd t.nm m=false) (fun q _=>y.fields.length - (intOf q).toNat)
 case atStart=>exact⟨0,rfl,Nat.zero_le _,HB.o,FB.o,FO.o,rfl⟩
 case round=>
  obtain⟨m,rfl,hm,hb,hx,hy,hall⟩:=hrel;have HBr:=Zab hb;have HXr:=Zab hx;have HYr:=Zab hy;have HA:=Zab hall;clear hb hx hy hall HB FB FO
  by_cases hlt:m < y.fields.length
  . have hlv:m < o.vs.length:=by have:=HLEN.o;omega
    obtain⟨fb,foff,rfl,hfb,hfc⟩:=HF.o.full' (by omega);obtain⟨hfs,wv,hfcell,hst⟩:=hfc m hlt;obtain⟨vb,voff,rfl,hvb,hvc,hvs⟩:=HV.o.spread (by omega);obtain⟨wa,wn,wcap,rfl⟩:=hst.form;obtain⟨f0,f1,f2,f3,f4,f5,f6,f7,f8,f9,f10⟩:=hfcell.below HBr.o hfb;have HSC:Hd (ZdZ y.fields o.vs ro t.kd t.nm (m+1)=(ZdZ y.fields o.vs ro t.kd t.nm m || ZdH y.fields[m] o.vs[m] ro t.kd t.nm)):=Zja hlt hlv;have HMORE:Hd (ZdZ y.fields o.vs ro t.kd t.nm (m+1)=true->Zcz Ss o ro t.kd t.nm=true):=fun h=>by rw [HI.o];exact Zi9 HLEN.o h _ (by omega) Zl_
    have HVC:Hd (w.cell? ⟨vb,voff+m,none⟩=some (.string o.vs[m])):=hvc m hlv;clear hfc hfs hfcell hst hvc hvs;generalize y.fields[m]=f at*;generalize o.vs[m]=s at*
    go_upto_region 7 with fail
    generalize hWb:wr.alloc _=Wb;have hbb:Below wr.heap.size wr Wb:=by rw [<- hWb];exact Zac _ _
    have HFx:Hd (Box Wb wr.heap.size #[.string f.nm,.int .i64 f.kd,.int .i64 f.le,.int .i64 f.mo,.slice wa wn wcap,.string f.to,.int .i64 f.ro,.bool f.mu,.bool f.fx,.string f.df,.string f.we]):=by unfold Hd;rw [<- hWb];exact Box.new _ _ _ _ rfl
    have HBb:Hd (Zw_ w Wb):=bt HBr.o hbb;replace HXr:=Zab (HXr.o.on hbb);replace HYr:=Zab (HYr.o.on hbb);clear hWb hbb HBr f0 f1 f2 f3 f4 f5 f6 f7 f8 f9 f10;generalize wr.heap.size=γ at*
    go_cut [79] (fun c wc=>c=.bool (ZdH f s ro t.kd t.nm)/\Below Wb.heap.size Wb wc)
    case first=>
     have xn:Nonempty (In (Up Wb)):=⟨⟨Wb,Below.refl _ _⟩⟩;have xs:=fun (X:In (Up Wb))=>ZhT X
     have xb:∀ (X:In (Up Wb)) i,X.w.cell? ⟨w.heap.size+1,i,none⟩=#[Value.int .i64 B.now,.int .i64 B.tick,.int .i64 B.given,.slice (some ⟨b,off,none⟩) B.os.length k0,.slice a1 B.gs.length k1,.slice a2 B.ls.length k2,.slice a3 B.ps.length k3][i]?:=fun X i=>(HXr.o.on X.h).cell i
     have xo:∀ (X:In (Up Wb)) i,X.w.cell? ⟨w.heap.size+1+1,i,none⟩=#[Value.string o.kd,.string o.nm,.string o.tm,.slice (some ⟨vb,voff,none⟩) o.vs.length vcap,.bool o.en,.slice ha o.hs.length hcap,.int .i64 o.ver][i]?:=fun X i=>(HYr.o.on X.h).cell i
     have xf:∀ (X:In (Up Wb)) i,X.w.cell? ⟨γ,i,none⟩=#[Value.string f.nm,.int .i64 f.kd,.int .i64 f.le,.int .i64 f.mo,.slice wa wn wcap,.string f.to,.int .i64 f.ro,.bool f.mu,.bool f.fx,.string f.df,.string f.we][i]?:=fun X i=>(HFx.o.on X.h).cell i
     have xv:∀ X:In (Up Wb),X.w.cell? ⟨vb,voff+m,none⟩=some (.string s):=fun X=>Up.cell X ((HBb.o.cell (p:=⟨vb,voff+m,none⟩) hvb).trans HVC.o)
     have xk:∀ X:In (Up Wb),X.w.cell? ⟨b,off+j*7,none⟩=some (.string t.kd):=fun X=>Up.cell X (HCJ.o.below HBb.o hbw).c0
     have xm:∀ X:In (Up Wb),X.w.cell? ⟨b,off+j*7+1,none⟩=some (.string t.nm):=fun X=>Up.cell X (HCJ.o.below HBb.o hbw).c1
     refine Za0 (Up Wb) (by kernel_rfl) (by kernel_rfl) (Zb_.drew) ?_
     cases h1:(f.kd == 4) with
     | false=>
      repeat (go_big_quiet_step (fail))
      refine wpQuiet_nil ?_;intro wn hw;obtain⟨X,hX⟩:=hw;have HWN:Below Wb.heap.size Wb wn:=by rw [hX];exact X.h
      clear hX X xb xo xf xv xk xm xs xn;go_wp2;go_meet;exact⟨congrArg Value.bool (by unfold ZdH;rw [h1];try rfl),HWN⟩
     | true=>
     cases h2:(f.ro == ro) with
     | false=>
      repeat (go_big_quiet_step (fail))
      refine wpQuiet_nil ?_;intro wn hw;obtain⟨X,hX⟩:=hw;have HWN:Below Wb.heap.size Wb wn:=by rw [hX];exact X.h
      clear hX X xb xo xf xv xk xm xs xn;go_wp2;go_meet;exact⟨congrArg Value.bool (by unfold ZdH;rw [h1,h2];try rfl),HWN⟩
     | true=>
     cases h3:s.toList.isEmpty with
     | true=>
      repeat (go_big_quiet_step (fail))
      refine wpQuiet_nil ?_;intro wn hw;obtain⟨X,hX⟩:=hw;have HWN:Below Wb.heap.size Wb wn:=by rw [hX];exact X.h
      clear hX X xb xo xf xv xk xm xs xn;go_wp2;go_meet;exact⟨congrArg Value.bool (by unfold ZdH;rw [h1,h2,h3];try rfl),HWN⟩
     | false=>
     cases h4:(f.to.toList == t.kd.toList) with
     | false=>
      repeat (go_big_quiet_step (fail))
      refine wpQuiet_nil ?_;intro wn hw;obtain⟨X,hX⟩:=hw;have HWN:Below Wb.heap.size Wb wn:=by rw [hX];exact X.h
      clear hX X xb xo xf xv xk xm xs xn;go_wp2;go_meet;exact⟨congrArg Value.bool (by unfold ZdH;rw [h1,h2,h3,h4];try rfl),HWN⟩
     | true=>
     repeat (go_big_quiet_step (fail))
     refine wpQuiet_nil ?_;intro wn hw;obtain⟨X,hX⟩:=hw;have HWN:Below Wb.heap.size Wb wn:=by rw [hX];exact X.h
     clear hX X xb xo xf xv xk xm xs xn;go_wp2;go_meet;exact⟨congrArg Value.bool (by unfold ZdH;rw [h1,h2,h3,h4];try rfl),HWN⟩
    case rest=>
     obtain⟨rfl,hbc⟩:=hcut;have HBc:Hd (Zw_ w wc):=bt HBb.o hbc;replace HXr:=Zab (HXr.o.on hbc);replace HYr:=Zab (HYr.o.on hbc);clear hbc HBb HFx HVC
     cases hfi:ZdH f s ro t.kd t.nm with
     | true=>
      have HE:Hd (Zcz Ss o ro t.kd t.nm=true):=HMORE.o (by rw [HSC.o,hfi,Bool.or_true]);go_wp2;go_ret;exact⟨Zaa HE.o.symm,HBc.o⟩
     | false=>
      have HE:Hd (ZdZ y.fields o.vs ro t.kd t.nm (m+1)=false):=by unfold Hd;rw [HSC.o,hfi,HA.o];rfl
      go_wp2;go_roundw
      case measure=>simp [intOf];omega
      case rel=>exact⟨m+1,by go_num,by omega,HBc.o,HXr.o,HYr.o,HE.o⟩
  . have hme:m=y.fields.length:=by omega
    have HE:Hd (Zcz Ss o ro t.kd t.nm=false):=by unfold Hd;rw [HI.o,<- hme];exact HA.o
    go_wp2;go_ret;exact⟨Zaa HE.o.symm,HBr.o⟩
end Go.Proofs.YtmappejlmapboaaGreat
