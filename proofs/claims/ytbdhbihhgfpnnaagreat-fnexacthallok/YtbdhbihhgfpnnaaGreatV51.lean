import Derived.Test.YtbdhbihhgfpnnaaGreatV38
set_option maxHeartbeats 16000000
set_option maxRecDepth 100000
open Go.Proofs.Tryz
namespace Go.Proofs.YtbdhbihhgfpnnaaGreat
open Go.RowKit Go.Deep
variable {O:List Ob} {L:List Sv} {m:Nat}
theorem ZlH (h:m < O.length):Zbd (O.take (m+1)) L=Zbd (O.take m) L+(if named L O[m].nm then 1 else 0):=by
 unfold Zbd;rw [List.take_succ_eq_append_getElem h,List.filter_append,List.length_append,List.filter_cons]
 split <;> simp
theorem Znk (O:List Ob) (L:List Sv):Zbd O L<=O.length:=List.length_filter_le _ _
theorem ZpC (h:m < O.length) (hn:okO L O[m]=false):ZcL O L=false:=by
 unfold ZcL;rw [Zbc h hn,Bool.false_and]
theorem Zos (lo:Nat) (ov gv lv pv sv cv bv:Value) (B:Bk) (T:Sb) (w:World) (h:ZpP lo w ov gv lv pv sv cv bv B T) :
 Calls prog 20 #[.agg #[.int .i64 B.now,.int .i64 B.tick,.int .i64 B.given,ov,gv,lv,pv,.int .i64 T.now,sv,cv,bv]] w fun e w'=>e=.returned (.bool (ZcL B.os T.ss))/\Zw_ w w':=by
 have HK:=Zab h;obtain⟨a0,k0,rfl⟩:=h.g.obs.form;obtain⟨a1,k1,rfl⟩:=h.g.grs.form;obtain⟨a2,k2,rfl⟩:=h.g.les.form;obtain⟨a3,k3,rfl⟩:=h.g.pus.form;obtain⟨a4,k4,rfl⟩:=h.s.svs.form;obtain⟨a5,k5,rfl⟩:=h.s.cps.form;obtain⟨a6,k6,rfl⟩:=h.s.bes.form;have hmx:=h.g.obs.max;unfold maxLen at hmx;clear h;go_enter func20,ntmps20;go_wp2_with fail;generalize hWa:w.alloc _=Wa;have HB:Hd (Zw_ w Wa):=by unfold Hd;rw [<- hWa];exact Zac _ _
 have HX:Hd (Box Wa w.heap.size #[.int .i64 B.now,.int .i64 B.tick,.int .i64 B.given,.slice a0 B.os.length k0,.slice a1 B.gs.length k1,.slice a2 B.ls.length k2,.slice a3 B.ps.length k3,.int .i64 T.now,.slice a4 T.ss.length k4,.slice a5 T.cs.length k5,.slice a6 T.bs.length k6]):=by unfold Hd;rw [<- hWa];exact Box.new _ _ _ _ rfl
 clear hWa
 go_loopw [4,3] (fun i n wr=>∃ m:Nat,i=.int .i64 m/\n=.int .i64 (Zbd (B.os.take m) T.ss:Nat)/\m<=B.os.length/\Zw_ w wr/\Box wr w.heap.size #[.int .i64 B.now,.int .i64 B.tick,.int .i64 B.given,.slice a0 B.os.length k0,.slice a1 B.gs.length k1,.slice a2 B.ls.length k2,.slice a3 B.ps.length k3,.int .i64 T.now,.slice a4 T.ss.length k4,.slice a5 T.cs.length k5,.slice a6 T.bs.length k6]/\∀ j (h:j < B.os.length),j < m->okO T.ss B.os[j]=true) (fun i _ _=>B.os.length - (intOf i).toNat)
 case atStart=>exact⟨0,rfl,by simp [Zbd],Nat.zero_le _,HB.o,HX.o,fun j _ h=>by omega⟩
 case round=>
  obtain⟨m,rfl,rfl,hm,hb,hx,hall⟩:=hrel;have HBr:=Zab hb;have HXr:=Zab hx;have HA:=Zab hall;clear hb hx hall HB HX;have hcl:Zbd (B.os.take m) T.ss<=m:=Nat.le_trans (Znk _ _) (by simp;omega);have y:=HXr.o.cell
  by_cases hlt:m < B.os.length
  . obtain⟨b,off,rfl,hbw,-,hc⟩:=HK.o.g.obs.full' (by omega)
    obtain⟨hsz,vv0,vv1,hcell,hv0,hv1⟩:=hc m hlt;obtain⟨c0,c1,c2,c3,c4,c5,c6⟩:=hcell.below HBr.o hbw;have HZ:=Zab hsz;have HV:=Zab (hv0.at.below HBr.o);have HH:=Zab (hv1.at.below HBr.o);obtain⟨va,vcap,rfl⟩:=hv0.at.form';obtain⟨ha,hcap,rfl⟩:=hv1.at.form';have HCT:=Zab (ZlH (L:=T.ss) hlt);have HNO:Hd (okO T.ss B.os[m]=false->ZcL B.os T.ss=false):=ZpC hlt;have HYES:Hd (okO T.ss B.os[m]=true->∀ j (h:j < B.os.length),j < m+1->okO T.ss B.os[j]=true):=fun h=>Zbr HA.o hlt h
    clear hc hcell hsz hv0 hv1;generalize B.os[m]=o at*
    go_upto_region 6 with fail
    generalize hWb:wr.alloc _=Wb;have hbb:Below wr.heap.size wr Wb:=by rw [<- hWb];exact Zac _ _
    have HBb:Hd (Zw_ w Wb):=bt HBr.o hbb;have HP:Hd (Box Wb wr.heap.size #[.string o.kd,.string o.nm,.string o.tm,.slice va o.vs.length vcap,.bool o.en,.slice ha o.hs.length hcap,.int .i64 o.ver]):=by unfold Hd;rw [<- hWb];exact Box.new _ _ _ _ rfl
    replace HXr:=Zab (HXr.o.on hbb);replace HV:=Zab (HV.o.below hbb);replace HH:=Zab (HH.o.below hbb);clear hWb hbb c0 c1 c2 c3 c4 c5 c6 HBr y;generalize wr.heap.size=β at*;have y:=HXr.o.cell;have p:=HP.o.cell;go_wp2_with fail;clear y p;refine (ZgS lo _ _ _ T o.nm _ (HK.o.s.below HBb.o)).mono ?_;rintro e w3 ⟨r,rfl,hb3,hpl⟩;have HB3:Hd (Zw_ w w3):=bt HBb.o hb3;replace HXr:=Zab (HXr.o.on hb3);replace HP:=Zab (HP.o.on hb3);replace HV:=Zab (HV.o.below hb3);replace HH:=Zab (HH.o.below hb3);clear hb3 HBb;have p:=HP.o.cell
    rcases hpl with ⟨rfl,hno⟩ | ⟨rfl,hki,hso⟩
    . have HQ:Hd (okO T.ss o=(!Zk7 o&&o.en)):=by unfold Hd okO;rw [hno]
      have HNM:Hd (named T.ss o.nm=false):=by unfold Hd;rw [ZgX,hno];rfl
      clear hno;go_wp2_with fail;refine (ZcV _ o.hs ZfE _ HH.o).mono ?_;rintro e w4 ⟨rfl,hw⟩;have:=hw.symm;subst this
      cases hf:ZdC o.hs ZfE with
      | true=>
       have HE:Hd (ZcL B.os T.ss=false):=HNO.o (by rw [HQ.o];unfold Zk7;rw [hf];rfl);go_wp2;go_ret;exact⟨Zaa HE.o.symm,HB3.o⟩
      | false=>
       cases hen:o.en with
       | false=>
        rw [hen] at p;have HE:Hd (ZcL B.os T.ss=false):=HNO.o (by rw [HQ.o,hen,Bool.and_false]);go_wp2;go_ret;exact⟨Zaa HE.o.symm,HB3.o⟩
       | true=>
        rw [hen] at p;have HE:=Zab (HYES.o (by rw [HQ.o,hen];unfold Zk7;rw [hf];rfl));have HCE:Hd (Zbd (B.os.take (m+1)) T.ss=Zbd (B.os.take m) T.ss):=by unfold Hd;rw [HCT.o,HNM.o];rfl
        go_wp2;exact⟨⟨m+1,by go_num,by rw [HCE.o],by omega,HB3.o,HXr.o,HE.o⟩,by simp [intOf];omega⟩
    . have HQ:Hd (okO T.ss o=(Zk7 o&&Zce o T.ss[svI T.ss o.nm])):=by unfold Hd okO;rw [hso]
      have HNM:Hd (named T.ss o.nm=true):=by unfold Hd;rw [ZgX,hso];rfl
      clear hso;obtain⟨b',off',ha4,hbw',-,hc'⟩:=HK.o.s.svs.full' (by omega);obtain⟨-,hcell'⟩:=hc' _ hki;have HC:=Zab (hcell'.below HB3.o hbw');subst ha4;have hbw3:b' < w3.heap.size:=Zk_ hbw' HB3.o.size
      clear hc' hcell';generalize T.ss[svI T.ss o.nm]=s at*;generalize svI T.ss o.nm=k at*;go_wp2_with fail;refine (ZcV _ o.hs ZfE _ HH.o).mono ?_;rintro e w4 ⟨rfl,hw⟩;have:=hw.symm;subst this
      cases hf:ZdC o.hs ZfE with
      | false=>
       have HE:Hd (ZcL B.os T.ss=false):=HNO.o (by rw [HQ.o];unfold Zk7;rw [hf];rfl);go_wp2;go_ret;exact⟨Zaa HE.o.symm,HB3.o⟩
      | true=>
       replace HQ:Hd (okO T.ss o=Zce o s):=by unfold Hd;rw [HQ.o];unfold Zk7;rw [hf];rfl
       have y:=HXr.o.cell;have hcw:IntKind.i64.wrap ((Zbd (B.os.take m) T.ss:Int)+1)=(Zbd (B.os.take m) T.ss:Int)+1:=by rw [IntKind.wrap_i64];omega
       have hnn:¬ ((k:Int) < 0):=by omega
       have hk0:(0:Int)<=(k:Int):=by omega
       have hk1:(k:Int) < (T.ss.length:Int):=by omega
       obtain⟨d0,d1,d2,d3,d4,d5,d6,d7,d8,d9,d10,d11,d12⟩:=HC.o
       go_upto_region 12 with fail
       generalize hWc:w3.alloc _=Wc;have hbc:Below w3.heap.size w3 Wc:=by rw [<- hWc];exact Zac _ _
       have HBc:Hd (Zw_ w Wc):=bt HB3.o hbc;have FS:Hd (Box Wc w3.heap.size #[.string s.nm,.int .i64 s.ve,.bool s.gn,.int .i64 s.im,.int .i64 s.wa,.int .i64 s.dn,.int .i64 s.ov,.int .i64 s.nx,.int .i64 s.pr,.int .i64 s.ls,.int .i64 s.ms,.int .i64 s.ld,.int .i64 s.cl]):=by unfold Hd;rw [<- hWc];exact Box.new _ _ _ _ rfl
       replace HXr:=Zab (HXr.o.on hbc);replace HP:=Zab (HP.o.on hbc);replace HV:=Zab (HV.o.below hbc);have hw3:w.heap.size<=w3.heap.size:=HB3.o.size;clear hWc hbc y p d0 d1 d2 d3 d4 d5 d6 d7 d8 d9 d10 d11 d12 HH HC hbw3;clear HB3;generalize w3.heap.size=γ at*;have p:=HP.o.cell;have q:=FS.o.cell;go_wp2_with fail;clear p q;refine (ZgU o.kd o.nm o.tm _ _ o.en o.ver o.vs s _ HV.o).mono ?_;rintro e w5 ⟨rfl,hb5⟩;have HB5:Hd (Zw_ w w5):=bt HBc.o hb5;replace HXr:=Zab (HXr.o.on hb5);replace FS:=Zab (FS.o.on hb5);clear hb5 HBc HP HV;have HSV:Hd (Zce o s=ZrG { Zcu o.nm o.en o.vs s with ve:=s.ve,nx:=s.nx,cl:=s.cl } s):=rfl;generalize Zcu o.nm o.en o.vs s=R at*
       rw [show (svL R).toArray=#[.string R.nm,.int .i64 R.ve,.bool R.gn,.int .i64 R.im,.int .i64 R.wa,.int .i64 R.dn,.int .i64 R.ov,.int .i64 R.nx,.int .i64 R.pr,.int .i64 R.ls,.int .i64 R.ms,.int .i64 R.ld,.int .i64 R.cl] from rfl]
       go_upto_region 13 with fail
       generalize hWd:w5.alloc _=Wd;have hbd:Below w5.heap.size w5 Wd:=by rw [<- hWd];exact Zac _ _
       replace HXr:=Zab (HXr.o.on hbd);have hge:w.heap.size<=w5.heap.size:=HB5.o.size;have hne:γ≠w5.heap.size:=Nat.ne_of_lt FS.o.lt;have hxe:w.heap.size≠w5.heap.size:=by have:=HXr.o.lt;have:=FS.o.lt;omega
       replace FS:=Zab (FS.o.on hbd);have HBd:Hd (Zw_ w Wd):=bt HB5.o hbd;have FR:Hd (Box Wd w5.heap.size #[.string R.nm,.int .i64 R.ve,.bool R.gn,.int .i64 R.im,.int .i64 R.wa,.int .i64 R.dn,.int .i64 R.ov,.int .i64 R.nx,.int .i64 R.pr,.int .i64 R.ls,.int .i64 R.ms,.int .i64 R.ld,.int .i64 R.cl]):=by unfold Hd;rw [<- hWd];exact Box.new _ _ _ _ rfl
       clear hWd hbd HB5;generalize w5.heap.size=δ at*;have q:=FS.o.cell;have f:=FR.o.free;have f2:=FR.o.cell
       go_upto_region 14 with fail
       clear q f f2;generalize hWe:World.setCell _ _ _=W14;replace HXr:Hd (Box W14 w.heap.size #[.int .i64 B.now,.int .i64 B.tick,.int .i64 B.given,.slice (some ⟨b,off,none⟩) B.os.length k0,.slice a1 B.gs.length k1,.slice a2 B.ls.length k2,.slice a3 B.ps.length k3,.int .i64 T.now,.slice (some ⟨b',off',none⟩) T.ss.length k4,.slice a5 T.cs.length k5,.slice a6 T.bs.length k6]):=by unfold Hd;rw [<- hWe];exact HXr.o.setFar (by simpa using Ne.symm hxe) _
       replace FS:Hd (Box W14 γ #[.string s.nm,.int .i64 s.ve,.bool s.gn,.int .i64 s.im,.int .i64 s.wa,.int .i64 s.dn,.int .i64 s.ov,.int .i64 s.nx,.int .i64 s.pr,.int .i64 s.ls,.int .i64 s.ms,.int .i64 s.ld,.int .i64 s.cl]):=by unfold Hd;rw [<- hWe];exact FS.o.setFar (by simpa using Ne.symm hne) _
       replace HBd:Hd (Zw_ w W14):=by unfold Hd;rw [<- hWe];exact HBd.o.setCell hge _
       replace FR:Hd (Box W14 δ #[.string R.nm,.int .i64 s.ve,.bool R.gn,.int .i64 R.im,.int .i64 R.wa,.int .i64 R.dn,.int .i64 R.ov,.int .i64 R.nx,.int .i64 R.pr,.int .i64 R.ls,.int .i64 R.ms,.int .i64 R.ld,.int .i64 R.cl]):=by unfold Hd;rw [<- hWe];exact FR.o.set (k:=1) _ (by simp)
       clear hWe;have q:=FS.o.cell;have f:=FR.o.free;have f2:=FR.o.cell
       go_upto_region 15 with fail
       clear q f f2;generalize hWe:World.setCell _ _ _=W15;replace HXr:Hd (Box W15 w.heap.size #[.int .i64 B.now,.int .i64 B.tick,.int .i64 B.given,.slice (some ⟨b,off,none⟩) B.os.length k0,.slice a1 B.gs.length k1,.slice a2 B.ls.length k2,.slice a3 B.ps.length k3,.int .i64 T.now,.slice (some ⟨b',off',none⟩) T.ss.length k4,.slice a5 T.cs.length k5,.slice a6 T.bs.length k6]):=by unfold Hd;rw [<- hWe];exact HXr.o.setFar (by simpa using Ne.symm hxe) _
       replace FS:Hd (Box W15 γ #[.string s.nm,.int .i64 s.ve,.bool s.gn,.int .i64 s.im,.int .i64 s.wa,.int .i64 s.dn,.int .i64 s.ov,.int .i64 s.nx,.int .i64 s.pr,.int .i64 s.ls,.int .i64 s.ms,.int .i64 s.ld,.int .i64 s.cl]):=by unfold Hd;rw [<- hWe];exact FS.o.setFar (by simpa using Ne.symm hne) _
       replace HBd:Hd (Zw_ w W15):=by unfold Hd;rw [<- hWe];exact HBd.o.setCell hge _
       replace FR:Hd (Box W15 δ #[.string R.nm,.int .i64 s.ve,.bool R.gn,.int .i64 R.im,.int .i64 R.wa,.int .i64 R.dn,.int .i64 R.ov,.int .i64 s.nx,.int .i64 R.pr,.int .i64 R.ls,.int .i64 R.ms,.int .i64 R.ld,.int .i64 R.cl]):=by unfold Hd;rw [<- hWe];exact FR.o.set (k:=7) _ (by simp)
       clear hWe;have q:=FS.o.cell;have f:=FR.o.free;have f2:=FR.o.cell
       go_upto_region 16 with fail
       clear q f f2;generalize hWe:World.setCell _ _ _=W16;replace HXr:Hd (Box W16 w.heap.size #[.int .i64 B.now,.int .i64 B.tick,.int .i64 B.given,.slice (some ⟨b,off,none⟩) B.os.length k0,.slice a1 B.gs.length k1,.slice a2 B.ls.length k2,.slice a3 B.ps.length k3,.int .i64 T.now,.slice (some ⟨b',off',none⟩) T.ss.length k4,.slice a5 T.cs.length k5,.slice a6 T.bs.length k6]):=by unfold Hd;rw [<- hWe];exact HXr.o.setFar (by simpa using Ne.symm hxe) _
       replace FS:Hd (Box W16 γ #[.string s.nm,.int .i64 s.ve,.bool s.gn,.int .i64 s.im,.int .i64 s.wa,.int .i64 s.dn,.int .i64 s.ov,.int .i64 s.nx,.int .i64 s.pr,.int .i64 s.ls,.int .i64 s.ms,.int .i64 s.ld,.int .i64 s.cl]):=by unfold Hd;rw [<- hWe];exact FS.o.setFar (by simpa using Ne.symm hne) _
       replace HBd:Hd (Zw_ w W16):=by unfold Hd;rw [<- hWe];exact HBd.o.setCell hge _
       replace FR:Hd (Box W16 δ #[.string R.nm,.int .i64 s.ve,.bool R.gn,.int .i64 R.im,.int .i64 R.wa,.int .i64 R.dn,.int .i64 R.ov,.int .i64 s.nx,.int .i64 R.pr,.int .i64 R.ls,.int .i64 R.ms,.int .i64 R.ld,.int .i64 s.cl]):=by unfold Hd;rw [<- hWe];exact FR.o.set (k:=12) _ (by simp)
       clear hWe;have q:=FS.o.cell;have f:=FR.o.cell
       go_cut [67] (fun c wc=>c=.bool (!Zce o s)/\wc=W16)
       case first=>
        go_wp2
        all_goals
         go_meet;refine⟨congrArg Value.bool ?_,rfl⟩;rw [HSV.o];unfold ZrG;simp [*]
       case rest=>
        obtain⟨rfl,hwc⟩:=hcut;have:=hwc.symm;subst this;clear q f FS FR HSV
        cases hsv:Zce o s with
        | false=>
         have HE:Hd (ZcL B.os T.ss=false):=HNO.o (by rw [HQ.o,hsv]);go_wp2;go_ret;exact⟨Zaa HE.o.symm,HBd.o⟩
        | true=>
         have HE:=Zab (HYES.o (by rw [HQ.o,hsv]));have HCE:Hd (Zbd (B.os.take (m+1)) T.ss=Zbd (B.os.take m) T.ss+1):=by unfold Hd;rw [HCT.o,HNM.o];rfl
         go_wp2;exact⟨⟨m+1,by go_num,by rw [HCE.o];go_num,by omega,HBd.o,HXr.o,HE.o⟩,by simp [intOf];omega⟩
  . have hme:m=B.os.length:=by omega
    have HX:Hd (ZcL B.os T.ss=((Zbd B.os T.ss:Int) == (T.ss.length:Int))):=by
     unfold Hd ZcL;rw [Zb2 fun j h=>HA.o j h (by omega),Bool.true_and,Bool.eq_iff_iff];simp
     omega
    go_wp2;go_ret;exact⟨Zaa HX.o.symm,HBr.o⟩
end Go.Proofs.YtbdhbihhgfpnnaaGreat
