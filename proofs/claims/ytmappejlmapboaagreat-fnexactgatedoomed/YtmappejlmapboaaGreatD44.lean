import Derived.Test.YtmappejlmapboaaGreatD35
import Derived.Test.YtmappejlmapboaaGreatD38
set_option maxHeartbeats 16000000
set_option maxRecDepth 100000
open Go.Proofs.Tryz
namespace Go.Proofs.YtmappejlmapboaaGreat
open Go.RowKit Go.Deep Go.Maps
variable {Fs:List Fd} {o:Ob}
theorem Zmr {Ss:List Sh}{Ts:List Tm}{B:Bk}{FF:Nat->List Zy_}{m:Nat} (hm:m < B.os.length) (h:ZcP Zgv B.os m=false):Zas Ss Ts B FF=false:=by
 unfold Zas;rw [show ZdN Zgv B.os=false from ZaZ hm h,Bool.false_and,Bool.and_false]
theorem ZpG {Ts:List Tm}{F:List Zy_} (h:¬ (ZaQ Fs o.nm o.tm o.vs o.hs o.ver).1=0):Zcx Ts Fs o F=false:=by unfold Zcx;rw [decide_eq_false h];rfl
theorem ZpH {Ts:List Tm}{F:List Zy_} (h:ZgB Ts o.tm=false):Zcx Ts Fs o F=false:=by unfold Zcx;rw [h,Bool.false_and,Bool.and_false]
theorem ZpI {Ts:List Tm}{F:List Zy_} (h:¬ F=o.vs):Zcx Ts Fs o F=false:=by unfold Zcx;rw [decide_eq_false h,Bool.and_false,Bool.and_false]
theorem ZpJ {Ts:List Tm}{F:List Zy_} (h1:(ZaQ Fs o.nm o.tm o.vs o.hs o.ver).1=0) (h2:ZgB Ts o.tm=true) (h3:F=o.vs):Zcx Ts Fs o F=true:=by unfold Zcx;rw [decide_eq_true h1,h2,decide_eq_true h3];rfl
section
variable (lo:Nat) (sv mv tv ov gv lv pv:Value) (Ss:List Sh) (Ms:List Md) (Ts:List Tm) (B:Bk) (FF:Nat->List Zy_) (w:World)
theorem Zie (hl:ZbH lo w sv mv tv Ss Ms Ts) (hmb:Zax Ss Ms=true) (h:ZaU lo w ov gv lv pv B) (hn:Zbg B.os) (hsh:Zcw Ss Ms B.os FF) :
 Calls prog 83 #[.agg #[sv,mv,tv],.agg #[.int .i64 B.now,.int .i64 B.tick,.int .i64 B.given,ov,gv,lv,pv]] w fun e w'=>e=.returned (.bool (Zas Ss Ts B FF))/\Zw_ w w':=by
 have HL:=Zab hl;have HK:=Zab h;have HMB:=Zab hmb;have HN:=Zab hn;have HSH:=Zab hsh;obtain⟨sa,sc,rfl⟩:=hl.shs.form;obtain⟨ma,mc,rfl⟩:=hl.mds.form;obtain⟨ta,tc,rfl⟩:=hl.tms.form;obtain⟨a0,k0,rfl⟩:=h.obs.form;obtain⟨a1,k1,rfl⟩:=h.grs.form;obtain⟨a2,k2,rfl⟩:=h.les.form;obtain⟨a3,k3,rfl⟩:=h.pus.form;have HI:Hd (Zas Ss Ts B FF=(decide (B.os.length<=40)&&(ZdN Zgv B.os&&(List.range B.os.length).all (ZqE Ss Ts B FF)))):=rfl;clear hl hmb h hn hsh
 by_cases hl:B.os.length<=40
 case neg=>
  have HE:Hd (Zas Ss Ts B FF=false):=by unfold Hd;rw [HI.o,decide_eq_false hl];rfl
  have hgt:decide ((40:Int) < (B.os.length:Int))=true:=by simp;omega
  go_enter func83,ntmps83;go_wp2;go_ret;exact⟨Zaa HE.o.symm,(Zac w _).alloc (by simp) _⟩
 have hgt:decide ((40:Int) < (B.os.length:Int))=false:=by simp;omega
 go_enter func83,ntmps83;go_wp2;generalize hWa:(World.alloc (w.alloc _) _)=Wa;have HB:Hd (Zw_ w Wa):=by rw [<- hWa];exact (Zac w _).alloc (by simp) _
 have HX:Hd (Box Wa w.heap.size #[.slice sa Ss.length sc,.slice ma Ms.length mc,.slice ta Ts.length tc]):=by rw [<- hWa];exact (Box.new _ _ _ _ rfl).on (Zac _ _)
 have HY:Hd (Box Wa (w.heap.size+1) #[.int .i64 B.now,.int .i64 B.tick,.int .i64 B.given,.slice a0 B.os.length k0,.slice a1 B.gs.length k1,.slice a2 B.ls.length k2,.slice a3 B.ps.length k3]):=by rw [<- hWa];exact Box.new _ _ _ _ (by simp)
 clear hWa hgt
 go_loopw [5] (fun i wr=>∃ m:Nat,i=.int .i64 m/\m<=B.os.length/\Zw_ w wr/\Box wr w.heap.size #[.slice sa Ss.length sc,.slice ma Ms.length mc,.slice ta Ts.length tc]/\Box wr (w.heap.size+1) #[.int .i64 B.now,.int .i64 B.tick,.int .i64 B.given,.slice a0 B.os.length k0,.slice a1 B.gs.length k1,.slice a2 B.ls.length k2,.slice a3 B.ps.length k3]/\(∀ j,j < m->ZqE Ss Ts B FF j=true)/\∀ j,j < m->ZcP Zgv B.os j=true) (fun i _=>B.os.length - (intOf i).toNat)
 case atStart=>exact⟨0,rfl,Nat.zero_le _,HB.o,HX.o,HY.o,fun j h=>by omega,fun j h=>by omega⟩
 case round=>
  obtain⟨m,rfl,hm,hb,hx,hy,hall,hris⟩:=hrel;have HBr:=Zab hb;have HXr:=Zab hx;have HYr:=Zab hy;have HA:=Zab hall;have HS:=Zab hris;have z3:=hy.cell 3;simp at z3;clear hb hx hy hall hris HB HX HY
  by_cases hlt:m < B.os.length
  . obtain⟨b,off,rfl,hbw,-,hc⟩:=HK.o.obs.full' (by omega)
    obtain⟨hs,vv0,vv1,hcell,hv0,hv1⟩:=hc m hlt;obtain⟨c0,c1,c2,c3,c4,c5,c6⟩:=hcell.below HBr.o hbw
    have HC:Hd (∀ k (h:k < B.os.length),w.cell? ⟨b,off+k*7,none⟩=some (.string B.os[k].kd)/\w.cell? ⟨b,off+k*7+1,none⟩=some (.string B.os[k].nm)):=fun k hk=>by
     obtain⟨_,_,_,hck,_,_⟩:=hc k hk;exact⟨hck.c0,hck.c1⟩
    have HZ:=Zab hs;have HV:=Zab hv0.at;have HH:=Zab hv1.at;obtain⟨va,vcap,rfl⟩:=hv0.at.form';obtain⟨ha,hcap,rfl⟩:=hv1.at.form';have HQ:=Zab (Zh4 (Ss:=Ss) (Ts:=Ts) (FF:=FF) hlt);have n1:B.os[m].vs.length<=1048576:=(HN.o.2 m hlt).1;have n2:B.os[m].hs.length<=1048576:=(HN.o.2 m hlt).2;have x0:=HXr.o.cell 0;simp at x0;have xlt:=HXr.o.lt;have x0:∀ o,(wr.alloc o).cell? ⟨w.heap.size,0,none⟩=some (.slice sa Ss.length sc):=fun o=>(Zaj _ _ _ _ xlt).trans x0
    clear hc hcell hs hv0 hv1 xlt;go_wp2_with fail;generalize hWb:wr.alloc _=Wb;have hbb:Below wr.heap.size wr Wb:=by rw [<- hWb];exact Zac _ _
    have HBb:Hd (Zw_ w Wb):=HBr.o.trans (hbb.mono HBr.o.size);have HXb:=Zab (HXr.o.on hbb);have HYb:=Zab (HYr.o.on hbb);have HPb:Hd (Box Wb wr.heap.size #[.string B.os[m].kd,.string B.os[m].nm,.string B.os[m].tm,.slice va B.os[m].vs.length vcap,.bool B.os[m].en,.slice ha B.os[m].hs.length hcap,.int .i64 B.os[m].ver]):=by rw [<- hWb];exact Box.new _ _ _ _ rfl
    clear hWb x0 z3 hbb c0 c1 c2 c3 c4 c5 c6 HXr HYr;generalize hβ:wr.heap.size=β at*;refine (Zl5 B.os[m].kd B.os[m].nm B.os[m].tm _ _ _ B.os[m].en B.os[m].ver B.os[m].vs B.os[m].hs Ss _ lo (HL.o.below HBb.o).shs (HV.o.below HBb.o) (HH.o.below HBb.o) HZ.o.s1 HZ.o.s2).mono ?_;rintro e w1 ⟨rfl,hb1⟩;have HB1:Hd (Zw_ w w1):=HBb.o.trans (hb1.mono HBb.o.size);have HX1:=Zab (HXb.o.on hb1);have HY1:=Zab (HYb.o.on hb1);have HP1:=Zab (HPb.o.on hb1);clear hb1 HBb HXb HYb HPb
    cases hsh:Zcn Ss B.os[m].kd with
    | none=>
     have HE:Hd (Zas Ss Ts B FF=false):=ZbC hlt (ZgE hsh);rw [Zkw (fun x hx=>by rw [hsh] at hx;cases hx)];go_wp2;go_ret;exact⟨Zaa HE.o.symm,HB1.o⟩
    | some x=>
     have HXS:=Zab hsh;have HOS:=Zab (Zfb (Ts:=Ts) (Os:=B.os) (now:=B.now) (F:=FF m) hsh);rw [ZhD hsh];clear hsh
     by_cases hck:(ZaQ x.fields B.os[m].nm B.os[m].tm B.os[m].vs B.os[m].hs B.os[m].ver).1=0
     case neg=>
      have HE:Hd (Zas Ss Ts B FF=false):=ZbC hlt (by rw [HOS.o,ZpG hck];rfl);have hd:((ZaQ x.fields B.os[m].nm B.os[m].tm B.os[m].vs B.os[m].hs B.os[m].ver).1 != 0)=true:=by simp [bne,hck]
      go_wp2;go_ret;exact⟨Zaa HE.o.symm,HB1.o⟩
     have hd:((ZaQ x.fields B.os[m].nm B.os[m].tm B.os[m].vs B.os[m].hs B.os[m].ver).1 != 0)=false:=by simp [bne,hck]
     have HCK:=Zab hck;have HLEN:=Zab (Ze6 hck);clear hck;have t2:=HX1.o.cell 2;have q2:=HP1.o.cell 2;have q6:=HP1.o.cell 6;have y0:=HY1.o.cell 0;simp at t2 q2 q6 y0
     cases h1:ZgB Ts B.os[m].tm with
     | false=>
      have HE:Hd (Zas Ss Ts B FF=false):=ZbC hlt (by rw [HOS.o,ZpH h1];rfl);go_wp2_with (go_at_call 127;refine (Zbf lo _ Ts _ _ (HL.o.below HB1.o).tms).mono ?_;rintro e w1 ⟨rfl,rfl⟩);go_ret;exact⟨Zaa HE.o.symm,HB1.o⟩
     | true=>
      cases h2:inB 1 B.now B.os[m].ver with
      | false=>
       have HE:Hd (Zas Ss Ts B FF=false):=ZbC hlt (by rw [HOS.o,h2,Bool.false_and,Bool.and_false]);go_wp2_with (first|(go_at_call 127;refine (Zbf lo _ Ts _ _ (HL.o.below HB1.o).tms).mono ?_;rintro e w1 ⟨rfl,rfl⟩)|(go_at_call 82;refine (Zao _ _ _ _).mono ?_;rintro e w1 ⟨rfl,rfl⟩));go_ret;exact⟨Zaa HE.o.symm,HB1.o⟩
      | true=>
       go_wp2_with (first|(go_at_call 127;refine (Zbf lo _ Ts _ _ (HL.o.below HB1.o).tms).mono ?_;rintro e w1 ⟨rfl,rfl⟩)|(go_at_call 82;refine (Zao _ _ _ _).mono ?_;rintro e w1 ⟨rfl,rfl⟩));clear hd t2 q2 q6 y0
       go_cut [76] (fun c wc=>c=.bool (!ZcP Zgv B.os m)/\Below w1.heap.size w1 wc)
       case first=>
        have y3:=HY1.o.cell 3;have q0:=HP1.o.cell 0;have q1:=HP1.o.cell 1;simp at y3 q0 q1
        by_cases h0:m=0
        . have hd0:decide (0 < m)=false:=by simp;omega
          have HRI:Hd (ZcP Zgv B.os m=true):=by unfold Hd;rw [h0];rfl
          clear h0
          go_quiet ((go_at_call 128;exact (Zdn _ _ _ _ _).mono fun _ _ h=>⟨h.1,_,h.2⟩))
          go_wp2;go_meet;exact⟨congrArg Value.bool (by rw [HRI.o];rfl),below_drewN Zb_ _⟩
        . have hd0:decide (0 < m)=true:=by simp;omega
          obtain⟨k,hkm⟩:∃ k,m=k+1:=⟨m - 1,by omega⟩
          have hltk:k < B.os.length:=by omega
          have yk0:w1.cell? ⟨b,off+k*7,none⟩=some (.string B.os[k].kd):=(HB1.o.cell (p:=⟨b,off+k*7,none⟩) hbw).trans (HC.o k hltk).1;have yk1:w1.cell? ⟨b,off+k*7+1,none⟩=some (.string B.os[k].nm):=(HB1.o.cell (p:=⟨b,off+k*7+1,none⟩) hbw).trans (HC.o k hltk).2
          have HRI0:Hd (ZcP Zgv B.os m=decide (Zfs B.os[k].kd B.os[k].nm B.os[m].kd B.os[m].nm < 0)):=by
           subst hkm;unfold Hd;rw [Zek hlt]
           rfl
          have e2:IntKind.i64.wrap ((m:Int) - 1)=k:=by rw [IntWalk.i64_left];unfold wrap64;omega
          have e3:wrap64 ((m:Int) - 1)=k:=by unfold wrap64;omega
          have e4:(m:Int) - 1=k:=by omega
          have HKM:=Zab hkm;clear h0 hkm
          by_cases hnu:Zfs B.os[k].kd B.os[k].nm B.os[m].kd B.os[m].nm < 0
          . have HRI:Hd (ZcP Zgv B.os m=true):=HRI0.o.trans (decide_eq_true hnu)
            have hd1:decide (0<=Zfs B.os[k].kd B.os[k].nm B.os[m].kd B.os[m].nm)=false:=by simp;omega
            clear hnu
            go_quiet ((go_at_call 128;exact (Zdn _ _ _ _ _).mono fun _ _ h=>⟨h.1,_,h.2⟩))
            go_wp2;go_meet;exact⟨congrArg Value.bool (by rw [HRI.o];rfl),below_drewN Zb_ _⟩
          . have HRI:Hd (ZcP Zgv B.os m=false):=HRI0.o.trans (decide_eq_false hnu)
            have hd1:decide (0<=Zfs B.os[k].kd B.os[k].nm B.os[m].kd B.os[m].nm)=true:=by simp;omega
            clear hnu
            go_quiet ((go_at_call 128;exact (Zdn _ _ _ _ _).mono fun _ _ h=>⟨h.1,_,h.2⟩))
            go_wp2;go_meet;exact⟨congrArg Value.bool (by rw [HRI.o];rfl),below_drewN Zb_ _⟩
       case rest=>
        obtain⟨hc76,hwn⟩:=hcut;have HW2:=Zab hwn;have HB2:Hd (Zw_ w wc):=HB1.o.trans (HW2.o.mono HB1.o.size);have HX2:=Zab (HX1.o.on HW2.o);have HY2:=Zab (HY1.o.on HW2.o);have HP2:=Zab (HP1.o.on HW2.o);clear hwn HX1 HY1 HP1
        cases hri:ZcP Zgv B.os m with
        | false=>
         have HE:Hd (Zas Ss Ts B FF=false):=Zmr hlt hri;rw [hri] at hc76;subst hc76;go_wp2;go_ret;exact⟨Zaa HE.o.symm,HB2.o⟩
        | true=>
         have HR:=Zab hri;rw [hri] at hc76;subst hc76;clear hri;go_wp2;have HD:Hd (Zw_ w wc.drew):=HB2.o.drew;have hfd:=ZgV
         go_region_held3 (ZbA wc w.heap.size #[.slice sa Ss.length sc,.slice ma Ms.length mc,.slice ta Ts.length tc] β #[.string B.os[m].kd,.string B.os[m].nm,.string B.os[m].tm,.slice va B.os[m].vs.length vcap,.bool B.os[m].en,.slice ha B.os[m].hs.length hcap,.int .i64 B.os[m].ver])
          (first
            | (with_reducible exact ZbA.drew HX2.o HP2.o)
            | (with_reducible exact ZbA.on (by assumption) (by assumption)))
          (first
            | (go_at_call 130
               refine (ZkZ B.os[m].kd B.os[m].nm B.os[m].tm _ _ _ _ B.os[m].en B.os[m].ver B.os[m].vs B.os[m].hs Ss Ms _ lo lo (HL.o.below HD.o).shs (HL.o.below HD.o).mds (HV.o.below HD.o) (HH.o.below HD.o) n1 n2 HMB.o).mono ?_;rintro e w3 ⟨v',h',F',rfl,hb3,⟨mid,hlo,hmi,hs3,hs4⟩,hfix⟩;have HFF:Hd (F'=FF m):=ZcF.unique hfix (HSH.o m hlt);have HC3:Hd (Zw_ w w3):=HD.o.trans (hb3.mono HD.o.size);have HS3:=Zab hs3.at;obtain⟨va',vcap',rfl⟩:=hs3.form;obtain⟨ha',hcap',rfl⟩:=hs4.form;clear hfix hs3 hs4 hlo hmi)
            | (go_at_call 129
               refine (Zkd _ _ F' B.os[m].vs _ HS3.o (HV.o.below HC3.o)).mono ?_;rintro e w4 ⟨he4,hb4⟩;obtain⟨dq,hdq⟩:∃ d,d=decide (F'=B.os[m].vs):=⟨_,rfl⟩
               rw [<- hdq] at he4;subst he4;have HDQ:=Zab hdq;clear hdq;have HC4:Hd (Zw_ w w4):=HC3.o.trans (hb4.mono HC3.o.size)))
         have hb34:Below wc.heap.size wc w4:=(Zb_.drew.trans hb3).trans (hb4.mono ((Zb_.drew.trans hb3:Below wc.heap.size wc w3)).size);have HX4:=Zab (HX2.o.on hb34);have HY4:=Zab (HY2.o.on hb34);have HP4:=Zab (HP2.o.on hb34);have HF4:=Zab HFF.o;clear hb3 hb4 hb34 HX2 HY2 HP2 HC3 HS3 HD hfd
         cases dq with
         | false=>
          have hfv:¬ F'=B.os[m].vs:=of_decide_eq_false HDQ.o.symm;have HE:Hd (Zas Ss Ts B FF=false):=ZbC hlt (by rw [HOS.o,ZpI (fun e=>hfv (HF4.o.trans e))];rfl);clear hfv;go_wp2;go_ret;exact⟨Zaa HE.o.symm,HC4.o⟩
         | true=>
          have hfv:F'=B.os[m].vs:=of_decide_eq_true HDQ.o.symm;have HAL:Hd (Zcx Ts x.fields B.os[m] (FF m)=true):=ZpJ HCK.o h1 (by rw [<- HF4.o];exact hfv);clear hfv;have x0:=HX4.o.cell 0;have q0:=HP4.o.cell 0;have q1:=HP4.o.cell 1;have q2:=HP4.o.cell 2;have q3:=HP4.o.cell 3;have q4:=HP4.o.cell 4;have q5:=HP4.o.cell 5;have q6:=HP4.o.cell 6;simp at x0 q0 q1 q2 q3 q4 q5 q6;go_wp2_with fail;clear x0 q0 q1 q2 q3 q4 q5 q6;refine (Zcr B.os[m].kd B.os[m].nm B.os[m].tm _ _ _ B.os[m].en B.os[m].ver B.os[m].vs B.os[m].hs Ss _ lo w HL.o.shs HC4.o (HV.o.below HC4.o) (HH.o.below HC4.o)).mono ?_;rintro e w5 ⟨hb5,hq⟩;have HB5:Hd (Zw_ w w5):=HC4.o.trans (hb5.mono HC4.o.size);have HX5:=Zab (HX4.o.on hb5);have HY5:=Zab (HY4.o.on hb5);have HP5:=Zab (HP4.o.on hb5);clear hb5 HX4 HY4 HP4 HC4
          rcases hq with ⟨x',fv,hsh',hl',rfl,hF⟩ | ⟨hno,_⟩
          case inr=>exact absurd HLEN.o.symm (hno x HXS.o)
          obtain rfl:x=x':=Option.some.inj (HXS.o.symm.trans hsh');have HF:=Zab hF;obtain⟨fa,fcap,rfl⟩:=hF.form;clear hF hsh' hl';go_wp2
          go_loopw [11] (fun i wr=>∃ q:Nat,i=.int .i64 q/\q<=x.fields.length/\Zw_ w wr/\Box wr w.heap.size #[.slice sa Ss.length sc,.slice ma Ms.length mc,.slice ta Ts.length tc]/\Box wr (w.heap.size+1) #[.int .i64 B.now,.int .i64 B.tick,.int .i64 B.given,.slice (some ⟨b,off,none⟩) B.os.length k0,.slice a1 B.gs.length k1,.slice a2 B.ls.length k2,.slice a3 B.ps.length k3]/\Box wr β #[.string B.os[m].kd,.string B.os[m].nm,.string B.os[m].tm,.slice va B.os[m].vs.length vcap,.bool B.os[m].en,.slice ha B.os[m].hs.length hcap,.int .i64 B.os[m].ver]/\(Zdu x.fields B.os[m].vs q).all (ZcY B.os)=true) (fun i _=>x.fields.length - (intOf i).toNat)
          case atStart=>exact⟨0,rfl,Nat.zero_le _,HB5.o,HX5.o,HY5.o,HP5.o,rfl⟩
          case round=>
           obtain⟨q,rfl,hq,hb,hx,hy,hp,hall⟩:=hrel;have HBi:=Zab hb;have HXi:=Zab hx;have HYi:=Zab hy;have HPi:=Zab hp;have HAi:=Zab hall;clear hb hx hy hp hall HB5 HX5 HY5 HP5
           by_cases hlq:q < x.fields.length
           . have hlv:q < B.os[m].vs.length:=by have:=HLEN.o;omega
             obtain⟨fb,foff,rfl,hfb,hfc⟩:=HF.o.full' (by omega);obtain⟨hsz,wv,hcell,hst⟩:=hfc q hlq;obtain⟨vb,voff,rfl,hvb,hvc,hvs⟩:=HV.o.spread (by omega);have HST:=Zab (Zih hlq hlv);have HTO:Hd (Zfw q x.fields[q] B.os[m].vs[q]=if (x.fields[q].kd == 4&&!B.os[m].vs[q].toList.isEmpty)=true then [(q,x.fields[q].ro,x.fields[q].to,B.os[m].vs[q])] else []):=rfl;go_wp2
             go_cut [129] (fun c wc=>c=.bool (!(Zfw q x.fields[q] B.os[m].vs[q]).all (ZcY B.os))/\Below wr.heap.size wr wc)
             case first=>
              have xn:Nonempty (In (Up wr)):=⟨⟨wr,Below.refl _ _⟩⟩;have xs:=fun (X:In (Up wr))=>ZhT X
              have z1:∀ X:In (Up wr),X.w.cell? ⟨fb,foff+q*11+1,none⟩=some (.int .i64 x.fields[q].kd):=fun X=>Up.cell X (hcell.below HBi.o hfb).c1
              have z5:∀ X:In (Up wr),X.w.cell? ⟨fb,foff+q*11+5,none⟩=some (.string x.fields[q].to):=fun X=>Up.cell X (hcell.below HBi.o hfb).c5
              have zv:∀ X:In (Up wr),X.w.cell? ⟨vb,voff+q,none⟩=some (.string B.os[m].vs[q]):=fun X=>Up.cell X ((HBi.o.cell (p:=⟨vb,voff+q,none⟩) hvb).trans (hvc q hlv))
              have q3:∀ X:In (Up wr),X.w.cell? ⟨β,3,none⟩=some (.slice (some ⟨vb,voff,none⟩) B.os[m].vs.length vcap):=fun X=>Up.cell X (by rw [HPi.o.cell 3];rfl)
              have x0:∀ X:In (Up wr),X.w.cell? ⟨w.heap.size+1,0,none⟩=some (.int .i64 B.now):=fun X=>Up.cell X (by rw [HYi.o.cell 0];rfl)
              have x1:∀ X:In (Up wr),X.w.cell? ⟨w.heap.size+1,1,none⟩=some (.int .i64 B.tick):=fun X=>Up.cell X (by rw [HYi.o.cell 1];rfl)
              have x2:∀ X:In (Up wr),X.w.cell? ⟨w.heap.size+1,2,none⟩=some (.int .i64 B.given):=fun X=>Up.cell X (by rw [HYi.o.cell 2];rfl)
              have x3:∀ X:In (Up wr),X.w.cell? ⟨w.heap.size+1,3,none⟩=some (.slice (some ⟨b,off,none⟩) B.os.length k0):=fun X=>Up.cell X (by rw [HYi.o.cell 3];rfl)
              have x4:∀ X:In (Up wr),X.w.cell? ⟨w.heap.size+1,4,none⟩=some (.slice a1 B.gs.length k1):=fun X=>Up.cell X (by rw [HYi.o.cell 4];rfl)
              have x5:∀ X:In (Up wr),X.w.cell? ⟨w.heap.size+1,5,none⟩=some (.slice a2 B.ls.length k2):=fun X=>Up.cell X (by rw [HYi.o.cell 5];rfl)
              have x6:∀ X:In (Up wr),X.w.cell? ⟨w.heap.size+1,6,none⟩=some (.slice a3 B.ps.length k3):=fun X=>Up.cell X (by rw [HYi.o.cell 6];rfl)
              have hd:=Ztb B.os x.fields[q].to B.os[m].vs[q];clear hfc hsz hcell hst hvc hvs;refine Za0 (Up wr) (by kernel_rfl) (by kernel_rfl) (Zb_.drew) ?_
              cases hk1:(x.fields[q].kd == 4) with
              | false=>
               repeat (go_big_quiet_step ((go_at_call 131;rename_i X;exact (Zhp lo _ _ _ _ B _ _ _ (HK.o.below (HBi.o.trans (X.h.mono HBi.o.size)))).mono fun _ _ h=>⟨h.1,Up.next X h.2⟩)))
               refine wpQuiet_nil ?_;intro wn hw;obtain⟨X,hX⟩:=hw;have HWN:Below wr.heap.size wr wn:=by rw [hX];exact X.h
               clear hX X xs xn z1 z5 zv q3 x0 x1 x2 x3 x4 x5 x6;go_wp2;go_meet;exact⟨congrArg Value.bool (by rw [HTO.o,hk1];rfl),HWN⟩
              | true=>
               cases hk2:B.os[m].vs[q].toList.isEmpty with
               | true=>
                repeat (go_big_quiet_step ((go_at_call 131;rename_i X;exact (Zhp lo _ _ _ _ B _ _ _ (HK.o.below (HBi.o.trans (X.h.mono HBi.o.size)))).mono fun _ _ h=>⟨h.1,Up.next X h.2⟩)))
                refine wpQuiet_nil ?_;intro wn hw;obtain⟨X,hX⟩:=hw;have HWN:Below wr.heap.size wr wn:=by rw [hX];exact X.h
                clear hX X xs xn z1 z5 zv q3 x0 x1 x2 x3 x4 x5 x6;go_wp2;go_meet;exact⟨congrArg Value.bool (by rw [HTO.o,hk1,hk2];rfl),HWN⟩
               | false=>
                cases h3:B.os.any (Zhj x.fields[q].to B.os[m].vs[q]) with
                | true=>
                 rw [h3] at hd
                 repeat (go_big_quiet_step ((go_at_call 131;rename_i X;exact (Zhp lo _ _ _ _ B _ _ _ (HK.o.below (HBi.o.trans (X.h.mono HBi.o.size)))).mono fun _ _ h=>⟨h.1,Up.next X h.2⟩)))
                 refine wpQuiet_nil ?_;intro wn hw;obtain⟨X,hX⟩:=hw;have HWN:Below wr.heap.size wr wn:=by rw [hX];exact X.h
                 clear hX X xs xn z1 z5 zv q3 x0 x1 x2 x3 x4 x5 x6;go_wp2;go_meet;exact⟨congrArg Value.bool (by rw [HTO.o,hk1,hk2];show false=!(B.os.any (Zhj x.fields[q].to B.os[m].vs[q])&&true);rw [h3];rfl),HWN⟩
                | false=>
                 rw [h3] at hd
                 repeat (go_big_quiet_step ((go_at_call 131;rename_i X;exact (Zhp lo _ _ _ _ B _ _ _ (HK.o.below (HBi.o.trans (X.h.mono HBi.o.size)))).mono fun _ _ h=>⟨h.1,Up.next X h.2⟩)))
                 refine wpQuiet_nil ?_;intro wn hw;obtain⟨X,hX⟩:=hw;have HWN:Below wr.heap.size wr wn:=by rw [hX];exact X.h
                 clear hX X xs xn z1 z5 zv q3 x0 x1 x2 x3 x4 x5 x6;go_wp2;go_meet;exact⟨congrArg Value.bool (by rw [HTO.o,hk1,hk2];show true=!(B.os.any (Zhj x.fields[q].to B.os[m].vs[q])&&true);rw [h3];rfl),HWN⟩
             case rest=>
              obtain⟨hc129,hwn⟩:=hcut;have HWN:=Zab hwn;have HWB:Hd (Zw_ w wc):=HBi.o.trans (HWN.o.mono HBi.o.size);have HXw:=Zab (HXi.o.on HWN.o);have HYw:=Zab (HYi.o.on HWN.o);have HPw:=Zab (HPi.o.on HWN.o);clear hwn hfc hsz hcell hst hvc hvs HXi HYi HPi
              cases hti:(Zfw q x.fields[q] B.os[m].vs[q]).all (ZcY B.os) with
              | false=>
               have HE:Hd (Zas Ss Ts B FF=false):=ZbC hlt (by rw [HOS.o,Zrg (show q+1<=x.fields.length by omega) (by rw [HST.o,List.all_append,hti,Bool.and_false]),Bool.and_false,Bool.and_false]);rw [hti] at hc129;subst hc129;go_wp2;go_ret;exact⟨Zaa HE.o.symm,HWB.o⟩
              | true=>
               have HAT:Hd ((Zdu x.fields B.os[m].vs (q+1)).all (ZcY B.os)=true):=by unfold Hd;rw [HST.o,List.all_append,HAi.o,hti];rfl
               rw [hti] at hc129;subst hc129;go_wp2;go_roundw
               . exact⟨q+1,by go_num,by omega,HWB.o,HXw.o,HYw.o,HPw.o,HAT.o⟩
               . simp [intOf];omega
           . have he:q=x.fields.length:=by omega
             subst he;have HT:Hd (ZqE Ss Ts B FF m=true):=by unfold Hd;rw [HQ.o,HOS.o,HAL.o,h2,show ZiJ B.os x.fields B.os[m].vs=true from HAi.o];rfl
             go_wp2;go_roundw
             . exact⟨m+1,by go_num,by omega,HBi.o,HXi.o,HYi.o,ZmE HA.o HT.o,ZmE (p:=ZcP Zgv B.os) HS.o HR.o⟩
             . simp [intOf];omega
  . have HT:Hd (Zas Ss Ts B FF=true):=Zh5 hl (Za1 (fun j hj=>HS.o j (by omega))) (fun i hi=>HA.o i (by omega))
    go_wp2;go_ret;exact⟨Zaa HT.o.symm,HBr.o⟩
end
end Go.Proofs.YtmappejlmapboaaGreat
