import Derived.Test.YtcfjmagkinpaeaaGreatGWA
import Derived.Test.YtcfjmagkinpaeaaGreatGSLQ
import Derived.Test.YtcfjmagkinpaeaaGreatGJB
set_option maxHeartbeats 16000000
set_option maxRecDepth 100000
open Go.Proofs.Tryz
namespace Go.Proofs.YtcfjmagkinpaeaaGreat
open Go.RowKit Go.Deep
def ZdZ (Ss:List Sh) (Ts:List Tm) (nm:Zy_) (S:Sl):Bool:=(S.dr.toList == nm.toList)&&ZcV Ss Ts S
def Zd0 (Ss:List Sh) (Ts:List Tm) (D:Dr):Bool:=decide (D.sl.length≤6)&&((D.up || decide (D.sl.length≤0))&&D.sl.all (ZdZ Ss Ts D.nm))
def Zck (Ss:List Sh) (Ts:List Tm) (F:Bk→Nat→List Zy_) (now:Int) (D:Dr):Bool:=Zaj D.nm&&(decide (D.vw.now≤now)&&(Zbj Ss Ts D.vw (F D.vw)&&Zd0 Ss Ts D))
def ZfH (x y:Dr):Int:=Zcj x.nm y.nm
def Zbl (Ss:List Sh) (Ts:List Tm) (F:Bk→Nat→List Zy_) (U:Wd):Bool:=decide (U.ds.length≤4)&&(Zcz ZfH U.ds&&(Zbj Ss Ts U.bk (F U.bk)&&U.ds.all (Zck Ss Ts F U.bk.now)))
theorem SlC.dr {lo:Nat} {w:World} {cs:List Value} {S:Sl} (h:SlC lo w cs S):cs[0]?=some (.string S.dr):=by
 obtain⟨a0,k0,a1,k1,a2,k2,a3,k3,h1,-⟩:=h;rw [h1];rfl
theorem ZkF (sv mv tv:Value) (Ss:List Sh) (Ms:List Md) (Ts:List Tm) (w:World) (cs:List Value) (S:Sl) (hl:ZaO 0 w sv mv tv Ss Ms Ts) (h:SlC 0 w cs S) :
 Calls prog 178 #[.agg #[sv,mv,tv],.agg cs.toArray] w fun e w'=>e=.returned (.bool (ZcV Ss Ts S))∧Zw_ w w':=by
 obtain⟨a0,k0,a1,k1,a2,k2,a3,k3,rfl,h⟩:=h;exact ZiJ sv mv tv _ _ _ _ Ss Ms Ts S w hl h
theorem Zes (sv mv tv:Value) (Ss:List Sh) (Ms:List Md) (Ts:List Tm) (w:World) (cs:List Value) (S:Sl) (hl:ZaO 0 w sv mv tv Ss Ms Ts) (h:SlC 0 w cs S) :
 Calls prog 59 #[.agg #[sv,mv,tv],.agg cs.toArray] w fun e w'=>e=.returned (.bool (ZcV Ss Ts S))∧Zw_ w w':=by
 obtain⟨a0,k0,a1,k1,a2,k2,a3,k3,rfl,h⟩:=h;exact Zjm sv mv tv _ _ _ _ Ss Ms Ts S w hl h
theorem ZlF (lo lo':Nat) (cs cs':List Value) (x y:Dr) (w:World) (h:DrC lo w cs x) (h':DrC lo' w cs' y) :
 Calls prog 67 #[.agg cs.toArray,.agg cs'.toArray] w fun e w'=>e=.returned (.int .i64 (Zcj x.nm y.nm))∧Zw_ w w':=by
 obtain⟨a0,k0,a1,k1,a2,k2,a3,k3,a4,k4,rfl,-⟩:=h;obtain⟨b0,m0,b1,m1,b2,m2,b3,m3,b4,m4,rfl,-⟩:=h'
 show Calls prog 67 #[.agg #[.string x.nm,.bool x.up,.int .i64 x.vw.now,.int .i64 x.vw.tick,.int .i64 x.vw.given,.slice a0 x.vw.os.length k0,.slice a1 x.vw.gs.length k1,.slice a2 x.vw.ls.length k2,.slice a3 x.vw.ps.length k3,.slice a4 x.sl.length k4],.agg #[.string y.nm,.bool y.up,.int .i64 y.vw.now,.int .i64 y.vw.tick,.int .i64 y.vw.given,.slice b0 y.vw.os.length m0,.slice b1 y.vw.gs.length m1,.slice b2 y.vw.ls.length m2,.slice b3 y.vw.ps.length m3,.slice b4 y.sl.length m4]] w _
 go_enter func67,ntmps67;go_wp2_with (go_at_call 121;refine (Zeo _ _ _).mono ?_;rintro e w' ⟨rfl,rfl⟩);go_ret;exact⟨rfl,(Zb_.alloc Zl_ _).alloc (by simp) _⟩
theorem Zly (lo:Nat) (v:Value) (Xl:List Dr) (w:World) (hv:Zcv lo w v Xl) :
 Calls prog 66 #[v,.func (.func 67) #[] #[]] w fun e w'=>e=.returned (.bool (Zcz ZfH Xl))∧Zw_ w w':=by
 have HV:=Zab hv;have hm:=hv.max;unfold maxLen at hm;obtain⟨a,cap,rfl⟩:=hv.form;clear hv;go_enter func66,ntmps66;go_wp2
 go_loopw [5] (fun i wr=>∃ m:Nat,i=.int .i64 m∧1≤m∧(m≤Xl.length∨m=1)∧Zw_ w wr∧∀ j,j < m→Zce ZfH Xl j=true) (fun i _=>Xl.length+1 - (intOf i).toNat)
 case atStart=>exact⟨1,rfl,Nat.le_refl _,Or.inr rfl,Below.refl _ _,fun j hj=>by rw [show j=0 by omega];rfl⟩
 case round=>
  obtain⟨m,rfl,hm1,hk,hb,hall⟩:=hrel;have HB:=Zab hb;have HA:=Zab hall
  by_cases hlt:m < Xl.length
  · obtain⟨k,hkm⟩:∃ k,m=k+1:=⟨m - 1,by omega⟩
    have hlt0:k < Xl.length:=by omega
    obtain⟨b,off,rfl,hbw,-,hc⟩:=HV.out.full' (by omega);obtain⟨cs,hr,hx⟩:=hc k hlt0;obtain⟨cs',hr',hx'⟩:=hc m hlt;have HX:=Zab (hx.below hb);have HX':=Zab (hx'.below hb);have hz:(prog.info? 71).map (·.size)=some cs.length:=by rw [hx.len];exact Zdj
    have hz':(prog.info? 71).map (·.size)=some cs'.length:=by rw [hx'.len];exact Zdj
    have hRr:Hid (wr.rangeAt b (off+k*10) cs∧b < wr.heap.size):=⟨Zaq hr hb hbw,Zk_ hbw hb.size⟩;have hRr':Hid (wr.rangeAt b (off+m*10) cs'∧b < wr.heap.size):=⟨Zaq hr' hb hbw,Zk_ hbw hb.size⟩;have HZ1:=Zab hz;have HZ2:=Zab hz'
    have HS:Hid (Zce ZfH Xl m=decide (ZfH Xl[k] Xl[m] < 0)):=by
     subst hkm;exact Zdb hlt
    have e2:IntKind.i64.wrap ((m:Int) - 1)=k:=by rw [IntWalk.i64_left];unfold wrap64;omega
    have HKM:=Zab hkm;have i0:(0:Int)≤(k:Int):=by omega
    have i1:(k:Int) < (Xl.length:Int):=by omega
    have i2:(0:Int)≤(m:Int):=by omega
    have i3:(m:Int) < (Xl.length:Int):=by omega
    clear hc hr hr' hx hx' hb hz hz' hkm hk hall;go_wp2
    go_cut [23] (fun c wc=>c=.bool (decide (0≤Zcj Xl[k].nm Xl[m].nm))∧Below wr.heap.size wr wc)
    case first=>
     have xn:Nonempty (In (Up wr)):=⟨⟨wr,Below.refl _ _⟩⟩;have xs:=fun (X:In (Up wr))=>ZcH X
     refine Zae (Up wr) (by kernel_rfl) (by kernel_rfl) (Zb_.drew) ?_
     repeat (go_big_quiet_step (fail))
     refine ZaM (by rfl) 71 (.tmp 16) rfl b (off+k*10) rfl cs _ (fun W hW=>by obtain⟨X,rfl⟩:=hW;exact Zaq hRr.out.1 X.h hRr.out.2) underlying71 rfl HZ1.out ?_;simp only [Act.put,List.setIfInBounds_toArray,List.set_cons_zero,List.set_cons_succ]
     repeat (go_big_quiet_step (fail))
     refine ZaM (by rfl) 71 (.tmp 20) rfl b (off+m*10) rfl cs' _ (fun W hW=>by obtain⟨X,rfl⟩:=hW;exact Zaq hRr'.out.1 X.h hRr'.out.2) underlying71 rfl HZ2.out ?_;simp only [Act.put,List.setIfInBounds_toArray,List.set_cons_zero,List.set_cons_succ]
     repeat (go_big_quiet_step (first|(go_at_call 67;rename_i X;exact (ZlF lo lo _ _ Xl[k] Xl[m] _ (HX.out.below X.h) (HX'.out.below X.h)).mono fun _ _ h=>⟨h.1,Up.next X h.2⟩)))
     refine wpQuiet_nil ?_;intro wn hw;obtain⟨X,hX⟩:=hw;have HWN:Below wr.heap.size wr wn:=by rw [hX];exact X.h
     clear hX X xs xn;go_wp2;go_meet;exact⟨rfl,HWN⟩
    case rest=>
    obtain⟨rfl,hbc⟩:=hcut;have hB:Hid (Zw_ w wc):=bt HB.out hbc;clear hbc HX HX'
    by_cases hq:0≤Zcj Xl[k].nm Xl[m].nm
    all_goals first
     | (have HN:Hid (Zcz ZfH Xl=false):=ZaW hlt (HS.out.trans (decide_eq_false (by unfold ZfH;omega)))
        go_wp2;go_ret;exact⟨Zaa HN.out.symm,hB.out⟩)
     | (have HT:Hid (Zce ZfH Xl m=true):=HS.out.trans (decide_eq_true (by unfold ZfH;omega))
        go_wp2;go_roundw
        case rel=>exact⟨m+1,by go_num,by omega,by omega,hB.out,fun j hj=>by
                   by_cases e:j=m
                   · rw [e];exact HT.out
                   · exact HA.out j (by omega)⟩
        case measure=>simp [intOf];omega)
  · have HT:Hid (Zcz ZfH Xl=true):=Za0 (fun i hi=>HA.out i (by omega))
    go_wp2;go_ret;exact⟨Zaa HT.out.symm,HB.out⟩
section
variable (sv mv tv:Value) (Ss:List Sh) (Ms:List Md) (Ts:List Tm) (F:Bk→Nat→List Zy_) (w:World)
theorem Zif (cs:List Value) (D:Dr) (hl:ZaO 0 w sv mv tv Ss Ms Ts) (h:DrC 0 w cs D) :
 Calls prog 122 #[.agg #[sv,mv,tv],.agg cs.toArray] w fun e w'=>e=.returned (.bool (Zd0 Ss Ts D))∧Zw_ w w':=by
 have HI:Hid (Zd0 Ss Ts D=(decide (D.sl.length≤6)&&((D.up || decide (D.sl.length≤0))&&D.sl.all (ZdZ Ss Ts D.nm)))):=rfl;have HL:=Zab hl;obtain⟨sa,sc,rfl⟩:=hl.shs.form;obtain⟨ma,mc,rfl⟩:=hl.mds.form;obtain⟨ta,tc,rfl⟩:=hl.tms.form;obtain⟨a0,k0,a1,k1,a2,k2,a3,k3,a4,k4,rfl,h⟩:=h;have HD:=Zab h;clear hl h
 show Calls prog 122 #[.agg #[.slice sa Ss.length sc,.slice ma Ms.length mc,.slice ta Ts.length tc],.agg #[.string D.nm,.bool D.up,.int .i64 D.vw.now,.int .i64 D.vw.tick,.int .i64 D.vw.given,.slice a0 D.vw.os.length k0,.slice a1 D.vw.gs.length k1,.slice a2 D.vw.ls.length k2,.slice a3 D.vw.ps.length k3,.slice a4 D.sl.length k4]] w _
 by_cases hl:D.sl.length≤6
 case neg=>
  have HE:Hid (Zd0 Ss Ts D=false):=by unfold Hid;rw [HI.out,decide_eq_false hl];rfl
  have hgt:decide ((6:Int) < (D.sl.length:Int))=true:=by simp;omega
  go_enter func122,ntmps122;go_wp2;go_ret;exact⟨Zaa HE.out.symm,(Zac w _).alloc (by simp) _⟩
 have hgt:decide ((6:Int) < (D.sl.length:Int))=false:=by simp;omega
 cases hu:(D.up || decide (D.sl.length≤0)) with
 | false=>
  have hu1:D.up=false:=by cases hq:D.up <;> simp [hq] at hu ⊢
  have hpos:0 < D.sl.length:=by
   cases hs:D.sl.length with
   | zero=>rw [hu1,hs] at hu;cases hu
   | succ n=>omega
  have hg0:decide ((0:Int) < (D.sl.length:Int))=true:=by simp;omega
  have HE:Hid (Zd0 Ss Ts D=false):=by unfold Hid;rw [HI.out,decide_eq_true hl,hu];rfl
  clear hu;go_enter func122,ntmps122;go_wp2;go_ret;exact⟨Zaa HE.out.symm,(Zac w _).alloc (by simp) _⟩
 | true=>
 have HE:Hid (Zd0 Ss Ts D=D.sl.all (ZdZ Ss Ts D.nm)):=by unfold Hid;rw [HI.out,decide_eq_true hl,hu];rfl
 cases hu1:D.up with
 | false=>
  have hz:D.sl=[]:=by
   simp [hu1] at hu;exact hu
  have HT:Hid (Zd0 Ss Ts D=true):=by unfold Hid;rw [HE.out,hz];rfl
  have hg0:decide ((0:Int) < (D.sl.length:Int))=false:=by simp [hz]
  have hn:D.sl.length=0:=by simp [hz]
  clear hu hz;go_enter func122,ntmps122;go_wp2
  go_loopw [25] (fun i wr=>i=.int .i64 0∧Zw_ w wr) (fun _ _=>0)
  case atStart=>exact⟨rfl,(Zac w _).alloc (by simp) _⟩
  case round=>
   obtain⟨rfl,hb⟩:=hrel;go_wp2;go_ret;exact⟨Zaa HT.out.symm,hb⟩
 | true=>
 clear hu;go_enter func122,ntmps122;go_wp2;generalize hWa:World.alloc (w.alloc _) _=Wa;have HB0:Hid (Zw_ w Wa):=by rw [← hWa];exact (Zac w _).alloc (by simp) _
 have FA0:Hid (Box Wa w.heap.size #[.slice sa Ss.length sc,.slice ma Ms.length mc,.slice ta Ts.length tc]):=by rw [← hWa];exact (Box.new _ _ _ _ rfl).on (Zac _ _)
 have FB0:Hid (Box Wa (w.heap.size+1) #[.string D.nm,.bool D.up,.int .i64 D.vw.now,.int .i64 D.vw.tick,.int .i64 D.vw.given,.slice a0 D.vw.os.length k0,.slice a1 D.vw.gs.length k1,.slice a2 D.vw.ls.length k2,.slice a3 D.vw.ps.length k3,.slice a4 D.sl.length k4]):=by rw [← hWa,hu1];exact Box.new _ _ _ _ (by simp)
 clear hWa
 go_loopw [25] (fun i wr=>∃ k:Nat,i=.int .i64 k∧k≤D.sl.length∧Zw_ w wr∧Box wr w.heap.size #[.slice sa Ss.length sc,.slice ma Ms.length mc,.slice ta Ts.length tc]∧Box wr (w.heap.size+1) #[.string D.nm,.bool D.up,.int .i64 D.vw.now,.int .i64 D.vw.tick,.int .i64 D.vw.given,.slice a0 D.vw.os.length k0,.slice a1 D.vw.gs.length k1,.slice a2 D.vw.ls.length k2,.slice a3 D.vw.ps.length k3,.slice a4 D.sl.length k4]∧(∀ j (hj:j < D.sl.length),j < k→ZdZ Ss Ts D.nm D.sl[j]=true)) (fun i _=>D.sl.length - (intOf i).toNat)
 case atStart=>exact⟨0,rfl,by omega,HB0.out,FA0.out,FB0.out,fun j _ h=>by omega⟩
 case round=>
  obtain⟨k,rfl,hk,hb,hx,hy,hall⟩:=hrel;have HAL:=Zab hall;have HBr:=Zab hb;have HX:=Zab hx;have HY:=Zab hy;clear hall hb hx hy
  by_cases hlt:k < D.sl.length
  · obtain⟨b,off,rfl,hbw,-,hc⟩:=HD.out.ls.full' (by omega)
    obtain⟨cs,hr,hc⟩:=hc k hlt;have HR:=Zab (Zaq hr HBr.out hbw);have HC:=Zab (hc.below HBr.out);have HZ:Hid ((prog.info? 125).map (·.size)=some cs.length):=by unfold Hid;rw [hc.len];exact Zen
    have hcz:cs.toArray.size=18:=List.size_toArray.trans hc.len;have HTH:Hid (∀ (t:TypeId) (zs:Array Value),zs.size=18→(wr.alloc (.cells zs t)).there wr.heap.size 0 cs.toArray.size):=fun t zs hz=>Zex wr zs t _ (by rw [hz,hcz])
    have HZ2:Hid ((prog.info? 125).map (·.size)=some cs.toArray.size):=by unfold Hid;rw [List.size_toArray,hc.len];exact Zen
    have HQ:Hid (ZdZ Ss Ts D.nm D.sl[k]=((D.sl[k].dr.toList == D.nm.toList)&&ZcV Ss Ts D.sl[k])):=rfl;clear hc hr hcz
    go_wp2_with (first
     | (refine wpList_load_mid rfl 125 (.tmp 27) rfl b (off+k*18) rfl cs _ HR.out underlying125 rfl HZ.out ?_)
     | (refine wpList_store_mid rfl 125 (.tmp 6) (.tmp 28) rfl wr.heap.size 0 cs.toArray rfl rfl (by exact HTH.out _ _ rfl) HZ2.out HC.out.one ?_;refine Hid.out ?_))
    generalize hW:World.setCells (World.alloc wr _) _ _ _=W;have HW:Hid (Below wr.heap.size wr W):=by rw [← hW];exact Below.sets Zl_ _ _ (Zac _ _)
    have FS:Hid (Box W wr.heap.size cs.toArray):=by rw [← hW];exact Box.full (Box.new _ _ _ _ rfl) (by simp [HC.out.len])
    have HCW:=Zab (HC.out.below HW.out);have HXW:=Zab (HX.out.on HW.out);have HYW:=Zab (HY.out.on HW.out);have HBW:Hid (Zw_ w W):=bt HBr.out HW.out;have c0:W.cell? ⟨wr.heap.size,0,none⟩=some (.string D.sl[k].dr):=by rw [FS.out.cell 0];simpa using HC.out.dr
    have y0:=HYW.out.cell 0;simp at y0;clear hW HR HC HX HY HBr;refine Zab ?_
    cases he:(D.sl[k].dr.toList == D.nm.toList) with
    | false=>
     have HN:Hid (Zd0 Ss Ts D=false):=by unfold Hid;rw [HE.out];exact Zba hlt (by rw [HQ.out,he];rfl)
     go_wp2;go_ret;exact⟨Zaa HN.out.symm,HBW.out⟩
    | true=>
     have g0:=HXW.out.cell;go_wp2_with (refine Zhp (by rfl) 125 (.tmp 6) rfl wr.heap.size 0 rfl cs _ (FS.out.range rfl) underlying125 rfl HZ.out ?_);clear g0 c0 y0;refine (ZkF _ _ _ Ss Ms Ts _ cs D.sl[k] (HL.out.below HBW.out) HCW.out).mono ?_;rintro e w2 ⟨rfl,hb2⟩;have HB2:Hid (Zw_ w w2):=bt HBW.out hb2;have HX2:=Zab (HXW.out.on hb2);have HY2:=Zab (HYW.out.on hb2);clear hb2 HXW HYW HCW FS HW
     cases hs:ZcV Ss Ts D.sl[k] with
     | false=>
      have HN:Hid (Zd0 Ss Ts D=false):=by unfold Hid;rw [HE.out];exact Zba hlt (by rw [HQ.out,he,hs];rfl)
      go_wp2;go_ret;exact⟨Zaa HN.out.symm,HB2.out⟩
     | true=>
      have HT:Hid (ZdZ Ss Ts D.nm D.sl[k]=true):=by unfold Hid;rw [HQ.out,he,hs];rfl
      go_wp2;go_roundw
      case rel=>exact⟨k+1,by go_num,by omega,HB2.out,HX2.out,HY2.out,Zbn HAL.out hlt HT.out⟩
      case measure=>simp [intOf];omega
  · have HT:Hid (Zd0 Ss Ts D=true):=by unfold Hid;rw [HE.out];exact Zb0 (fun i hi=>HAL.out i hi (by omega))
    go_wp2;go_ret;exact⟨Zaa HT.out.symm,HBr.out⟩
theorem Zig (now:Int) (cs:List Value) (D:Dr) (hl:ZaO 0 w sv mv tv Ss Ms Ts) (hmb:Zau Ss Ms=true) (h:DrC 0 w cs D) (hn:Zbx D.vw) (hsh:Za2 Ss Ms D.vw.os (F D.vw)) :
 Calls prog 68 #[.agg #[sv,mv,tv],.int .i64 now,.agg cs.toArray] w fun e w'=>e=.returned (.bool (Zck Ss Ts F now D))∧Zw_ w w':=by
 have HI:Hid (Zck Ss Ts F now D=(Zaj D.nm&&(decide (D.vw.now≤now)&&(Zbj Ss Ts D.vw (F D.vw)&&Zd0 Ss Ts D)))):=rfl;have HL:=Zab hl;have HN:=Zab hn;have HMB:=Zab hmb;have HSH:=Zab hsh;obtain⟨sa,sc,rfl⟩:=hl.shs.form;obtain⟨ma,mc,rfl⟩:=hl.mds.form;obtain⟨ta,tc,rfl⟩:=hl.tms.form;obtain⟨a0,k0,a1,k1,a2,k2,a3,k3,a4,k4,rfl,h⟩:=h;have HD:=Zab h;have sn1:D.nm.size≤maxLen:=h.sz;clear hl h hn hmb hsh
 show Calls prog 68 #[.agg #[.slice sa Ss.length sc,.slice ma Ms.length mc,.slice ta Ts.length tc],.int .i64 now,.agg #[.string D.nm,.bool D.up,.int .i64 D.vw.now,.int .i64 D.vw.tick,.int .i64 D.vw.given,.slice a0 D.vw.os.length k0,.slice a1 D.vw.gs.length k1,.slice a2 D.vw.ls.length k2,.slice a3 D.vw.ps.length k3,.slice a4 D.sl.length k4]] w _
 go_enter func68,ntmps68
 cases h1:Zaj D.nm with
 | false=>
  have HE:Hid (Zck Ss Ts F now D=false):=by unfold Hid;rw [HI.out,h1];rfl
  go_wp2_with (go_at_call 118;refine (Zag _ _ (by with_reducible assumption)).mono ?_;rintro e w' ⟨rfl,rfl⟩);go_ret;exact⟨Zaa HE.out.symm,(Zac w _).alloc (by simp) _⟩
 | true=>
 by_cases h2:D.vw.now≤now
 case neg=>
  have hv:decide (D.vw.now≤now)=false:=decide_eq_false h2;have HE:Hid (Zck Ss Ts F now D=false):=by unfold Hid;rw [HI.out,h1,hv];rfl
  go_wp2_with (go_at_call 118;refine (Zag _ _ (by with_reducible assumption)).mono ?_;rintro e w' ⟨rfl,rfl⟩);go_ret;exact⟨Zaa HE.out.symm,(Zac w _).alloc (by simp) _⟩
 have hv:decide (D.vw.now≤now)=true:=decide_eq_true h2;clear h2;go_wp2_with (go_at_call 118;refine (Zag _ _ (by with_reducible assumption)).mono ?_;rintro e w' ⟨rfl,rfl⟩);generalize hWa:World.alloc (w.alloc _) _=Wa;have HB0:Hid (Zw_ w Wa):=by rw [← hWa];exact (Zac w _).alloc (by simp) _
 have FA0:Hid (Box Wa w.heap.size #[.slice sa Ss.length sc,.slice ma Ms.length mc,.slice ta Ts.length tc]):=by rw [← hWa];exact (Box.new _ _ _ _ rfl).on (Zac _ _)
 have FB0:Hid (Box Wa (w.heap.size+1) #[.string D.nm,.bool D.up,.int .i64 D.vw.now,.int .i64 D.vw.tick,.int .i64 D.vw.given,.slice a0 D.vw.os.length k0,.slice a1 D.vw.gs.length k1,.slice a2 D.vw.ls.length k2,.slice a3 D.vw.ps.length k3,.slice a4 D.sl.length k4]):=by rw [← hWa];exact Box.new _ _ _ _ (by simp)
 clear hWa;refine (ZdN 0 _ _ _ _ _ _ _ Ss Ms Ts D.vw (F D.vw) _ (HL.out.below HB0.out) HMB.out (HD.out.below HB0.out).bk HN.out HSH.out).mono ?_;rintro e w1 ⟨rfl,hb1⟩;have HB1:Hid (Zw_ w w1):=bt HB0.out hb1;have FA1:=Zab (FA0.out.on hb1);have FB1:=Zab (FB0.out.on hb1);clear hb1 FA0 FB0 HB0
 cases h3:Zbj Ss Ts D.vw (F D.vw) with
 | false=>
  have HE:Hid (Zck Ss Ts F now D=false):=by unfold Hid;rw [HI.out,h1,hv,h3];rfl
  go_wp2;go_ret;exact⟨Zaa HE.out.symm,HB1.out⟩
 | true=>
 have HE:Hid (Zck Ss Ts F now D=Zd0 Ss Ts D):=by unfold Hid;rw [HI.out,h1,hv,h3];rfl
 have g0:=FA1.out.cell;have g1:=FB1.out.cell;go_wp2_with fail;clear g0 g1;refine (Zif _ _ _ Ss Ms Ts _ (drL D a0 k0 a1 k1 a2 k2 a3 k3 a4 k4) D (HL.out.below HB1.out) ⟨a0,k0,a1,k1,a2,k2,a3,k3,a4,k4,rfl,HD.out.below HB1.out⟩).mono ?_;rintro e w2 ⟨rfl,hb2⟩;have HB2:Hid (Zw_ w w2):=bt HB1.out hb2;clear hb2;go_wp2;go_ret;exact⟨Zaa HE.out.symm,HB2.out⟩
theorem Zho (cs:List Value) (U:Wd) (hl:ZaO 0 w sv mv tv Ss Ms Ts) (hmb:Zau Ss Ms=true) (h:WdC 0 w cs U) (hn:Zcp U) (hF:∀ B:Bk,Za2 Ss Ms B.os (F B)) :
 Calls prog 29 #[.agg #[sv,mv,tv],.agg cs.toArray] w fun e w'=>e=.returned (.bool (Zbl Ss Ts F U))∧Zw_ w w':=by
 have HI:Hid (Zbl Ss Ts F U=(decide (U.ds.length≤4)&&(Zcz ZfH U.ds&&(Zbj Ss Ts U.bk (F U.bk)&&U.ds.all (Zck Ss Ts F U.bk.now))))):=rfl;have HL:=Zab hl;have HN:=Zab hn;have HMB:=Zab hmb;have HSH:=Zab hF;obtain⟨sa,sc,rfl⟩:=hl.shs.form;obtain⟨ma,mc,rfl⟩:=hl.mds.form;obtain⟨ta,tc,rfl⟩:=hl.tms.form;obtain⟨a0,k0,a1,k1,a2,k2,a3,k3,a4,k4,rfl,h⟩:=h;have HD:=Zab h;clear hl h hn hmb hF
 show Calls prog 29 #[.agg #[.slice sa Ss.length sc,.slice ma Ms.length mc,.slice ta Ts.length tc],.agg #[.int .i64 U.bk.now,.int .i64 U.bk.tick,.int .i64 U.bk.given,.slice a0 U.bk.os.length k0,.slice a1 U.bk.gs.length k1,.slice a2 U.bk.ls.length k2,.slice a3 U.bk.ps.length k3,.slice a4 U.ds.length k4]] w _
 by_cases hle:U.ds.length≤4
 case neg=>
  have HE:Hid (Zbl Ss Ts F U=false):=by unfold Hid;rw [HI.out,decide_eq_false hle];rfl
  have hgt:decide ((4:Int) < (U.ds.length:Int))=true:=by simp;omega
  go_enter func29,ntmps29;go_wp2;go_ret;exact⟨Zaa HE.out.symm,(Zac w _).alloc (by simp) _⟩
 have hgt:decide ((4:Int) < (U.ds.length:Int))=false:=by simp;omega
 go_enter func29,ntmps29;go_wp2_with fail;generalize hWa:World.alloc (w.alloc _) _=Wa;have HB0:Hid (Zw_ w Wa):=by rw [← hWa];exact (Zac w _).alloc (by simp) _
 have FA0:Hid (Box Wa w.heap.size #[.slice sa Ss.length sc,.slice ma Ms.length mc,.slice ta Ts.length tc]):=by rw [← hWa];exact (Box.new _ _ _ _ rfl).on (Zac _ _)
 have FB0:Hid (Box Wa (w.heap.size+1) #[.int .i64 U.bk.now,.int .i64 U.bk.tick,.int .i64 U.bk.given,.slice a0 U.bk.os.length k0,.slice a1 U.bk.gs.length k1,.slice a2 U.bk.ls.length k2,.slice a3 U.bk.ps.length k3,.slice a4 U.ds.length k4]):=by rw [← hWa];exact Box.new _ _ _ _ (by simp)
 clear hWa;refine (Zly 0 _ U.ds _ (HD.out.below HB0.out).ls).mono ?_;rintro e w1 ⟨rfl,hb1⟩;have HB1:Hid (Zw_ w w1):=bt HB0.out hb1;have FA1:=Zab (FA0.out.on hb1);have FB1:=Zab (FB0.out.on hb1);clear hb1 FA0 FB0 HB0
 cases h1:Zcz ZfH U.ds with
 | false=>
  have HE:Hid (Zbl Ss Ts F U=false):=by unfold Hid;rw [HI.out,decide_eq_true hle,h1];rfl
  go_wp2;go_ret;exact⟨Zaa HE.out.symm,HB1.out⟩
 | true=>
 have g0:=FA1.out.cell;have g1:=FB1.out.cell;go_wp2_with fail;clear g0 g1;refine (ZdN 0 _ _ _ _ _ _ _ Ss Ms Ts U.bk (F U.bk) _ (HL.out.below HB1.out) HMB.out (HD.out.below HB1.out).bk HN.out.1 (HSH.out _)).mono ?_;rintro e w2 ⟨rfl,hb2⟩;have HB2:Hid (Zw_ w w2):=bt HB1.out hb2;have FA2:=Zab (FA1.out.on hb2);have FB2:=Zab (FB1.out.on hb2);clear hb2 FA1 FB1 HB1
 cases h2:Zbj Ss Ts U.bk (F U.bk) with
 | false=>
  have HE:Hid (Zbl Ss Ts F U=false):=by unfold Hid;rw [HI.out,decide_eq_true hle,h1,h2];rfl
  go_wp2;go_ret;exact⟨Zaa HE.out.symm,HB2.out⟩
 | true=>
 have HE:Hid (Zbl Ss Ts F U=U.ds.all (Zck Ss Ts F U.bk.now)):=by unfold Hid;rw [HI.out,decide_eq_true hle,h1,h2];rfl
 have b7:=FB2.out.cell 7;simp at b7;go_wp2;clear b7
 go_loopw [27] (fun i wr=>∃ k:Nat,i=.int .i64 k∧k≤U.ds.length∧Zw_ w wr∧Box wr w.heap.size #[.slice sa Ss.length sc,.slice ma Ms.length mc,.slice ta Ts.length tc]∧Box wr (w.heap.size+1) #[.int .i64 U.bk.now,.int .i64 U.bk.tick,.int .i64 U.bk.given,.slice a0 U.bk.os.length k0,.slice a1 U.bk.gs.length k1,.slice a2 U.bk.ls.length k2,.slice a3 U.bk.ps.length k3,.slice a4 U.ds.length k4]∧(∀ j (hj:j < U.ds.length),j < k→Zck Ss Ts F U.bk.now U.ds[j]=true)) (fun i _=>U.ds.length - (intOf i).toNat)
 case atStart=>exact⟨0,rfl,by omega,HB2.out,FA2.out,FB2.out,fun j _ h=>by omega⟩
 case round=>
  obtain⟨k,rfl,hk,hb,hx,hy,hall⟩:=hrel;have HAL:=Zab hall;have HBr:=Zab hb;have HX:=Zab hx;have HY:=Zab hy;clear hall hb hx hy
  by_cases hlt:k < U.ds.length
  · obtain⟨b,off,rfl,hbw,-,hc⟩:=HD.out.ls.full' (by omega)
    obtain⟨cs,hr,hc⟩:=hc k hlt;have HR:=Zab (Zaq hr HBr.out hbw);have HC:=Zab (hc.below HBr.out);have HZ:Hid ((prog.info? 71).map (·.size)=some cs.length):=by unfold Hid;rw [hc.len];exact Zdj
    have hcz:cs.toArray.size=10:=List.size_toArray.trans hc.len;have HTH:Hid (∀ (t:TypeId) (zs:Array Value),zs.size=10→(wr.alloc (.cells zs t)).there wr.heap.size 0 cs.toArray.size):=fun t zs hz=>Zex wr zs t _ (by rw [hz,hcz])
    have HZ2:Hid ((prog.info? 71).map (·.size)=some cs.toArray.size):=by unfold Hid;rw [List.size_toArray,hc.len];exact Zdj
    clear hc hr hcz
    go_wp2_with (first
     | (refine wpList_load_mid rfl 71 (.tmp 29) rfl b (off+k*10) rfl cs _ HR.out underlying71 rfl HZ.out ?_)
     | (refine wpList_store_mid rfl 71 (.tmp 6) (.tmp 30) rfl wr.heap.size 0 cs.toArray rfl rfl (by exact HTH.out _ _ rfl) HZ2.out HC.out.one ?_;refine Hid.out ?_))
    generalize hW:World.setCells (World.alloc wr _) _ _ _=W;have HW:Hid (Below wr.heap.size wr W):=by rw [← hW];exact Below.sets Zl_ _ _ (Zac _ _)
    have FS:Hid (Box W wr.heap.size cs.toArray):=by rw [← hW];exact Box.full (Box.new _ _ _ _ rfl) (by simp [HC.out.len])
    have HCW:=Zab (HC.out.below HW.out);have HXW:=Zab (HX.out.on HW.out);have HYW:=Zab (HY.out.on HW.out);have HBW:Hid (Zw_ w W):=bt HBr.out HW.out;have y0:=HYW.out.cell 0;simp at y0;have g0:=HXW.out.cell;clear hW HR HC HX HY HBr;refine Zab ?_;go_wp2_with (refine wpList_load_mid rfl 71 (.tmp 6) rfl wr.heap.size 0 rfl cs _ (FS.out.range rfl) underlying71 rfl HZ.out ?_);clear g0 y0;refine (Zig _ _ _ Ss Ms Ts F _ U.bk.now cs U.ds[k] (HL.out.below HBW.out) HMB.out HCW.out (HN.out.2.2 k hlt).1 (HSH.out _)).mono ?_;rintro e w2 ⟨rfl,hb2⟩;have HB2:Hid (Zw_ w w2):=bt HBW.out hb2;have HX2:=Zab (HXW.out.on hb2);have HY2:=Zab (HYW.out.on hb2);clear hb2 HXW HYW HCW FS HW
    cases hs:Zck Ss Ts F U.bk.now U.ds[k] with
    | false=>
     have HNo:Hid (Zbl Ss Ts F U=false):=by unfold Hid;rw [HE.out];exact Zba hlt hs
     go_wp2;go_ret;exact⟨Zaa HNo.out.symm,HB2.out⟩
    | true=>
     have HT:=Zab hs;go_wp2;go_roundw
     case rel=>exact⟨k+1,by go_num,by omega,HB2.out,HX2.out,HY2.out,Zbn HAL.out hlt HT.out⟩
     case measure=>simp [intOf];omega
  · have HT:Hid (Zbl Ss Ts F U=true):=by unfold Hid;rw [HE.out];exact Zb0 (fun i hi=>HAL.out i hi (by omega))
    go_wp2;go_ret;exact⟨Zaa HT.out.symm,HBr.out⟩
theorem Zir (cs:List Value) (U:Wd) (hl:ZaO 0 w sv mv tv Ss Ms Ts) (h:WdC 0 w cs U) (hn:Zcp U) (hF:∀ B:Bk,Za2 Ss Ms B.os (F B)) :
 Calls prog 10 #[.agg #[sv,mv,tv],.agg cs.toArray] w fun e w'=>e=.returned (.bool (Zdm Ss Ms Ts&&Zbl Ss Ts F U))∧Zw_ w w':=by
 have HL:=Zab hl;have HN:=Zab hn;have HSH:=Zab hF;obtain⟨sa,sc,rfl⟩:=hl.shs.form;obtain⟨ma,mc,rfl⟩:=hl.mds.form;obtain⟨ta,tc,rfl⟩:=hl.tms.form;obtain⟨a0,k0,a1,k1,a2,k2,a3,k3,a4,k4,rfl,h⟩:=h;have HD:=Zab h;clear hl h hn hF
 show Calls prog 10 #[.agg #[.slice sa Ss.length sc,.slice ma Ms.length mc,.slice ta Ts.length tc],.agg #[.int .i64 U.bk.now,.int .i64 U.bk.tick,.int .i64 U.bk.given,.slice a0 U.bk.os.length k0,.slice a1 U.bk.gs.length k1,.slice a2 U.bk.ls.length k2,.slice a3 U.bk.ps.length k3,.slice a4 U.ds.length k4]] w _
 go_enter func10,ntmps10;go_wp2_with fail;generalize hWa:World.alloc (w.alloc _) _=Wa;have HB0:Hid (Zw_ w Wa):=by rw [← hWa];exact (Zac w _).alloc (by simp) _
 have FA0:Hid (Box Wa w.heap.size #[.slice sa Ss.length sc,.slice ma Ms.length mc,.slice ta Ts.length tc]):=by rw [← hWa];exact (Box.new _ _ _ _ rfl).on (Zac _ _)
 have FB0:Hid (Box Wa (w.heap.size+1) #[.int .i64 U.bk.now,.int .i64 U.bk.tick,.int .i64 U.bk.given,.slice a0 U.bk.os.length k0,.slice a1 U.bk.gs.length k1,.slice a2 U.bk.ls.length k2,.slice a3 U.bk.ps.length k3,.slice a4 U.ds.length k4]):=by rw [← hWa];exact Box.new _ _ _ _ (by simp)
 clear hWa;refine (Zin 0 _ _ _ Ss Ms Ts _ (HL.out.below HB0.out)).mono ?_;rintro e w1 ⟨rfl,hb1⟩;have HB1:Hid (Zw_ w w1):=bt HB0.out hb1;have FA1:=Zab (FA0.out.on hb1);have FB1:=Zab (FB0.out.on hb1);clear hb1 FA0 FB0 HB0
 cases q1:Zdm Ss Ms Ts with
 | false=>
  go_wp2;go_ret;exact⟨Zaa (by rw [q1];rfl),HB1.out⟩
 | true=>
  have g0:=FA1.out.cell;have g1:=FB1.out.cell;go_wp2_with fail;clear g0 g1;refine (Zho _ _ _ Ss Ms Ts F _ (wdL U a0 k0 a1 k1 a2 k2 a3 k3 a4 k4) U (HL.out.below HB1.out) (ZgG q1) ⟨a0,k0,a1,k1,a2,k2,a3,k3,a4,k4,rfl,HD.out.below HB1.out⟩ HN.out HSH.out).mono ?_;rintro e w2 ⟨rfl,hb2⟩;have HB2:Hid (Zw_ w w2):=bt HB1.out hb2;go_wp2;go_ret;exact⟨Zaa (by rw [q1];rfl),HB2.out⟩
end
theorem DrC.nm {lo:Nat} {w:World} {cs:List Value} {D:Dr} (h:DrC lo w cs D):cs[0]?=some (.string D.nm):=by
 obtain⟨a0,k0,a1,k1,a2,k2,a3,k3,a4,k4,h1,-⟩:=h;rw [h1];rfl
theorem ZcW {Ss:List Sh} {Ms:List Md} {Ts:List Tm} (h:Zdm Ss Ms Ts=true) (B:Bk) (FF:Nat→List Zy_):ZeD Ss Ms Ts B FF=Zbj Ss Ts B FF:=by
 unfold ZeD;rw [h];rfl
section
variable (sv mv tv:Value) (Ss:List Sh) (Ms:List Md) (Ts:List Tm) (F:Bk→Nat→List Zy_) (w:World)
theorem ZbI (csw cs:List Value) (U:Wd) (D:Dr) (hl:ZaO 0 w sv mv tv Ss Ms Ts) (hlaw:Zdm Ss Ms Ts=true) (hU:WdC 0 w csw U) (h:DrC 0 w cs D) (hn:Zbx D.vw) (hsh:Za2 Ss Ms D.vw.os (F D.vw)) :
 Calls prog 23 #[.agg #[sv,mv,tv],.agg csw.toArray,.agg cs.toArray] w fun e w'=>e=.returned (.bool (Zck Ss Ts F U.bk.now D))∧Zw_ w w':=by
 have HI:Hid (Zck Ss Ts F U.bk.now D=(Zaj D.nm&&(decide (D.vw.now≤U.bk.now)&&(Zbj Ss Ts D.vw (F D.vw)&&(decide (D.sl.length≤6)&&((D.up || decide (D.sl.length≤0))&&D.sl.all (ZdZ Ss Ts D.nm))))))):=rfl;have HL:=Zab hl;have HN:=Zab hn;have HLW:=Zab hlaw;have HSH:=Zab hsh;obtain⟨sa,sc,rfl⟩:=hl.shs.form;obtain⟨ma,mc,rfl⟩:=hl.mds.form;obtain⟨ta,tc,rfl⟩:=hl.tms.form;obtain⟨c0,e0,c1,e1,c2,e2,c3,e3,c4,e4,rfl,hU⟩:=hU;obtain⟨a0,k0,a1,k1,a2,k2,a3,k3,a4,k4,rfl,h⟩:=h;have HD:=Zab h;have sn1:D.nm.size≤maxLen:=h.sz;clear hl h hn hlaw hsh hU
 show Calls prog 23 #[.agg #[.slice sa Ss.length sc,.slice ma Ms.length mc,.slice ta Ts.length tc],.agg #[.int .i64 U.bk.now,.int .i64 U.bk.tick,.int .i64 U.bk.given,.slice c0 U.bk.os.length e0,.slice c1 U.bk.gs.length e1,.slice c2 U.bk.ls.length e2,.slice c3 U.bk.ps.length e3,.slice c4 U.ds.length e4],.agg #[.string D.nm,.bool D.up,.int .i64 D.vw.now,.int .i64 D.vw.tick,.int .i64 D.vw.given,.slice a0 D.vw.os.length k0,.slice a1 D.vw.gs.length k1,.slice a2 D.vw.ls.length k2,.slice a3 D.vw.ps.length k3,.slice a4 D.sl.length k4]] w _
 go_enter func23,ntmps23
 cases h1:Zaj D.nm with
 | false=>
  have HE:Hid (Zck Ss Ts F U.bk.now D=false):=by unfold Hid;rw [HI.out,h1];rfl
  go_wp2_with (go_at_call 58;refine (Zad _ _ (by with_reducible assumption)).mono ?_;rintro e w' ⟨rfl,rfl⟩);go_ret;exact⟨Zaa HE.out.symm,((Zac w _).alloc (by simp) _).alloc (by simp;omega) _⟩
 | true=>
 go_wp2_with (go_at_call 58;refine (Zad _ _ (by with_reducible assumption)).mono ?_;rintro e w' ⟨rfl,rfl⟩);generalize hWa:World.alloc (World.alloc (w.alloc _) _) _=Wa;have HB0:Hid (Zw_ w Wa):=by rw [← hWa];exact ((Zac w _).alloc (by simp) _).alloc (by simp;omega) _
 have FA0:Hid (Box Wa w.heap.size #[.slice sa Ss.length sc,.slice ma Ms.length mc,.slice ta Ts.length tc]):=by rw [← hWa];exact ((Box.new _ _ _ _ rfl).on (Zac _ _)).on (Zac _ _)
 have FU0:Hid (Box Wa (w.heap.size+1) #[.int .i64 U.bk.now,.int .i64 U.bk.tick,.int .i64 U.bk.given,.slice c0 U.bk.os.length e0,.slice c1 U.bk.gs.length e1,.slice c2 U.bk.ls.length e2,.slice c3 U.bk.ps.length e3,.slice c4 U.ds.length e4]):=by rw [← hWa];exact (Box.new _ _ _ _ (by simp)).on (Zac _ _)
 have FB0:Hid (Box Wa (w.heap.size+2) #[.string D.nm,.bool D.up,.int .i64 D.vw.now,.int .i64 D.vw.tick,.int .i64 D.vw.given,.slice a0 D.vw.os.length k0,.slice a1 D.vw.gs.length k1,.slice a2 D.vw.ls.length k2,.slice a3 D.vw.ps.length k3,.slice a4 D.sl.length k4]):=by rw [← hWa];exact Box.new _ _ _ _ (by simp)
 clear hWa;refine (Zeh 0 _ _ _ _ _ _ _ Ss Ms Ts D.vw (F D.vw) _ (HL.out.below HB0.out) (HD.out.below HB0.out).bk HN.out HSH.out).mono ?_;rintro e w1 ⟨rfl,hb1⟩;have HB1:Hid (Zw_ w w1):=bt HB0.out hb1;have FA1:=Zab (FA0.out.on hb1);have FU1:=Zab (FU0.out.on hb1);have FB1:=Zab (FB0.out.on hb1);clear hb1 FA0 FU0 FB0 HB0
 cases h3:ZeD Ss Ms Ts D.vw (F D.vw) with
 | false=>
  have HE:Hid (Zck Ss Ts F U.bk.now D=false):=by unfold Hid;rw [HI.out,h1,← ZcW HLW.out,h3];cases decide (D.vw.now≤U.bk.now) <;> rfl
  go_wp2;go_ret;exact⟨Zaa HE.out.symm,HB1.out⟩
 | true=>
 have HS:Hid (Zbj Ss Ts D.vw (F D.vw)=true):=(ZcW HLW.out _ _).symm.trans h3;have y1:=FB1.out.cell 1;have y2:=FB1.out.cell 2;have y9:=FB1.out.cell 9;have u0:=FU1.out.cell 0;simp at y1 y2 y9 u0
 by_cases h2:D.vw.now≤U.bk.now
 case neg=>
  have hgt:decide (U.bk.now < D.vw.now)=true:=by simp;omega
  have HE:Hid (Zck Ss Ts F U.bk.now D=false):=by unfold Hid;rw [HI.out,h1,decide_eq_false h2];rfl
  go_wp2;go_ret;exact⟨Zaa HE.out.symm,HB1.out⟩
 have hg2:decide (U.bk.now < D.vw.now)=false:=by simp;omega
 by_cases hle:D.sl.length≤6
 case neg=>
  have hgt:decide ((6:Int) < (D.sl.length:Int))=true:=by simp;omega
  have HE:Hid (Zck Ss Ts F U.bk.now D=false):=by unfold Hid;rw [HI.out,h1,decide_eq_true h2,HS.out,decide_eq_false hle];rfl
  go_wp2;go_ret;exact⟨Zaa HE.out.symm,HB1.out⟩
 have hgt:decide ((6:Int) < (D.sl.length:Int))=false:=by simp;omega
 cases hu:(D.up || decide (D.sl.length≤0)) with
 | false=>
  have hu1:D.up=false:=by cases hq:D.up <;> simp [hq] at hu ⊢
  have hpos:0 < D.sl.length:=by
   cases hs:D.sl.length with
   | zero=>rw [hu1,hs] at hu;cases hu
   | succ n=>omega
  have hg0:decide ((0:Int) < (D.sl.length:Int))=true:=by simp;omega
  have HE:Hid (Zck Ss Ts F U.bk.now D=false):=by unfold Hid;rw [HI.out,h1,decide_eq_true h2,HS.out,decide_eq_true hle,hu];rfl
  clear hu;go_wp2;go_ret;exact⟨Zaa HE.out.symm,HB1.out⟩
 | true=>
 have HE:Hid (Zck Ss Ts F U.bk.now D=D.sl.all (ZdZ Ss Ts D.nm)):=by unfold Hid;rw [HI.out,h1,decide_eq_true h2,HS.out,decide_eq_true hle,hu];rfl
 cases hu1:D.up with
 | false=>
  have hz:D.sl=[]:=by
   simp [hu1] at hu;exact hu
  have HT:Hid (Zck Ss Ts F U.bk.now D=true):=by unfold Hid;rw [HE.out,hz];rfl
  have hg0:decide ((0:Int) < (D.sl.length:Int))=false:=by simp [hz]
  have hn:D.sl.length=0:=by simp [hz]
  clear hu hz;go_wp2;clear y1 y2 y9 u0
  go_loopw [7] (fun i wr=>i=.int .i64 0∧Zw_ w wr∧Box wr (w.heap.size+2) #[.string D.nm,.bool D.up,.int .i64 D.vw.now,.int .i64 D.vw.tick,.int .i64 D.vw.given,.slice a0 D.vw.os.length k0,.slice a1 D.vw.gs.length k1,.slice a2 D.vw.ls.length k2,.slice a3 D.vw.ps.length k3,.slice a4 D.sl.length k4]) (fun _ _=>0)
  case atStart=>exact⟨rfl,HB1.out,FB1.out⟩
  case round=>
   obtain⟨rfl,hb,hy⟩:=hrel;have y9:=hy.cell 9;simp at y9;go_wp2;go_ret;exact⟨Zaa HT.out.symm,hb⟩
 | true=>
 clear hu;go_wp2;clear y1 y2 y9 u0 FU1
 go_loopw [7] (fun i wr=>∃ k:Nat,i=.int .i64 k∧k≤D.sl.length∧Zw_ w wr∧Box wr w.heap.size #[.slice sa Ss.length sc,.slice ma Ms.length mc,.slice ta Ts.length tc]∧Box wr (w.heap.size+2) #[.string D.nm,.bool D.up,.int .i64 D.vw.now,.int .i64 D.vw.tick,.int .i64 D.vw.given,.slice a0 D.vw.os.length k0,.slice a1 D.vw.gs.length k1,.slice a2 D.vw.ls.length k2,.slice a3 D.vw.ps.length k3,.slice a4 D.sl.length k4]∧(∀ j (hj:j < D.sl.length),j < k→ZdZ Ss Ts D.nm D.sl[j]=true)) (fun i _=>D.sl.length - (intOf i).toNat)
 case atStart=>exact⟨0,rfl,by omega,HB1.out,FA1.out,FB1.out,fun j _ h=>by omega⟩
 case round=>
  obtain⟨k,rfl,hk,hb,hx,hy,hall⟩:=hrel;have HAL:=Zab hall;have HBr:=Zab hb;have HX:=Zab hx;have HY:=Zab hy;have y9:=hy.cell 9;simp at y9;clear hall hb hx hy FA1 FB1 HB1
  by_cases hlt:k < D.sl.length
  · obtain⟨b,off,rfl,hbw,-,hc⟩:=HD.out.ls.full' (by omega)
    obtain⟨cs,hr,hc⟩:=hc k hlt;have HR:=Zab (Zaq hr HBr.out hbw);have hbr:b < wr.heap.size:=Zk_ hbw HBr.out.size
    have HC:=Zab (hc.below HBr.out);have HZ:Hid ((prog.info? 125).map (·.size)=some cs.length):=by unfold Hid;rw [hc.len];exact Zen
    have HQ:Hid (ZdZ Ss Ts D.nm D.sl[k]=((D.sl[k].dr.toList == D.nm.toList)&&ZcV Ss Ts D.sl[k])):=rfl;clear hc hr;go_wp2
    go_cut [70] (fun c wc=>c=.bool (!ZdZ Ss Ts D.nm D.sl[k])∧Below wr.heap.size wr wc)
    case first=>
     have xn:Nonempty (In (Up wr)):=⟨⟨wr,Below.refl _ _⟩⟩;have x0:∀ X:In (Up wr),X.w.cell? ⟨w.heap.size,0,none⟩=some (.slice sa Ss.length sc):=fun X=>Up.cell X (by rw [HX.out.cell 0];rfl)
     have x1:∀ X:In (Up wr),X.w.cell? ⟨w.heap.size,1,none⟩=some (.slice ma Ms.length mc):=fun X=>Up.cell X (by rw [HX.out.cell 1];rfl)
     have x2:∀ X:In (Up wr),X.w.cell? ⟨w.heap.size,2,none⟩=some (.slice ta Ts.length tc):=fun X=>Up.cell X (by rw [HX.out.cell 2];rfl)
     have z0:∀ X:In (Up wr),X.w.cell? ⟨w.heap.size+2,0,none⟩=some (.string D.nm):=fun X=>Up.cell X (by rw [HY.out.cell 0];rfl)
     have z9:∀ X:In (Up wr),X.w.cell? ⟨w.heap.size+2,9,none⟩=some (.slice (some ⟨b,off,none⟩) D.sl.length k4):=fun X=>Up.cell X (by rw [HY.out.cell 9];rfl)
     have s0:∀ X:In (Up wr),X.w.cell? ⟨b,off+k*18,none⟩=some (.string D.sl[k].dr):=fun X=>Up.cell X (HR.out 0 _ HC.out.dr)
     have xs:=fun (X:In (Up wr))=>ZcH X
     have i0:(0:Int)≤(k:Int):=by omega
     have i1:(k:Int) < (D.sl.length:Int):=by omega
     refine Zae (Up wr) (by kernel_rfl) (by kernel_rfl) (Zb_.drew) ?_
     cases h5:ZcV Ss Ts D.sl[k] with
     | false=>
      repeat (go_big_quiet_step (first|(go_at_call 59;rename_i X;exact (Zes _ _ _ Ss Ms Ts _ cs D.sl[k] (HL.out.below (bt HBr.out X.h)) (HC.out.below X.h)).mono fun _ _ h=>⟨h.1,Up.next X h.2⟩)))
      refine ZaM (by rfl) 125 (.tmp 56) rfl b (off+k*18) rfl cs _ (fun W hW=>by obtain⟨X,rfl⟩:=hW;exact Zaq HR.out X.h hbr) underlying125 rfl HZ.out ?_;simp only [Act.put,List.setIfInBounds_toArray,List.set_cons_zero,List.set_cons_succ]
      repeat (go_big_quiet_step (first|(go_at_call 59;rename_i X;exact (Zes _ _ _ Ss Ms Ts _ cs D.sl[k] (HL.out.below (bt HBr.out X.h)) (HC.out.below X.h)).mono fun _ _ h=>⟨h.1,Up.next X h.2⟩)))
      refine wpQuiet_nil ?_;intro wn hw;obtain⟨X,hX⟩:=hw;have HWN:Below wr.heap.size wr wn:=by rw [hX];exact X.h
      clear hX X x0 x1 x2 z0 z9 s0 xs xn;go_wp2;go_meet;exact⟨congrArg Value.bool (by rw [HQ.out,h5];cases (D.sl[k].dr.toList == D.nm.toList) <;> rfl),HWN⟩
     | true=>
      cases h6:(D.sl[k].dr.toList == D.nm.toList) with
      | false=>
       repeat (go_big_quiet_step (first|(go_at_call 59;rename_i X;exact (Zes _ _ _ Ss Ms Ts _ cs D.sl[k] (HL.out.below (bt HBr.out X.h)) (HC.out.below X.h)).mono fun _ _ h=>⟨h.1,Up.next X h.2⟩)))
       refine ZaM (by rfl) 125 (.tmp 56) rfl b (off+k*18) rfl cs _ (fun W hW=>by obtain⟨X,rfl⟩:=hW;exact Zaq HR.out X.h hbr) underlying125 rfl HZ.out ?_;simp only [Act.put,List.setIfInBounds_toArray,List.set_cons_zero,List.set_cons_succ]
       repeat (go_big_quiet_step (first|(go_at_call 59;rename_i X;exact (Zes _ _ _ Ss Ms Ts _ cs D.sl[k] (HL.out.below (bt HBr.out X.h)) (HC.out.below X.h)).mono fun _ _ h=>⟨h.1,Up.next X h.2⟩)))
       refine wpQuiet_nil ?_;intro wn hw;obtain⟨X,hX⟩:=hw;have HWN:Below wr.heap.size wr wn:=by rw [hX];exact X.h
       clear hX X x0 x1 x2 z0 z9 s0 xs xn;go_wp2;go_meet;exact⟨congrArg Value.bool (by rw [HQ.out,h5,h6];rfl),HWN⟩
      | true=>
       repeat (go_big_quiet_step (first|(go_at_call 59;rename_i X;exact (Zes _ _ _ Ss Ms Ts _ cs D.sl[k] (HL.out.below (bt HBr.out X.h)) (HC.out.below X.h)).mono fun _ _ h=>⟨h.1,Up.next X h.2⟩)))
       refine ZaM (by rfl) 125 (.tmp 56) rfl b (off+k*18) rfl cs _ (fun W hW=>by obtain⟨X,rfl⟩:=hW;exact Zaq HR.out X.h hbr) underlying125 rfl HZ.out ?_;simp only [Act.put,List.setIfInBounds_toArray,List.set_cons_zero,List.set_cons_succ]
       repeat (go_big_quiet_step (first|(go_at_call 59;rename_i X;exact (Zes _ _ _ Ss Ms Ts _ cs D.sl[k] (HL.out.below (bt HBr.out X.h)) (HC.out.below X.h)).mono fun _ _ h=>⟨h.1,Up.next X h.2⟩)))
       refine wpQuiet_nil ?_;intro wn hw;obtain⟨X,hX⟩:=hw;have HWN:Below wr.heap.size wr wn:=by rw [hX];exact X.h
       clear hX X x0 x1 x2 z0 z9 s0 xs xn;go_wp2;go_meet;exact⟨congrArg Value.bool (by rw [HQ.out,h5,h6];rfl),HWN⟩
    case rest=>
    obtain⟨rfl,hbc⟩:=hcut;have HBc:Hid (Zw_ w wc):=bt HBr.out hbc;have HXc:=Zab (HX.out.on hbc);have HYc:=Zab (HY.out.on hbc);clear hbc y9
    cases h7:ZdZ Ss Ts D.nm D.sl[k] with
    | false=>
     have HNo:Hid (Zck Ss Ts F U.bk.now D=false):=by unfold Hid;rw [HE.out];exact Zba hlt h7
     go_wp2;go_ret;exact⟨Zaa HNo.out.symm,HBc.out⟩
    | true=>
     have HT:=Zab h7;go_wp2;go_roundw
     case rel=>exact⟨k+1,by go_num,by omega,HBc.out,HXc.out,HYc.out,Zbn HAL.out hlt HT.out⟩
     case measure=>simp [intOf];omega
  · have HT:Hid (Zck Ss Ts F U.bk.now D=true):=by unfold Hid;rw [HE.out];exact Zb0 (fun i hi=>HAL.out i hi (by omega))
    go_wp2;go_ret;exact⟨Zaa HT.out.symm,HBr.out⟩
theorem ZiN (csw:List Value) (U:Wd) (hl:ZaO 0 w sv mv tv Ss Ms Ts) (h:WdC 0 w csw U) (hn:Zcp U) (hF:∀ B:Bk,Za2 Ss Ms B.os (F B)) :
 Calls prog 7 #[.agg #[sv,mv,tv],.agg csw.toArray] w fun e w'=>e=.returned (.bool (Zdm Ss Ms Ts&&Zbl Ss Ts F U))∧Zw_ w w':=by
 have HI:Hid ((Zdm Ss Ms Ts&&Zbl Ss Ts F U)=(Zdm Ss Ms Ts&&(decide (U.ds.length≤4)&&(Zcz ZfH U.ds&&(Zbj Ss Ts U.bk (F U.bk)&&U.ds.all (Zck Ss Ts F U.bk.now)))))):=rfl;have HL:=Zab hl;have HN:=Zab hn;have HSH:=Zab hF;obtain⟨sa,sc,rfl⟩:=hl.shs.form;obtain⟨ma,mc,rfl⟩:=hl.mds.form;obtain⟨ta,tc,rfl⟩:=hl.tms.form;obtain⟨c0,e0,c1,e1,c2,e2,c3,e3,c4,e4,rfl,h⟩:=h;have HD:=Zab h;have hmx:=h.ls.max;unfold maxLen at hmx;clear hl h hn hF
 show Calls prog 7 #[.agg #[.slice sa Ss.length sc,.slice ma Ms.length mc,.slice ta Ts.length tc],.agg #[.int .i64 U.bk.now,.int .i64 U.bk.tick,.int .i64 U.bk.given,.slice c0 U.bk.os.length e0,.slice c1 U.bk.gs.length e1,.slice c2 U.bk.ls.length e2,.slice c3 U.bk.ps.length e3,.slice c4 U.ds.length e4]] w _
 go_enter func7,ntmps7;go_wp2_with fail;generalize hWa:World.alloc (w.alloc _) _=Wa;have HB0:Hid (Zw_ w Wa):=by rw [← hWa];exact (Zac w _).alloc (by simp) _
 have FA0:Hid (Box Wa w.heap.size #[.slice sa Ss.length sc,.slice ma Ms.length mc,.slice ta Ts.length tc]):=by rw [← hWa];exact (Box.new _ _ _ _ rfl).on (Zac _ _)
 have FB0:Hid (Box Wa (w.heap.size+1) #[.int .i64 U.bk.now,.int .i64 U.bk.tick,.int .i64 U.bk.given,.slice c0 U.bk.os.length e0,.slice c1 U.bk.gs.length e1,.slice c2 U.bk.ls.length e2,.slice c3 U.bk.ps.length e3,.slice c4 U.ds.length e4]):=by rw [← hWa];exact Box.new _ _ _ _ (by simp)
 clear hWa;refine (Zeh 0 _ _ _ _ _ _ _ Ss Ms Ts U.bk (F U.bk) _ (HL.out.below HB0.out) (HD.out.below HB0.out).bk HN.out.1 (HSH.out _)).mono ?_;rintro e w1 ⟨rfl,hb1⟩;have HB1:Hid (Zw_ w w1):=bt HB0.out hb1;have FA1:=Zab (FA0.out.on hb1);have FB1:=Zab (FB0.out.on hb1);clear hb1 FA0 FB0 HB0
 cases h3:ZeD Ss Ms Ts U.bk (F U.bk) with
 | false=>
  have HE:Hid ((Zdm Ss Ms Ts&&Zbl Ss Ts F U)=false):=by
   unfold Hid;rw [HI.out]
   cases hq:Zdm Ss Ms Ts with
   | false=>rfl
   | true=>
    rw [← ZcW hq,h3]
    cases decide (U.ds.length≤4) <;> cases Zcz ZfH U.ds <;> rfl
  go_wp2;go_ret;exact⟨Zaa HE.out.symm,HB1.out⟩
 | true=>
 have hlaw:Zdm Ss Ms Ts=true:=by
  unfold ZeD at h3;rw [Bool.and_eq_true] at h3;exact h3.1
 have HLW:=Zab hlaw;have HS:Hid (Zbj Ss Ts U.bk (F U.bk)=true):=(ZcW hlaw _ _).symm.trans h3;clear hlaw;have b7:=FB1.out.cell 7;simp at b7
 by_cases hle:U.ds.length≤4
 case neg=>
  have hgt:decide ((4:Int) < (U.ds.length:Int))=true:=by simp;omega
  have HE:Hid ((Zdm Ss Ms Ts&&Zbl Ss Ts F U)=false):=by unfold Hid;rw [HI.out,decide_eq_false hle];cases Zdm Ss Ms Ts <;> rfl
  go_wp2;go_ret;exact⟨Zaa HE.out.symm,HB1.out⟩
 have hgt:decide ((4:Int) < (U.ds.length:Int))=false:=by simp;omega
 have HE:Hid ((Zdm Ss Ms Ts&&Zbl Ss Ts F U)=(Zcz ZfH U.ds&&U.ds.all (Zck Ss Ts F U.bk.now))):=by unfold Hid;rw [HI.out,HLW.out,decide_eq_true hle,HS.out];rfl
 go_wp2;clear b7
 go_loopw [5] (fun i wr=>∃ k:Nat,i=.int .i64 k∧k≤U.ds.length∧Zw_ w wr∧Box wr w.heap.size #[.slice sa Ss.length sc,.slice ma Ms.length mc,.slice ta Ts.length tc]∧Box wr (w.heap.size+1) #[.int .i64 U.bk.now,.int .i64 U.bk.tick,.int .i64 U.bk.given,.slice c0 U.bk.os.length e0,.slice c1 U.bk.gs.length e1,.slice c2 U.bk.ls.length e2,.slice c3 U.bk.ps.length e3,.slice c4 U.ds.length e4]∧(∀ j (hj:j < U.ds.length),j < k→Zck Ss Ts F U.bk.now U.ds[j]=true)∧(∀ j,j < k→Zce ZfH U.ds j=true)) (fun i _=>U.ds.length - (intOf i).toNat)
 case atStart=>exact⟨0,rfl,by omega,HB1.out,FA1.out,FB1.out,fun j _ h=>by omega,fun j h=>by omega⟩
 case round=>
  obtain⟨k,rfl,hk,hb,hx,hy,hall,hris⟩:=hrel;have HAL:=Zab hall;have HRI:=Zab hris;have HBr:=Zab hb;have HX:=Zab hx;have HY:=Zab hy;have y7:=hy.cell 7;simp at y7;clear hall hb hx hy hris FA1 FB1 HB1
  by_cases hlt:k < U.ds.length
  · obtain⟨b,off,rfl,hbw,-,hc⟩:=HD.out.ls.full' (by omega)
    have HCL:=Zab hc;obtain⟨cs,hr,hc⟩:=hc k hlt;have HR:=Zab (Zaq hr HBr.out hbw);have HC:=Zab (hc.below HBr.out);have HZ:Hid ((prog.info? 71).map (·.size)=some cs.length):=by unfold Hid;rw [hc.len];exact Zdj
    clear hc hr;go_wp2
    go_cut [52] (fun c wc=>c=.bool (!(Zck Ss Ts F U.bk.now U.ds[k]&&Zce ZfH U.ds k))∧Below wr.heap.size wr wc)
    case first=>
     have hbr:b < wr.heap.size:=Zk_ hbw HBr.out.size
     have xn:Nonempty (In (Up wr)):=⟨⟨wr,Below.refl _ _⟩⟩;have x0:∀ X:In (Up wr),X.w.cell? ⟨w.heap.size,0,none⟩=some (.slice sa Ss.length sc):=fun X=>Up.cell X (by rw [HX.out.cell 0];rfl)
     have x1:∀ X:In (Up wr),X.w.cell? ⟨w.heap.size,1,none⟩=some (.slice ma Ms.length mc):=fun X=>Up.cell X (by rw [HX.out.cell 1];rfl)
     have x2:∀ X:In (Up wr),X.w.cell? ⟨w.heap.size,2,none⟩=some (.slice ta Ts.length tc):=fun X=>Up.cell X (by rw [HX.out.cell 2];rfl)
     have z0:∀ X:In (Up wr),X.w.cell? ⟨w.heap.size+1,0,none⟩=some (.int .i64 U.bk.now):=fun X=>Up.cell X (by rw [HY.out.cell 0];rfl)
     have z1:∀ X:In (Up wr),X.w.cell? ⟨w.heap.size+1,1,none⟩=some (.int .i64 U.bk.tick):=fun X=>Up.cell X (by rw [HY.out.cell 1];rfl)
     have z2:∀ X:In (Up wr),X.w.cell? ⟨w.heap.size+1,2,none⟩=some (.int .i64 U.bk.given):=fun X=>Up.cell X (by rw [HY.out.cell 2];rfl)
     have z3:∀ X:In (Up wr),X.w.cell? ⟨w.heap.size+1,3,none⟩=some (.slice c0 U.bk.os.length e0):=fun X=>Up.cell X (by rw [HY.out.cell 3];rfl)
     have z4:∀ X:In (Up wr),X.w.cell? ⟨w.heap.size+1,4,none⟩=some (.slice c1 U.bk.gs.length e1):=fun X=>Up.cell X (by rw [HY.out.cell 4];rfl)
     have z5:∀ X:In (Up wr),X.w.cell? ⟨w.heap.size+1,5,none⟩=some (.slice c2 U.bk.ls.length e2):=fun X=>Up.cell X (by rw [HY.out.cell 5];rfl)
     have z6:∀ X:In (Up wr),X.w.cell? ⟨w.heap.size+1,6,none⟩=some (.slice c3 U.bk.ps.length e3):=fun X=>Up.cell X (by rw [HY.out.cell 6];rfl)
     have z7:∀ X:In (Up wr),X.w.cell? ⟨w.heap.size+1,7,none⟩=some (.slice (some ⟨b,off,none⟩) U.ds.length e4):=fun X=>Up.cell X (by rw [HY.out.cell 7];rfl)
     have s0:∀ X:In (Up wr),X.w.cell? ⟨b,off+k*10,none⟩=some (.string U.ds[k].nm):=fun X=>Up.cell X (HR.out 0 _ HC.out.nm)
     have xs:=fun (X:In (Up wr))=>ZcH X
     have i0:(0:Int)≤(k:Int):=by omega
     have i1:(k:Int) < (U.ds.length:Int):=by omega
     refine Zae (Up wr) (by kernel_rfl) (by kernel_rfl) (Zb_.drew) ?_
     cases h5:Zck Ss Ts F U.bk.now U.ds[k] with
     | false=>
      repeat (go_big_quiet_step (first|(go_at_call 23;rename_i X;exact (ZbI _ _ _ Ss Ms Ts F _ (wdL U c0 e0 c1 e1 c2 e2 c3 e3 (some ⟨b,off,none⟩) e4) cs U U.ds[k] (HL.out.below (bt HBr.out X.h)) HLW.out ⟨c0,e0,c1,e1,c2,e2,c3,e3,some ⟨b,off,none⟩,e4,rfl,HD.out.below (bt HBr.out X.h)⟩ (HC.out.below X.h) (HN.out.2.2 k hlt).1 (HSH.out _)).mono fun _ _ h=>⟨h.1,Up.next X h.2⟩)))
      refine ZaM (by rfl) 71 (.tmp 29) rfl b (off+k*10) rfl cs _ (fun W hW=>by obtain⟨X,rfl⟩:=hW;exact Zaq HR.out X.h hbr) underlying71 rfl HZ.out ?_;simp only [Act.put,List.setIfInBounds_toArray,List.set_cons_zero,List.set_cons_succ]
      repeat (go_big_quiet_step (first|(go_at_call 23;rename_i X;exact (ZbI _ _ _ Ss Ms Ts F _ (wdL U c0 e0 c1 e1 c2 e2 c3 e3 (some ⟨b,off,none⟩) e4) cs U U.ds[k] (HL.out.below (bt HBr.out X.h)) HLW.out ⟨c0,e0,c1,e1,c2,e2,c3,e3,some ⟨b,off,none⟩,e4,rfl,HD.out.below (bt HBr.out X.h)⟩ (HC.out.below X.h) (HN.out.2.2 k hlt).1 (HSH.out _)).mono fun _ _ h=>⟨h.1,Up.next X h.2⟩)))
      refine wpQuiet_nil ?_;intro wn hw;obtain⟨X,hX⟩:=hw;have HWN:Below wr.heap.size wr wn:=by rw [hX];exact X.h
      clear hX X x0 x1 x2 z0 z1 z2 z3 z4 z5 z6 z7 s0 xs xn;go_wp2;go_meet;exact⟨congrArg Value.bool (by rw [h5];rfl),HWN⟩
     | true=>
      by_cases h0:k=0
      · have hd0:decide (0 < k)=false:=by simp;omega
        have HR0:Hid (Zce ZfH U.ds k=true):=by unfold Hid;rw [h0];rfl
        clear h0
        repeat (go_big_quiet_step (first|(go_at_call 23;rename_i X;exact (ZbI _ _ _ Ss Ms Ts F _ (wdL U c0 e0 c1 e1 c2 e2 c3 e3 (some ⟨b,off,none⟩) e4) cs U U.ds[k] (HL.out.below (bt HBr.out X.h)) HLW.out ⟨c0,e0,c1,e1,c2,e2,c3,e3,some ⟨b,off,none⟩,e4,rfl,HD.out.below (bt HBr.out X.h)⟩ (HC.out.below X.h) (HN.out.2.2 k hlt).1 (HSH.out _)).mono fun _ _ h=>⟨h.1,Up.next X h.2⟩)))
        refine ZaM (by rfl) 71 (.tmp 29) rfl b (off+k*10) rfl cs _ (fun W hW=>by obtain⟨X,rfl⟩:=hW;exact Zaq HR.out X.h hbr) underlying71 rfl HZ.out ?_;simp only [Act.put,List.setIfInBounds_toArray,List.set_cons_zero,List.set_cons_succ]
        repeat (go_big_quiet_step (first|(go_at_call 23;rename_i X;exact (ZbI _ _ _ Ss Ms Ts F _ (wdL U c0 e0 c1 e1 c2 e2 c3 e3 (some ⟨b,off,none⟩) e4) cs U U.ds[k] (HL.out.below (bt HBr.out X.h)) HLW.out ⟨c0,e0,c1,e1,c2,e2,c3,e3,some ⟨b,off,none⟩,e4,rfl,HD.out.below (bt HBr.out X.h)⟩ (HC.out.below X.h) (HN.out.2.2 k hlt).1 (HSH.out _)).mono fun _ _ h=>⟨h.1,Up.next X h.2⟩)))
        refine wpQuiet_nil ?_;intro wn hw;obtain⟨X,hX⟩:=hw;have HWN:Below wr.heap.size wr wn:=by rw [hX];exact X.h
        clear hX X x0 x1 x2 z0 z1 z2 z3 z4 z5 z6 z7 s0 xs xn;go_wp2;go_meet;exact⟨congrArg Value.bool (by rw [h5,HR0.out];rfl),HWN⟩
      · have hd0:decide (0 < k)=true:=by simp;omega
        obtain⟨m,hkm⟩:∃ m,k=m+1:=⟨k - 1,by omega⟩
        have hlt0:m < U.ds.length:=by omega
        obtain⟨cs',hr',hc'⟩:=HCL.out m hlt0;have t0:∀ X:In (Up wr),X.w.cell? ⟨b,off+m*10,none⟩=some (.string U.ds[m].nm):=fun X=>Up.cell X ((Zaq hr' HBr.out hbw) 0 _ hc'.nm)
        have HRK:Hid (Zce ZfH U.ds k=decide (ZfH U.ds[m] U.ds[k] < 0)):=by
         subst hkm;exact Zdb hlt
        have hkw:IntKind.i64.wrap ((k:Int) - 1)=m:=by rw [IntWalk.i64_left];unfold wrap64;omega
        have i2:(0:Int)≤(m:Int):=by omega
        have i3:(m:Int) < (U.ds.length:Int):=by omega
        have HG:Hid ((Op.bytesLess U.ds[m].nm.toList U.ds[k].nm.toList)=decide (ZfH U.ds[m] U.ds[k] < 0)):=by
         unfold Hid ZfH
         cases hq:Op.bytesLess U.ds[m].nm.toList U.ds[k].nm.toList with
         | true=>rw [decide_eq_true (Zfc.2 hq)]
         | false=>rw [decide_eq_false (fun h=>by rw [Zfc.1 h] at hq;cases hq)]
        clear hr' hc' hkm h0
        cases h8:Op.bytesLess U.ds[m].nm.toList U.ds[k].nm.toList with
        | false=>
         repeat (go_big_quiet_step (first|(go_at_call 23;rename_i X;exact (ZbI _ _ _ Ss Ms Ts F _ (wdL U c0 e0 c1 e1 c2 e2 c3 e3 (some ⟨b,off,none⟩) e4) cs U U.ds[k] (HL.out.below (bt HBr.out X.h)) HLW.out ⟨c0,e0,c1,e1,c2,e2,c3,e3,some ⟨b,off,none⟩,e4,rfl,HD.out.below (bt HBr.out X.h)⟩ (HC.out.below X.h) (HN.out.2.2 k hlt).1 (HSH.out _)).mono fun _ _ h=>⟨h.1,Up.next X h.2⟩)))
         refine ZaM (by rfl) 71 (.tmp 29) rfl b (off+k*10) rfl cs _ (fun W hW=>by obtain⟨X,rfl⟩:=hW;exact Zaq HR.out X.h hbr) underlying71 rfl HZ.out ?_;simp only [Act.put,List.setIfInBounds_toArray,List.set_cons_zero,List.set_cons_succ]
         repeat (go_big_quiet_step (first|(go_at_call 23;rename_i X;exact (ZbI _ _ _ Ss Ms Ts F _ (wdL U c0 e0 c1 e1 c2 e2 c3 e3 (some ⟨b,off,none⟩) e4) cs U U.ds[k] (HL.out.below (bt HBr.out X.h)) HLW.out ⟨c0,e0,c1,e1,c2,e2,c3,e3,some ⟨b,off,none⟩,e4,rfl,HD.out.below (bt HBr.out X.h)⟩ (HC.out.below X.h) (HN.out.2.2 k hlt).1 (HSH.out _)).mono fun _ _ h=>⟨h.1,Up.next X h.2⟩)))
         refine wpQuiet_nil ?_;intro wn hw;obtain⟨X,hX⟩:=hw;have HWN:Below wr.heap.size wr wn:=by rw [hX];exact X.h
         clear hX X x0 x1 x2 z0 z1 z2 z3 z4 z5 z6 z7 s0 t0 xs xn;go_wp2;go_meet;exact⟨congrArg Value.bool (by rw [h5,HRK.out,← HG.out,h8];rfl),HWN⟩
        | true=>
         repeat (go_big_quiet_step (first|(go_at_call 23;rename_i X;exact (ZbI _ _ _ Ss Ms Ts F _ (wdL U c0 e0 c1 e1 c2 e2 c3 e3 (some ⟨b,off,none⟩) e4) cs U U.ds[k] (HL.out.below (bt HBr.out X.h)) HLW.out ⟨c0,e0,c1,e1,c2,e2,c3,e3,some ⟨b,off,none⟩,e4,rfl,HD.out.below (bt HBr.out X.h)⟩ (HC.out.below X.h) (HN.out.2.2 k hlt).1 (HSH.out _)).mono fun _ _ h=>⟨h.1,Up.next X h.2⟩)))
         refine ZaM (by rfl) 71 (.tmp 29) rfl b (off+k*10) rfl cs _ (fun W hW=>by obtain⟨X,rfl⟩:=hW;exact Zaq HR.out X.h hbr) underlying71 rfl HZ.out ?_;simp only [Act.put,List.setIfInBounds_toArray,List.set_cons_zero,List.set_cons_succ]
         repeat (go_big_quiet_step (first|(go_at_call 23;rename_i X;exact (ZbI _ _ _ Ss Ms Ts F _ (wdL U c0 e0 c1 e1 c2 e2 c3 e3 (some ⟨b,off,none⟩) e4) cs U U.ds[k] (HL.out.below (bt HBr.out X.h)) HLW.out ⟨c0,e0,c1,e1,c2,e2,c3,e3,some ⟨b,off,none⟩,e4,rfl,HD.out.below (bt HBr.out X.h)⟩ (HC.out.below X.h) (HN.out.2.2 k hlt).1 (HSH.out _)).mono fun _ _ h=>⟨h.1,Up.next X h.2⟩)))
         refine wpQuiet_nil ?_;intro wn hw;obtain⟨X,hX⟩:=hw;have HWN:Below wr.heap.size wr wn:=by rw [hX];exact X.h
         clear hX X x0 x1 x2 z0 z1 z2 z3 z4 z5 z6 z7 s0 t0 xs xn;go_wp2;go_meet;exact⟨congrArg Value.bool (by rw [h5,HRK.out,← HG.out,h8];rfl),HWN⟩
    case rest=>
    obtain⟨rfl,hbc⟩:=hcut;have HBc:Hid (Zw_ w wc):=bt HBr.out hbc;have HXc:=Zab (HX.out.on hbc);have HYc:=Zab (HY.out.on hbc);clear hbc y7
    cases h7:Zck Ss Ts F U.bk.now U.ds[k] with
    | false=>
     have HNo:Hid ((Zdm Ss Ms Ts&&Zbl Ss Ts F U)=false):=by unfold Hid;rw [HE.out,Zba hlt h7];cases Zcz ZfH U.ds <;> rfl
     go_wp2;go_ret;exact⟨Zaa HNo.out.symm,HBc.out⟩
    | true=>
     cases h9:Zce ZfH U.ds k with
     | false=>
      have HNo:Hid ((Zdm Ss Ms Ts&&Zbl Ss Ts F U)=false):=by
       unfold Hid;rw [HE.out,show Zcz ZfH U.ds=false from ZaW hlt h9];rfl
      go_wp2;go_ret;exact⟨Zaa HNo.out.symm,HBc.out⟩
     | true=>
      have HT:=Zab h7;have HT9:=Zab h9;go_wp2;go_roundw
      case rel=>exact⟨k+1,by go_num,by omega,HBc.out,HXc.out,HYc.out,Zbn HAL.out hlt HT.out,fun j hj=>by
                 by_cases e:j=k
                 · rw [e];exact HT9.out
                 · exact HRI.out j (by omega)⟩
      case measure=>simp [intOf];omega
  · have HT:Hid ((Zdm Ss Ms Ts&&Zbl Ss Ts F U)=true):=by
     unfold Hid;rw [HE.out,show Zcz ZfH U.ds=true from Za0 (fun i hi=>HRI.out i (by omega)),Zb0 (fun i hi=>HAL.out i hi (by omega))];rfl
    go_wp2;go_ret;exact⟨Zaa HT.out.symm,HBr.out⟩
end
theorem Zlq (lo:Nat) (ov gv lv pv dv:Value) (U:Wd) (left:Int) (w:World) (h0:0≤left) (h1:left≤1048576) (h:Zh6 lo w ov gv lv pv dv U) :
 Calls prog 6 #[.agg #[.int .i64 U.bk.now,.int .i64 U.bk.tick,.int .i64 U.bk.given,ov,gv,lv,pv,dv],.int .i64 left] w
  fun e w'=>∃ r:Int,e=.returned (.int .i64 r)∧Zw_ w w'∧-1≤r∧r≤left∧(0≤r→Zcp U):=by
 obtain⟨a0,k0,rfl⟩:=h.bk.obs.form;obtain⟨a1,k1,rfl⟩:=h.bk.grs.form;obtain⟨a2,k2,rfl⟩:=h.bk.les.form;obtain⟨a3,k3,rfl⟩:=h.bk.pus.form;obtain⟨a4,k4,rfl⟩:=h.ls.form;exact ZsW lo (wdL U a0 k0 a1 k1 a2 k2 a3 k3 a4 k4) U left w h0 h1 ⟨a0,k0,a1,k1,a2,k2,a3,k3,a4,k4,rfl,h⟩
theorem Zez (lo:Nat) (ov gv lv pv dv:Value) (U:Wd) (w:World) (h:Zh6 lo w ov gv lv pv dv U) (hn:Zcp U) :
 Calls prog 9 #[.agg #[.int .i64 U.bk.now,.int .i64 U.bk.tick,.int .i64 U.bk.given,ov,gv,lv,pv,dv]] w
  fun e w'=>∃ b0 m0 b1 m1 b2 m2 b3 m3 b4 m4,e=.returned (.agg #[.int .i64 U.bk.now,.int .i64 U.bk.tick,.int .i64 U.bk.given,.slice b0 U.bk.os.length m0,.slice b1 U.bk.gs.length m1,.slice b2 U.bk.ls.length m2,.slice b3 U.bk.ps.length m3,.slice b4 U.ds.length m4])∧Zw_ w w'∧Zh6 w.heap.size w' (.slice b0 U.bk.os.length m0) (.slice b1 U.bk.gs.length m1) (.slice b2 U.bk.ls.length m2) (.slice b3 U.bk.ps.length m3) (.slice b4 U.ds.length m4) U:=by
 obtain⟨a0,k0,rfl⟩:=h.bk.obs.form;obtain⟨a1,k1,rfl⟩:=h.bk.grs.form;obtain⟨a2,k2,rfl⟩:=h.bk.les.form;obtain⟨a3,k3,rfl⟩:=h.bk.pus.form;obtain⟨a4,k4,rfl⟩:=h.ls.form;refine (ZsZ lo (wdL U a0 k0 a1 k1 a2 k2 a3 k3 a4 k4) U w ⟨a0,k0,a1,k1,a2,k2,a3,k3,a4,k4,rfl,h⟩ hn).mono ?_;rintro e w' ⟨cs',rfl,hb,b0,m0,b1,m1,b2,m2,b3,m3,b4,m4,rfl,h2⟩;exact⟨b0,m0,b1,m1,b2,m2,b3,m3,b4,m4,rfl,hb,h2⟩
theorem Zi5 (lo lo':Nat) (ov gv lv pv dv ov' gv' lv' pv' dv':Value) (U:Wd) (w:World) (h:Zh6 lo w ov gv lv pv dv U) (h':Zh6 lo' w ov' gv' lv' pv' dv' U) :
 Calls prog 12 #[.agg #[.int .i64 U.bk.now,.int .i64 U.bk.tick,.int .i64 U.bk.given,ov,gv,lv,pv,dv],.agg #[.int .i64 U.bk.now,.int .i64 U.bk.tick,.int .i64 U.bk.given,ov',gv',lv',pv',dv']] w fun e w'=>e=.returned (.bool true)∧Zw_ w w':=by
 obtain⟨a0,k0,rfl⟩:=h.bk.obs.form;obtain⟨a1,k1,rfl⟩:=h.bk.grs.form;obtain⟨a2,k2,rfl⟩:=h.bk.les.form;obtain⟨a3,k3,rfl⟩:=h.bk.pus.form;obtain⟨a4,k4,rfl⟩:=h.ls.form;obtain⟨b0,m0,rfl⟩:=h'.bk.obs.form;obtain⟨b1,m1,rfl⟩:=h'.bk.grs.form;obtain⟨b2,m2,rfl⟩:=h'.bk.les.form;obtain⟨b3,m3,rfl⟩:=h'.bk.pus.form;obtain⟨b4,m4,rfl⟩:=h'.ls.form;exact Zsu lo lo' (wdL U a0 k0 a1 k1 a2 k2 a3 k3 a4 k4) (wdL U b0 m0 b1 m1 b2 m2 b3 m3 b4 m4) U w ⟨a0,k0,a1,k1,a2,k2,a3,k3,a4,k4,rfl,h⟩ ⟨b0,m0,b1,m1,b2,m2,b3,m3,b4,m4,rfl,h'⟩
theorem ZgY (sv mv tv ov gv lv pv dv:Value) (Ss:List Sh) (Ms:List Md) (Ts:List Tm) (F:Bk→Nat→List Zy_) (U:Wd) (w:World) (hl:ZaO 0 w sv mv tv Ss Ms Ts) (h:Zh6 0 w ov gv lv pv dv U) (hn:Zcp U) (hF:∀ B:Bk,Za2 Ss Ms B.os (F B)) :
 Calls prog 7 #[.agg #[sv,mv,tv],.agg #[.int .i64 U.bk.now,.int .i64 U.bk.tick,.int .i64 U.bk.given,ov,gv,lv,pv,dv]] w fun e w'=>e=.returned (.bool (Zdm Ss Ms Ts&&Zbl Ss Ts F U))∧Zw_ w w':=by
 obtain⟨a0,k0,rfl⟩:=h.bk.obs.form;obtain⟨a1,k1,rfl⟩:=h.bk.grs.form;obtain⟨a2,k2,rfl⟩:=h.bk.les.form;obtain⟨a3,k3,rfl⟩:=h.bk.pus.form;obtain⟨a4,k4,rfl⟩:=h.ls.form;exact ZiN sv mv tv Ss Ms Ts F w (wdL U a0 k0 a1 k1 a2 k2 a3 k3 a4 k4) U hl ⟨a0,k0,a1,k1,a2,k2,a3,k3,a4,k4,rfl,h⟩ hn hF
theorem ZgB (sv mv tv ov gv lv pv dv:Value) (Ss:List Sh) (Ms:List Md) (Ts:List Tm) (F:Bk→Nat→List Zy_) (U:Wd) (w:World) (hl:ZaO 0 w sv mv tv Ss Ms Ts) (h:Zh6 0 w ov gv lv pv dv U) (hn:Zcp U) (hF:∀ B:Bk,Za2 Ss Ms B.os (F B)) :
 Calls prog 10 #[.agg #[sv,mv,tv],.agg #[.int .i64 U.bk.now,.int .i64 U.bk.tick,.int .i64 U.bk.given,ov,gv,lv,pv,dv]] w fun e w'=>e=.returned (.bool (Zdm Ss Ms Ts&&Zbl Ss Ts F U))∧Zw_ w w':=by
 obtain⟨a0,k0,rfl⟩:=h.bk.obs.form;obtain⟨a1,k1,rfl⟩:=h.bk.grs.form;obtain⟨a2,k2,rfl⟩:=h.bk.les.form;obtain⟨a3,k3,rfl⟩:=h.bk.pus.form;obtain⟨a4,k4,rfl⟩:=h.ls.form;exact Zir sv mv tv Ss Ms Ts F w (wdL U a0 k0 a1 k1 a2 k2 a3 k3 a4 k4) U hl ⟨a0,k0,a1,k1,a2,k2,a3,k3,a4,k4,rfl,h⟩ hn hF
end Go.Proofs.YtcfjmagkinpaeaaGreat
