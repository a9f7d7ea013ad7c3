import Derived.Test.YtcfjmagkinpaeaaGreatGSA
import Derived.Test.YtcfjmagkinpaeaaGreatGAQ8
set_option maxHeartbeats 16000000
set_option maxRecDepth 100000
open Go.Proofs.Tryz
namespace Go.Proofs.YtcfjmagkinpaeaaGreat
open Go.RowKit Go.Deep
def Zg4 (x:Wn):Bool:=Zaj x.kd&&Zaj x.nm&&decide (0≤x.ve)
def Zel (L:List Wn):Bool:=decide (L.length≤8)&&L.all Zg4
def ZcV (Ss:List Sh) (Ts:List Tm) (S:Sl):Bool:=Zaj S.dr&&(Zgl Ss Ts S.ak&&(decide (0≤S.gn)&&Zel S.ws))
theorem Ziq (lo:Nat) (v:Value) (L:List Wn) (w:World) (h:Zca lo w v L) :
 Calls prog 221 #[v] w fun e w'=>e=.returned (.bool (Zel L))∧Zw_ w w':=by
 have HI:Hid (Zel L=(decide (L.length≤8)&&L.all Zg4)):=rfl;have HG:=Zab h;obtain⟨a,cap,rfl⟩:=h.form;clear h
 by_cases hl:L.length≤8
 case neg=>
  have HE:Hid (Zel L=false):=by unfold Hid;rw [HI.out,decide_eq_false hl];rfl
  have hgt:decide ((8:Int) < (L.length:Int))=true:=by simp;omega
  go_enter func221,ntmps221;go_wp2;go_ret;exact⟨Zaa HE.out.symm,Below.refl _ _⟩
 have hgt:decide ((8:Int) < (L.length:Int))=false:=by simp;omega
 have HE:Hid (Zel L=L.all Zg4):=by unfold Hid;rw [HI.out,decide_eq_true hl];rfl
 go_enter func221,ntmps221;go_wp2
 go_loopw [10] (fun i wr=>∃ k:Nat,i=.int .i64 k∧k≤L.length∧Zw_ w wr∧(∀ j (hj:j < L.length),j < k→Zg4 L[j]=true)) (fun i _=>L.length - (intOf i).toNat)
 case atStart=>exact⟨0,rfl,by omega,Below.refl _ _,fun j _ h=>by omega⟩
 case round=>
  obtain⟨k,rfl,hk,hb,hall⟩:=hrel;have HA:=Zab hall;have HBr:=Zab hb;clear hall hb
  by_cases hlt:k < L.length
  · obtain⟨b,off,rfl,hbw,-,hc⟩:=HG.out.full' (by omega)
    obtain⟨hs,hc⟩:=hc k hlt;obtain⟨c0,c1,c2⟩:=hc.below HBr.out hbw;have HQ:Hid (Zg4 L[k]=(Zaj L[k].kd&&Zaj L[k].nm&&decide (0≤L[k].ve))):=rfl;have s0:=hs.s0;have s1:=hs.s1;have HBA:∀ o,Hid (Zw_ w (wr.alloc o)):=fun o=>HBr.out.alloc HBr.out.size o
    clear hc hs
    cases h1:Zaj L[k].kd with
    | false=>
     have HN:Hid (Zel L=false):=by unfold Hid;rw [HE.out];exact Zba hlt (by rw [HQ.out,h1];rfl)
     go_wp2_with (go_at_call 118;refine (Zag _ _ (by with_reducible assumption)).mono ?_;rintro e w' ⟨rfl,rfl⟩);go_ret;exact⟨Zaa HN.out.symm,(HBA _).out⟩
    | true=>
     cases h2:Zaj L[k].nm with
     | false=>
      have HN:Hid (Zel L=false):=by unfold Hid;rw [HE.out];exact Zba hlt (by rw [HQ.out,h1,h2];rfl)
      go_wp2_with (go_at_call 118;refine (Zag _ _ (by with_reducible assumption)).mono ?_;rintro e w' ⟨rfl,rfl⟩);go_ret;exact⟨Zaa HN.out.symm,(HBA _).out⟩
     | true=>
      by_cases h3:0≤L[k].ve
      case neg=>
       have hv:decide (L[k].ve < 0)=true:=by simp;omega
       have HN:Hid (Zel L=false):=by unfold Hid;rw [HE.out];exact Zba hlt (by rw [HQ.out,h1,h2,decide_eq_false h3];rfl)
       go_wp2_with (go_at_call 118;refine (Zag _ _ (by with_reducible assumption)).mono ?_;rintro e w' ⟨rfl,rfl⟩);go_ret;exact⟨Zaa HN.out.symm,(HBA _).out⟩
      case pos=>
       have hv:decide (L[k].ve < 0)=false:=by simp;omega
       have HT:Hid (Zg4 L[k]=true):=by unfold Hid;rw [HQ.out,h1,h2,decide_eq_true h3];rfl
       go_wp2_with (go_at_call 118;refine (Zag _ _ (by with_reducible assumption)).mono ?_;rintro e w' ⟨rfl,rfl⟩);go_roundw
       case rel=>exact⟨k+1,by go_num,by omega,(HBA _).out,Zbn HA.out hlt HT.out⟩
       case measure=>simp [intOf];omega
  · have HT:Hid (Zel L=true):=by unfold Hid;rw [HE.out];exact Zb0 (fun i hi=>HA.out i hi (by omega))
    go_wp2;go_ret;exact⟨Zaa HT.out.symm,HBr.out⟩
section
variable (sv mv tv va ha qa wv:Value) (Ss:List Sh) (Ms:List Md) (Ts:List Tm) (S:Sl) (w:World)
theorem ZiJ (hl:ZaO 0 w sv mv tv Ss Ms Ts) (h:Zcw 0 w va ha qa wv S) :
 Calls prog 178 #[.agg #[sv,mv,tv],.agg #[.string S.dr,.string S.ak.who,.int .i64 S.ak.verb,.string S.ak.kd,.string S.ak.nm,.string S.ak.tm,va,ha,.int .i64 S.ak.seen,.string S.ak.hold,.string S.ak.tw,qa,.string S.ak.rk,.string S.ak.rt,.string S.ak.rp,.int .i64 S.ak.num,.int .i64 S.gn,wv]] w fun e w'=>e=.returned (.bool (ZcV Ss Ts S))∧Zw_ w w':=by
 have HI:Hid (ZcV Ss Ts S=(Zaj S.dr&&(Zgl Ss Ts S.ak&&(decide (0≤S.gn)&&Zel S.ws)))):=rfl;have HL:=Zab hl;have HA:=Zab h;obtain⟨sa,sc,rfl⟩:=hl.shs.form;obtain⟨ma,mc,rfl⟩:=hl.mds.form;obtain⟨ta,tc,rfl⟩:=hl.tms.form;obtain⟨a0,k0,rfl⟩:=h.ak.vs.at.form';obtain⟨a1,k1,rfl⟩:=h.ak.hs.at.form';obtain⟨a2,k2,rfl⟩:=h.ak.vb.form;obtain⟨a3,k3,rfl⟩:=h.ws.form;have sn1:S.dr.size≤maxLen:=h.sz;clear hl h;go_enter func178,ntmps178
 cases hn:Zaj S.dr with
 | false=>
  have HE:Hid (ZcV Ss Ts S=false):=by unfold Hid;rw [HI.out,hn];rfl
  go_wp2_with (go_at_call 118;refine (Zag _ _ (by with_reducible assumption)).mono ?_;rintro e w' ⟨rfl,rfl⟩);go_ret;exact⟨Zaa HE.out.symm,(Zac w _).alloc (by simp) _⟩
 | true=>
 go_wp2_with (go_at_call 118;refine (Zag _ _ (by with_reducible assumption)).mono ?_;rintro e w' ⟨rfl,rfl⟩);generalize hWa:World.alloc (w.alloc _) _=Wa;have HB0:Hid (Zw_ w Wa):=by rw [← hWa];exact (Zac w _).alloc (by simp) _
 have FA0:Hid (Box Wa w.heap.size #[.slice sa Ss.length sc,.slice ma Ms.length mc,.slice ta Ts.length tc]):=by rw [← hWa];exact (Box.new _ _ _ _ rfl).on (Zac _ _)
 have FB0:Hid (Box Wa (w.heap.size+1) #[.string S.dr,.string S.ak.who,.int .i64 S.ak.verb,.string S.ak.kd,.string S.ak.nm,.string S.ak.tm,.slice a0 S.ak.vs.length k0,.slice a1 S.ak.hs.length k1,.int .i64 S.ak.seen,.string S.ak.hold,.string S.ak.tw,.slice a2 S.ak.vb.length k2,.string S.ak.rk,.string S.ak.rt,.string S.ak.rp,.int .i64 S.ak.num,.int .i64 S.gn,.slice a3 S.ws.length k3]):=by rw [← hWa];exact Box.new _ _ _ _ (by simp)
 clear hWa;refine (ZiV _ _ _ _ _ _ Ss Ms Ts S.ak _ (HL.out.below HB0.out) (HA.out.below HB0.out).ak).mono ?_;rintro e w1 ⟨rfl,hb1⟩;have HB1:Hid (Zw_ w w1):=bt HB0.out hb1;have FB1:=Zab (FB0.out.on hb1);clear hb1 FA0 FB0 HB0
 cases hq:Zgl Ss Ts S.ak with
 | false=>
  have HE:Hid (ZcV Ss Ts S=false):=by unfold Hid;rw [HI.out,hn,hq];rfl
  go_wp2;go_ret;exact⟨Zaa HE.out.symm,HB1.out⟩
 | true=>
 have c16:=FB1.out.cell 16;have c17:=FB1.out.cell 17;simp at c16 c17
 by_cases hg:0≤S.gn
 case neg=>
  have hv:decide (0≤S.gn)=false:=decide_eq_false hg;have HE:Hid (ZcV Ss Ts S=false):=by unfold Hid;rw [HI.out,hn,hq,hv];rfl
  go_wp2;go_ret;exact⟨Zaa HE.out.symm,HB1.out⟩
 have hv:decide (0≤S.gn)=true:=decide_eq_true hg;have HE:Hid (ZcV Ss Ts S=Zel S.ws):=by unfold Hid;rw [HI.out,hn,hq,hv];rfl
 go_wp2_with fail;clear c16 c17;refine (Ziq 0 _ S.ws _ (HA.out.below HB1.out).ws).mono ?_;rintro e w2 ⟨rfl,hb2⟩;have HB2:Hid (Zw_ w w2):=bt HB1.out hb2;clear hb2;go_wp2;go_ret;exact⟨Zaa HE.out.symm,HB2.out⟩
theorem Zjm (hl:ZaO 0 w sv mv tv Ss Ms Ts) (h:Zcw 0 w va ha qa wv S) :
 Calls prog 59 #[.agg #[sv,mv,tv],.agg #[.string S.dr,.string S.ak.who,.int .i64 S.ak.verb,.string S.ak.kd,.string S.ak.nm,.string S.ak.tm,va,ha,.int .i64 S.ak.seen,.string S.ak.hold,.string S.ak.tw,qa,.string S.ak.rk,.string S.ak.rt,.string S.ak.rp,.int .i64 S.ak.num,.int .i64 S.gn,wv]] w fun e w'=>e=.returned (.bool (ZcV Ss Ts S))∧Zw_ w w':=by
 have HI:Hid (ZcV Ss Ts S=(Zaj S.dr&&(Zgl Ss Ts S.ak&&(decide (0≤S.gn)&&(decide (S.ws.length≤8)&&S.ws.all Zg4))))):=rfl;have HL:=Zab hl;have HA:=Zab h;obtain⟨sa,sc,rfl⟩:=hl.shs.form;obtain⟨ma,mc,rfl⟩:=hl.mds.form;obtain⟨ta,tc,rfl⟩:=hl.tms.form;obtain⟨a0,k0,rfl⟩:=h.ak.vs.at.form';obtain⟨a1,k1,rfl⟩:=h.ak.hs.at.form';obtain⟨a2,k2,rfl⟩:=h.ak.vb.form;obtain⟨a3,k3,rfl⟩:=h.ws.form;have sn1:S.dr.size≤maxLen:=h.sz;clear hl h;go_enter func59,ntmps59
 cases hn:Zaj S.dr with
 | false=>
  have HE:Hid (ZcV Ss Ts S=false):=by unfold Hid;rw [HI.out,hn];rfl
  go_wp2_with (go_at_call 58;refine (Zad _ _ (by with_reducible assumption)).mono ?_;rintro e w' ⟨rfl,rfl⟩);go_ret;exact⟨Zaa HE.out.symm,(Zac w _).alloc (by simp) _⟩
 | true=>
 go_wp2_with (go_at_call 58;refine (Zad _ _ (by with_reducible assumption)).mono ?_;rintro e w' ⟨rfl,rfl⟩);generalize hWa:World.alloc (w.alloc _) _=Wa;have HB0:Hid (Zw_ w Wa):=by rw [← hWa];exact (Zac w _).alloc (by simp) _
 have FA0:Hid (Box Wa w.heap.size #[.slice sa Ss.length sc,.slice ma Ms.length mc,.slice ta Ts.length tc]):=by rw [← hWa];exact (Box.new _ _ _ _ rfl).on (Zac _ _)
 have FB0:Hid (Box Wa (w.heap.size+1) #[.string S.dr,.string S.ak.who,.int .i64 S.ak.verb,.string S.ak.kd,.string S.ak.nm,.string S.ak.tm,.slice a0 S.ak.vs.length k0,.slice a1 S.ak.hs.length k1,.int .i64 S.ak.seen,.string S.ak.hold,.string S.ak.tw,.slice a2 S.ak.vb.length k2,.string S.ak.rk,.string S.ak.rt,.string S.ak.rp,.int .i64 S.ak.num,.int .i64 S.gn,.slice a3 S.ws.length k3]):=by rw [← hWa];exact Box.new _ _ _ _ (by simp)
 clear hWa;refine (Zkh _ _ _ _ _ _ Ss Ms Ts S.ak _ (HL.out.below HB0.out) (HA.out.below HB0.out).ak).mono ?_;rintro e w1 ⟨rfl,hb1⟩;have HB1:Hid (Zw_ w w1):=bt HB0.out hb1;have FB1:=Zab (FB0.out.on hb1);clear hb1 FA0 FB0 HB0
 cases hq:Zgl Ss Ts S.ak with
 | false=>
  have HE:Hid (ZcV Ss Ts S=false):=by unfold Hid;rw [HI.out,hn,hq];rfl
  go_wp2;go_ret;exact⟨Zaa HE.out.symm,HB1.out⟩
 | true=>
 have c16:=FB1.out.cell 16;have c17:=FB1.out.cell 17;simp at c16 c17
 by_cases hg:0≤S.gn
 case neg=>
  have hv:decide (S.gn < 0)=true:=by simp;omega
  have HE:Hid (ZcV Ss Ts S=false):=by unfold Hid;rw [HI.out,hn,hq,decide_eq_false hg];rfl
  go_wp2;go_ret;exact⟨Zaa HE.out.symm,HB1.out⟩
 have hv:decide (S.gn < 0)=false:=by simp;omega
 by_cases h8:S.ws.length≤8
 case neg=>
  have hgt:decide ((8:Int) < (S.ws.length:Int))=true:=by simp;omega
  have HE:Hid (ZcV Ss Ts S=false):=by unfold Hid;rw [HI.out,hn,hq,decide_eq_true hg,decide_eq_false h8];rfl
  go_wp2;go_ret;exact⟨Zaa HE.out.symm,HB1.out⟩
 have hgt:decide ((8:Int) < (S.ws.length:Int))=false:=by simp;omega
 have HE:Hid (ZcV Ss Ts S=S.ws.all Zg4):=by unfold Hid;rw [HI.out,hn,hq,decide_eq_true hg,decide_eq_true h8];rfl
 go_wp2;clear c16 c17
 go_loopw [5] (fun i wr=>∃ k:Nat,i=.int .i64 k∧k≤S.ws.length∧Zw_ w wr∧Box wr (w.heap.size+1) #[.string S.dr,.string S.ak.who,.int .i64 S.ak.verb,.string S.ak.kd,.string S.ak.nm,.string S.ak.tm,.slice a0 S.ak.vs.length k0,.slice a1 S.ak.hs.length k1,.int .i64 S.ak.seen,.string S.ak.hold,.string S.ak.tw,.slice a2 S.ak.vb.length k2,.string S.ak.rk,.string S.ak.rt,.string S.ak.rp,.int .i64 S.ak.num,.int .i64 S.gn,.slice a3 S.ws.length k3]∧(∀ j (hj:j < S.ws.length),j < k→Zg4 S.ws[j]=true)) (fun i _=>S.ws.length - (intOf i).toNat)
 case atStart=>exact⟨0,rfl,by omega,HB1.out,FB1.out,fun j _ h=>by omega⟩
 case round=>
  obtain⟨k,rfl,hk,hb,hx,hall⟩:=hrel;have HAL:=Zab hall;have HBr:=Zab hb;have HX:=Zab hx;have x17:=hx.cell 17;simp at x17;clear hall hb hx
  by_cases hlt:k < S.ws.length
  · obtain⟨b,off,rfl,hbw,-,hc⟩:=HA.out.ws.full' (by omega)
    obtain⟨hs,hc⟩:=hc k hlt;obtain⟨c0,c1,c2⟩:=hc.below HBr.out hbw;have HQ:Hid (Zg4 S.ws[k]=(Zaj S.ws[k].kd&&Zaj S.ws[k].nm&&decide (0≤S.ws[k].ve))):=rfl;have s0:=hs.s0;have s1:=hs.s1;clear hc hs
    cases h1:Zaj S.ws[k].kd with
    | false=>
     have HN:Hid (ZcV Ss Ts S=false):=by unfold Hid;rw [HE.out];exact Zba hlt (by rw [HQ.out,h1];rfl)
     go_wp2_with (go_at_call 58;refine (Zad _ _ (by with_reducible assumption)).mono ?_;rintro e w' ⟨rfl,rfl⟩);go_ret;exact⟨Zaa HN.out.symm,HBr.out⟩
    | true=>
     cases h2:Zaj S.ws[k].nm with
     | false=>
      have HN:Hid (ZcV Ss Ts S=false):=by unfold Hid;rw [HE.out];exact Zba hlt (by rw [HQ.out,h1,h2];rfl)
      go_wp2_with (go_at_call 58;refine (Zad _ _ (by with_reducible assumption)).mono ?_;rintro e w' ⟨rfl,rfl⟩);go_ret;exact⟨Zaa HN.out.symm,HBr.out⟩
     | true=>
      by_cases h3:0≤S.ws[k].ve
      case neg=>
       have hv:decide (S.ws[k].ve < 0)=true:=by simp;omega
       have HN:Hid (ZcV Ss Ts S=false):=by unfold Hid;rw [HE.out];exact Zba hlt (by rw [HQ.out,h1,h2,decide_eq_false h3];rfl)
       go_wp2_with (go_at_call 58;refine (Zad _ _ (by with_reducible assumption)).mono ?_;rintro e w' ⟨rfl,rfl⟩);go_ret;exact⟨Zaa HN.out.symm,HBr.out⟩
      case pos=>
       have hv:decide (S.ws[k].ve < 0)=false:=by simp;omega
       have HT:Hid (Zg4 S.ws[k]=true):=by unfold Hid;rw [HQ.out,h1,h2,decide_eq_true h3];rfl
       go_wp2_with (go_at_call 58;refine (Zad _ _ (by with_reducible assumption)).mono ?_;rintro e w' ⟨rfl,rfl⟩);go_roundw
       case rel=>exact⟨k+1,by go_num,by omega,HBr.out,HX.out,Zbn HAL.out hlt HT.out⟩
       case measure=>simp [intOf];omega
  · have HT:Hid (ZcV Ss Ts S=true):=by unfold Hid;rw [HE.out];exact Zb0 (fun i hi=>HAL.out i hi (by omega))
    go_wp2;go_ret;exact⟨Zaa HT.out.symm,HBr.out⟩
end
end Go.Proofs.YtcfjmagkinpaeaaGreat
