import Derived.Test.YtcfjmagkinpaeaaGreatGWB
import Derived.Test.YtcfjmagkinpaeaaGreatGMYa
import Derived.Test.YtcfjmagkinpaeaaGreatGTG
set_option maxHeartbeats 16000000
set_option maxRecDepth 100000
open Go.Proofs.Tryz
namespace Go.Proofs.YtcfjmagkinpaeaaGreat
open Go.RowKit Go.Deep
def Zdg (Ts:List Tm) (Gs:List Gr) (g:Gr):Bool:=num (ZcU Ts (Gs.map Gr.ru) g.ru) == 0
def Ze1 (Ss:List Sh) (Ms:List Md) (Ts:List Tm) (F:Bk→Nat→List Zy_) (f:Bk) (U:Wd):Bool:=(Zdm Ss Ms Ts&&Zbl Ss Ts F U)&&(Zbj Ss Ts f (F f)&&U.bk.gs.all (Zdg Ts f.gs))
theorem ZhP {Gs:List Gr} {k:Nat} (hk:k < Gs.length):(Gs.take (k+1)).map Gr.ru=(Gs.take k).map Gr.ru ++ [Gs[k].ru]:=by
 rw [List.take_succ_eq_append_getElem hk,List.map_append];rfl
theorem Zjz {Gs:List Gr} {k:Nat} {L:List (Value×Ru)} (h:L.map Prod.snd=(Gs.take k).map Gr.ru):L.length≤k:=by
 rw [← List.length_map (f:=Prod.snd),h,List.length_map,List.length_take];omega
theorem ZgT {Gs:List Gr} {k:Nat} (hk:Gs.length≤k):(Gs.take k).map Gr.ru=Gs.map Gr.ru:=by rw [List.take_of_length_le hk]
theorem ZnF {Ss:List Sh} {Ms:List Md} {Ts:List Tm} (h:Zdm Ss Ms Ts=true):Za4 Ts=true:=by
 unfold Zdm at h;rw [Bool.and_eq_true] at h;exact h.2
theorem Zmv {Ss:List Sh} {Ts:List Tm} {B:Bk} {FF:Nat→List Zy_} (h:Zbj Ss Ts B FF=true) {k:Nat} (hk:k < B.gs.length):ZaS B.gs[k].ru=true:=by
 unfold Zbj at h;simp only [Bool.and_eq_true] at h;have hg:=h.2.2.1;unfold ZaX at hg;simp only [Bool.and_eq_true] at hg;have:=List.all_eq_true.1 hg.2 _ (List.getElem_mem hk);unfold gnB at this;simp only [Bool.and_eq_true] at this;exact this.2
theorem ZkS {Ss:List Sh} {Ts:List Tm} {F:Bk→Nat→List Zy_} {U:Wd} (h:Zbl Ss Ts F U=true):Zbj Ss Ts U.bk (F U.bk)=true:=by
 unfold Zbl at h;simp only [Bool.and_eq_true] at h;exact h.2.2.1
section
variable (sv mv tv fo fg fl fp ov gv lv pv dv:Value) (Ss:List Sh) (Ms:List Md) (Ts:List Tm) (F:Bk→Nat→List Zy_) (f:Bk) (U:Wd) (w:World)
theorem Zje (hl:ZaO 0 w sv mv tv Ss Ms Ts) (hf:ZaH 0 w fo fg fl fp f) (h:Zh6 0 w ov gv lv pv dv U) (hnf:Zbx f) (hn:Zcp U) (hF:∀ B:Bk,Za2 Ss Ms B.os (F B)) :
 Calls prog 16 #[.agg #[sv,mv,tv],.agg #[.int .i64 f.now,.int .i64 f.tick,.int .i64 f.given,fo,fg,fl,fp],.agg #[.int .i64 U.bk.now,.int .i64 U.bk.tick,.int .i64 U.bk.given,ov,gv,lv,pv,dv]] w fun e w'=>e=.returned (.bool (Ze1 Ss Ms Ts F f U))∧Zw_ w w':=by
 have HE0:Hid (Ze1 Ss Ms Ts F f U=((Zdm Ss Ms Ts&&Zbl Ss Ts F U)&&(Zbj Ss Ts f (F f)&&U.bk.gs.all (Zdg Ts f.gs)))):=rfl;have HL:=Zab hl;have HN:=Zab hn;have HNF:=Zab hnf;have HSH:=Zab hF;have HD:=Zab h;have HF:=Zab hf;obtain⟨i0,hi,hz0,hz1,hz2⟩:=info_parts Zlm;have HI:=Zab (And.intro hi (And.intro hz0 (And.intro hz1 hz2)));clear hi hz0 hz1 hz2;obtain⟨sa,sc,rfl⟩:=hl.shs.form;obtain⟨ma,mc,rfl⟩:=hl.mds.form;obtain⟨ta,tc,rfl⟩:=hl.tms.form;obtain⟨c0,e0,rfl⟩:=hf.obs.form;obtain⟨c1,e1,rfl⟩:=hf.grs.form;obtain⟨c2,e2,rfl⟩:=hf.les.form;obtain⟨c3,e3,rfl⟩:=hf.pus.form;obtain⟨a0,k0,rfl⟩:=h.bk.obs.form;obtain⟨a1,k1,rfl⟩:=h.bk.grs.form;obtain⟨a2,k2,rfl⟩:=h.bk.les.form;obtain⟨a3,k3,rfl⟩:=h.bk.pus.form;obtain⟨a4,k4,rfl⟩:=h.ls.form;have hmx:f.gs.length≤1048576:=hnf.2.1.1;have hmu:U.bk.gs.length≤1048576:=hn.1.2.1.1;clear hl h hn hF hf hnf
 go_enter func16,ntmps16;go_wp2_with fail;generalize hWa:World.alloc (World.alloc (w.alloc _) _) _=Wa;have HB0:Hid (Zw_ w Wa):=by rw [← hWa];exact ((Zac w _).alloc (by simp) _).alloc (by simp;omega) _
 have FA0:Hid (Box Wa w.heap.size #[.slice sa Ss.length sc,.slice ma Ms.length mc,.slice ta Ts.length tc]):=by rw [← hWa];exact ((Box.new _ _ _ _ rfl).on (Zac _ _)).on (Zac _ _)
 have FB0:Hid (Box Wa (w.heap.size+1) #[.int .i64 f.now,.int .i64 f.tick,.int .i64 f.given,.slice c0 f.os.length e0,.slice c1 f.gs.length e1,.slice c2 f.ls.length e2,.slice c3 f.ps.length e3]):=by rw [← hWa];exact (Box.new _ _ _ _ (by simp)).on (Zac _ _)
 have FU0:Hid (Box Wa (w.heap.size+2) #[.int .i64 U.bk.now,.int .i64 U.bk.tick,.int .i64 U.bk.given,.slice a0 U.bk.os.length k0,.slice a1 U.bk.gs.length k1,.slice a2 U.bk.ls.length k2,.slice a3 U.bk.ps.length k3,.slice a4 U.ds.length k4]):=by rw [← hWa];exact Box.new _ _ _ _ (by simp)
 clear hWa;refine (ZgB _ _ _ _ _ _ _ _ Ss Ms Ts F U _ (HL.out.below HB0.out) (HD.out.below HB0.out) HN.out HSH.out).mono ?_;rintro e w1 ⟨rfl,hb⟩;have HB1:Hid (Zw_ w w1):=bt HB0.out hb;have FA1:=Zab (FA0.out.on hb);have FB1:=Zab (FB0.out.on hb);have FU1:=Zab (FU0.out.on hb);clear hb FA0 FB0 FU0 HB0
 cases h1:(Zdm Ss Ms Ts&&Zbl Ss Ts F U) with
 | false=>
  have HE:Hid (Ze1 Ss Ms Ts F f U=false):=by unfold Hid;rw [HE0.out,h1];rfl
  go_wp2;go_ret;exact⟨Zaa HE.out.symm,HB1.out⟩
 | true=>
 have hlw:Zdm Ss Ms Ts=true:=by
  rw [Bool.and_eq_true] at h1;exact h1.1
 have HMB:=Zab (ZgG hlw);clear hlw;have g0:=FA1.out.cell;have g1:=FB1.out.cell;go_wp2_with fail;clear g0 g1;refine (ZdN 0 _ _ _ _ _ _ _ Ss Ms Ts f (F f) _ (HL.out.below HB1.out) HMB.out (HF.out.below HB1.out) HNF.out (HSH.out _)).mono ?_;rintro e w2 ⟨rfl,hb⟩;have HB2:Hid (Zw_ w w2):=bt HB1.out hb;have FA2:=Zab (FA1.out.on hb);have FB2:=Zab (FB1.out.on hb);have FU2:=Zab (FU1.out.on hb);clear hb FA1 FB1 FU1 HB1
 cases h2:Zbj Ss Ts f (F f) with
 | false=>
  have HE:Hid (Ze1 Ss Ms Ts F f U=false):=by unfold Hid;rw [HE0.out,h1,h2];rfl
  go_wp2;go_ret;exact⟨Zaa HE.out.symm,HB2.out⟩
 | true=>
 have HE:Hid (Ze1 Ss Ms Ts F f U=U.bk.gs.all (Zdg Ts f.gs)):=by unfold Hid;rw [HE0.out,h1,h2];rfl
 have b4:=FB2.out.cell 4;simp at b4;go_wp2;clear b4
 go_loopw [7,25] (fun v i wr=>∃ (k:Nat) (L:List (Value×Ru)),i=.int .i64 k∧k≤f.gs.length∧Zw_ w wr∧Box wr w.heap.size #[.slice sa Ss.length sc,.slice ma Ms.length mc,.slice ta Ts.length tc]∧Box wr (w.heap.size+2) #[.int .i64 U.bk.now,.int .i64 U.bk.tick,.int .i64 U.bk.given,.slice a0 U.bk.os.length k0,.slice a1 U.bk.gs.length k1,.slice a2 U.bk.ls.length k2,.slice a3 U.bk.ps.length k3,.slice a4 U.ds.length k4]∧Zd4 (w.heap.size+3) w wr v L∧L.map Prod.snd=(f.gs.take k).map Gr.ru) (fun _ i _=>f.gs.length - (intOf i).toNat)
 case atStart=>exact⟨0,[],rfl,by omega,HB2.out,FA2.out,FU2.out,⟨World.ownsRow_nil _ _ _ _,fun x hx=>absurd hx List.not_mem_nil⟩,by simp⟩
 case round=>
  obtain⟨k,L,rfl,hk,hb,hx,hy,hown,hL⟩:=hrel;have HB:=Zab hb;have HX:=Zab hx;have HY:=Zab hy;have HO:=Zab hown;have HLs:=Zab hL;have hlen:L.length≤k:=Zjz hL;obtain⟨va,vcap,rfl⟩:=ZgO hown.own;have hlt3:w.heap.size+2 < wr.heap.size:=hy.lt
  clear hb hx hy hown hL HB2 FA2 FB2 FU2
  by_cases hlt:k < f.gs.length
  · obtain⟨rb,ro,rfl,hrb,-,hrc⟩:=HF.out.grs.full' (by omega)
    obtain⟨hsz,qv,hcell,hqv⟩:=hrc k hlt;have HSZ:Hid (Zdk f.gs[k].ru):=⟨hsz.s2,hsz.s3,hsz.s4⟩;obtain⟨c0,c1,c2,c3,c4,c5,c6⟩:=hcell.below HB.out hrb;obtain⟨qa,qcap,rfl⟩:=hqv.form;have HQ:=Zab hqv;clear hcell hqv hrc hsz;have HNX:=Zab (ZhP hlt);go_wp2_with (at_builtin;refine wpList_append_lies _ rfl (.tmp 29) (.tmp 32) 85 rfl (w.heap.size+3) 88 i0 (.agg #[.slice none 0 0,.string ⟨#[]⟩,.string ⟨#[]⟩,.string ⟨#[]⟩]) 4 72 underlying85 HI.out.1 HI.out.2.1 HI.out.2.2.1 HI.out.2.2.2 rfl (by decide) _ L.length (rvs L) rfl (HO.out.below ((Zac _ _).alloc (by simp) _)).own ⟨wr.heap.size+1,0,none⟩ 1 1 [.slice qa f.gs[k].vb.length qcap,.string f.gs[k].kd,.string f.gs[k].tm,.string f.gs[k].pf] rfl rfl (ZiX _ _ _ _ _ _ _ (by simp)) (ZfM _ _ _ _ _ _) (by decide) (by unfold maxLen;omega) (by omega) (by simp;omega) _ rfl ?_;intro g cap1 w4 hown4 hgrow4 hat4 hlt4)
    have HG4:=Zab (ZhM (HO.out.below ((Zac _ _).alloc (by simp) _)).own hgrow4 (by simp;omega));have HX4:=Zab (((HX.out.on (Zac _ _)).on (Zac _ _)).below HG4.out (by omega));have HY4:=Zab (((HY.out.on (Zac _ _)).on (Zac _ _)).below HG4.out (by omega));go_roundw
    case rel=>exact⟨k+1,_,by go_num,by omega,(HB.out.trans (((Zac wr _).alloc (by simp) _).mono HB.out.size)).trans (HG4.out.mono (by omega)),HX4.out,HY4.out,HO.out.snoc (r:=f.gs[k].ru) HQ.out HSZ.out hown4,by rw [HNX.out,List.map_append,HLs.out];rfl⟩
    case measure=>simp [intOf];omega
  · have HR:Hid (Ze7 0 wr (.slice va L.length vcap) (f.gs.map Gr.ru)):=by
     have:=HO.out.rus HB.out;rw [HLs.out,ZgT (by omega)] at this;exact this
    have hrl:Hid ((f.gs.map Gr.ru).length=L.length):=by
     unfold Hid;rw [← ZgT (show f.gs.length≤k by omega),← HLs.out,List.length_map]
    obtain⟨W1,hW1⟩:∃ W,W=wr:=⟨_,rfl⟩
    subst hW1;generalize hrv:Value.slice va L.length vcap=rv at*;have u4:=HY.out.cell 4;simp at u4;clear HO HLs hlen hrl;go_wp2;clear u4
    go_loopw [39] (fun i wr=>∃ m:Nat,i=.int .i64 m∧m≤U.bk.gs.length∧Below W1.heap.size W1 wr∧(∀ j (hj:j < U.bk.gs.length),j < m→Zdg Ts f.gs U.bk.gs[j]=true)) (fun i _=>U.bk.gs.length - (intOf i).toNat)
    case atStart=>exact⟨0,rfl,by omega,Below.refl _ _,fun j _ h=>by omega⟩
    case round=>
     obtain⟨m,rfl,hm,hbq,hall⟩:=hrel;have HAL:=Zab hall;have HBQ:=Zab hbq;have HBW:Hid (Zw_ w wr):=bt HB.out hbq;have HXQ:=Zab (HX.out.on hbq);clear hall hbq
     by_cases hlm:m < U.bk.gs.length
     · obtain⟨rb,ro,rfl,hrb,-,hrc⟩:=HD.out.bk.grs.full' (by omega)
       obtain⟨hsz,qv,hcell,hqv⟩:=hrc m hlm;obtain⟨d0,d1,d2,d3,d4,d5,d6⟩:=hcell.below HBW.out hrb;obtain⟨qa,qcap,rfl⟩:=hqv.form;have HQ:=Zab hqv
       have x2:∀ o,(wr.alloc o).cell? ⟨w.heap.size,2,none⟩=some (.slice ta Ts.length tc):=fun o=>by
        rw [(HXQ.out.on (Zac _ _)).cell 2];rfl
       clear hcell hqv hrc hsz;go_wp2_with fail;generalize hWg:wr.alloc _=Wg;have HBg:Hid (Below wr.heap.size wr Wg):=by rw [← hWg];exact Zac _ _
       clear hWg x2 d0 d1 d2 d3 d4 d5 d6;refine (Zkr 0 0 0 _ _ _ Ts (f.gs.map Gr.ru) U.bk.gs[m].ru _ ((HL.out.below HBW.out).below HBg.out).tms ((HR.out.below HBQ.out).below HBg.out) ((HQ.out.below HBW.out).below HBg.out)).mono ?_;rintro e w5 ⟨rfl,hb5⟩;have HB5:Hid (Below W1.heap.size W1 w5):=bt HBQ.out (bt HBg.out hb5);clear hb5 HBg;have HW:Hid (Zdg Ts f.gs U.bk.gs[m]=(num (ZcU Ts (f.gs.map Gr.ru) U.bk.gs[m].ru) == 0)):=rfl
       cases h6:(num (ZcU Ts (f.gs.map Gr.ru) U.bk.gs[m].ru) == 0) with
       | false=>
        have h6':(num (ZcU Ts (f.gs.map Gr.ru) U.bk.gs[m].ru) != 0)=true:=by rw [bne,h6];rfl
        have HNo:Hid (Ze1 Ss Ms Ts F f U=false):=by unfold Hid;rw [HE.out];exact Zba hlm (by rw [HW.out,h6])
        go_wp2;go_ret;exact⟨Zaa HNo.out.symm,bt HB.out HB5.out⟩
       | true=>
        have h6':(num (ZcU Ts (f.gs.map Gr.ru) U.bk.gs[m].ru) != 0)=false:=by rw [bne,h6];rfl
        have HT:Hid (Zdg Ts f.gs U.bk.gs[m]=true):=by unfold Hid;rw [HW.out,h6]
        go_wp2;go_roundw
        case rel=>exact⟨m+1,by go_num,by omega,HB5.out,Zbn HAL.out hlm HT.out⟩
        case measure=>simp [intOf];omega
     · have HT:Hid (Ze1 Ss Ms Ts F f U=true):=by unfold Hid;rw [HE.out];exact Zb0 (fun i hi=>HAL.out i hi (by omega))
       go_wp2;go_ret;exact⟨Zaa HT.out.symm,HBW.out⟩
theorem ZjC (hl:ZaO 0 w sv mv tv Ss Ms Ts) (hf:ZaH 0 w fo fg fl fp f) (h:Zh6 0 w ov gv lv pv dv U) (hnf:Zbx f) (hn:Zcp U) (hF:∀ B:Bk,Za2 Ss Ms B.os (F B)) :
 Calls prog 14 #[.agg #[sv,mv,tv],.agg #[.int .i64 f.now,.int .i64 f.tick,.int .i64 f.given,fo,fg,fl,fp],.agg #[.int .i64 U.bk.now,.int .i64 U.bk.tick,.int .i64 U.bk.given,ov,gv,lv,pv,dv]] w fun e w'=>e=.returned (.bool (Ze1 Ss Ms Ts F f U))∧Zw_ w w':=by
 have HE0:Hid (Ze1 Ss Ms Ts F f U=((Zdm Ss Ms Ts&&Zbl Ss Ts F U)&&(Zbj Ss Ts f (F f)&&U.bk.gs.all (Zdg Ts f.gs)))):=rfl;have HL:=Zab hl;have HN:=Zab hn;have HNF:=Zab hnf;have HSH:=Zab hF;have HD:=Zab h;have HF:=Zab hf;obtain⟨i0,hi,hz0,hz1,hz2⟩:=info_parts Zlm;have HI:=Zab (And.intro hi (And.intro hz0 (And.intro hz1 hz2)));clear hi hz0 hz1 hz2;obtain⟨sa,sc,rfl⟩:=hl.shs.form;obtain⟨ma,mc,rfl⟩:=hl.mds.form;obtain⟨ta,tc,rfl⟩:=hl.tms.form;obtain⟨c0,e0,rfl⟩:=hf.obs.form;obtain⟨c1,e1,rfl⟩:=hf.grs.form;obtain⟨c2,e2,rfl⟩:=hf.les.form;obtain⟨c3,e3,rfl⟩:=hf.pus.form;obtain⟨a0,k0,rfl⟩:=h.bk.obs.form;obtain⟨a1,k1,rfl⟩:=h.bk.grs.form;obtain⟨a2,k2,rfl⟩:=h.bk.les.form;obtain⟨a3,k3,rfl⟩:=h.bk.pus.form;obtain⟨a4,k4,rfl⟩:=h.ls.form;have hmx:f.gs.length≤1048576:=hnf.2.1.1;have hmu:U.bk.gs.length≤1048576:=hn.1.2.1.1;clear hl h hn hF hf hnf
 go_enter func14,ntmps14;go_wp2_with fail;generalize hWa:World.alloc (World.alloc (w.alloc _) _) _=Wa;have HB0:Hid (Zw_ w Wa):=by rw [← hWa];exact ((Zac w _).alloc (by simp) _).alloc (by simp;omega) _
 have FA0:Hid (Box Wa w.heap.size #[.slice sa Ss.length sc,.slice ma Ms.length mc,.slice ta Ts.length tc]):=by rw [← hWa];exact ((Box.new _ _ _ _ rfl).on (Zac _ _)).on (Zac _ _)
 have FB0:Hid (Box Wa (w.heap.size+1) #[.int .i64 f.now,.int .i64 f.tick,.int .i64 f.given,.slice c0 f.os.length e0,.slice c1 f.gs.length e1,.slice c2 f.ls.length e2,.slice c3 f.ps.length e3]):=by rw [← hWa];exact (Box.new _ _ _ _ (by simp)).on (Zac _ _)
 have FU0:Hid (Box Wa (w.heap.size+2) #[.int .i64 U.bk.now,.int .i64 U.bk.tick,.int .i64 U.bk.given,.slice a0 U.bk.os.length k0,.slice a1 U.bk.gs.length k1,.slice a2 U.bk.ls.length k2,.slice a3 U.bk.ps.length k3,.slice a4 U.ds.length k4]):=by rw [← hWa];exact Box.new _ _ _ _ (by simp)
 clear hWa;refine (Zeh 0 _ _ _ _ _ _ _ Ss Ms Ts f (F f) _ (HL.out.below HB0.out) (HF.out.below HB0.out) HNF.out (HSH.out _)).mono ?_;rintro e w1 ⟨rfl,hb⟩;have HB1:Hid (Zw_ w w1):=bt HB0.out hb;have FA1:=Zab (FA0.out.on hb);have FB1:=Zab (FB0.out.on hb);have FU1:=Zab (FU0.out.on hb);clear hb FA0 FB0 FU0 HB0
 cases h1:ZeD Ss Ms Ts f (F f) with
 | false=>
  have HE:Hid (Ze1 Ss Ms Ts F f U=false):=by
   unfold Hid;rw [HE0.out]
   cases hq:Zdm Ss Ms Ts with
   | false=>rfl
   | true=>
    rw [← ZcW hq,h1]
    cases Zbl Ss Ts F U <;> rfl
  go_wp2;go_ret;exact⟨Zaa HE.out.symm,HB1.out⟩
 | true=>
 have hlw:Zdm Ss Ms Ts=true:=by
  unfold ZeD at h1;rw [Bool.and_eq_true] at h1;exact h1.1
 have HLW:=Zab hlw;have HS:Hid (Zbj Ss Ts f (F f)=true):=(ZcW hlw _ _).symm.trans h1;clear hlw;have g0:=FA1.out.cell;have g1:=FU1.out.cell;go_wp2_with fail;clear g0 g1;refine (ZgY _ _ _ _ _ _ _ _ Ss Ms Ts F U _ (HL.out.below HB1.out) (HD.out.below HB1.out) HN.out HSH.out).mono ?_;rintro e w2 ⟨rfl,hb⟩;have HB2:Hid (Zw_ w w2):=bt HB1.out hb;have FA2:=Zab (FA1.out.on hb);have FB2:=Zab (FB1.out.on hb);have FU2:=Zab (FU1.out.on hb);clear hb FA1 FB1 FU1 HB1
 cases h2:(Zdm Ss Ms Ts&&Zbl Ss Ts F U) with
 | false=>
  have HE:Hid (Ze1 Ss Ms Ts F f U=false):=by unfold Hid;rw [HE0.out,h2];rfl
  go_wp2;go_ret;exact⟨Zaa HE.out.symm,HB2.out⟩
 | true=>
 have HE:Hid (Ze1 Ss Ms Ts F f U=U.bk.gs.all (Zdg Ts f.gs)):=by unfold Hid;rw [HE0.out,h2,HS.out];rfl
 have HWS:Hid (Zbj Ss Ts U.bk (F U.bk)=true):=by
  rw [Bool.and_eq_true] at h2;exact ZkS h2.2
 have b4:=FB2.out.cell 4;simp at b4;go_wp2;clear b4;generalize hWb:w2.alloc _=Wb;have HBb:Hid (Below w2.heap.size w2 Wb):=by rw [← hWb];exact Zac _ _
 have HO0:Hid (Zd4 (w.heap.size+3) w Wb (.slice (some ⟨w2.heap.size,0,none⟩) 0 0) []):=by
  rw [← hWb];exact⟨ZnS _ _ _ 4 (by simp) (by have:=FU2.out.lt;omega),fun x hx=>absurd hx List.not_mem_nil⟩
 clear hWb
 go_loopw [7,8] (fun v i wr=>∃ (k:Nat) (L:List (Value×Ru)),i=.int .i64 k∧k≤f.gs.length∧Zw_ w wr∧Box wr w.heap.size #[.slice sa Ss.length sc,.slice ma Ms.length mc,.slice ta Ts.length tc]∧Box wr (w.heap.size+1) #[.int .i64 f.now,.int .i64 f.tick,.int .i64 f.given,.slice c0 f.os.length e0,.slice c1 f.gs.length e1,.slice c2 f.ls.length e2,.slice c3 f.ps.length e3]∧Box wr (w.heap.size+2) #[.int .i64 U.bk.now,.int .i64 U.bk.tick,.int .i64 U.bk.given,.slice a0 U.bk.os.length k0,.slice a1 U.bk.gs.length k1,.slice a2 U.bk.ls.length k2,.slice a3 U.bk.ps.length k3,.slice a4 U.ds.length k4]∧Zd4 (w.heap.size+3) w wr v L∧L.map Prod.snd=(f.gs.take k).map Gr.ru) (fun _ i _=>f.gs.length - (intOf i).toNat)
 case atStart=>exact⟨0,[],rfl,by omega,bt HB2.out HBb.out,FA2.out.on HBb.out,FB2.out.on HBb.out,FU2.out.on HBb.out,HO0.out,by simp⟩
 case round=>
  obtain⟨k,L,rfl,hk,hb,hx,hz,hy,hown,hL⟩:=hrel;have HB:=Zab hb;have HX:=Zab hx;have HZ:=Zab hz;have HY:=Zab hy;have HO:=Zab hown;have HLs:=Zab hL;have hlen:L.length≤k:=Zjz hL;obtain⟨va,vcap,rfl⟩:=ZgO hown.own;have hlt3:w.heap.size+2 < wr.heap.size:=hy.lt
  have x4:=hz.cell 4;simp at x4;clear hb hx hy hz hown hL HB2 FA2 FB2 FU2 HBb HO0
  by_cases hlt:k < f.gs.length
  · obtain⟨rb,ro,rfl,hrb,-,hrc⟩:=HF.out.grs.full' (by omega)
    obtain⟨hsz,qv,hcell,hqv⟩:=hrc k hlt;have HSZ:Hid (Zdk f.gs[k].ru):=⟨hsz.s2,hsz.s3,hsz.s4⟩;obtain⟨c0,c1,c2,c3,c4,c5,c6⟩:=hcell.below HB.out hrb;obtain⟨qa,qcap,rfl⟩:=hqv.form;have HQ:=Zab hqv;clear hcell hqv hrc hsz;have HNX:=Zab (ZhP hlt);go_wp2_with (at_builtin;refine wpList_append_lies _ rfl (.tmp 28) (.tmp 35) 85 rfl (w.heap.size+3) 88 i0 (.agg #[.slice none 0 0,.string ⟨#[]⟩,.string ⟨#[]⟩,.string ⟨#[]⟩]) 4 72 underlying85 HI.out.1 HI.out.2.1 HI.out.2.2.1 HI.out.2.2.2 rfl (by decide) _ L.length (rvs L) rfl (HO.out.below (Zac _ _)).own ⟨wr.heap.size,0,none⟩ 1 1 [.slice qa f.gs[k].vb.length qcap,.string f.gs[k].kd,.string f.gs[k].tm,.string f.gs[k].pf] rfl rfl (ZiX _ _ _ _ _ _ _ (by simp)) (ZfM _ _ _ _ _ _) (by decide) (by unfold maxLen;omega) (by omega) (by simp;omega) _ rfl ?_;intro g cap1 w4 hown4 hgrow4 hat4 hlt4)
    have HG4:=Zab (ZhM (HO.out.below (Zac _ _)).own hgrow4 (by simp;omega));have HX4:=Zab ((HX.out.on (Zac _ _)).below HG4.out (by omega));have HZ4:=Zab ((HZ.out.on (Zac _ _)).below HG4.out (by omega));have HY4:=Zab ((HY.out.on (Zac _ _)).below HG4.out (by omega));go_roundw
    case rel=>exact⟨k+1,_,by go_num,by omega,(HB.out.trans ((Zac wr _).mono HB.out.size)).trans (HG4.out.mono (by omega)),HX4.out,HZ4.out,HY4.out,HO.out.snoc (r:=f.gs[k].ru) HQ.out HSZ.out hown4,by rw [HNX.out,List.map_append,HLs.out];rfl⟩
    case measure=>simp [intOf];omega
  · have HR:Hid (Ze7 0 wr (.slice va L.length vcap) (f.gs.map Gr.ru)):=by
     have:=HO.out.rus HB.out;rw [HLs.out,ZgT (by omega)] at this;exact this
    obtain⟨W1,hW1⟩:∃ W,W=wr:=⟨_,rfl⟩
    subst hW1;generalize hrv:Value.slice va L.length vcap=rv at*;clear HO HLs hlen;go_wp2;clear x4
    go_loopw [9] (fun i wr=>∃ m:Nat,i=.int .i64 m∧m≤U.bk.gs.length∧Below W1.heap.size W1 wr∧(∀ j (hj:j < U.bk.gs.length),j < m→Zdg Ts f.gs U.bk.gs[j]=true)) (fun i _=>U.bk.gs.length - (intOf i).toNat)
    case atStart=>exact⟨0,rfl,by omega,Below.refl _ _,fun j _ h=>by omega⟩
    case round=>
     obtain⟨m,rfl,hm,hbq,hall⟩:=hrel;have HAL:=Zab hall;have HBQ:=Zab hbq;have HBW:Hid (Zw_ w wr):=bt HB.out hbq;have HXQ:=Zab (HX.out.on hbq);have HYQ:=Zab (HY.out.on hbq);have y4:=HYQ.out.cell 4;simp at y4;clear hall hbq
     by_cases hlm:m < U.bk.gs.length
     · obtain⟨rb,ro,rfl,hrb,-,hrc⟩:=HD.out.bk.grs.full' (by omega)
       obtain⟨hsz,qv,hcell,hqv⟩:=hrc m hlm;obtain⟨d0,d1,d2,d3,d4,d5,d6⟩:=hcell.below HBW.out hrb;obtain⟨qa,qcap,rfl⟩:=hqv.form;have HQ:=Zab hqv;clear hcell hqv hrc hsz d0 d1 d2;go_wp2
       go_cut [56] (fun c wc=>c=.bool (ZeF Ts (f.gs.map Gr.ru) U.bk.gs[m].ru != 0)∧Below wr.heap.size wr wc)
       case first=>
        have xn:Nonempty (In (Up wr)):=⟨⟨wr,Below.refl _ _⟩⟩;have x2:∀ X:In (Up wr),X.w.cell? ⟨w.heap.size,2,none⟩=some (.slice ta Ts.length tc):=fun X=>Up.cell X (by rw [HXQ.out.cell 2];rfl)
        have z4:∀ X:In (Up wr),X.w.cell? ⟨w.heap.size+2,4,none⟩=some (.slice (some ⟨rb,ro,none⟩) U.bk.gs.length k1):=fun X=>Up.cell X (by rw [HYQ.out.cell 4];rfl)
        have s3:∀ X:In (Up wr),_:=fun X=>Up.cell X d3
        have s4:∀ X:In (Up wr),_:=fun X=>Up.cell X d4
        have s5:∀ X:In (Up wr),_:=fun X=>Up.cell X d5
        have s6:∀ X:In (Up wr),_:=fun X=>Up.cell X d6
        have xs:=fun (X:In (Up wr))=>ZcH X
        have j0:(0:Int)≤(m:Int):=by omega
        have j1:(m:Int) < (U.bk.gs.length:Int):=by omega
        clear y4 d3 d4 d5 d6;refine Zae (Up wr) (by kernel_rfl) (by kernel_rfl) (Zb_.drew) ?_
        repeat (go_big_quiet_step (first|(go_at_call 38;rename_i X;exact (Zkg 0 0 0 _ _ _ Ts (f.gs.map Gr.ru) U.bk.gs[m].ru _ ((HL.out.below HBW.out).below X.h).tms ((HR.out.below HBQ.out).below X.h) ((HQ.out.below HBW.out).below X.h)).mono fun _ _ h=>⟨h.1,Up.next X h.2⟩)))
        refine wpQuiet_nil ?_;intro wn hw;obtain⟨X,hX⟩:=hw;have HWN:Below wr.heap.size wr wn:=by rw [hX];exact X.h
        clear hX X x2 z4 s3 s4 s5 s6 xs xn;go_wp2;go_meet;exact⟨rfl,HWN⟩
       case rest=>
       obtain⟨rfl,hbc⟩:=hcut;have HB5:Hid (Below W1.heap.size W1 wc):=bt HBQ.out hbc;clear hbc y4 d3 d4 d5 d6;have HW:Hid (Zdg Ts f.gs U.bk.gs[m]=(ZeF Ts (f.gs.map Gr.ru) U.bk.gs[m].ru == 0)):=(ZnE (ZnF HLW.out) (Zmv HWS.out hlm)).symm
       cases h6:(ZeF Ts (f.gs.map Gr.ru) U.bk.gs[m].ru == 0) with
       | false=>
        have h6':(ZeF Ts (f.gs.map Gr.ru) U.bk.gs[m].ru != 0)=true:=by rw [bne,h6];rfl
        have HNo:Hid (Ze1 Ss Ms Ts F f U=false):=by unfold Hid;rw [HE.out];exact Zba hlm (by rw [HW.out,h6])
        go_wp2;go_ret;exact⟨Zaa HNo.out.symm,bt HB.out HB5.out⟩
       | true=>
        have h6':(ZeF Ts (f.gs.map Gr.ru) U.bk.gs[m].ru != 0)=false:=by rw [bne,h6];rfl
        have HT:Hid (Zdg Ts f.gs U.bk.gs[m]=true):=by unfold Hid;rw [HW.out,h6]
        go_wp2;go_roundw
        case rel=>exact⟨m+1,by go_num,by omega,HB5.out,Zbn HAL.out hlm HT.out⟩
        case measure=>simp [intOf];omega
     · have HT:Hid (Ze1 Ss Ms Ts F f U=true):=by unfold Hid;rw [HE.out];exact Zb0 (fun i hi=>HAL.out i hi (by omega))
       go_wp2;go_ret;exact⟨Zaa HT.out.symm,HBW.out⟩
end
end Go.Proofs.YtcfjmagkinpaeaaGreat
