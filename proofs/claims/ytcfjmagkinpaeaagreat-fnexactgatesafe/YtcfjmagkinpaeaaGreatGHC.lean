import Derived.Test.YtcfjmagkinpaeaaGreatGHB
import Derived.Test.YtcfjmagkinpaeaaGreatGTE
set_option maxHeartbeats 16000000
set_option maxRecDepth 100000
open Go.Proofs.Tryz
namespace Go.Proofs.YtcfjmagkinpaeaaGreat
open Go.RowKit Go.Deep
def gnB (given:Int) (g:Gr):Bool:=inB 1 given g.nu&&Zaj g.tw&&Zak g.gb&&ZaS g.ru
def ZaX (B:Bk):Bool:=decide (B.gs.length≤24)&&Zcz Zf4 B.gs&&B.gs.all (gnB B.given)
def leB (Ts:List Tm) (x:Le):Bool:=ZeL Ts x.tm&&Zaj x.re&&inB 0 1000000 x.mo&&inB 0 x.mo x.fr
def ZaQ (Ts:List Tm) (Ls:List Le):Bool:=decide (Ls.length≤10)&&Zcz Zdh Ls&&Ls.all (leB Ts)
def puB (B:Bk) (p:Pu):Bool:=B.ls.any (Zdt p.tm p.re)&&Zaj p.dr&&inB 1 1000000 p.am&&inB B.tick (B.tick+10) p.un
def Za8 (B:Bk):Bool:=decide (B.ps.length≤24)&&Zcz Zgm B.ps&&B.ps.all (puB B)
theorem Zba {X:Type} {L:List X} {f:X→Bool} {k:Nat} (hk:k < L.length) (h:f L[k]=false):L.all f=false:=by
 rw [List.all_eq_false];exact⟨L[k],List.getElem_mem hk,by simp [h]⟩
theorem Zb0 {X:Type} {L:List X} {f:X→Bool} (h:∀ i (h:i < L.length),f L[i]=true):L.all f=true:=by
 rw [List.all_eq_true];intro x hx;obtain⟨i,hi,rfl⟩:=List.getElem_of_mem hx;exact h i hi
theorem Zbn {X:Type} {L:List X} {f:X→Bool} {k:Nat} (hall:∀ j (h:j < L.length),j < k→f L[j]=true) (hk:k < L.length) (h:f L[k]=true):∀ j (h:j < L.length),j < k+1→f L[j]=true:=fun j hj hjk=>by
 by_cases e:j=k
 · subst e;exact h
 · exact hall j hj (by omega)
theorem Zfy (Ts:List Tm) (s:Zy_):decide (Zc9 Ts s < 0)=!ZeL Ts s:=by
 rw [Zgx];unfold Zc9
 by_cases h:plT Ts s < Ts.length
 · simp [h]
 · simp [h]
section
variable (lo:Nat) (ov gv lv pv:Value) (B:Bk) (w:World)
theorem Zhd (h:ZaH lo w ov gv lv pv B) :
 Calls prog 86 #[.agg #[.int .i64 B.now,.int .i64 B.tick,.int .i64 B.given,ov,gv,lv,pv]] w fun e w'=>e=.returned (.bool (ZaX B))∧Zw_ w w':=by
 have HG:=Zab h.grs;obtain⟨a0,k0,rfl⟩:=h.obs.form;obtain⟨a1,k1,rfl⟩:=h.grs.form;obtain⟨a2,k2,rfl⟩:=h.les.form;obtain⟨a3,k3,rfl⟩:=h.pus.form;have HI:Hid (ZaX B=(decide (B.gs.length≤24)&&Zcz Zf4 B.gs&&B.gs.all (gnB B.given))):=rfl;clear h
 by_cases hl:B.gs.length≤24
 case neg=>
  have HE:Hid (ZaX B=false):=by unfold Hid;rw [HI.out,decide_eq_false hl];rfl
  have hgt:decide ((24:Int) < (B.gs.length:Int))=true:=by simp;omega
  go_enter func86,ntmps86;go_wp2;go_ret;exact⟨Zaa HE.out.symm,Zac _ _⟩
 have hgt:decide ((24:Int) < (B.gs.length:Int))=false:=by simp;omega
 go_enter func86,ntmps86;go_wp2_with fail;generalize hWa:w.alloc _=Wa;have HB:Hid (Zw_ w Wa):=by rw [← hWa];exact Zac w _
 have HX:Hid (Box Wa w.heap.size #[.int .i64 B.now,.int .i64 B.tick,.int .i64 B.given,.slice a0 B.os.length k0,.slice a1 B.gs.length k1,.slice a2 B.ls.length k2,.slice a3 B.ps.length k3]):=by rw [← hWa];exact Box.new _ _ _ _ rfl
 clear hWa;refine (Zlz lo _ B.gs _ (HG.out.below HB.out)).mono ?_;rintro e w1 ⟨rfl,hb1⟩;have HB1:Hid (Zw_ w w1):=HB.out.trans (hb1.mono HB.out.size);have HX1:=Zab (HX.out.on hb1);clear hb1 HB HX
 cases hr:Zcz Zf4 B.gs with
 | false=>
  have HE:Hid (ZaX B=false):=by unfold Hid;rw [HI.out,hr,decide_eq_true hl];rfl
  go_wp2;go_ret;exact⟨Zaa HE.out.symm,HB1.out⟩
 | true=>
  have HE:Hid (ZaX B=B.gs.all (gnB B.given)):=by unfold Hid;rw [HI.out,hr,decide_eq_true hl];rfl
  have x4:=HX1.out.cell 4;simp at x4;go_wp2;clear x4
  go_loopw [18] (fun i wr=>∃ k:Nat,i=.int .i64 k∧k≤B.gs.length∧Zw_ w wr∧Box wr w.heap.size #[.int .i64 B.now,.int .i64 B.tick,.int .i64 B.given,.slice a0 B.os.length k0,.slice a1 B.gs.length k1,.slice a2 B.ls.length k2,.slice a3 B.ps.length k3]∧∀ j (h:j < B.gs.length),j < k→gnB B.given B.gs[j]=true) (fun i _=>B.gs.length - (intOf i).toNat)
  case atStart=>exact⟨0,rfl,Nat.zero_le _,HB1.out,HX1.out,fun j _ h=>by omega⟩
  case round=>
   obtain⟨k,rfl,hk,hb,hx,hall⟩:=hrel;have HBr:=Zab hb;have HXr:=Zab hx;have HA:=Zab hall;clear hb hx hall
   by_cases hlt:k < B.gs.length
   · obtain⟨b,off,rfl,hbw,-,hc⟩:=HG.out.full' (by omega)
     obtain⟨hs,vv0,hcell,hv0⟩:=hc k hlt;obtain⟨c0,c1,c2,c3,c4,c5,c6⟩:=hcell.below HBr.out hbw;have HV:=Zab hv0;have HZ:=Zab hs;obtain⟨va,vcap,rfl⟩:=hv0.form;have HQ:Hid (gnB B.given B.gs[k]=(inB 1 B.given B.gs[k].nu&&Zaj B.gs[k].tw&&Zak B.gs[k].gb&&ZaS B.gs[k].ru)):=rfl;have x2:=HXr.out.cell 2;simp at x2;have xlt:=HXr.out.lt;have x2:∀ o,(wr.alloc o).cell? ⟨w.heap.size,2,none⟩=some (.int .i64 B.given):=fun o=>(Zah _ _ _ _ xlt).trans x2
     have HBA:∀ o,Hid (Zw_ w (wr.alloc o)):=fun o=>HBr.out.trans ((Zac _ _).mono HBr.out.size)
     have s0:=hs.s0;have s1:=hs.s1;clear hc hcell hv0 hs xlt
     cases h1:inB 1 B.given B.gs[k].nu with
     | false=>
      have HN:Hid (ZaX B=false):=by unfold Hid;rw [HE.out];exact Zba hlt (by rw [HQ.out,h1];rfl)
      go_wp2_with (first|(go_at_call 130;refine (Zat _ _ _ _).mono ?_;rintro e w' ⟨rfl,rfl⟩));go_ret;exact⟨Zaa HN.out.symm,(HBA _).out⟩
     | true=>
      cases h2:Zaj B.gs[k].tw with
      | false=>
       have HN:Hid (ZaX B=false):=by unfold Hid;rw [HE.out];exact Zba hlt (by rw [HQ.out,h1,h2];rfl)
       go_wp2_with (first|(go_at_call 130;refine (Zat _ _ _ _).mono ?_;rintro e w' ⟨rfl,rfl⟩)|(go_at_call 118;refine (Zag _ _ s0).mono ?_;rintro e w' ⟨rfl,rfl⟩));go_ret;exact⟨Zaa HN.out.symm,(HBA _).out⟩
      | true=>
       cases h3:Zak B.gs[k].gb with
       | false=>
        have HN:Hid (ZaX B=false):=by unfold Hid;rw [HE.out];exact Zba hlt (by rw [HQ.out,h1,h2,h3];rfl)
        go_wp2_with (first|(go_at_call 130;refine (Zat _ _ _ _).mono ?_;rintro e w' ⟨rfl,rfl⟩)|(go_at_call 118;refine (Zag _ _ s0).mono ?_;rintro e w' ⟨rfl,rfl⟩)|(go_at_call 139;refine (ZbF _ _ s1).mono ?_;rintro e w' ⟨rfl,rfl⟩));go_ret;exact⟨Zaa HN.out.symm,(HBA _).out⟩
       | true=>
        have HRZ:Hid (Zdk B.gs[k].ru):=⟨HZ.out.s2,HZ.out.s3,HZ.out.s4⟩;go_wp2_with (first|(go_at_call 130;refine (Zat _ _ _ _).mono ?_;rintro e w' ⟨rfl,rfl⟩)|(go_at_call 118;refine (Zag _ _ s0).mono ?_;rintro e w' ⟨rfl,rfl⟩)|(go_at_call 139;refine (ZbF _ _ s1).mono ?_;rintro e w' ⟨rfl,rfl⟩));refine (ZfO lo B.gs[k].ru _ _ ((HV.out.below HBr.out).below (Zac _ _)) HRZ.out).mono ?_;rintro e w2 ⟨rfl,hb2⟩;have HB2:Hid (Zw_ w w2):=(HBA _).out.trans (hb2.mono (HBA _).out.size);have HX2:=Zab ((HXr.out.on (Zac _ _)).on hb2);clear hb2
        cases h4:ZaS B.gs[k].ru with
        | false=>
         have HN:Hid (ZaX B=false):=by unfold Hid;rw [HE.out];exact Zba hlt (by rw [HQ.out,h1,h2,h3,h4];rfl)
         go_wp2;go_ret;exact⟨Zaa HN.out.symm,HB2.out⟩
        | true=>
         have HT:Hid (gnB B.given B.gs[k]=true):=by unfold Hid;rw [HQ.out,h1,h2,h3,h4];rfl
         go_wp2;go_roundw
         case rel=>exact⟨k+1,by go_num,by omega,HB2.out,HX2.out,Zbn HA.out hlt HT.out⟩
         case measure=>simp [intOf];omega
   · have HT:Hid (ZaX B=true):=by unfold Hid;rw [HE.out];exact Zb0 (fun i hi=>HA.out i hi (by omega))
     go_wp2;go_ret;exact⟨Zaa HT.out.symm,HBr.out⟩
theorem Zhe (h:ZaH lo w ov gv lv pv B) (hn:B.ls.length≤1048576) (hrl:Zcz Zdh B.ls=true) (ht:inB 0 1000000 B.tick=true) :
 Calls prog 88 #[.agg #[.int .i64 B.now,.int .i64 B.tick,.int .i64 B.given,ov,gv,lv,pv]] w fun e w'=>e=.returned (.bool (Za8 B))∧Zw_ w w':=by
 have HG:=Zab h.pus;have HL:=Zab h.les;have HRL:=Zab hrl;obtain⟨a0,k0,rfl⟩:=h.obs.form;obtain⟨a1,k1,rfl⟩:=h.grs.form;obtain⟨a2,k2,rfl⟩:=h.les.form;obtain⟨a3,k3,rfl⟩:=h.pus.form;have HI:Hid (Za8 B=(decide (B.ps.length≤24)&&Zcz Zgm B.ps&&B.ps.all (puB B))):=rfl;have ht0:0≤B.tick∧B.tick≤1000000:=by unfold inB at ht;exact of_decide_eq_true ht
 clear h hrl ht
 by_cases hl:B.ps.length≤24
 case neg=>
  have HE:Hid (Za8 B=false):=by unfold Hid;rw [HI.out,decide_eq_false hl];rfl
  have hgt:decide ((24:Int) < (B.ps.length:Int))=true:=by simp;omega
  go_enter func88,ntmps88;go_wp2;go_ret;exact⟨Zaa HE.out.symm,Zac _ _⟩
 have hgt:decide ((24:Int) < (B.ps.length:Int))=false:=by simp;omega
 go_enter func88,ntmps88;go_wp2_with fail;generalize hWa:w.alloc _=Wa;have HB:Hid (Zw_ w Wa):=by rw [← hWa];exact Zac w _
 have HX:Hid (Box Wa w.heap.size #[.int .i64 B.now,.int .i64 B.tick,.int .i64 B.given,.slice a0 B.os.length k0,.slice a1 B.gs.length k1,.slice a2 B.ls.length k2,.slice a3 B.ps.length k3]):=by rw [← hWa];exact Box.new _ _ _ _ rfl
 clear hWa;refine (ZlC lo _ B.ps _ (HG.out.below HB.out)).mono ?_;rintro e w1 ⟨rfl,hb1⟩;have HB1:Hid (Zw_ w w1):=HB.out.trans (hb1.mono HB.out.size);have HX1:=Zab (HX.out.on hb1);clear hb1 HB HX
 cases hr:Zcz Zgm B.ps with
 | false=>
  have HE:Hid (Za8 B=false):=by unfold Hid;rw [HI.out,hr,decide_eq_true hl];rfl
  go_wp2;go_ret;exact⟨Zaa HE.out.symm,HB1.out⟩
 | true=>
  have HE:Hid (Za8 B=B.ps.all (puB B)):=by unfold Hid;rw [HI.out,hr,decide_eq_true hl];rfl
  have x4:=HX1.out.cell 6;simp at x4;go_wp2;clear x4
  go_loopw [20] (fun i wr=>∃ k:Nat,i=.int .i64 k∧k≤B.ps.length∧Zw_ w wr∧Box wr w.heap.size #[.int .i64 B.now,.int .i64 B.tick,.int .i64 B.given,.slice a0 B.os.length k0,.slice a1 B.gs.length k1,.slice a2 B.ls.length k2,.slice a3 B.ps.length k3]∧∀ j (h:j < B.ps.length),j < k→puB B B.ps[j]=true) (fun i _=>B.ps.length - (intOf i).toNat)
  case atStart=>exact⟨0,rfl,Nat.zero_le _,HB1.out,HX1.out,fun j _ h=>by omega⟩
  case round=>
   obtain⟨k,rfl,hk,hb,hx,hall⟩:=hrel;have HBr:=Zab hb;have HXr:=Zab hx;have HA:=Zab hall;clear hb hx hall
   by_cases hlt:k < B.ps.length
   · obtain⟨b,off,rfl,hbw,-,hc⟩:=HG.out.full' (by omega)
     obtain⟨hs,hcell⟩:=hc k hlt;obtain⟨c0,c1,c2,c3,c4⟩:=hcell.below HBr.out hbw;have HZ:=Zab hs;have HQ:Hid (puB B B.ps[k]=(B.ls.any (Zdt B.ps[k].tm B.ps[k].re)&&Zaj B.ps[k].dr&&inB 1 1000000 B.ps[k].am&&inB B.tick (B.tick+10) B.ps[k].un)):=rfl;have x5:=HXr.out.cell 5;simp at x5;have xlt:=HXr.out.lt;have x5:∀ o,(wr.alloc o).cell? ⟨w.heap.size,5,none⟩=some (.slice a2 B.ls.length k2):=fun o=>(Zah _ _ _ _ xlt).trans x5
     have HBA:∀ o,Hid (Zw_ w (wr.alloc o)):=fun o=>HBr.out.trans ((Zac _ _).mono HBr.out.size)
     clear hc hcell hs xlt;go_wp2_with fail;generalize hWb:wr.alloc _=Wb;have HBb:Hid (Zw_ w Wb):=by rw [← hWb];exact (HBA _).out
     have HXb:Hid (Box Wb w.heap.size #[.int .i64 B.now,.int .i64 B.tick,.int .i64 B.given,.slice a0 B.os.length k0,.slice a1 B.gs.length k1,.slice a2 B.ls.length k2,.slice (some ⟨b,off,none⟩) B.ps.length k3]):=by rw [← hWb];exact HXr.out.on (Zac _ _)
     have HYb:Hid (Box Wb wr.heap.size #[.string B.ps[k].dr,.string B.ps[k].tm,.string B.ps[k].re,.int .i64 B.ps[k].am,.int .i64 B.ps[k].un]):=by rw [← hWb];exact Box.new _ _ _ _ rfl
     clear hWb x5 HBA;refine (ZgH lo _ B.ls _ _ _ (HL.out.below HBb.out) hn HRL.out).mono ?_;rintro e w2 ⟨⟨p,-,rfl⟩,hb2⟩;have HB2:Hid (Zw_ w w2):=HBb.out.trans (hb2.mono HBb.out.size);have HX2:=Zab (HXb.out.on hb2);have HY2:=Zab (HYb.out.on hb2);have s0:=HZ.out.s0;have y0:=HY2.out.cell 0;have y3:=HY2.out.cell 3;have y4:=HY2.out.cell 4;have z1:=HX2.out.cell 1;simp at y0 y3 y4 z1;clear hb2 HBb HXb HYb
     cases h1:B.ls.any (Zdt B.ps[k].tm B.ps[k].re) with
     | false=>
      have HN:Hid (Za8 B=false):=by unfold Hid;rw [HE.out];exact Zba hlt (by rw [HQ.out,h1];rfl)
      go_wp2;go_ret;exact⟨Zaa HN.out.symm,HB2.out⟩
     | true=>
      cases h2:Zaj B.ps[k].dr with
      | false=>
       have HN:Hid (Za8 B=false):=by unfold Hid;rw [HE.out];exact Zba hlt (by rw [HQ.out,h1,h2];rfl)
       go_wp2_with (go_at_call 118;refine (Zag _ _ s0).mono ?_;rintro e w' ⟨rfl,rfl⟩);go_ret;exact⟨Zaa HN.out.symm,HB2.out⟩
      | true=>
       cases h3:inB 1 1000000 B.ps[k].am with
       | false=>
        have HN:Hid (Za8 B=false):=by unfold Hid;rw [HE.out];exact Zba hlt (by rw [HQ.out,h1,h2,h3];rfl)
        go_wp2_with (first|(go_at_call 118;refine (Zag _ _ s0).mono ?_;rintro e w' ⟨rfl,rfl⟩)|(go_at_call 130;refine (Zat _ _ _ _).mono ?_;rintro e w' ⟨rfl,rfl⟩));go_ret;exact⟨Zaa HN.out.symm,HB2.out⟩
       | true=>
        cases h4:inB B.tick (B.tick+10) B.ps[k].un with
        | false=>
         have HN:Hid (Za8 B=false):=by unfold Hid;rw [HE.out];exact Zba hlt (by rw [HQ.out,h1,h2,h3,h4];rfl)
         go_wp2_with (first|(go_at_call 118;refine (Zag _ _ s0).mono ?_;rintro e w' ⟨rfl,rfl⟩)|(go_at_call 130;refine (Zat _ _ _ _).mono ?_;rintro e w' ⟨rfl,rfl⟩));go_ret;exact⟨Zaa HN.out.symm,HB2.out⟩
        | true=>
         have HT:Hid (puB B B.ps[k]=true):=by unfold Hid;rw [HQ.out,h1,h2,h3,h4];rfl
         go_wp2_with (first|(go_at_call 118;refine (Zag _ _ s0).mono ?_;rintro e w' ⟨rfl,rfl⟩)|(go_at_call 130;refine (Zat _ _ _ _).mono ?_;rintro e w' ⟨rfl,rfl⟩));go_roundw
         case rel=>exact⟨k+1,by go_num,by omega,HB2.out,HX2.out,Zbn HA.out hlt HT.out⟩
         case measure=>simp [intOf];omega
   · have HT:Hid (Za8 B=true):=by unfold Hid;rw [HE.out];exact Zb0 (fun i hi=>HA.out i hi (by omega))
     go_wp2;go_ret;exact⟨Zaa HT.out.symm,HBr.out⟩
end
section
variable (lo:Nat) (sv mv tv lv:Value) (Ss:List Sh) (Ms:List Md) (Ts:List Tm) (Ls:List Le) (w:World)
theorem Zgz (h:ZaO lo w sv mv tv Ss Ms Ts) (hl:ZbU lo w lv Ls) :
 Calls prog 87 #[.agg #[sv,mv,tv],lv] w fun e w'=>e=.returned (.bool (ZaQ Ts Ls))∧Zw_ w w':=by
 have HL:=Zab h;have HG:=Zab hl;obtain⟨sa,sc,rfl⟩:=h.shs.form;obtain⟨ma,mc,rfl⟩:=h.mds.form;obtain⟨ta,tc,rfl⟩:=h.tms.form;obtain⟨la,lc,rfl⟩:=hl.form;have HI:Hid (ZaQ Ts Ls=(decide (Ls.length≤10)&&Zcz Zdh Ls&&Ls.all (leB Ts))):=rfl;clear h hl
 by_cases hl:Ls.length≤10
 case neg=>
  have HE:Hid (ZaQ Ts Ls=false):=by unfold Hid;rw [HI.out,decide_eq_false hl];rfl
  have hgt:decide ((10:Int) < (Ls.length:Int))=true:=by simp;omega
  go_enter func87,ntmps87;go_wp2;go_ret;exact⟨Zaa HE.out.symm,Zac _ _⟩
 have hgt:decide ((10:Int) < (Ls.length:Int))=false:=by simp;omega
 go_enter func87,ntmps87;go_wp2_with fail;generalize hWa:w.alloc _=Wa;have HB:Hid (Zw_ w Wa):=by rw [← hWa];exact Zac w _
 have HX:Hid (Box Wa w.heap.size #[.slice sa Ss.length sc,.slice ma Ms.length mc,.slice ta Ts.length tc]):=by rw [← hWa];exact Box.new _ _ _ _ rfl
 clear hWa;refine (ZlA lo _ Ls _ (HG.out.below HB.out)).mono ?_;rintro e w1 ⟨rfl,hb1⟩;have HB1:Hid (Zw_ w w1):=HB.out.trans (hb1.mono HB.out.size);have HX1:=Zab (HX.out.on hb1);clear hb1 HB HX
 cases hr:Zcz Zdh Ls with
 | false=>
  have HE:Hid (ZaQ Ts Ls=false):=by unfold Hid;rw [HI.out,hr,decide_eq_true hl];rfl
  go_wp2;go_ret;exact⟨Zaa HE.out.symm,HB1.out⟩
 | true=>
  have HE:Hid (ZaQ Ts Ls=Ls.all (leB Ts)):=by unfold Hid;rw [HI.out,hr,decide_eq_true hl];rfl
  go_wp2
  go_loopw [17] (fun i wr=>∃ k:Nat,i=.int .i64 k∧k≤Ls.length∧Zw_ w wr∧Box wr w.heap.size #[.slice sa Ss.length sc,.slice ma Ms.length mc,.slice ta Ts.length tc]∧∀ j (h:j < Ls.length),j < k→leB Ts Ls[j]=true) (fun i _=>Ls.length - (intOf i).toNat)
  case atStart=>exact⟨0,rfl,Nat.zero_le _,HB1.out,HX1.out,fun j _ h=>by omega⟩
  case round=>
   obtain⟨k,rfl,hk,hb,hx,hall⟩:=hrel;have HBr:=Zab hb;have HXr:=Zab hx;have HA:=Zab hall;clear hb hx hall
   by_cases hlt:k < Ls.length
   · obtain⟨b,off,rfl,hbw,-,hc⟩:=HG.out.full' (by omega)
     obtain⟨hs,hcell⟩:=hc k hlt;obtain⟨c0,c1,c2,c3⟩:=hcell.below HBr.out hbw;have HZ:=Zab hs;have HQ:Hid (leB Ts Ls[k]=(ZeL Ts Ls[k].tm&&Zaj Ls[k].re&&inB 0 1000000 Ls[k].mo&&inB 0 Ls[k].mo Ls[k].fr)):=rfl;have HP:=Zab (Zfy Ts Ls[k].tm);have x5:=HXr.out.cell 2;simp at x5;have xlt:=HXr.out.lt;have x5:∀ o,(wr.alloc o).cell? ⟨w.heap.size,2,none⟩=some (.slice ta Ts.length tc):=fun o=>(Zah _ _ _ _ xlt).trans x5
     have HBA:∀ o,Hid (Zw_ w (wr.alloc o)):=fun o=>HBr.out.trans ((Zac _ _).mono HBr.out.size)
     clear hc hcell hs xlt;go_wp2_with fail;generalize hWb:wr.alloc _=Wb;have HBb:Hid (Zw_ w Wb):=by rw [← hWb];exact (HBA _).out
     have HXb:Hid (Box Wb w.heap.size #[.slice sa Ss.length sc,.slice ma Ms.length mc,.slice ta Ts.length tc]):=by rw [← hWb];exact HXr.out.on (Zac _ _)
     have HYb:Hid (Box Wb wr.heap.size #[.string Ls[k].tm,.string Ls[k].re,.int .i64 Ls[k].mo,.int .i64 Ls[k].fr]):=by rw [← hWb];exact Box.new _ _ _ _ rfl
     clear hWb x5 HBA;refine (ZbR lo _ Ts _ _ (HL.out.below HBb.out).tms).mono ?_;rintro e w2 ⟨rfl,hb2⟩;have HB2:Hid (Zw_ w w2):=HBb.out.trans (hb2.mono HBb.out.size);have HX2:=Zab (HXb.out.on hb2);have HY2:=Zab (HYb.out.on hb2);have s1:=HZ.out.s1;have y1:=HY2.out.cell 1;have y2:=HY2.out.cell 2;have y3:=HY2.out.cell 3;simp at y1 y2 y3;clear hb2 HBb HXb HYb
     cases h1:ZeL Ts Ls[k].tm with
     | false=>
      have HN:Hid (ZaQ Ts Ls=false):=by unfold Hid;rw [HE.out];exact Zba hlt (by rw [HQ.out,h1];rfl)
      have hd:decide (Zc9 Ts Ls[k].tm < 0)=true:=by rw [HP.out,h1];rfl
      go_wp2;go_ret;exact⟨Zaa HN.out.symm,HB2.out⟩
     | true=>
      have hd:decide (Zc9 Ts Ls[k].tm < 0)=false:=by rw [HP.out,h1];rfl
      cases h2:Zaj Ls[k].re with
      | false=>
       have HN:Hid (ZaQ Ts Ls=false):=by unfold Hid;rw [HE.out];exact Zba hlt (by rw [HQ.out,h1,h2];rfl)
       go_wp2_with (go_at_call 118;refine (Zag _ _ s1).mono ?_;rintro e w' ⟨rfl,rfl⟩);go_ret;exact⟨Zaa HN.out.symm,HB2.out⟩
      | true=>
       cases h3:inB 0 1000000 Ls[k].mo with
       | false=>
        have HN:Hid (ZaQ Ts Ls=false):=by unfold Hid;rw [HE.out];exact Zba hlt (by rw [HQ.out,h1,h2,h3];rfl)
        go_wp2_with (first|(go_at_call 118;refine (Zag _ _ s1).mono ?_;rintro e w' ⟨rfl,rfl⟩)|(go_at_call 130;refine (Zat _ _ _ _).mono ?_;rintro e w' ⟨rfl,rfl⟩));go_ret;exact⟨Zaa HN.out.symm,HB2.out⟩
       | true=>
        cases h4:inB 0 Ls[k].mo Ls[k].fr with
        | false=>
         have HN:Hid (ZaQ Ts Ls=false):=by unfold Hid;rw [HE.out];exact Zba hlt (by rw [HQ.out,h1,h2,h3,h4];rfl)
         go_wp2_with (first|(go_at_call 118;refine (Zag _ _ s1).mono ?_;rintro e w' ⟨rfl,rfl⟩)|(go_at_call 130;refine (Zat _ _ _ _).mono ?_;rintro e w' ⟨rfl,rfl⟩));go_ret;exact⟨Zaa HN.out.symm,HB2.out⟩
        | true=>
         have HT:Hid (leB Ts Ls[k]=true):=by unfold Hid;rw [HQ.out,h1,h2,h3,h4];rfl
         go_wp2_with (first|(go_at_call 118;refine (Zag _ _ s1).mono ?_;rintro e w' ⟨rfl,rfl⟩)|(go_at_call 130;refine (Zat _ _ _ _).mono ?_;rintro e w' ⟨rfl,rfl⟩));go_roundw
         case rel=>exact⟨k+1,by go_num,by omega,HB2.out,HX2.out,Zbn HA.out hlt HT.out⟩
         case measure=>simp [intOf];omega
   · have HT:Hid (ZaQ Ts Ls=true):=by unfold Hid;rw [HE.out];exact Zb0 (fun i hi=>HA.out i hi (by omega))
     go_wp2;go_ret;exact⟨Zaa HT.out.symm,HBr.out⟩
end
end Go.Proofs.YtcfjmagkinpaeaaGreat
namespace Go.Proofs.YtcfjmagkinpaeaaGreat
open Go.RowKit Go.Deep Go.Maps
def ZiC (Ps:List Pu):List Tri:=Ps.map fun p=>(p.tm,p.re,p.am)
theorem ZpB (Ps:List Pu) (t r:Zy_):Zkd (ZiC Ps) t r=Ze5 Ps t r:=by
 unfold Zkd ZiC Ze5;rw [List.map_map]
 congr 1
 refine List.map_congr_left fun p _=>?_
 unfold Zlg;simp only [Function.comp]
 by_cases h:p.tm=t∧p.re=r
 · obtain⟨h1,h2⟩:=h
   rw [if_pos ⟨h1,h2⟩,if_pos (by rw [Bool.and_eq_true];exact⟨ZaY.2 h1,ZaY.2 h2⟩)]
 · rw [if_neg h,if_neg (fun hb=>h (by rw [Bool.and_eq_true] at hb;exact⟨ZaY.1 hb.1,ZaY.1 hb.2⟩))]
theorem Zni (lo:Nat) (v:Value) (Ps:List Pu) (w:World) (hv:Zcd lo w v Ps) (hn:Ps.length≤1048576) :
 Calls prog 147 #[v] w
  fun e w'=>e=.returned (.map (some w.heap.size))∧Zw_ w w'∧∃ D:DataW Unit,w'.ownsMap prog 230 (plainElem prog 3) w.heap.size Ps.length D∧Ze8 (ZiC Ps) D:=by
 have HV:=Zab hv;obtain⟨a,cap,rfl⟩:=hv.form;clear hv;have hmm:=@run_makeMap prog;go_enter func147,ntmps147;go_wp2;clear hmm
 go_loopw [9] (fun i wr=>∃ k:Nat,i=.int .i64 k∧k≤Ps.length∧Zw_ w wr∧∃ D:DataW Unit,wr.ownsMap prog 230 (plainElem prog 3) w.heap.size k D∧Ze8 (ZiC (Ps.take k)) D) (fun i _=>Ps.length - (intOf i).toNat)
 case atStart=>exact⟨0,rfl,Nat.zero_le _,Zac _ _,.map [],World.ownsMap_made _ _ _ _,Ze8.start⟩
 case round=>
  obtain⟨k,rfl,hk,hb,D,ho,hsum⟩:=hrel;have HB:=Zab hb;have HSUM:=Zab hsum;clear hb hsum
  by_cases hlt:k < Ps.length
  · obtain⟨b,off,rfl,hbw,-,hc⟩:=HV.out.full' (by omega)
    obtain⟨hs,hcell⟩:=hc k hlt;obtain⟨c0,c1,c2,c3,c4⟩:=hcell.below HB.out hbw;have HZ:=Zab hs;have HT:Hid (ZiC (Ps.take (k+1))=ZiC (Ps.take k) ++ [(Ps[k].tm,Ps[k].re,Ps[k].am)]):=by unfold Hid ZiC;rw [List.take_succ_eq_append_getElem hlt,List.map_append];rfl
    have hol:=ho.lt
    obtain⟨Wb,hWb,HYb,HBb,HOb⟩:∃ Wb,Wb=wr.alloc (.cells #[.string Ps[k].dr,.string Ps[k].tm,.string Ps[k].re,.int .i64 Ps[k].am,.int .i64 Ps[k].un] 165)∧Hid (Box Wb wr.heap.size #[.string Ps[k].dr,.string Ps[k].tm,.string Ps[k].re,.int .i64 Ps[k].am,.int .i64 Ps[k].un])∧Hid (Zw_ w Wb)∧Hid (Wb.ownsMap prog 230 (plainElem prog 3) w.heap.size k D):=by
     refine⟨_,rfl,?_,?_,?_⟩
     · exact Box.new _ _ _ _ rfl
     · exact HB.out.trans ((Zac _ _).mono HB.out.size)
     · exact ho.alloc _
    obtain⟨c,v0,st,w1,hent,hat,hwc,hl0,hl1,hg1,hs1,hst⟩:=Zi2 ZkX underlying225 underlying3 Zia HOb.out.drew (by unfold maxLen;omega) (Zgi.mk' hs.s1 hs.s2);have ew:IntKind.i64.wrap (c+Ps[k].am)=wrap64 (c+Ps[k].am):=IntWalk.i64_left _;obtain⟨w2,hrun2,ho2,hg2,hs2⟩:=hst (IntKind.i64.wrap (c+Ps[k].am)) (by rw [ew];exact wrap64_wf _);rw [ew] at ho2;have HO2:=Zab ho2;have HG2:=Zab hg2;have HAT:=Zab hat;have y1:=HYb.out.cell 1;have y2:=HYb.out.cell 2;have y3:=HYb.out.cell 3;simp at y1 y2 y3;simp only [goInt] at hent hrun2;clear ew hst ho2 hg2 hg1 hat ho hc hcell hs hs1 hs2 hwc;go_wp2;rw [← hWb];clear hWb
    go_region
    all_goals go_wp2
    all_goals go_roundw
    all_goals first
     | (case rel=>exact⟨k+1,by go_num,by omega,Zcs HBb.out.drew HG2.out Zl_,_,HO2.out,by rw [HT.out];exact HSUM.out.step HZ.out.s1 HZ.out.s2 HAT.out _⟩)
     | (case measure=>simp [intOf];omega)
  · have he:k=Ps.length:=by omega
    subst he;have HT:Hid (ZiC (Ps.take Ps.length)=ZiC Ps):=by unfold Hid;rw [List.take_length]
    have HO:=Zab ho;clear ho;go_wp2;go_ret;exact⟨rfl,HB.out,D,HO.out,HT.out ▸ HSUM.out⟩
def ZeO (Ss:List Sh) (Ts:List Tm) (B:Bk) (g:Le):Bool:=decide (wrap64 (Zdi Ss Ts B.os g.tm g.re+Ze5 B.ps g.tm g.re+g.fr)=g.mo)
def ZjE (Ss:List Sh) (Ts:List Tm) (B:Bk):Bool:=B.ls.all (ZeO Ss Ts B)
section
variable (lo:Nat) (sv mv tv ov gv lv pv:Value) (Ss:List Sh) (Ms:List Md) (Ts:List Tm) (B:Bk) (w:World)
theorem Zjf (hl:ZaO lo w sv mv tv Ss Ms Ts) (h:ZaH lo w ov gv lv pv B) (hn:Zbx B) :
 Calls prog 89 #[.agg #[sv,mv,tv],.agg #[.int .i64 B.now,.int .i64 B.tick,.int .i64 B.given,ov,gv,lv,pv]] w fun e w'=>e=.returned (.bool (ZjE Ss Ts B))∧Zw_ w w':=by
 have HL:=Zab hl;have HK:=Zab h;have HTR:=Zab (Zsa hl.shs h.obs.sizes);have hpl:B.ps.length≤1048576:=hn.2.2.2.1;have hll:B.ls.length≤1048576:=hn.2.2.1.1;have HOS:Hid (ZcO B.os):=hn.1;obtain⟨sa,sc,rfl⟩:=hl.shs.form;obtain⟨ma,mc,rfl⟩:=hl.mds.form;obtain⟨ta,tc,rfl⟩:=hl.tms.form;obtain⟨a0,k0,rfl⟩:=h.obs.form;obtain⟨a1,k1,rfl⟩:=h.grs.form;obtain⟨a2,k2,rfl⟩:=h.les.form;obtain⟨a3,k3,rfl⟩:=h.pus.form;clear h hl hn;go_enter func89,ntmps89;go_wp2;generalize hWa:(World.alloc (w.alloc _) _)=Wa;have HB:Hid (Zw_ w Wa):=by rw [← hWa];exact (Zac w _).alloc (by simp) _
 have HX:Hid (Box Wa w.heap.size #[.slice sa Ss.length sc,.slice ma Ms.length mc,.slice ta Ts.length tc]):=by rw [← hWa];exact (Box.new _ _ _ _ rfl).on (Zac _ _)
 have HY:Hid (Box Wa (w.heap.size+1) #[.int .i64 B.now,.int .i64 B.tick,.int .i64 B.given,.slice a0 B.os.length k0,.slice a1 B.gs.length k1,.slice a2 B.ls.length k2,.slice a3 B.ps.length k3]):=by rw [← hWa];exact Box.new _ _ _ _ (by simp)
 clear hWa;have HD:Hid (Zw_ w Wa.drew):=HB.out.drew
 go_region_held3 (ZaN Wa w.heap.size #[.slice sa Ss.length sc,.slice ma Ms.length mc,.slice ta Ts.length tc] (w.heap.size+1) #[.int .i64 B.now,.int .i64 B.tick,.int .i64 B.given,.slice a0 B.os.length k0,.slice a1 B.gs.length k1,.slice a2 B.ls.length k2,.slice a3 B.ps.length k3])
  (first
    | (with_reducible exact ZaN.drew HX.out HY.out)
    | (with_reducible exact ZaN.on (by assumption) (by assumption)))
  (first
    | (go_at_call 146
       refine (ZkQ lo _ _ Ss B.os _ (HL.out.below HD.out).shs (HK.out.below HD.out).obs HOS.out).mono ?_;rintro e w1 ⟨rfl,hb1,D,ho,hsum⟩;have HC1:Hid (Zw_ w w1):=HD.out.trans (hb1.mono HD.out.size);have HOW:Hid (w1.ownsMap prog 230 (plainElem prog 3) Wa.heap.size (Zcl Ss B.os).length D):=ho;have HSU:=Zab hsum;clear ho hsum)
    | (go_at_call 147
       refine (Zni lo _ B.ps _ (HK.out.below HC1.out).pus hpl).mono ?_;rintro e w2 ⟨rfl,hb2,D2,ho2,hsum2⟩;have HC2:Hid (Zw_ w w2):=HC1.out.trans (hb2.mono HC1.out.size);have HOW2:=Zab (HOW.out.kept (ZaI hb2) (by simp));have HOD:=Zab ho2;have HSD:=Zab hsum2;clear ho2 hsum2))
 have HCa:Hid (Below Wa.heap.size Wa w2):=(Zb_.drew.trans hb1).trans (hb2.mono ((Zb_.drew.trans hb1:Below Wa.heap.size Wa w1)).size);have HX2:=Zab (HX.out.on HCa.out);have HY2:=Zab (HY.out.on HCa.out);clear HCa hb1 hb2 HOW HC1 HD HB HX HY;generalize Wa.heap.size=ba at*;generalize w1.heap.size=bd at*;have y5:=HY2.out.cell 5;simp at y5;go_wp2;clear y5
 go_loopw [21] (fun i wr=>∃ k:Nat,i=.int .i64 k∧k≤B.ls.length∧Zw_ w wr∧Box wr w.heap.size #[.slice sa Ss.length sc,.slice ma Ms.length mc,.slice ta Ts.length tc]∧wr.ownsMap prog 230 (plainElem prog 3) ba (Zcl Ss B.os).length D∧wr.ownsMap prog 230 (plainElem prog 3) bd B.ps.length D2∧∀ j (h:j < B.ls.length),j < k→ZeO Ss Ts B B.ls[j]=true) (fun i _=>B.ls.length - (intOf i).toNat)
 case atStart=>exact⟨0,rfl,Nat.zero_le _,HC2.out,HX2.out,HOW2.out,HOD.out,fun j _ h=>by omega⟩
 case round=>
  obtain⟨k,rfl,hk,hb,hx,hoa,hod,hall⟩:=hrel;have HBr:=Zab hb;have HXr:=Zab hx;have HOA:=Zab hoa;have HODr:=Zab hod;have HA:=Zab hall;clear hb hx hoa hod hall
  by_cases hlt:k < B.ls.length
  · obtain⟨b,off,rfl,hbw,-,hc⟩:=HK.out.les.full' (by omega)
    obtain⟨hs,hcell⟩:=hc k hlt;obtain⟨c0,c1,c2,c3⟩:=hcell.below HBr.out hbw;have HZ:=Zab hs;have HQ:Hid (ZeO Ss Ts B B.ls[k]=decide (wrap64 (Zdi Ss Ts B.os B.ls[k].tm B.ls[k].re+Ze5 B.ps B.ls[k].tm B.ls[k].re+B.ls[k].fr)=B.ls[k].mo)):=rfl;have HUZ:=Zab (ZmN Ss Ts B.ls[k].tm B.ls[k].re B.os);have x2:=HXr.out.cell 2;simp at x2;have xlt:=HXr.out.lt;have x2:∀ o,(wr.alloc o).cell? ⟨w.heap.size,2,none⟩=some (.slice ta Ts.length tc):=fun o=>(Zah _ _ _ _ xlt).trans x2
    clear hc hcell hs xlt;go_wp2_with fail;generalize hWb:wr.alloc _=Wb;have HBb:Hid (Zw_ w Wb):=by rw [← hWb];exact HBr.out.trans ((Zac _ _).mono HBr.out.size)
    have HXb:Hid (Box Wb w.heap.size #[.slice sa Ss.length sc,.slice ma Ms.length mc,.slice ta Ts.length tc]):=by rw [← hWb];exact HXr.out.on (Zac _ _)
    have HYb:Hid (Box Wb wr.heap.size #[.string B.ls[k].tm,.string B.ls[k].re,.int .i64 B.ls[k].mo,.int .i64 B.ls[k].fr]):=by rw [← hWb];exact Box.new _ _ _ _ rfl
    have HOA1:Hid (Wb.ownsMap prog 230 (plainElem prog 3) ba (Zcl Ss B.os).length D):=by rw [← hWb];exact HOA.out.alloc _
    have HOD1:Hid (Wb.ownsMap prog 230 (plainElem prog 3) bd B.ps.length D2):=by rw [← hWb];exact HODr.out.alloc _
    clear hWb x2 HOA HODr;refine (ZiO lo _ Ts _ _ _ _ (HL.out.below HBb.out).tms HOA1.out HSU.out HTR.out).mono ?_;rintro e w3 ⟨rfl,hb3⟩;have HB3:Hid (Zw_ w w3):=HBb.out.trans (hb3.mono HBb.out.size);have HX3:=Zab (HXb.out.on hb3);have HY3:=Zab (HYb.out.on hb3);have HOA3:=Zab (HOA1.out.kept (ZaI hb3) (by simp));have HOD3:=Zab (HOD1.out.kept (ZaI hb3) (by simp))
    have hlk:∀ n,(Instr.lookup 225 (.map (some bd)) (.agg #[.string B.ls[k].tm,.string B.ls[k].re]) false).run prog (w3.drewN n)=.ok (.int .i64 (wrap64 (Ze5 B.ps B.ls[k].tm B.ls[k].re))) (w3.drewN n):=fun n=>by
     obtain⟨c,hl,hat,-⟩:=(ZdC HOD3.out (w':=w3.drewN n) (by simp)).lookup_int Zh9 underlying225 underlying3 (Zia _) (Zgi.mk' HZ.out.s0 HZ.out.s1);rw [HSD.out.sums _ _ HZ.out.s0 HZ.out.s1,ZpB] at hat;injection hat with hat
     injection hat with _ hat
     rw [hat];exact hl
    have y0:=HY3.out.cell 0;have y1:=HY3.out.cell 1;have y2:=HY3.out.cell 2;have y3:=HY3.out.cell 3;simp at y0 y1 y2 y3;clear hb3 HBb HXb HYb HOA1 HOD1;have HV:Hid (wrap64 (wrap64 (wrap64 ((Zcl Ss B.os).map (Zg2 Ts B.ls[k].tm B.ls[k].re)).sum+wrap64 (Ze5 B.ps B.ls[k].tm B.ls[k].re))+B.ls[k].fr)=wrap64 (Zdi Ss Ts B.os B.ls[k].tm B.ls[k].re+Ze5 B.ps B.ls[k].tm B.ls[k].re+B.ls[k].fr)):=by unfold Hid;rw [Zg6,Zfr,HUZ.out]
    go_wp2
    go_quiet (fail)
    have HBn:Hid (Zw_ w (w3.drewN nq)):=below_drewN HB3.out _;have HXn:=Zab (HX3.out.on (below_drewN Zb_ nq));have HOAn:=Zab (ZdC HOA3.out (w':=w3.drewN nq) (by simp));have HODn:=Zab (ZdC HOD3.out (w':=w3.drewN nq) (by simp));clear hlk
    by_cases hq:wrap64 (wrap64 (wrap64 ((Zcl Ss B.os).map (Zg2 Ts B.ls[k].tm B.ls[k].re)).sum+wrap64 (Ze5 B.ps B.ls[k].tm B.ls[k].re))+B.ls[k].fr)=B.ls[k].mo
    · have HT:Hid (ZeO Ss Ts B B.ls[k]=true):=by unfold Hid;rw [HQ.out,← HV.out];exact decide_eq_true hq
      have hd:(wrap64 (wrap64 (wrap64 ((Zcl Ss B.os).map (Zg2 Ts B.ls[k].tm B.ls[k].re)).sum+wrap64 (Ze5 B.ps B.ls[k].tm B.ls[k].re))+B.ls[k].fr) != B.ls[k].mo)=false:=by simp [hq]
      clear hq;go_wp2;go_roundw
      case rel=>exact⟨k+1,by go_num,by omega,HBn.out,HXn.out,HOAn.out,HODn.out,Zbn HA.out hlt HT.out⟩
      case measure=>simp [intOf];omega
    · have HN:Hid (ZjE Ss Ts B=false):=Zba hlt (by rw [HQ.out,← HV.out];exact decide_eq_false hq)
      have hd:(wrap64 (wrap64 (wrap64 ((Zcl Ss B.os).map (Zg2 Ts B.ls[k].tm B.ls[k].re)).sum+wrap64 (Ze5 B.ps B.ls[k].tm B.ls[k].re))+B.ls[k].fr) != B.ls[k].mo)=true:=by simp [hq]
      clear hq;go_wp2;go_ret;exact⟨Zaa HN.out.symm,HBn.out⟩
  · have HT:Hid (ZjE Ss Ts B=true):=Zb0 (fun i hi=>HA.out i hi (by omega))
    go_wp2;go_ret;exact⟨Zaa HT.out.symm,HBr.out⟩
end
end Go.Proofs.YtcfjmagkinpaeaaGreat
namespace Go.Proofs.YtcfjmagkinpaeaaGreat
open Go.RowKit Go.Deep
abbrev Up (W0:World):World→Prop:=fun W=>Below W0.heap.size W0 W
theorem Up.cell {W0:World} (X:In (Up W0)) {p:Addr} {v:Value} (h:W0.cell? p=some v):X.w.cell? p=some v:=
 (Below.cell (show Below W0.heap.size W0 X.w from X.h) (World.block_lt_of_cell? W0 _ h)).trans h
theorem Up.next {W0:World} (X:In (Up W0)) {W':World} (h:Below X.w.heap.size X.w W'):∃ Y:In (Up W0),W'=Y.w:=
 ⟨⟨W',X.h.trans (h.mono X.h.size)⟩,rfl⟩
theorem Zl1 {B:Bk} {m:Nat} (hm:m < B.gs.length) (h:gnB B.given B.gs[m]=false):ZaX B=false:=by
 unfold ZaX;rw [Zba hm h,Bool.and_false]
theorem Zl2 {B:Bk} {m:Nat} (hm:m < B.gs.length) (h:Zce Zf4 B.gs m=false):ZaX B=false:=by
 unfold ZaX;rw [show Zcz Zf4 B.gs=false from ZaW hm h,Bool.and_false,Bool.false_and]
theorem Zl3 {B:Bk} (hl:B.gs.length≤24) (h1:∀ j (h:j < B.gs.length),gnB B.given B.gs[j]=true) (h2:∀ j,j < B.gs.length→Zce Zf4 B.gs j=true):ZaX B=true:=by
 unfold ZaX;rw [decide_eq_true hl,Zb0 h1,show Zcz Zf4 B.gs=true from Za0 h2]
 rfl
section
variable (lo:Nat) (ov gv lv pv:Value) (B:Bk) (w:World)
theorem Zhj (h:ZaH lo w ov gv lv pv B) :
 Calls prog 56 #[.agg #[.int .i64 B.now,.int .i64 B.tick,.int .i64 B.given,ov,gv,lv,pv]] w fun e w'=>e=.returned (.bool (ZaX B))∧Zw_ w w':=by
 have HG:=Zab h.grs;obtain⟨a0,k0,rfl⟩:=h.obs.form;obtain⟨a1,k1,rfl⟩:=h.grs.form;obtain⟨a2,k2,rfl⟩:=h.les.form;obtain⟨a3,k3,rfl⟩:=h.pus.form;clear h
 by_cases hl:B.gs.length≤24
 case neg=>
  have HE:Hid (ZaX B=false):=by unfold Hid ZaX;rw [decide_eq_false hl];rfl
  have hgt:decide ((24:Int) < (B.gs.length:Int))=true:=by simp;omega
  go_enter func56,ntmps56;go_wp2;go_ret;exact⟨Zaa HE.out.symm,Zac _ _⟩
 have hgt:decide ((24:Int) < (B.gs.length:Int))=false:=by simp;omega
 go_enter func56,ntmps56;go_wp2;generalize hWa:w.alloc _=Wa;have HB:Hid (Zw_ w Wa):=by rw [← hWa];exact Zac w _
 have HX:Hid (Box Wa w.heap.size #[.int .i64 B.now,.int .i64 B.tick,.int .i64 B.given,.slice a0 B.os.length k0,.slice a1 B.gs.length k1,.slice a2 B.ls.length k2,.slice a3 B.ps.length k3]):=by rw [← hWa];exact Box.new _ _ _ _ rfl
 clear hWa hgt
 go_loopw [3] (fun i wr=>∃ m:Nat,i=.int .i64 m∧m≤B.gs.length∧Zw_ w wr∧Box wr w.heap.size #[.int .i64 B.now,.int .i64 B.tick,.int .i64 B.given,.slice a0 B.os.length k0,.slice a1 B.gs.length k1,.slice a2 B.ls.length k2,.slice a3 B.ps.length k3]∧(∀ j (h:j < B.gs.length),j < m→gnB B.given B.gs[j]=true)∧∀ j,j < m→Zce Zf4 B.gs j=true) (fun i _=>B.gs.length - (intOf i).toNat)
 case atStart=>exact⟨0,rfl,Nat.zero_le _,HB.out,HX.out,fun j _ h=>by omega,fun j h=>by omega⟩
 case round=>
  obtain⟨m,rfl,hm,hb,hx,hall,hris⟩:=hrel;have HBr:=Zab hb;have HXr:=Zab hx;have HA:=Zab hall;have HS:=Zab hris;have x4:=hx.cell 4;simp at x4;clear hb hx hall hris HB HX
  by_cases hlt:m < B.gs.length
  · obtain⟨b,off,rfl,hbw,-,hc⟩:=HG.out.full' (by omega)
    obtain⟨hs,vv0,hcell,hv0⟩:=hc m hlt;obtain⟨c0,c1,c2,c3,c4,c5,c6⟩:=hcell.below HBr.out hbw;have HZ:=Zab hs;obtain⟨va,vcap,rfl⟩:=hv0.form;have HQ:Hid (gnB B.given B.gs[m]=(inB 1 B.given B.gs[m].nu&&Zaj B.gs[m].tw&&Zak B.gs[m].gb&&ZaS B.gs[m].ru)):=rfl;have HEN:Hid (Zak B.gs[m].gb=(B.gs[m].gb.toList.isEmpty || Zaj B.gs[m].gb)):=rfl;have HRZ:Hid (Zdk B.gs[m].ru):=⟨HZ.out.s2,HZ.out.s3,HZ.out.s4⟩;go_wp2;generalize hWq:wr.alloc _=Wq;have HBq:Hid (Below wr.heap.size wr Wq):=by rw [← hWq];exact Zac _ _
    have HYq:Hid (Box Wq wr.heap.size #[.int .i64 B.gs[m].nu,.string B.gs[m].tw,.string B.gs[m].gb,.slice va B.gs[m].vb.length vcap,.string B.gs[m].kd,.string B.gs[m].tm,.string B.gs[m].pf]):=by rw [← hWq];exact Box.new _ _ _ _ rfl
    clear hWq;have HXq:=Zab (HXr.out.on HBq.out);have HBw:Hid (Zw_ w Wq):=HBr.out.trans (HBq.out.mono HBr.out.size);have HVq:=Zab (hv0.below HBw.out);clear c0 c1 c2 c3 c4 c5 c6 hcell hv0 hs;generalize hβ:wr.heap.size=β at*
    go_cut [65] (fun c wc=>c=.bool (!(gnB B.given B.gs[m]&&Zce Zf4 B.gs m))∧Below Wq.heap.size Wq wc)
    case first=>
     have xn:Nonempty (In (Up Wq)):=⟨⟨Wq,Below.refl _ _⟩⟩;have x0:∀ X:In (Up Wq),X.w.cell? ⟨w.heap.size,2,none⟩=some (.int .i64 B.given):=fun X=>Up.cell X (by rw [HXq.out.cell 2];rfl)
     have xg:∀ X:In (Up Wq),X.w.cell? ⟨w.heap.size,4,none⟩=some (.slice (some ⟨b,off,none⟩) B.gs.length k1):=fun X=>Up.cell X (by rw [HXq.out.cell 4];rfl)
     have y0:∀ X:In (Up Wq),X.w.cell? ⟨β,0,none⟩=some (.int .i64 B.gs[m].nu):=fun X=>Up.cell X (by rw [HYq.out.cell 0];rfl)
     have y1:∀ X:In (Up Wq),X.w.cell? ⟨β,1,none⟩=some (.string B.gs[m].tw):=fun X=>Up.cell X (by rw [HYq.out.cell 1];rfl)
     have y2:∀ X:In (Up Wq),X.w.cell? ⟨β,2,none⟩=some (.string B.gs[m].gb):=fun X=>Up.cell X (by rw [HYq.out.cell 2];rfl)
     have y3:∀ X:In (Up Wq),X.w.cell? ⟨β,3,none⟩=some (.slice va B.gs[m].vb.length vcap):=fun X=>Up.cell X (by rw [HYq.out.cell 3];rfl)
     have y4:∀ X:In (Up Wq),X.w.cell? ⟨β,4,none⟩=some (.string B.gs[m].kd):=fun X=>Up.cell X (by rw [HYq.out.cell 4];rfl)
     have y5:∀ X:In (Up Wq),X.w.cell? ⟨β,5,none⟩=some (.string B.gs[m].tm):=fun X=>Up.cell X (by rw [HYq.out.cell 5];rfl)
     have y6:∀ X:In (Up Wq),X.w.cell? ⟨β,6,none⟩=some (.string B.gs[m].pf):=fun X=>Up.cell X (by rw [HYq.out.cell 6];rfl)
     have xs:=fun (X:In (Up Wq))=>ZcH X
     have sw0:=HZ.out.s0;have sw1:=HZ.out.s1
     by_cases h0:m=0
     · have hd0:decide (0 < m)=false:=by simp;omega
       have HRI:Hid (Zce Zf4 B.gs m=true):=by unfold Hid;rw [h0];rfl
       clear h0 hc;refine Zae (Up Wq) (by kernel_rfl) (by kernel_rfl) (Zb_.drew) ?_
       cases h1:inB 1 B.given B.gs[m].nu with
       | false=>
        repeat (go_big_quiet_step (
         first
         | (go_at_call 54;rename_i X;exact (Zal _ _ _ _).mono fun _ _ h=>⟨h.1,X,h.2⟩)
         | (go_at_call 58;rename_i X;exact (Zad _ _ (by with_reducible assumption)).mono fun _ _ h=>⟨h.1,X,h.2⟩)
         | (go_at_call 107;rename_i X;exact (Zay lo B.gs[m].ru _ _ (HVq.out.below X.h) HRZ.out).mono fun _ _ h=>⟨h.1,Up.next X h.2⟩)))
        refine wpQuiet_nil ?_;intro wn hw;obtain⟨X,hX⟩:=hw;have HWN:Below Wq.heap.size Wq wn:=by rw [hX];exact X.h
        clear hX X x0 xg xs xn y0 y1 y2 y3 y4 y5 y6;go_wp2;go_meet;exact⟨congrArg Value.bool (by rw [HQ.out,h1];rfl),HWN⟩
       | true=>
        cases h2:Zaj B.gs[m].tw with
        | false=>
         repeat (go_big_quiet_step (
          first
          | (go_at_call 54;rename_i X;exact (Zal _ _ _ _).mono fun _ _ h=>⟨h.1,X,h.2⟩)
          | (go_at_call 58;rename_i X;exact (Zad _ _ (by with_reducible assumption)).mono fun _ _ h=>⟨h.1,X,h.2⟩)
          | (go_at_call 107;rename_i X;exact (Zay lo B.gs[m].ru _ _ (HVq.out.below X.h) HRZ.out).mono fun _ _ h=>⟨h.1,Up.next X h.2⟩)))
         refine wpQuiet_nil ?_;intro wn hw;obtain⟨X,hX⟩:=hw;have HWN:Below Wq.heap.size Wq wn:=by rw [hX];exact X.h
         clear hX X x0 xg xs xn y0 y1 y2 y3 y4 y5 y6;go_wp2;go_meet;exact⟨congrArg Value.bool (by rw [HQ.out,h1,h2];rfl),HWN⟩
        | true=>
         cases hg:B.gs[m].gb.toList.isEmpty with
         | false=>
          cases h3:Zaj B.gs[m].gb with
          | false=>
           have h5:Zak B.gs[m].gb=false:=by rw [HEN.out,hg,h3];rfl
           repeat (go_big_quiet_step (
            first
            | (go_at_call 54;rename_i X;exact (Zal _ _ _ _).mono fun _ _ h=>⟨h.1,X,h.2⟩)
            | (go_at_call 58;rename_i X;exact (Zad _ _ (by with_reducible assumption)).mono fun _ _ h=>⟨h.1,X,h.2⟩)
            | (go_at_call 107;rename_i X;exact (Zay lo B.gs[m].ru _ _ (HVq.out.below X.h) HRZ.out).mono fun _ _ h=>⟨h.1,Up.next X h.2⟩)))
           refine wpQuiet_nil ?_;intro wn hw;obtain⟨X,hX⟩:=hw;have HWN:Below Wq.heap.size Wq wn:=by rw [hX];exact X.h
           clear hX X x0 xg xs xn y0 y1 y2 y3 y4 y5 y6;go_wp2;go_meet;exact⟨congrArg Value.bool (by rw [HQ.out,h1,h2,h5];rfl),HWN⟩
          | true=>
           have h5:Zak B.gs[m].gb=true:=by rw [HEN.out,hg,h3];rfl
           cases h4:ZaS B.gs[m].ru with
           | false=>
            repeat (go_big_quiet_step (
             first
             | (go_at_call 54;rename_i X;exact (Zal _ _ _ _).mono fun _ _ h=>⟨h.1,X,h.2⟩)
             | (go_at_call 58;rename_i X;exact (Zad _ _ (by with_reducible assumption)).mono fun _ _ h=>⟨h.1,X,h.2⟩)
             | (go_at_call 107;rename_i X;exact (Zay lo B.gs[m].ru _ _ (HVq.out.below X.h) HRZ.out).mono fun _ _ h=>⟨h.1,Up.next X h.2⟩)))
            refine wpQuiet_nil ?_;intro wn hw;obtain⟨X,hX⟩:=hw;have HWN:Below Wq.heap.size Wq wn:=by rw [hX];exact X.h
            clear hX X x0 xg xs xn y0 y1 y2 y3 y4 y5 y6;go_wp2;go_meet;exact⟨congrArg Value.bool (by rw [HQ.out,h1,h2,h5,h4];rfl),HWN⟩
           | true=>
            repeat (go_big_quiet_step (
             first
             | (go_at_call 54;rename_i X;exact (Zal _ _ _ _).mono fun _ _ h=>⟨h.1,X,h.2⟩)
             | (go_at_call 58;rename_i X;exact (Zad _ _ (by with_reducible assumption)).mono fun _ _ h=>⟨h.1,X,h.2⟩)
             | (go_at_call 107;rename_i X;exact (Zay lo B.gs[m].ru _ _ (HVq.out.below X.h) HRZ.out).mono fun _ _ h=>⟨h.1,Up.next X h.2⟩)))
            refine wpQuiet_nil ?_;intro wn hw;obtain⟨X,hX⟩:=hw;have HWN:Below Wq.heap.size Wq wn:=by rw [hX];exact X.h
            clear hX X x0 xg xs xn y0 y1 y2 y3 y4 y5 y6;go_wp2;go_meet;exact⟨congrArg Value.bool (by rw [HQ.out,h1,h2,h5,h4,HRI.out];rfl),HWN⟩
         | true=>
          have h5:Zak B.gs[m].gb=true:=by rw [HEN.out,hg];rfl
          cases h4:ZaS B.gs[m].ru with
          | false=>
           repeat (go_big_quiet_step (
            first
            | (go_at_call 54;rename_i X;exact (Zal _ _ _ _).mono fun _ _ h=>⟨h.1,X,h.2⟩)
            | (go_at_call 58;rename_i X;exact (Zad _ _ (by with_reducible assumption)).mono fun _ _ h=>⟨h.1,X,h.2⟩)
            | (go_at_call 107;rename_i X;exact (Zay lo B.gs[m].ru _ _ (HVq.out.below X.h) HRZ.out).mono fun _ _ h=>⟨h.1,Up.next X h.2⟩)))
           refine wpQuiet_nil ?_;intro wn hw;obtain⟨X,hX⟩:=hw;have HWN:Below Wq.heap.size Wq wn:=by rw [hX];exact X.h
           clear hX X x0 xg xs xn y0 y1 y2 y3 y4 y5 y6;go_wp2;go_meet;exact⟨congrArg Value.bool (by rw [HQ.out,h1,h2,h5,h4];rfl),HWN⟩
          | true=>
           repeat (go_big_quiet_step (
            first
            | (go_at_call 54;rename_i X;exact (Zal _ _ _ _).mono fun _ _ h=>⟨h.1,X,h.2⟩)
            | (go_at_call 58;rename_i X;exact (Zad _ _ (by with_reducible assumption)).mono fun _ _ h=>⟨h.1,X,h.2⟩)
            | (go_at_call 107;rename_i X;exact (Zay lo B.gs[m].ru _ _ (HVq.out.below X.h) HRZ.out).mono fun _ _ h=>⟨h.1,Up.next X h.2⟩)))
           refine wpQuiet_nil ?_;intro wn hw;obtain⟨X,hX⟩:=hw;have HWN:Below Wq.heap.size Wq wn:=by rw [hX];exact X.h
           clear hX X x0 xg xs xn y0 y1 y2 y3 y4 y5 y6;go_wp2;go_meet;exact⟨congrArg Value.bool (by rw [HQ.out,h1,h2,h5,h4,HRI.out];rfl),HWN⟩
     · have hd0:decide (0 < m)=true:=by simp;omega
       obtain⟨k,hkm⟩:∃ k,m=k+1:=⟨m - 1,by omega⟩
       have hltk:k < B.gs.length:=by omega
       obtain⟨hsk,vvk,hck,hvk⟩:=hc k hltk;have yk:∀ X:In (Up Wq),X.w.cell? ⟨b,off+k*7,none⟩=some (.int .i64 B.gs[k].nu):=fun X=>Up.cell X (hck.below HBw.out hbw).c0
       have HRI0:Hid (Zce Zf4 B.gs m=decide (B.gs[k].nu < B.gs[m].nu)):=by
        subst hkm;unfold Hid;rw [Zdb hlt];unfold Zf4;exact decide_eq_decide.2 Zpy
       have e2:IntKind.i64.wrap ((m:Int) - 1)=k:=by rw [IntWalk.i64_left];unfold wrap64;omega
       have e3:wrap64 ((m:Int) - 1)=k:=by unfold wrap64;omega
       have e4:(m:Int) - 1=k:=by omega
       have HKM:=Zab hkm;clear h0 hc hsk hck hvk hkm;refine Zae (Up Wq) (by kernel_rfl) (by kernel_rfl) (Zb_.drew) ?_
       cases h1:inB 1 B.given B.gs[m].nu with
       | false=>
        repeat (go_big_quiet_step (
         first
         | (go_at_call 54;rename_i X;exact (Zal _ _ _ _).mono fun _ _ h=>⟨h.1,X,h.2⟩)
         | (go_at_call 58;rename_i X;exact (Zad _ _ (by with_reducible assumption)).mono fun _ _ h=>⟨h.1,X,h.2⟩)
         | (go_at_call 107;rename_i X;exact (Zay lo B.gs[m].ru _ _ (HVq.out.below X.h) HRZ.out).mono fun _ _ h=>⟨h.1,Up.next X h.2⟩)))
        refine wpQuiet_nil ?_;intro wn hw;obtain⟨X,hX⟩:=hw;have HWN:Below Wq.heap.size Wq wn:=by rw [hX];exact X.h
        clear hX X x0 xg xs xn y0 y1 y2 y3 y4 y5 y6;go_wp2;go_meet;exact⟨congrArg Value.bool (by rw [HQ.out,h1];rfl),HWN⟩
       | true=>
        by_cases hnu:B.gs[k].nu < B.gs[m].nu
        · have HRI:Hid (Zce Zf4 B.gs m=true):=HRI0.out.trans (decide_eq_true hnu)
          have hd1:decide (B.gs[m].nu≤B.gs[k].nu)=false:=by simp;omega
          cases h2:Zaj B.gs[m].tw with
          | false=>
           repeat (go_big_quiet_step (
            first
            | (go_at_call 54;rename_i X;exact (Zal _ _ _ _).mono fun _ _ h=>⟨h.1,X,h.2⟩)
            | (go_at_call 58;rename_i X;exact (Zad _ _ (by with_reducible assumption)).mono fun _ _ h=>⟨h.1,X,h.2⟩)
            | (go_at_call 107;rename_i X;exact (Zay lo B.gs[m].ru _ _ (HVq.out.below X.h) HRZ.out).mono fun _ _ h=>⟨h.1,Up.next X h.2⟩)))
           refine wpQuiet_nil ?_;intro wn hw;obtain⟨X,hX⟩:=hw;have HWN:Below Wq.heap.size Wq wn:=by rw [hX];exact X.h
           clear hX X x0 xg xs xn y0 y1 y2 y3 y4 y5 y6;go_wp2;go_meet;exact⟨congrArg Value.bool (by rw [HQ.out,h1,h2];rfl),HWN⟩
          | true=>
           cases hg:B.gs[m].gb.toList.isEmpty with
           | false=>
            cases h3:Zaj B.gs[m].gb with
            | false=>
             have h5:Zak B.gs[m].gb=false:=by rw [HEN.out,hg,h3];rfl
             repeat (go_big_quiet_step (
              first
              | (go_at_call 54;rename_i X;exact (Zal _ _ _ _).mono fun _ _ h=>⟨h.1,X,h.2⟩)
              | (go_at_call 58;rename_i X;exact (Zad _ _ (by with_reducible assumption)).mono fun _ _ h=>⟨h.1,X,h.2⟩)
              | (go_at_call 107;rename_i X;exact (Zay lo B.gs[m].ru _ _ (HVq.out.below X.h) HRZ.out).mono fun _ _ h=>⟨h.1,Up.next X h.2⟩)))
             refine wpQuiet_nil ?_;intro wn hw;obtain⟨X,hX⟩:=hw;have HWN:Below Wq.heap.size Wq wn:=by rw [hX];exact X.h
             clear hX X x0 xg xs xn y0 y1 y2 y3 y4 y5 y6;go_wp2;go_meet;exact⟨congrArg Value.bool (by rw [HQ.out,h1,h2,h5];rfl),HWN⟩
            | true=>
             have h5:Zak B.gs[m].gb=true:=by rw [HEN.out,hg,h3];rfl
             cases h4:ZaS B.gs[m].ru with
             | false=>
              repeat (go_big_quiet_step (
               first
               | (go_at_call 54;rename_i X;exact (Zal _ _ _ _).mono fun _ _ h=>⟨h.1,X,h.2⟩)
               | (go_at_call 58;rename_i X;exact (Zad _ _ (by with_reducible assumption)).mono fun _ _ h=>⟨h.1,X,h.2⟩)
               | (go_at_call 107;rename_i X;exact (Zay lo B.gs[m].ru _ _ (HVq.out.below X.h) HRZ.out).mono fun _ _ h=>⟨h.1,Up.next X h.2⟩)))
              refine wpQuiet_nil ?_;intro wn hw;obtain⟨X,hX⟩:=hw;have HWN:Below Wq.heap.size Wq wn:=by rw [hX];exact X.h
              clear hX X x0 xg xs xn y0 y1 y2 y3 y4 y5 y6;go_wp2;go_meet;exact⟨congrArg Value.bool (by rw [HQ.out,h1,h2,h5,h4];rfl),HWN⟩
             | true=>
              repeat (go_big_quiet_step (
               first
               | (go_at_call 54;rename_i X;exact (Zal _ _ _ _).mono fun _ _ h=>⟨h.1,X,h.2⟩)
               | (go_at_call 58;rename_i X;exact (Zad _ _ (by with_reducible assumption)).mono fun _ _ h=>⟨h.1,X,h.2⟩)
               | (go_at_call 107;rename_i X;exact (Zay lo B.gs[m].ru _ _ (HVq.out.below X.h) HRZ.out).mono fun _ _ h=>⟨h.1,Up.next X h.2⟩)))
              refine wpQuiet_nil ?_;intro wn hw;obtain⟨X,hX⟩:=hw;have HWN:Below Wq.heap.size Wq wn:=by rw [hX];exact X.h
              clear hX X x0 xg xs xn y0 y1 y2 y3 y4 y5 y6;go_wp2;go_meet;exact⟨congrArg Value.bool (by rw [HQ.out,h1,h2,h5,h4,HRI.out];rfl),HWN⟩
           | true=>
            have h5:Zak B.gs[m].gb=true:=by rw [HEN.out,hg];rfl
            cases h4:ZaS B.gs[m].ru with
            | false=>
             repeat (go_big_quiet_step (
              first
              | (go_at_call 54;rename_i X;exact (Zal _ _ _ _).mono fun _ _ h=>⟨h.1,X,h.2⟩)
              | (go_at_call 58;rename_i X;exact (Zad _ _ (by with_reducible assumption)).mono fun _ _ h=>⟨h.1,X,h.2⟩)
              | (go_at_call 107;rename_i X;exact (Zay lo B.gs[m].ru _ _ (HVq.out.below X.h) HRZ.out).mono fun _ _ h=>⟨h.1,Up.next X h.2⟩)))
             refine wpQuiet_nil ?_;intro wn hw;obtain⟨X,hX⟩:=hw;have HWN:Below Wq.heap.size Wq wn:=by rw [hX];exact X.h
             clear hX X x0 xg xs xn y0 y1 y2 y3 y4 y5 y6;go_wp2;go_meet;exact⟨congrArg Value.bool (by rw [HQ.out,h1,h2,h5,h4];rfl),HWN⟩
            | true=>
             repeat (go_big_quiet_step (
              first
              | (go_at_call 54;rename_i X;exact (Zal _ _ _ _).mono fun _ _ h=>⟨h.1,X,h.2⟩)
              | (go_at_call 58;rename_i X;exact (Zad _ _ (by with_reducible assumption)).mono fun _ _ h=>⟨h.1,X,h.2⟩)
              | (go_at_call 107;rename_i X;exact (Zay lo B.gs[m].ru _ _ (HVq.out.below X.h) HRZ.out).mono fun _ _ h=>⟨h.1,Up.next X h.2⟩)))
             refine wpQuiet_nil ?_;intro wn hw;obtain⟨X,hX⟩:=hw;have HWN:Below Wq.heap.size Wq wn:=by rw [hX];exact X.h
             clear hX X x0 xg xs xn y0 y1 y2 y3 y4 y5 y6;go_wp2;go_meet;exact⟨congrArg Value.bool (by rw [HQ.out,h1,h2,h5,h4,HRI.out];rfl),HWN⟩
        · have HRF:Hid (Zce Zf4 B.gs m=false):=HRI0.out.trans (decide_eq_false hnu)
          have hd1:decide (B.gs[m].nu≤B.gs[k].nu)=true:=by simp;omega
          repeat (go_big_quiet_step (
           first
           | (go_at_call 54;rename_i X;exact (Zal _ _ _ _).mono fun _ _ h=>⟨h.1,X,h.2⟩)
           | (go_at_call 58;rename_i X;exact (Zad _ _ (by with_reducible assumption)).mono fun _ _ h=>⟨h.1,X,h.2⟩)
           | (go_at_call 107;rename_i X;exact (Zay lo B.gs[m].ru _ _ (HVq.out.below X.h) HRZ.out).mono fun _ _ h=>⟨h.1,Up.next X h.2⟩)))
          refine wpQuiet_nil ?_;intro wn hw;obtain⟨X,hX⟩:=hw;have HWN:Below Wq.heap.size Wq wn:=by rw [hX];exact X.h
          clear hX X x0 xg xs xn y0 y1 y2 y3 y4 y5 y6;go_wp2;go_meet;exact⟨congrArg Value.bool (by rw [HRF.out,Bool.and_false];rfl),HWN⟩
    case rest=>
     obtain⟨hc65,hwn⟩:=hcut;have HWN:=Zab hwn;have HWB:Hid (Zw_ w wc):=HBw.out.trans (HWN.out.mono HBw.out.size);clear hwn hc
     cases hgn:gnB B.given B.gs[m] with
     | false=>
      have HN:Hid (ZaX B=false):=Zl1 hlt hgn;rw [hgn] at hc65;subst hc65;go_wp2;go_ret;exact⟨Zaa HN.out.symm,HWB.out⟩
     | true=>
      cases hri:Zce Zf4 B.gs m with
      | false=>
       have HN:Hid (ZaX B=false):=Zl2 hlt hri;rw [hgn,hri] at hc65;subst hc65;go_wp2;go_ret;exact⟨Zaa HN.out.symm,HWB.out⟩
      | true=>
       have HT:=Zab hgn;have HR:=Zab hri;rw [hgn,hri] at hc65;subst hc65;go_wp2;go_roundw
       case rel=>exact⟨m+1,by go_num,by omega,HWB.out,HXq.out.on HWN.out,Zbn HA.out hlt HT.out,fun j hj=>by
                  by_cases e:j=m
                  · subst e;exact HR.out
                  · exact HS.out j (by omega)⟩
       case measure=>simp [intOf];omega
  · have HT:Hid (ZaX B=true):=Zl3 hl (fun j hj=>HA.out j hj (by omega)) (fun j hj=>HS.out j (by omega))
    go_wp2;go_ret;exact⟨Zaa HT.out.symm,HBr.out⟩
end
end Go.Proofs.YtcfjmagkinpaeaaGreat
