import Derived.Test.YtmappejlmapboaaGreatV33
import Derived.Test.YtmappejlmapboaaGreatV39
set_option maxHeartbeats 16000000
set_option maxRecDepth 100000
open Go.Proofs.Tryz
namespace Go.Proofs.YtmappejlmapboaaGreat
open Go.RowKit Go.Deep
variable {k:Nat}
def gnB (given:Int) (g:Gr):Bool:=inB 1 given g.nu&&Zap g.tw&&Zai g.gb&&ZaT g.ru
def ZaR (B:Bk):Bool:=decide (B.gs.length<=24)&&Zdf Zgj B.gs&&B.gs.all (gnB B.given)
def leB (Ts:List Tm) (x:Le):Bool:=ZfI Ts x.tm&&Zap x.re&&inB 0 1000000 x.mo&&inB 0 x.mo x.fr
def ZaM (Ts:List Tm) (Ls:List Le):Bool:=decide (Ls.length<=10)&&Zdf Zc0 Ls&&Ls.all (leB Ts)
def puB (B:Bk) (p:Pu):Bool:=B.ls.any (Zdc p.tm p.re)&&Zap p.dr&&inB 1 1000000 p.am&&inB B.tick (B.tick+10) p.un
def ZaZ (B:Bk):Bool:=decide (B.ps.length<=24)&&Zdf Zgz B.ps&&B.ps.all (puB B)
theorem Zcr {X:Type}{L:List X}{f:X->Bool} (hk:k < L.length) (h:f L[k]=false):L.all f=false:=by
 rw [List.all_eq_false];exact⟨L[k],List.getElem_mem hk,by simp [h]⟩
theorem Zd0 {X:Type}{L:List X}{f:X->Bool} (h:∀ i (h:i < L.length),f L[i]=true):L.all f=true:=by
 rw [List.all_eq_true];intro x hx;obtain⟨i,hi,rfl⟩:=List.getElem_of_mem hx;exact h i hi
theorem Zc9 {X:Type}{L:List X}{f:X->Bool} (hall:∀ j (h:j < L.length),j < k->f L[j]=true) (hk:k < L.length) (h:f L[k]=true):∀ j (h:j < L.length),j < k+1->f L[j]=true:=fun j hj hjk=>by
 by_cases e:j=k
 . subst e;exact h
 . exact hall j hj (by omega)
theorem ZhR (Ts:List Tm) (s:Zy_):decide (Zc7 Ts s < 0)=!ZfI Ts s:=by
 rw [ZgL];unfold Zc7
 by_cases h:plT Ts s < Ts.length
 . simp [h]
 . simp [h]
section
variable (lo:Nat) (ov gv lv pv:Value) (B:Bk) (w:World)
theorem Zhj (h:ZaX lo w ov gv lv pv B) :
 Calls prog 182 #[.agg #[.int .i64 B.now,.int .i64 B.tick,.int .i64 B.given,ov,gv,lv,pv]] w fun e w'=>e=.returned (.bool (ZaR B))/\Zw_ w w':=by
 have HG:=Zab h.grs;obtain⟨a0,k0,rfl⟩:=h.obs.form;obtain⟨a1,k1,rfl⟩:=h.grs.form;obtain⟨a2,k2,rfl⟩:=h.les.form;obtain⟨a3,k3,rfl⟩:=h.pus.form;have HI:Hd (ZaR B=(decide (B.gs.length<=24)&&Zdf Zgj B.gs&&B.gs.all (gnB B.given))):=rfl;clear h
 by_cases hl:B.gs.length<=24
 case neg=>
  have HE:Hd (ZaR B=false):=by unfold Hd;rw [HI.o,decide_eq_false hl];rfl
  have hgt:decide ((24:Int) < (B.gs.length:Int))=true:=by simp;omega
  go_enter func182,ntmps182;go_wp2;go_ret;exact⟨Zaa HE.o.symm,Zac _ _⟩
 have hgt:decide ((24:Int) < (B.gs.length:Int))=false:=by simp;omega
 go_enter func182,ntmps182;go_wp2_with fail;generalize hWa:w.alloc _=Wa;have HB:Hd (Zw_ w Wa):=by rw [<- hWa];exact Zac w _
 have HX:Hd (Box Wa w.heap.size #[.int .i64 B.now,.int .i64 B.tick,.int .i64 B.given,.slice a0 B.os.length k0,.slice a1 B.gs.length k1,.slice a2 B.ls.length k2,.slice a3 B.ps.length k3]):=by rw [<- hWa];exact Box.new _ _ _ _ rfl
 clear hWa;refine (Zlw lo _ B.gs _ (HG.o.below HB.o)).mono ?_;rintro e w1 ⟨rfl,hb1⟩;have HB1:Hd (Zw_ w w1):=HB.o.trans (hb1.mono HB.o.size);have HX1:=Zab (HX.o.on hb1);clear hb1 HB HX
 cases hr:Zdf Zgj B.gs with
 | false=>
  have HE:Hd (ZaR B=false):=by unfold Hd;rw [HI.o,hr,decide_eq_true hl];rfl
  go_wp2;go_ret;exact⟨Zaa HE.o.symm,HB1.o⟩
 | true=>
  have HE:Hd (ZaR B=B.gs.all (gnB B.given)):=by unfold Hd;rw [HI.o,hr,decide_eq_true hl];rfl
  have x4:=HX1.o.cell 4;simp at x4;go_wp2;clear x4
  go_loopw [18] (fun i wr=>∃ k:Nat,i=.int .i64 k/\k<=B.gs.length/\Zw_ w wr/\Box wr w.heap.size #[.int .i64 B.now,.int .i64 B.tick,.int .i64 B.given,.slice a0 B.os.length k0,.slice a1 B.gs.length k1,.slice a2 B.ls.length k2,.slice a3 B.ps.length k3]/\∀ j (h:j < B.gs.length),j < k->gnB B.given B.gs[j]=true) (fun i _=>B.gs.length - (intOf i).toNat)
  case atStart=>exact⟨0,rfl,Nat.zero_le _,HB1.o,HX1.o,fun j _ h=>by omega⟩
  case round=>
   obtain⟨k,rfl,hk,hb,hx,hall⟩:=hrel;have HBr:=Zab hb;have HXr:=Zab hx;have HA:=Zab hall;clear hb hx hall
   by_cases hlt:k < B.gs.length
   . obtain⟨b,off,rfl,hbw,-,hc⟩:=HG.o.full' (by omega)
     obtain⟨hs,vv0,hcell,hv0⟩:=hc k hlt;obtain⟨c0,c1,c2,c3,c4,c5,c6⟩:=hcell.below HBr.o hbw;have HV:=Zab hv0;have HZ:=Zab hs;obtain⟨va,vcap,rfl⟩:=hv0.form;have HQ:Hd (gnB B.given B.gs[k]=(inB 1 B.given B.gs[k].nu&&Zap B.gs[k].tw&&Zai B.gs[k].gb&&ZaT B.gs[k].ru)):=rfl;have x2:=HXr.o.cell 2;simp at x2;have xlt:=HXr.o.lt;have x2:∀ o,(wr.alloc o).cell? ⟨w.heap.size,2,none⟩=some (.int .i64 B.given):=fun o=>(Zaj _ _ _ _ xlt).trans x2
     have HBA:∀ o,Hd (Zw_ w (wr.alloc o)):=fun o=>HBr.o.trans ((Zac _ _).mono HBr.o.size)
     have s0:=hs.s0;have s1:=hs.s1;clear hc hcell hv0 hs xlt
     cases h1:inB 1 B.given B.gs[k].nu with
     | false=>
      have HN:Hd (ZaR B=false):=by unfold Hd;rw [HE.o];exact Zcr hlt (by rw [HQ.o,h1];rfl)
      go_wp2_with (first|(go_at_call 209;refine (ZaP _ _ _ _).mono ?_;rintro e w' ⟨rfl,rfl⟩));go_ret;exact⟨Zaa HN.o.symm,(HBA _).o⟩
     | true=>
      cases h2:Zap B.gs[k].tw with
      | false=>
       have HN:Hd (ZaR B=false):=by unfold Hd;rw [HE.o];exact Zcr hlt (by rw [HQ.o,h1,h2];rfl)
       go_wp2_with (first|(go_at_call 209;refine (ZaP _ _ _ _).mono ?_;rintro e w' ⟨rfl,rfl⟩)|(go_at_call 206;refine (Zan _ _ s0).mono ?_;rintro e w' ⟨rfl,rfl⟩));go_ret;exact⟨Zaa HN.o.symm,(HBA _).o⟩
      | true=>
       cases h3:Zai B.gs[k].gb with
       | false=>
        have HN:Hd (ZaR B=false):=by unfold Hd;rw [HE.o];exact Zcr hlt (by rw [HQ.o,h1,h2,h3];rfl)
        go_wp2_with (first|(go_at_call 209;refine (ZaP _ _ _ _).mono ?_;rintro e w' ⟨rfl,rfl⟩)|(go_at_call 206;refine (Zan _ _ s0).mono ?_;rintro e w' ⟨rfl,rfl⟩)|(go_at_call 216;refine (Zbz _ _ s1).mono ?_;rintro e w' ⟨rfl,rfl⟩));go_ret;exact⟨Zaa HN.o.symm,(HBA _).o⟩
       | true=>
        have HRZ:Hd (Zgw B.gs[k].ru):=⟨HZ.o.s2,HZ.o.s3,HZ.o.s4⟩;go_wp2_with (first|(go_at_call 209;refine (ZaP _ _ _ _).mono ?_;rintro e w' ⟨rfl,rfl⟩)|(go_at_call 206;refine (Zan _ _ s0).mono ?_;rintro e w' ⟨rfl,rfl⟩)|(go_at_call 216;refine (Zbz _ _ s1).mono ?_;rintro e w' ⟨rfl,rfl⟩));refine (Zji lo B.gs[k].ru _ _ ((HV.o.below HBr.o).below (Zac _ _)) HRZ.o).mono ?_;rintro e w2 ⟨rfl,hb2⟩;have HB2:Hd (Zw_ w w2):=(HBA _).o.trans (hb2.mono (HBA _).o.size);have HX2:=Zab ((HXr.o.on (Zac _ _)).on hb2);clear hb2
        cases h4:ZaT B.gs[k].ru with
        | false=>
         have HN:Hd (ZaR B=false):=by unfold Hd;rw [HE.o];exact Zcr hlt (by rw [HQ.o,h1,h2,h3,h4];rfl)
         go_wp2;go_ret;exact⟨Zaa HN.o.symm,HB2.o⟩
        | true=>
         have HT:Hd (gnB B.given B.gs[k]=true):=by unfold Hd;rw [HQ.o,h1,h2,h3,h4];rfl
         go_wp2;go_roundw
         . exact⟨k+1,by go_num,by omega,HB2.o,HX2.o,Zc9 HA.o hlt HT.o⟩
         . simp [intOf];omega
   . have HT:Hd (ZaR B=true):=by unfold Hd;rw [HE.o];exact Zd0 (fun i hi=>HA.o i hi (by omega))
     go_wp2;go_ret;exact⟨Zaa HT.o.symm,HBr.o⟩
theorem Zhk (h:ZaX lo w ov gv lv pv B) (hn:B.ls.length<=1048576) (hrl:Zdf Zc0 B.ls=true) (ht:inB 0 1000000 B.tick=true) :
 Calls prog 184 #[.agg #[.int .i64 B.now,.int .i64 B.tick,.int .i64 B.given,ov,gv,lv,pv]] w fun e w'=>e=.returned (.bool (ZaZ B))/\Zw_ w w':=by
 have HG:=Zab h.pus;have HL:=Zab h.les;have HRL:=Zab hrl;obtain⟨a0,k0,rfl⟩:=h.obs.form;obtain⟨a1,k1,rfl⟩:=h.grs.form;obtain⟨a2,k2,rfl⟩:=h.les.form;obtain⟨a3,k3,rfl⟩:=h.pus.form;have HI:Hd (ZaZ B=(decide (B.ps.length<=24)&&Zdf Zgz B.ps&&B.ps.all (puB B))):=rfl;have ht0:0<=B.tick/\B.tick<=1000000:=by unfold inB at ht;exact of_decide_eq_true ht
 clear h hrl ht
 by_cases hl:B.ps.length<=24
 case neg=>
  have HE:Hd (ZaZ B=false):=by unfold Hd;rw [HI.o,decide_eq_false hl];rfl
  have hgt:decide ((24:Int) < (B.ps.length:Int))=true:=by simp;omega
  go_enter func184,ntmps184;go_wp2;go_ret;exact⟨Zaa HE.o.symm,Zac _ _⟩
 have hgt:decide ((24:Int) < (B.ps.length:Int))=false:=by simp;omega
 go_enter func184,ntmps184;go_wp2_with fail;generalize hWa:w.alloc _=Wa;have HB:Hd (Zw_ w Wa):=by rw [<- hWa];exact Zac w _
 have HX:Hd (Box Wa w.heap.size #[.int .i64 B.now,.int .i64 B.tick,.int .i64 B.given,.slice a0 B.os.length k0,.slice a1 B.gs.length k1,.slice a2 B.ls.length k2,.slice a3 B.ps.length k3]):=by rw [<- hWa];exact Box.new _ _ _ _ rfl
 clear hWa;refine (Zlz lo _ B.ps _ (HG.o.below HB.o)).mono ?_;rintro e w1 ⟨rfl,hb1⟩;have HB1:Hd (Zw_ w w1):=HB.o.trans (hb1.mono HB.o.size);have HX1:=Zab (HX.o.on hb1);clear hb1 HB HX
 cases hr:Zdf Zgz B.ps with
 | false=>
  have HE:Hd (ZaZ B=false):=by unfold Hd;rw [HI.o,hr,decide_eq_true hl];rfl
  go_wp2;go_ret;exact⟨Zaa HE.o.symm,HB1.o⟩
 | true=>
  have HE:Hd (ZaZ B=B.ps.all (puB B)):=by unfold Hd;rw [HI.o,hr,decide_eq_true hl];rfl
  have x4:=HX1.o.cell 6;simp at x4;go_wp2;clear x4
  go_loopw [20] (fun i wr=>∃ k:Nat,i=.int .i64 k/\k<=B.ps.length/\Zw_ w wr/\Box wr w.heap.size #[.int .i64 B.now,.int .i64 B.tick,.int .i64 B.given,.slice a0 B.os.length k0,.slice a1 B.gs.length k1,.slice a2 B.ls.length k2,.slice a3 B.ps.length k3]/\∀ j (h:j < B.ps.length),j < k->puB B B.ps[j]=true) (fun i _=>B.ps.length - (intOf i).toNat)
  case atStart=>exact⟨0,rfl,Nat.zero_le _,HB1.o,HX1.o,fun j _ h=>by omega⟩
  case round=>
   obtain⟨k,rfl,hk,hb,hx,hall⟩:=hrel;have HBr:=Zab hb;have HXr:=Zab hx;have HA:=Zab hall;clear hb hx hall
   by_cases hlt:k < B.ps.length
   . obtain⟨b,off,rfl,hbw,-,hc⟩:=HG.o.full' (by omega)
     obtain⟨hs,hcell⟩:=hc k hlt;obtain⟨c0,c1,c2,c3,c4⟩:=hcell.below HBr.o hbw;have HZ:=Zab hs;have HQ:Hd (puB B B.ps[k]=(B.ls.any (Zdc B.ps[k].tm B.ps[k].re)&&Zap B.ps[k].dr&&inB 1 1000000 B.ps[k].am&&inB B.tick (B.tick+10) B.ps[k].un)):=rfl;have x5:=HXr.o.cell 5;simp at x5;have xlt:=HXr.o.lt;have x5:∀ o,(wr.alloc o).cell? ⟨w.heap.size,5,none⟩=some (.slice a2 B.ls.length k2):=fun o=>(Zaj _ _ _ _ xlt).trans x5
     have HBA:∀ o,Hd (Zw_ w (wr.alloc o)):=fun o=>HBr.o.trans ((Zac _ _).mono HBr.o.size)
     clear hc hcell hs xlt;go_wp2_with fail;generalize hWb:wr.alloc _=Wb;have HBb:Hd (Zw_ w Wb):=by rw [<- hWb];exact (HBA _).o
     have HXb:Hd (Box Wb w.heap.size #[.int .i64 B.now,.int .i64 B.tick,.int .i64 B.given,.slice a0 B.os.length k0,.slice a1 B.gs.length k1,.slice a2 B.ls.length k2,.slice (some ⟨b,off,none⟩) B.ps.length k3]):=by rw [<- hWb];exact HXr.o.on (Zac _ _)
     have HYb:Hd (Box Wb wr.heap.size #[.string B.ps[k].dr,.string B.ps[k].tm,.string B.ps[k].re,.int .i64 B.ps[k].am,.int .i64 B.ps[k].un]):=by rw [<- hWb];exact Box.new _ _ _ _ rfl
     clear hWb x5 HBA;refine (ZgU lo _ B.ls _ _ _ (HL.o.below HBb.o) hn HRL.o).mono ?_;rintro e w2 ⟨⟨p,-,rfl⟩,hb2⟩;have HB2:Hd (Zw_ w w2):=HBb.o.trans (hb2.mono HBb.o.size);have HX2:=Zab (HXb.o.on hb2);have HY2:=Zab (HYb.o.on hb2);have s0:=HZ.o.s0;have y0:=HY2.o.cell 0;have y3:=HY2.o.cell 3;have y4:=HY2.o.cell 4;have z1:=HX2.o.cell 1;simp at y0 y3 y4 z1;clear hb2 HBb HXb HYb
     cases h1:B.ls.any (Zdc B.ps[k].tm B.ps[k].re) with
     | false=>
      have HN:Hd (ZaZ B=false):=by unfold Hd;rw [HE.o];exact Zcr hlt (by rw [HQ.o,h1];rfl)
      go_wp2;go_ret;exact⟨Zaa HN.o.symm,HB2.o⟩
     | true=>
      cases h2:Zap B.ps[k].dr with
      | false=>
       have HN:Hd (ZaZ B=false):=by unfold Hd;rw [HE.o];exact Zcr hlt (by rw [HQ.o,h1,h2];rfl)
       go_wp2_with (go_at_call 206;refine (Zan _ _ s0).mono ?_;rintro e w' ⟨rfl,rfl⟩);go_ret;exact⟨Zaa HN.o.symm,HB2.o⟩
      | true=>
       cases h3:inB 1 1000000 B.ps[k].am with
       | false=>
        have HN:Hd (ZaZ B=false):=by unfold Hd;rw [HE.o];exact Zcr hlt (by rw [HQ.o,h1,h2,h3];rfl)
        go_wp2_with (first|(go_at_call 206;refine (Zan _ _ s0).mono ?_;rintro e w' ⟨rfl,rfl⟩)|(go_at_call 209;refine (ZaP _ _ _ _).mono ?_;rintro e w' ⟨rfl,rfl⟩));go_ret;exact⟨Zaa HN.o.symm,HB2.o⟩
       | true=>
        cases h4:inB B.tick (B.tick+10) B.ps[k].un with
        | false=>
         have HN:Hd (ZaZ B=false):=by unfold Hd;rw [HE.o];exact Zcr hlt (by rw [HQ.o,h1,h2,h3,h4];rfl)
         go_wp2_with (first|(go_at_call 206;refine (Zan _ _ s0).mono ?_;rintro e w' ⟨rfl,rfl⟩)|(go_at_call 209;refine (ZaP _ _ _ _).mono ?_;rintro e w' ⟨rfl,rfl⟩));go_ret;exact⟨Zaa HN.o.symm,HB2.o⟩
        | true=>
         have HT:Hd (puB B B.ps[k]=true):=by unfold Hd;rw [HQ.o,h1,h2,h3,h4];rfl
         go_wp2_with (first|(go_at_call 206;refine (Zan _ _ s0).mono ?_;rintro e w' ⟨rfl,rfl⟩)|(go_at_call 209;refine (ZaP _ _ _ _).mono ?_;rintro e w' ⟨rfl,rfl⟩));go_roundw
         . exact⟨k+1,by go_num,by omega,HB2.o,HX2.o,Zc9 HA.o hlt HT.o⟩
         . simp [intOf];omega
   . have HT:Hd (ZaZ B=true):=by unfold Hd;rw [HE.o];exact Zd0 (fun i hi=>HA.o i hi (by omega))
     go_wp2;go_ret;exact⟨Zaa HT.o.symm,HBr.o⟩
end
section
variable (lo:Nat) (sv mv tv lv:Value) (Ss:List Sh) (Ms:List Md) (Ts:List Tm) (Ls:List Le) (w:World)
theorem ZgN (h:Zbw lo w sv mv tv Ss Ms Ts) (hl:Zbx lo w lv Ls) :
 Calls prog 183 #[.agg #[sv,mv,tv],lv] w fun e w'=>e=.returned (.bool (ZaM Ts Ls))/\Zw_ w w':=by
 have HL:=Zab h;have HG:=Zab hl;obtain⟨sa,sc,rfl⟩:=h.shs.form;obtain⟨ma,mc,rfl⟩:=h.mds.form;obtain⟨ta,tc,rfl⟩:=h.tms.form;obtain⟨la,lc,rfl⟩:=hl.form;have HI:Hd (ZaM Ts Ls=(decide (Ls.length<=10)&&Zdf Zc0 Ls&&Ls.all (leB Ts))):=rfl;clear h hl
 by_cases hl:Ls.length<=10
 case neg=>
  have HE:Hd (ZaM Ts Ls=false):=by unfold Hd;rw [HI.o,decide_eq_false hl];rfl
  have hgt:decide ((10:Int) < (Ls.length:Int))=true:=by simp;omega
  go_enter func183,ntmps183;go_wp2;go_ret;exact⟨Zaa HE.o.symm,Zac _ _⟩
 have hgt:decide ((10:Int) < (Ls.length:Int))=false:=by simp;omega
 go_enter func183,ntmps183;go_wp2_with fail;generalize hWa:w.alloc _=Wa;have HB:Hd (Zw_ w Wa):=by rw [<- hWa];exact Zac w _
 have HX:Hd (Box Wa w.heap.size #[.slice sa Ss.length sc,.slice ma Ms.length mc,.slice ta Ts.length tc]):=by rw [<- hWa];exact Box.new _ _ _ _ rfl
 clear hWa;refine (Zlx lo _ Ls _ (HG.o.below HB.o)).mono ?_;rintro e w1 ⟨rfl,hb1⟩;have HB1:Hd (Zw_ w w1):=HB.o.trans (hb1.mono HB.o.size);have HX1:=Zab (HX.o.on hb1);clear hb1 HB HX
 cases hr:Zdf Zc0 Ls with
 | false=>
  have HE:Hd (ZaM Ts Ls=false):=by unfold Hd;rw [HI.o,hr,decide_eq_true hl];rfl
  go_wp2;go_ret;exact⟨Zaa HE.o.symm,HB1.o⟩
 | true=>
  have HE:Hd (ZaM Ts Ls=Ls.all (leB Ts)):=by unfold Hd;rw [HI.o,hr,decide_eq_true hl];rfl
  go_wp2
  go_loopw [17] (fun i wr=>∃ k:Nat,i=.int .i64 k/\k<=Ls.length/\Zw_ w wr/\Box wr w.heap.size #[.slice sa Ss.length sc,.slice ma Ms.length mc,.slice ta Ts.length tc]/\∀ j (h:j < Ls.length),j < k->leB Ts Ls[j]=true) (fun i _=>Ls.length - (intOf i).toNat)
  case atStart=>exact⟨0,rfl,Nat.zero_le _,HB1.o,HX1.o,fun j _ h=>by omega⟩
  case round=>
   obtain⟨k,rfl,hk,hb,hx,hall⟩:=hrel;have HBr:=Zab hb;have HXr:=Zab hx;have HA:=Zab hall;clear hb hx hall
   by_cases hlt:k < Ls.length
   . obtain⟨b,off,rfl,hbw,-,hc⟩:=HG.o.full' (by omega)
     obtain⟨hs,hcell⟩:=hc k hlt;obtain⟨c0,c1,c2,c3⟩:=hcell.below HBr.o hbw;have HZ:=Zab hs;have HQ:Hd (leB Ts Ls[k]=(ZfI Ts Ls[k].tm&&Zap Ls[k].re&&inB 0 1000000 Ls[k].mo&&inB 0 Ls[k].mo Ls[k].fr)):=rfl;have HP:=Zab (ZhR Ts Ls[k].tm);have x5:=HXr.o.cell 2;simp at x5;have xlt:=HXr.o.lt;have x5:∀ o,(wr.alloc o).cell? ⟨w.heap.size,2,none⟩=some (.slice ta Ts.length tc):=fun o=>(Zaj _ _ _ _ xlt).trans x5
     have HBA:∀ o,Hd (Zw_ w (wr.alloc o)):=fun o=>HBr.o.trans ((Zac _ _).mono HBr.o.size)
     clear hc hcell hs xlt;go_wp2_with fail;generalize hWb:wr.alloc _=Wb;have HBb:Hd (Zw_ w Wb):=by rw [<- hWb];exact (HBA _).o
     have HXb:Hd (Box Wb w.heap.size #[.slice sa Ss.length sc,.slice ma Ms.length mc,.slice ta Ts.length tc]):=by rw [<- hWb];exact HXr.o.on (Zac _ _)
     have HYb:Hd (Box Wb wr.heap.size #[.string Ls[k].tm,.string Ls[k].re,.int .i64 Ls[k].mo,.int .i64 Ls[k].fr]):=by rw [<- hWb];exact Box.new _ _ _ _ rfl
     clear hWb x5 HBA;refine (Zch lo _ Ts _ _ (HL.o.below HBb.o).tms).mono ?_;rintro e w2 ⟨rfl,hb2⟩;have HB2:Hd (Zw_ w w2):=HBb.o.trans (hb2.mono HBb.o.size);have HX2:=Zab (HXb.o.on hb2);have HY2:=Zab (HYb.o.on hb2);have s1:=HZ.o.s1;have y1:=HY2.o.cell 1;have y2:=HY2.o.cell 2;have y3:=HY2.o.cell 3;simp at y1 y2 y3;clear hb2 HBb HXb HYb
     cases h1:ZfI Ts Ls[k].tm with
     | false=>
      have HN:Hd (ZaM Ts Ls=false):=by unfold Hd;rw [HE.o];exact Zcr hlt (by rw [HQ.o,h1];rfl)
      have hd:decide (Zc7 Ts Ls[k].tm < 0)=true:=by rw [HP.o,h1];rfl
      go_wp2;go_ret;exact⟨Zaa HN.o.symm,HB2.o⟩
     | true=>
      have hd:decide (Zc7 Ts Ls[k].tm < 0)=false:=by rw [HP.o,h1];rfl
      cases h2:Zap Ls[k].re with
      | false=>
       have HN:Hd (ZaM Ts Ls=false):=by unfold Hd;rw [HE.o];exact Zcr hlt (by rw [HQ.o,h1,h2];rfl)
       go_wp2_with (go_at_call 206;refine (Zan _ _ s1).mono ?_;rintro e w' ⟨rfl,rfl⟩);go_ret;exact⟨Zaa HN.o.symm,HB2.o⟩
      | true=>
       cases h3:inB 0 1000000 Ls[k].mo with
       | false=>
        have HN:Hd (ZaM Ts Ls=false):=by unfold Hd;rw [HE.o];exact Zcr hlt (by rw [HQ.o,h1,h2,h3];rfl)
        go_wp2_with (first|(go_at_call 206;refine (Zan _ _ s1).mono ?_;rintro e w' ⟨rfl,rfl⟩)|(go_at_call 209;refine (ZaP _ _ _ _).mono ?_;rintro e w' ⟨rfl,rfl⟩));go_ret;exact⟨Zaa HN.o.symm,HB2.o⟩
       | true=>
        cases h4:inB 0 Ls[k].mo Ls[k].fr with
        | false=>
         have HN:Hd (ZaM Ts Ls=false):=by unfold Hd;rw [HE.o];exact Zcr hlt (by rw [HQ.o,h1,h2,h3,h4];rfl)
         go_wp2_with (first|(go_at_call 206;refine (Zan _ _ s1).mono ?_;rintro e w' ⟨rfl,rfl⟩)|(go_at_call 209;refine (ZaP _ _ _ _).mono ?_;rintro e w' ⟨rfl,rfl⟩));go_ret;exact⟨Zaa HN.o.symm,HB2.o⟩
        | true=>
         have HT:Hd (leB Ts Ls[k]=true):=by unfold Hd;rw [HQ.o,h1,h2,h3,h4];rfl
         go_wp2_with (first|(go_at_call 206;refine (Zan _ _ s1).mono ?_;rintro e w' ⟨rfl,rfl⟩)|(go_at_call 209;refine (ZaP _ _ _ _).mono ?_;rintro e w' ⟨rfl,rfl⟩));go_roundw
         . exact⟨k+1,by go_num,by omega,HB2.o,HX2.o,Zc9 HA.o hlt HT.o⟩
         . simp [intOf];omega
   . have HT:Hd (ZaM Ts Ls=true):=by unfold Hd;rw [HE.o];exact Zd0 (fun i hi=>HA.o i hi (by omega))
     go_wp2;go_ret;exact⟨Zaa HT.o.symm,HBr.o⟩
end
end Go.Proofs.YtmappejlmapboaaGreat
