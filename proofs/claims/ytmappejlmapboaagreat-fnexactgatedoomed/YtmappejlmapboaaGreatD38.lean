import Derived.Test.YtmappejlmapboaaGreatD37
set_option maxHeartbeats 16000000
set_option maxRecDepth 100000
open Go.Proofs.Tryz
namespace Go.Proofs.YtmappejlmapboaaGreat
open Go.RowKit Go.Deep Go.Maps
variable {i:Nat} {Os:List Ob} {now:Int} {o:Ob}
def Zmq (Ss:List Sh) (Ts:List Tm) (Os:List Ob) (now:Int) (o:Ob) (F:List Zy_):Bool:=
 match Zcn Ss o.kd with
 | some x=>Zcx Ts x.fields o F&&(inB 1 now o.ver&&ZiJ Os x.fields o.vs)
 | none=>false
def ZqE (Ss:List Sh) (Ts:List Tm) (B:Bk) (FF:Nat->List Zy_) (i:Nat):Bool:=
 match B.os[i]? with
 | some o=>Zmq Ss Ts B.os B.now o (FF i)
 | none=>true
def Zas (Ss:List Sh) (Ts:List Tm) (B:Bk) (FF:Nat->List Zy_):Bool:=decide (B.os.length<=40)&&(ZdN Zgv B.os&&(List.range B.os.length).all (ZqE Ss Ts B FF))
theorem Zh4 {Ss:List Sh}{Ts:List Tm}{B:Bk}{FF:Nat->List Zy_} (h:i < B.os.length):ZqE Ss Ts B FF i=Zmq Ss Ts B.os B.now B.os[i] (FF i):=by
 unfold ZqE;rw [List.getElem?_eq_getElem h]
theorem Zfb {Ss:List Sh}{Ts:List Tm}{F:List Zy_}{x:Sh} (h:Zcn Ss o.kd=some x):Zmq Ss Ts Os now o F=(Zcx Ts x.fields o F&&(inB 1 now o.ver&&ZiJ Os x.fields o.vs)):=by
 unfold Zmq;rw [h]
theorem ZgE {Ss:List Sh}{Ts:List Tm}{F:List Zy_} (h:Zcn Ss o.kd=none):Zmq Ss Ts Os now o F=false:=by
 unfold Zmq;rw [h]
theorem ZbC {Ss:List Sh}{Ts:List Tm}{B:Bk}{FF:Nat->List Zy_} (h:i < B.os.length) (hn:Zmq Ss Ts B.os B.now B.os[i] (FF i)=false):Zas Ss Ts B FF=false:=by
 unfold Zas;rw [ZaZ h (show ZqE Ss Ts B FF i=false by rw [Zh4 h];exact hn),Bool.and_false,Bool.and_false]
theorem Zh5 {Ss:List Sh}{Ts:List Tm}{B:Bk}{FF:Nat->List Zy_} (hl:B.os.length<=40) (hr:ZdN Zgv B.os=true) (h:∀ i,i < B.os.length->ZqE Ss Ts B FF i=true):Zas Ss Ts B FF=true:=by
 unfold Zas;rw [decide_eq_true hl,hr,Za1 h]
 rfl
theorem ZmE {p:Nat->Bool}{m:Nat} (h:∀ j,j < m->p j=true) (hm:p m=true):∀ j,j < m+1->p j=true:=fun j hj=>by
 by_cases e:j=m
 . subst e;exact hm
 . exact h j (by omega)
def Zcw (Ss:List Sh) (Ms:List Md) (Os:List Ob) (FF:Nat->List Zy_):Prop:=∀ i (h:i < Os.length),ZcF Ss Ms Os[i].kd Os[i].vs (FF i)
section
variable (lo:Nat) (sv mv tv ov gv lv pv:Value) (Ss:List Sh) (Ms:List Md) (Ts:List Tm) (B:Bk) (FF:Nat->List Zy_) (w:World)
theorem ZhS (hl:ZbH lo w sv mv tv Ss Ms Ts) (hmb:Zax Ss Ms=true) (h:ZaU lo w ov gv lv pv B) (hn:Zbg B.os) (hsh:Zcw Ss Ms B.os FF) :
 Calls prog 181 #[.agg #[sv,mv,tv],.agg #[.int .i64 B.now,.int .i64 B.tick,.int .i64 B.given,ov,gv,lv,pv]] w fun e w'=>e=.returned (.bool (Zas Ss Ts B FF))/\Zw_ w w':=by
 have HL:=Zab hl;have HK:=Zab h;have HMB:=Zab hmb;have HN:=Zab hn;have HSH:=Zab hsh;obtain⟨sa,sc,rfl⟩:=hl.shs.form;obtain⟨ma,mc,rfl⟩:=hl.mds.form;obtain⟨ta,tc,rfl⟩:=hl.tms.form;obtain⟨a0,k0,rfl⟩:=h.obs.form;obtain⟨a1,k1,rfl⟩:=h.grs.form;obtain⟨a2,k2,rfl⟩:=h.les.form;obtain⟨a3,k3,rfl⟩:=h.pus.form;have HI:Hd (Zas Ss Ts B FF=(decide (B.os.length<=40)&&(ZdN Zgv B.os&&(List.range B.os.length).all (ZqE Ss Ts B FF)))):=rfl;clear hl hmb h hn hsh
 by_cases hl:B.os.length<=40
 case neg=>
  have HE:Hd (Zas Ss Ts B FF=false):=by unfold Hd;rw [HI.o,decide_eq_false hl];rfl
  have hgt:decide ((40:Int) < (B.os.length:Int))=true:=by simp;omega
  go_enter func181,ntmps181;go_wp2;go_ret;exact⟨Zaa HE.o.symm,(Zac w _).alloc (by simp) _⟩
 have hgt:decide ((40:Int) < (B.os.length:Int))=false:=by simp;omega
 go_enter func181,ntmps181;go_wp2_with fail;generalize hWa:(World.alloc (w.alloc _) _)=Wa;have HB:Hd (Zw_ w Wa):=by rw [<- hWa];exact (Zac w _).alloc (by simp) _
 have HX:Hd (Box Wa w.heap.size #[.slice sa Ss.length sc,.slice ma Ms.length mc,.slice ta Ts.length tc]):=by rw [<- hWa];exact (Box.new _ _ _ _ rfl).on (Zac _ _)
 have HY:Hd (Box Wa (w.heap.size+1) #[.int .i64 B.now,.int .i64 B.tick,.int .i64 B.given,.slice a0 B.os.length k0,.slice a1 B.gs.length k1,.slice a2 B.ls.length k2,.slice a3 B.ps.length k3]):=by rw [<- hWa];exact Box.new _ _ _ _ (by simp)
 clear hWa;refine (Znx lo _ B.os _ (HK.o.obs.below HB.o)).mono ?_;rintro e w1 ⟨rfl,hb1⟩;have HB1:Hd (Zw_ w w1):=HB.o.trans (hb1.mono HB.o.size);have HX1:=Zab (HX.o.on hb1);have HY1:=Zab (HY.o.on hb1);clear hb1 HB HX HY
 cases hr:ZdN Zgv B.os with
 | false=>
  have HE:Hd (Zas Ss Ts B FF=false):=by unfold Hd;rw [HI.o,hr,decide_eq_true hl];rfl
  go_wp2;go_ret;exact⟨Zaa HE.o.symm,HB1.o⟩
 | true=>
  have z3:=HY1.o.cell 3;simp at z3;go_wp2_with fail;refine (ZoG lo _ B.os _ (HK.o.obs.below HB1.o) HN.o.1).mono ?_;rintro e w2 ⟨rfl,hb2,D,ho,hpl⟩;have HB2:Hd (Zw_ w w2):=HB1.o.trans (hb2.mono HB1.o.size);have HX2:=Zab (HX1.o.on hb2);have HY2:=Zab (HY1.o.on hb2);have HO2:=Zab ho;have HPL:=Zab hpl;clear hb2 ho hpl z3 HB1 HX1 HY1;generalize w1.heap.size=pb at*;have z3:=HY2.o.cell 3;simp at z3;go_wp2;clear z3
  go_loopw [26] (fun i wr=>∃ k:Nat,i=.int .i64 k/\k<=B.os.length/\Zw_ w wr/\Box wr w.heap.size #[.slice sa Ss.length sc,.slice ma Ms.length mc,.slice ta Ts.length tc]/\Box wr (w.heap.size+1) #[.int .i64 B.now,.int .i64 B.tick,.int .i64 B.given,.slice a0 B.os.length k0,.slice a1 B.gs.length k1,.slice a2 B.ls.length k2,.slice a3 B.ps.length k3]/\wr.ownsMap prog 153 (plainElem prog 3) pb B.os.length D/\∀ j,j < k->ZqE Ss Ts B FF j=true) (fun i _=>B.os.length - (intOf i).toNat)
  case atStart=>exact⟨0,rfl,Nat.zero_le _,HB2.o,HX2.o,HY2.o,HO2.o,fun j h=>by omega⟩
  case round=>
   obtain⟨k,rfl,hk,hb,hx,hy,ho,hall⟩:=hrel;have HBr:=Zab hb;have HXr:=Zab hx;have HYr:=Zab hy;have HOr:=Zab ho;have HA:=Zab hall;clear hb hx hy ho hall HB2 HX2 HY2 HO2
   by_cases hlt:k < B.os.length
   . obtain⟨b,off,rfl,hbw,-,hc⟩:=HK.o.obs.full' (by omega)
     obtain⟨hs,vv0,vv1,hcell,hv0,hv1⟩:=hc k hlt;obtain⟨c0,c1,c2,c3,c4,c5,c6⟩:=hcell.below HBr.o hbw;have HZ:=Zab hs;have HV:=Zab hv0.at;have HH:=Zab hv1.at;obtain⟨va,vcap,rfl⟩:=hv0.at.form';obtain⟨ha,hcap,rfl⟩:=hv1.at.form';have HQ:=Zab (Zh4 (Ss:=Ss) (Ts:=Ts) (FF:=FF) hlt);have n1:B.os[k].vs.length<=1048576:=(HN.o.2 k hlt).1;have n2:B.os[k].hs.length<=1048576:=(HN.o.2 k hlt).2;have x0:=HXr.o.cell 0;simp at x0;have xlt:=HXr.o.lt;have x0:∀ o,(wr.alloc o).cell? ⟨w.heap.size,0,none⟩=some (.slice sa Ss.length sc):=fun o=>(Zaj _ _ _ _ xlt).trans x0
     clear hc hcell hs hv0 hv1 xlt;go_wp2_with fail;generalize hWb:wr.alloc _=Wb;have hbb:Below wr.heap.size wr Wb:=by rw [<- hWb];exact Zac _ _
     have HBb:Hd (Zw_ w Wb):=HBr.o.trans (hbb.mono HBr.o.size);have HXb:=Zab (HXr.o.on hbb);have HYb:=Zab (HYr.o.on hbb);have HOb:=Zab (HOr.o.kept (ZaC hbb) (by simp));have HPb:Hd (Box Wb wr.heap.size #[.string B.os[k].kd,.string B.os[k].nm,.string B.os[k].tm,.slice va B.os[k].vs.length vcap,.bool B.os[k].en,.slice ha B.os[k].hs.length hcap,.int .i64 B.os[k].ver]):=by rw [<- hWb];exact Box.new _ _ _ _ rfl
     clear hWb x0 hbb c0 c1 c2 c3 c4 c5 c6 HXr HYr HOr;generalize hβ:wr.heap.size=β at*;refine (ZdD lo _ Ss _ w _ HL.o.shs HBb.o).mono ?_;rintro e w3 ⟨hb3,hq⟩;have HB3:Hd (Zw_ w w3):=HBb.o.trans (hb3.mono HBb.o.size);have HX3:=Zab (HXb.o.on hb3);have HY3:=Zab (HYb.o.on hb3);have HP3:=Zab (HPb.o.on hb3);have HO3:=Zab (HOb.o.kept (ZaC hb3) (by simp));clear hb3 HBb HXb HYb HPb HOb
     rcases hq with ⟨x,fv,hsh,rfl,hF⟩ | ⟨hno,rfl⟩
     . have HF:=Zab hF
       have HXS:=Zab hsh;have HOS:=Zab (Zfb (Ts:=Ts) (Os:=B.os) (now:=B.now) (F:=FF k) hsh);obtain⟨fa,fcap,rfl⟩:=hF.form;clear hF hsh;have p0:∀ i o,(w3.alloc o).cell? ⟨w.heap.size,i,none⟩=#[Value.slice sa Ss.length sc,.slice ma Ms.length mc,.slice ta Ts.length tc][i]?:=fun i o=>(Zaj _ _ _ _ HX3.o.lt).trans (HX3.o.cell i)
       have p1:∀ i o,(w3.alloc o).cell? ⟨β,i,none⟩=#[Value.string B.os[k].kd,.string B.os[k].nm,.string B.os[k].tm,.slice va B.os[k].vs.length vcap,.bool B.os[k].en,.slice ha B.os[k].hs.length hcap,.int .i64 B.os[k].ver][i]?:=fun i o=>(Zaj _ _ _ _ HP3.o.lt).trans (HP3.o.cell i)
       go_wp2_with fail;generalize hWc:w3.alloc _=Wc;have hbc:Below w3.heap.size w3 Wc:=by rw [<- hWc];exact Zac _ _
       have HBc:Hd (Zw_ w Wc):=HB3.o.trans (hbc.mono HB3.o.size);have HXc:=Zab (HX3.o.on hbc);have HYc:=Zab (HY3.o.on hbc);have HPc:=Zab (HP3.o.on hbc);have HOc:=Zab (HO3.o.kept (ZaC hbc) (by simp));have HSc:Hd (Box Wc w3.heap.size #[.string x.kind,.slice fa x.fields.length fcap]):=by rw [<- hWc];exact Box.new _ _ _ _ rfl
       clear hWc p0 p1 hbc HX3 HY3 HP3 HO3;generalize hγ:w3.heap.size=γ at*;refine (Zld lo _ _ _ _ _ _ Ss Ms Ts x B.os[k] (FF k) _ (HL.o.below HBc.o) HMB.o HXS.o (HF.o.below HBc.o) (HV.o.below HBc.o) (HH.o.below HBc.o) HZ.o n2 (HSH.o k hlt)).mono ?_;rintro e w5 ⟨rfl,hb5⟩;have HB5:Hd (Zw_ w w5):=HBc.o.trans (hb5.mono HBc.o.size);have HX5:=Zab (HXc.o.on hb5);have HY5:=Zab (HYc.o.on hb5);have HP5:=Zab (HPc.o.on hb5);have HS5:=Zab (HSc.o.on hb5);have HO5:=Zab (HOc.o.kept (ZaC hb5) (by simp));clear hb5 HBc HXc HYc HPc HSc HOc
       cases h1:Zcx Ts x.fields B.os[k] (FF k) with
       | false=>
        have HE:Hd (Zas Ss Ts B FF=false):=ZbC hlt (by rw [HOS.o,h1];rfl);go_wp2;go_ret;exact⟨Zaa HE.o.symm,HB5.o⟩
       | true=>
        have y0:=HY5.o.cell 0;have q6:=HP5.o.cell 6;simp at y0 q6
        cases h2:inB 1 B.now B.os[k].ver with
        | false=>
         have HE:Hd (Zas Ss Ts B FF=false):=ZbC hlt (by rw [HOS.o,h2,Bool.false_and,Bool.and_false]);go_wp2_with (go_at_call 209;refine (ZaR _ _ _ _).mono ?_;rintro e w' ⟨rfl,rfl⟩);go_ret;exact⟨Zaa HE.o.symm,HB5.o⟩
        | true=>
         have q0:=HP5.o.cell 0;have q1:=HP5.o.cell 1;have q2:=HP5.o.cell 2;have q3:=HP5.o.cell 3;have q4:=HP5.o.cell 4;have q5:=HP5.o.cell 5;have r0:=HS5.o.cell 0;have r1:=HS5.o.cell 1;simp at q0 q1 q2 q3 q4 q5 r0 r1
         have HLEN:Hd (x.fields.length=B.os[k].vs.length):=by
          unfold Hd;have h3:=h1;unfold Zcx at h3;rw [Bool.and_eq_true] at h3;exact (Ze6 (of_decide_eq_true h3.1)).symm
         cases h3:ZiJ B.os x.fields B.os[k].vs with
         | false=>
          have HE:Hd (Zas Ss Ts B FF=false):=ZbC hlt (by rw [HOS.o,h3,Bool.and_false,Bool.and_false]);go_wp2_with (first|(go_at_call 209;refine (ZaR _ _ _ _).mono ?_;rintro e w' ⟨rfl,rfl⟩)|(go_at_call 213;refine (Znl lo x.kind _ x.fields B.os[k].kd B.os[k].nm B.os[k].tm _ _ B.os[k].en B.os[k].ver B.os[k].vs B.os[k].hs B.os _ (HF.o.below HB5.o) (HV.o.below HB5.o) (HH.o.below HB5.o) HLEN.o n1 HO5.o HPL.o).mono ?_;rintro e w6 ⟨rfl,hb6⟩));have HB6:Hd (Zw_ w w6):=HB5.o.trans (hb6.mono HB5.o.size);go_ret;exact⟨Zaa HE.o.symm,HB6.o⟩
         | true=>
          have HT:Hd (ZqE Ss Ts B FF k=true):=by unfold Hd;rw [HQ.o,HOS.o,h1,h2,h3];rfl
          go_wp2_with (first|(go_at_call 209;refine (ZaR _ _ _ _).mono ?_;rintro e w' ⟨rfl,rfl⟩)|(go_at_call 213;refine (Znl lo x.kind _ x.fields B.os[k].kd B.os[k].nm B.os[k].tm _ _ B.os[k].en B.os[k].ver B.os[k].vs B.os[k].hs B.os _ (HF.o.below HB5.o) (HV.o.below HB5.o) (HH.o.below HB5.o) HLEN.o n1 HO5.o HPL.o).mono ?_;rintro e w6 ⟨rfl,hb6⟩));have HB6:Hd (Zw_ w w6):=HB5.o.trans (hb6.mono HB5.o.size);have HX6:=Zab (HX5.o.on hb6);have HY6:=Zab (HY5.o.on hb6);have HO6:=Zab (HO5.o.kept (ZaC hb6) (by simp));clear hb6 HX5 HY5 HP5 HS5 HO5 y0 q0 q1 q2 q3 q4 q5 q6 r0 r1;go_roundw
          . exact⟨k+1,by go_num,by omega,HB6.o,HX6.o,HY6.o,HO6.o,ZmE HA.o HT.o⟩
          . simp [intOf];omega
     . have HE:Hd (Zas Ss Ts B FF=false):=ZbC hlt (ZgE hno)
       have HB4:∀ o,Hd (Zw_ w (w3.alloc o)):=fun o=>HB3.o.trans ((Zac _ _).mono HB3.o.size)
       go_wp2;go_ret;exact⟨Zaa HE.o.symm,(HB4 _).o⟩
   . have HT:Hd (Zas Ss Ts B FF=true):=Zh5 hl hr (fun i hi=>HA.o i (by omega))
     go_wp2;go_ret;exact⟨Zaa HT.o.symm,HBr.o⟩
end
end Go.Proofs.YtmappejlmapboaaGreat
