import Derived.Test.YtmappejlmapboaaGreatV05
set_option maxHeartbeats 16000000
set_option maxRecDepth 100000
open Go.Proofs.Tryz
namespace Go.Proofs.YtmappejlmapboaaGreat
open Go.RowKit Go.Deep
variable {Ss:List Sh} {k:Nat} {Fs:List Fd}
theorem Zbr (hk:k < Ss.length) (h:Za0 Ss k=false):ZaE Ss=false:=by
 unfold ZaE;rw [ZaV hk h];simp
theorem ZbA (hk:k < Fs.length) (h:Zbu Ss Fs k=false):Zaz Ss Fs=false:=by
 unfold Zaz;rw [ZaV hk h];simp
theorem ZfH (h:¬ Fs.length<=6):Zaz Ss Fs=false:=by
 unfold Zaz;simp [h]
theorem Zdj (h:Fs.length<=6) (hall:∀ i,i < Fs.length->Zbu Ss Fs i=true):Zaz Ss Fs=true:=by
 unfold Zaz;rw [ZaY hall];simp [h]
theorem Zhp (lo:Nat) (v:Value) (Ss:List Sh) (w:World) (hv:ZaH lo w v Ss) :
 Calls prog 166 #[v] w fun e w'=>e=.returned (.bool (ZaE Ss))/\Zw_ w w':=by
 have HL:=Zab hv
 by_cases hL:Ss=[]
 . subst hL
   obtain⟨a,cap,rfl⟩:=hv.form;clear hv;go_enter func166,ntmps166;go_wp2
   go_loop [3] (fun i=>i=.int .i64 0) (fun _=>0)
   case atStart=>rfl
   case round=>
    subst hrel;go_wp2;go_ret;exact⟨rfl,Below.refl _ _⟩
 obtain⟨b,off,cap,rfl,hm,hbw,hc⟩:=hv.full hL;clear hv;unfold maxLen at hm
 by_cases h6:(Ss.length:Int)<=6
 . go_enter func166,ntmps166
   go_wp2
   go_loopw [3] (fun i wr=>∃ k:Nat,i=.int .i64 k/\k<=Ss.length/\Zw_ w wr/\∀ i,i < k->Za0 Ss i=true) (fun i _=>Ss.length - (intOf i).toNat)
   case atStart=>exact⟨0,rfl,by omega,Below.refl _ _,fun i h=>by omega⟩
   case round=>
    obtain⟨k,rfl,hk,hb,hall⟩:=hrel;have HA:=Zab hall;have HB:=Zab hb;clear hall hb;obtain⟨wo,rfl⟩:∃ wo:World,wo=wr:=⟨_,rfl⟩
    by_cases hlt:k < Ss.length
    . obtain⟨hsz,fv,d0,d1,hst⟩:=hc k hlt
      have c0:wo.cell? ⟨b,off+k*2,none⟩=some (.string Ss[k].kind):=by rw [HB.o.cell (p:=⟨b,_,none⟩) hbw];exact d0
      have c1:wo.cell? ⟨b,off+k*2+1,none⟩=some fv:=by rw [HB.o.cell (p:=⟨b,_,none⟩) hbw];exact d1
      have HST:=Zab hst;obtain⟨fa,fcap,rfl⟩:=hst.form;clear d0 d1 hst
      cases hnm:Zap Ss[k].kind with
      | false=>
       have HN:Hd (ZaE Ss=false):=by
        unfold Hd;refine Zbr hlt ?_
        cases k with
        | zero=>rw [Zcv hlt,hnm];rfl
        | succ j=>rw [ZbC hlt,hnm];rfl
       go_wp2
       go_quiet ((go_at_call 132;exact Calls.quiet_of_same (Zae _ _ hsz)))
       go_wp2;go_ret;exact⟨Zaa HN.o.symm,below_drewN (HB.o.alloc HB.o.size _) _⟩
      | true=>
       cases k with
       | zero=>
        have HEQ:Hd (Za0 Ss 0=Zaz Ss Ss[0].fields):=by unfold Hd;rw [Zcv hlt,hnm];rfl
        have c0':wo.cell? ⟨b,off,none⟩=some (.string Ss[0].kind):=by simpa using c0
        have c1':wo.cell? ⟨b,off+1,none⟩=some (.slice fa Ss[0].fields.length fcap):=by simpa using c1
        clear c0 c1
        by_cases h6f:Ss[0].fields.length<=6
        . have h6i:(Ss[0].fields.length:Int)<=6:=by omega
          by_cases hF:Ss[0].fields=[]
          . have hl0:Ss[0].fields.length<=0:=by rw [hF];simp
            clear hF;have hO:Hd (Below (wo.heap.size+1) (wo.alloc (.cells #[.string Ss[0].kind,.slice fa Ss[0].fields.length fcap] 131)) (wo.alloc (.cells #[.string Ss[0].kind,.slice fa Ss[0].fields.length fcap] 131))):=Below.refl _ _;go_wp2
            go_quiet ((go_at_call 132;exact Calls.quiet_of_same (Zae _ _ hsz)))
            try simp only [hnm]
            go_wp2
            go_loopw [5] (fun i u=>∃ q:Nat,i=.int .i64 q/\q<=Ss[0].fields.length/\Below (wo.heap.size+1) (wo.alloc (.cells #[.string Ss[0].kind,.slice fa Ss[0].fields.length fcap] 131)) u/\∀ i,i < q->Zbu Ss Ss[0].fields i=true) (fun i _=>Ss[0].fields.length - (intOf i).toNat)
            case atStart=>exact⟨0,rfl,by omega,below_drewN hO.o _,fun i h=>by omega⟩
            case round=>
             obtain⟨q,rfl,hq,hbu,hallq⟩:=hrel;have HAQ:=Zab hallq;have HBX:=Zab hbu;have hbx:=fun i=>ZaK wo wr _ 131 hbu i
             have HBU:Hd (Zw_ w wr):=HB.o.trans (((Zb_.alloc Zl_ _).mono HB.o.size).trans (hbu.mono (by have:=HB.o.size;omega)));clear hallq hbu;obtain⟨wi,rfl⟩:∃ wi:World,wi=wr:=⟨_,rfl⟩
             by_cases hql:q < Ss[0].fields.length
             . omega
             . go_wp2
               have HSH:Za0 Ss (0)=true:=by rw [HEQ.o];exact Zdj h6f (fun i hi=>HAQ.o i (by omega))
               go_roundw
               . 
                have hnx:∀ i,i < 0+1->Za0 Ss i=true:=fun i hi=>by
                 by_cases e:i=0
                 . rw [e];exact HSH
                 . exact HA.o i (by omega)
                first
                 | exact⟨0+1,by go_num,by omega,HBU.o,hnx⟩
                 | ((repeat apply Exists.intro);exact⟨⟨0+1,by go_num,by omega,HBU.o,hnx⟩,rfl⟩)
               . simp [intOf];omega
          . obtain⟨fb,fo,fcap',hfe,_,hfb,_,hfc⟩:=(HST.o.below HB.o).full hF
            simp only [Value.slice.injEq,true_and] at hfe;obtain⟨rfl,rfl⟩:=hfe;have hO:Hd (Below (wo.heap.size+1) (wo.alloc (.cells #[.string Ss[0].kind,.slice (some ⟨fb,fo,none⟩) Ss[0].fields.length fcap] 131)) (wo.alloc (.cells #[.string Ss[0].kind,.slice (some ⟨fb,fo,none⟩) Ss[0].fields.length fcap] 131))):=Below.refl _ _;go_wp2
            go_quiet ((go_at_call 132;exact Calls.quiet_of_same (Zae _ _ hsz)))
            try simp only [hnm]
            go_wp2
            go_loopw [5] (fun i u=>∃ q:Nat,i=.int .i64 q/\q<=Ss[0].fields.length/\Below (wo.heap.size+1) (wo.alloc (.cells #[.string Ss[0].kind,.slice (some ⟨fb,fo,none⟩) Ss[0].fields.length fcap] 131)) u/\∀ i,i < q->Zbu Ss Ss[0].fields i=true) (fun i _=>Ss[0].fields.length - (intOf i).toNat)
            case atStart=>exact⟨0,rfl,by omega,below_drewN hO.o _,fun i h=>by omega⟩
            case round=>
             obtain⟨q,rfl,hq,hbu,hallq⟩:=hrel;have HAQ:=Zab hallq;have HBX:=Zab hbu;have hbx:=fun i=>ZaK wo wr _ 131 hbu i
             have HBU:Hd (Zw_ w wr):=HB.o.trans (((Zb_.alloc Zl_ _).mono HB.o.size).trans (hbu.mono (by have:=HB.o.size;omega)));clear hallq hbu;obtain⟨wi,rfl⟩:∃ wi:World,wi=wr:=⟨_,rfl⟩
             by_cases hql:q < Ss[0].fields.length
             . obtain⟨hzz,wv,hcell,hws⟩:=hfc q hql
               have HBW:Hd (Below wo.heap.size wo wi):=(Zb_.alloc Zl_ _).trans (HBX.o.mono (by omega));obtain⟨x0,x1,x2,x3,x4,x5,x6,x7,x8,x9,x10⟩:=hcell.below HBW.o hfb;clear hcell;go_wp2_with fail;refine (Zfq lo _ Ss Ss[0].fields[q] _ _ (HL.o.below HBU.o) (hws.at.below HBW.o) hzz).mono ?_;rintro e w1 ⟨rfl,hb1⟩;have HB1:Hd (Zw_ w w1):=HBU.o.trans (hb1.mono HBU.o.size);have HBX1:Hd (Below (wo.heap.size+1) (wo.alloc (.cells #[.string Ss[0].kind,.slice (some ⟨fb,fo,none⟩) Ss[0].fields.length fcap] 131)) w1):=HBX.o.trans (hb1.mono (by have:=HBX.o.size;simp at this;omega));clear hb1 hbx x0 x1 x2 x3 x4 x5 x6 x7 x8 x9 x10
               cases hfl:(Zap Ss[0].fields[q].nm&&ZdG Ss Ss[0].fields[q]) with
               | false=>
                have HN:Hd (ZaE Ss=false):=Zbr hlt (by rw [HEQ.o];exact ZbA hql (by rw [ZaG hql,hfl];rfl));go_wp2;go_ret;exact⟨Zaa HN.o.symm,HB1.o⟩
               | true=>
                go_wp2
                go_loopw [6] (fun i u=>∃ p:Nat,i=.int .i64 p/\p<=q/\Below (wo.heap.size+1) (wo.alloc (.cells #[.string Ss[0].kind,.slice (some ⟨fb,fo,none⟩) Ss[0].fields.length fcap] 131)) u/\∀ j (hj:j < Ss[0].fields.length),j < p->(Ss[0].fields[j].nm.toList == Ss[0].fields[q].nm.toList)=false) (fun i _=>q - (intOf i).toNat)
                case atStart=>exact⟨0,rfl,by omega,HBX1.o,fun j _ h=>by omega⟩
                case round=>
                 obtain⟨p,rfl,hp,hbu,hallp⟩:=hrel;have HAP:=Zab hallp;have HBX2:=Zab hbu;have hbx:=fun i=>ZaK wo wr _ 131 hbu i
                 have HBU2:Hd (Zw_ w wr):=HB.o.trans (((Zb_.alloc Zl_ _).mono HB.o.size).trans (hbu.mono (by have:=HB.o.size;omega)));have HBW2:Hd (Below wo.heap.size wo wr):=(Zb_.alloc Zl_ _).trans (hbu.mono (by omega));clear hallp hbu
                 by_cases hpq:p < q
                 . obtain⟨_,wvp,hcp,_⟩:=hfc p (by omega)
                   obtain⟨_,wvq,hcq,_⟩:=hfc q hql;have y0:=(hcp.below HBW2.o hfb).c0;have z0:=(hcq.below HBW2.o hfb).c0;clear hcp hcq;have hpl:p < Ss[0].fields.length:=by omega
                   cases heq:(Ss[0].fields[p].nm.toList == Ss[0].fields[q].nm.toList) with
                   | true=>
                    have HN:Hd (ZaE Ss=false):=Zbr hlt (by rw [HEQ.o];exact ZbA hql (by rw [ZaG hql,Zgl hpl hpq heq];simp));go_wp2
                    go_quiet (fail)
                    go_wp2;go_ret;exact⟨Zaa HN.o.symm,below_drewN HBU2.o _⟩
                   | false=>
                    go_wp2
                    go_quiet (fail)
                    go_wp2;go_roundw
                    case rel=>exact⟨p+1,by go_num,by omega,below_drewN HBX2.o _,fun j hj h=>by
                               by_cases e:j=p
                               . subst e;exact heq
                               . exact HAP.o j hj (by omega)⟩
                    . simp [intOf];omega
                 . have HFA:Hd (Zbu Ss Ss[0].fields q=true):=by
                    unfold Hd;rw [ZaG hql,hfl,Zig (fun j hj h=>HAP.o j hj (by omega))];rfl
                   go_wp2;go_roundw
                   . 
                    have hnx:∀ i,i < q+1->Zbu Ss Ss[0].fields i=true:=fun i hi=>by
                     by_cases e:i=q
                     . rw [e];exact HFA.o
                     . exact HAQ.o i (by omega)
                    first
                     | exact⟨q+1,by go_num,by omega,HBX2.o,hnx⟩
                     | ((repeat apply Exists.intro);exact⟨⟨q+1,by go_num,by omega,HBX2.o,hnx⟩,rfl⟩)
                   . simp [intOf];omega
             . go_wp2
               have HSH:Za0 Ss (0)=true:=by rw [HEQ.o];exact Zdj h6f (fun i hi=>HAQ.o i (by omega))
               go_roundw
               . 
                have hnx:∀ i,i < 0+1->Za0 Ss i=true:=fun i hi=>by
                 by_cases e:i=0
                 . rw [e];exact HSH
                 . exact HA.o i (by omega)
                first
                 | exact⟨0+1,by go_num,by omega,HBU.o,hnx⟩
                 | ((repeat apply Exists.intro);exact⟨⟨0+1,by go_num,by omega,HBU.o,hnx⟩,rfl⟩)
               . simp [intOf];omega
        . have HN:Hd (ZaE Ss=false):=Zbr hlt (by rw [HEQ.o];exact ZfH h6f)
          have h6i:¬ (Ss[0].fields.length:Int)<=6:=by omega
          go_wp2
          go_quiet ((go_at_call 132;exact Calls.quiet_of_same (Zae _ _ hsz)))
          go_wp2;go_ret;exact⟨Zaa HN.o.symm,below_drewN (HB.o.alloc HB.o.size _) _⟩
       | succ jj=>
        obtain⟨_,fvj,dj,_,_⟩:=hc jj (by omega);have cj:wo.cell? ⟨b,off+jj*2,none⟩=some (.string Ss[jj].kind):=by rw [HB.o.cell (p:=⟨b,_,none⟩) hbw];exact dj
        clear dj;have hjw:IntKind.i64.wrap (jj:Int)=jj:=by rw [IntKind.wrap_i64];omega
        have hjl:jj < Ss.length:=by omega
        have hdl:decide ((jj:Int)+1 < (Ss.length:Int))=true:=by simp;omega
        have hbo:b < wo.heap.size:=Zk_ hbw HB.o.size
        have cj2:∀ o,(wo.alloc o).cell? ⟨b,off+jj*2,none⟩=some (.string Ss[jj].kind):=fun o=>by rw [((Below.refl wo.heap.size wo).alloc Zl_ o).cell (p:=⟨b,_,none⟩) hbo];exact cj
        have cj3:∀ o n,((wo.alloc o).drewN n).cell? ⟨b,off+jj*2,none⟩=some (.string Ss[jj].kind):=fun o n=>cj2 o
        cases hls:Op.bytesLess Ss[jj].kind.toList Ss[jj+1].kind.toList with
        | false=>
         have HN:Hd (ZaE Ss=false):=Zbr hlt (by rw [ZbC hlt,hls];simp);go_wp2
         go_quiet ((go_at_call 132;exact Calls.quiet_of_same (Zae _ _ hsz)))
         go_wp2;go_ret;exact⟨Zaa HN.o.symm,below_drewN (HB.o.alloc HB.o.size _) _⟩
        | true=>
         have HEQ:Hd (Za0 Ss (jj+1)=Zaz Ss Ss[jj+1].fields):=by unfold Hd;rw [ZbC hlt,hnm,hls];rfl
         by_cases h6f:Ss[jj+1].fields.length<=6
         . have h6i:(Ss[jj+1].fields.length:Int)<=6:=by omega
           by_cases hF:Ss[jj+1].fields=[]
           . have hl0:Ss[jj+1].fields.length<=0:=by rw [hF];simp
             clear hF;have hO:Hd (Below (wo.heap.size+1) (wo.alloc (.cells #[.string Ss[jj+1].kind,.slice fa Ss[jj+1].fields.length fcap] 131)) (wo.alloc (.cells #[.string Ss[jj+1].kind,.slice fa Ss[jj+1].fields.length fcap] 131))):=Below.refl _ _;go_wp2
             go_quiet ((go_at_call 132;exact Calls.quiet_of_same (Zae _ _ hsz)))
             try simp only [hnm]
             go_wp2
             go_loopw [5] (fun i u=>∃ q:Nat,i=.int .i64 q/\q<=Ss[jj+1].fields.length/\Below (wo.heap.size+1) (wo.alloc (.cells #[.string Ss[jj+1].kind,.slice fa Ss[jj+1].fields.length fcap] 131)) u/\∀ i,i < q->Zbu Ss Ss[jj+1].fields i=true) (fun i _=>Ss[jj+1].fields.length - (intOf i).toNat)
             case atStart=>exact⟨0,rfl,by omega,below_drewN hO.o _,fun i h=>by omega⟩
             case round=>
              obtain⟨q,rfl,hq,hbu,hallq⟩:=hrel;have HAQ:=Zab hallq;have HBX:=Zab hbu;have hbx:=fun i=>ZaK wo wr _ 131 hbu i
              have HBU:Hd (Zw_ w wr):=HB.o.trans (((Zb_.alloc Zl_ _).mono HB.o.size).trans (hbu.mono (by have:=HB.o.size;omega)));clear hallq hbu;obtain⟨wi,rfl⟩:∃ wi:World,wi=wr:=⟨_,rfl⟩
              by_cases hql:q < Ss[jj+1].fields.length
              . omega
              . go_wp2
                have HSH:Za0 Ss (jj+1)=true:=by rw [HEQ.o];exact Zdj h6f (fun i hi=>HAQ.o i (by omega))
                go_roundw
                . 
                 have hnx:∀ i,i < jj+1+1->Za0 Ss i=true:=fun i hi=>by
                  by_cases e:i=jj+1
                  . rw [e];exact HSH
                  . exact HA.o i (by omega)
                 first
                  | exact⟨jj+1+1,by go_num,by omega,HBU.o,hnx⟩
                  | ((repeat apply Exists.intro);exact⟨⟨jj+1+1,by go_num,by omega,HBU.o,hnx⟩,rfl⟩)
                . simp [intOf];omega
           . obtain⟨fb,fo,fcap',hfe,_,hfb,_,hfc⟩:=(HST.o.below HB.o).full hF
             simp only [Value.slice.injEq,true_and] at hfe;obtain⟨rfl,rfl⟩:=hfe;have hO:Hd (Below (wo.heap.size+1) (wo.alloc (.cells #[.string Ss[jj+1].kind,.slice (some ⟨fb,fo,none⟩) Ss[jj+1].fields.length fcap] 131)) (wo.alloc (.cells #[.string Ss[jj+1].kind,.slice (some ⟨fb,fo,none⟩) Ss[jj+1].fields.length fcap] 131))):=Below.refl _ _;go_wp2
             go_quiet ((go_at_call 132;exact Calls.quiet_of_same (Zae _ _ hsz)))
             try simp only [hnm]
             go_wp2
             go_loopw [5] (fun i u=>∃ q:Nat,i=.int .i64 q/\q<=Ss[jj+1].fields.length/\Below (wo.heap.size+1) (wo.alloc (.cells #[.string Ss[jj+1].kind,.slice (some ⟨fb,fo,none⟩) Ss[jj+1].fields.length fcap] 131)) u/\∀ i,i < q->Zbu Ss Ss[jj+1].fields i=true) (fun i _=>Ss[jj+1].fields.length - (intOf i).toNat)
             case atStart=>exact⟨0,rfl,by omega,below_drewN hO.o _,fun i h=>by omega⟩
             case round=>
              obtain⟨q,rfl,hq,hbu,hallq⟩:=hrel;have HAQ:=Zab hallq;have HBX:=Zab hbu;have hbx:=fun i=>ZaK wo wr _ 131 hbu i
              have HBU:Hd (Zw_ w wr):=HB.o.trans (((Zb_.alloc Zl_ _).mono HB.o.size).trans (hbu.mono (by have:=HB.o.size;omega)));clear hallq hbu;obtain⟨wi,rfl⟩:∃ wi:World,wi=wr:=⟨_,rfl⟩
              by_cases hql:q < Ss[jj+1].fields.length
              . obtain⟨hzz,wv,hcell,hws⟩:=hfc q hql
                have HBW:Hd (Below wo.heap.size wo wi):=(Zb_.alloc Zl_ _).trans (HBX.o.mono (by omega));obtain⟨x0,x1,x2,x3,x4,x5,x6,x7,x8,x9,x10⟩:=hcell.below HBW.o hfb;clear hcell;go_wp2_with fail;refine (Zfq lo _ Ss Ss[jj+1].fields[q] _ _ (HL.o.below HBU.o) (hws.at.below HBW.o) hzz).mono ?_;rintro e w1 ⟨rfl,hb1⟩;have HB1:Hd (Zw_ w w1):=HBU.o.trans (hb1.mono HBU.o.size);have HBX1:Hd (Below (wo.heap.size+1) (wo.alloc (.cells #[.string Ss[jj+1].kind,.slice (some ⟨fb,fo,none⟩) Ss[jj+1].fields.length fcap] 131)) w1):=HBX.o.trans (hb1.mono (by have:=HBX.o.size;simp at this;omega));clear hb1 hbx x0 x1 x2 x3 x4 x5 x6 x7 x8 x9 x10
                cases hfl:(Zap Ss[jj+1].fields[q].nm&&ZdG Ss Ss[jj+1].fields[q]) with
                | false=>
                 have HN:Hd (ZaE Ss=false):=Zbr hlt (by rw [HEQ.o];exact ZbA hql (by rw [ZaG hql,hfl];rfl));go_wp2;go_ret;exact⟨Zaa HN.o.symm,HB1.o⟩
                | true=>
                 go_wp2
                 go_loopw [6] (fun i u=>∃ p:Nat,i=.int .i64 p/\p<=q/\Below (wo.heap.size+1) (wo.alloc (.cells #[.string Ss[jj+1].kind,.slice (some ⟨fb,fo,none⟩) Ss[jj+1].fields.length fcap] 131)) u/\∀ j (hj:j < Ss[jj+1].fields.length),j < p->(Ss[jj+1].fields[j].nm.toList == Ss[jj+1].fields[q].nm.toList)=false) (fun i _=>q - (intOf i).toNat)
                 case atStart=>exact⟨0,rfl,by omega,HBX1.o,fun j _ h=>by omega⟩
                 case round=>
                  obtain⟨p,rfl,hp,hbu,hallp⟩:=hrel;have HAP:=Zab hallp;have HBX2:=Zab hbu;have hbx:=fun i=>ZaK wo wr _ 131 hbu i
                  have HBU2:Hd (Zw_ w wr):=HB.o.trans (((Zb_.alloc Zl_ _).mono HB.o.size).trans (hbu.mono (by have:=HB.o.size;omega)));have HBW2:Hd (Below wo.heap.size wo wr):=(Zb_.alloc Zl_ _).trans (hbu.mono (by omega));clear hallp hbu
                  by_cases hpq:p < q
                  . obtain⟨_,wvp,hcp,_⟩:=hfc p (by omega)
                    obtain⟨_,wvq,hcq,_⟩:=hfc q hql;have y0:=(hcp.below HBW2.o hfb).c0;have z0:=(hcq.below HBW2.o hfb).c0;clear hcp hcq;have hpl:p < Ss[jj+1].fields.length:=by omega
                    cases heq:(Ss[jj+1].fields[p].nm.toList == Ss[jj+1].fields[q].nm.toList) with
                    | true=>
                     have HN:Hd (ZaE Ss=false):=Zbr hlt (by rw [HEQ.o];exact ZbA hql (by rw [ZaG hql,Zgl hpl hpq heq];simp));go_wp2
                     go_quiet (fail)
                     go_wp2;go_ret;exact⟨Zaa HN.o.symm,below_drewN HBU2.o _⟩
                    | false=>
                     go_wp2
                     go_quiet (fail)
                     go_wp2;go_roundw
                     case rel=>exact⟨p+1,by go_num,by omega,below_drewN HBX2.o _,fun j hj h=>by
                                by_cases e:j=p
                                . subst e;exact heq
                                . exact HAP.o j hj (by omega)⟩
                     . simp [intOf];omega
                  . have HFA:Hd (Zbu Ss Ss[jj+1].fields q=true):=by
                     unfold Hd;rw [ZaG hql,hfl,Zig (fun j hj h=>HAP.o j hj (by omega))];rfl
                    go_wp2;go_roundw
                    . 
                     have hnx:∀ i,i < q+1->Zbu Ss Ss[jj+1].fields i=true:=fun i hi=>by
                      by_cases e:i=q
                      . rw [e];exact HFA.o
                      . exact HAQ.o i (by omega)
                     first
                      | exact⟨q+1,by go_num,by omega,HBX2.o,hnx⟩
                      | ((repeat apply Exists.intro);exact⟨⟨q+1,by go_num,by omega,HBX2.o,hnx⟩,rfl⟩)
                    . simp [intOf];omega
              . go_wp2
                have HSH:Za0 Ss (jj+1)=true:=by rw [HEQ.o];exact Zdj h6f (fun i hi=>HAQ.o i (by omega))
                go_roundw
                . 
                 have hnx:∀ i,i < jj+1+1->Za0 Ss i=true:=fun i hi=>by
                  by_cases e:i=jj+1
                  . rw [e];exact HSH
                  . exact HA.o i (by omega)
                 first
                  | exact⟨jj+1+1,by go_num,by omega,HBU.o,hnx⟩
                  | ((repeat apply Exists.intro);exact⟨⟨jj+1+1,by go_num,by omega,HBU.o,hnx⟩,rfl⟩)
                . simp [intOf];omega
         . have HN:Hd (ZaE Ss=false):=Zbr hlt (by rw [HEQ.o];exact ZfH h6f)
           have h6i:¬ (Ss[jj+1].fields.length:Int)<=6:=by omega
           go_wp2
           go_quiet ((go_at_call 132;exact Calls.quiet_of_same (Zae _ _ hsz)))
           go_wp2;go_ret;exact⟨Zaa HN.o.symm,below_drewN (HB.o.alloc HB.o.size _) _⟩
    . go_wp2
      go_ret;refine⟨Zaa ?_,HB.o⟩;unfold ZaE;rw [ZaY (fun i hi=>HA.o i (by omega))];simp;omega
 . go_enter func166,ntmps166
   go_wp2;go_ret;exact⟨Zaa (by unfold ZaE;simp;intro h;omega),Below.refl _ _⟩
end Go.Proofs.YtmappejlmapboaaGreat
