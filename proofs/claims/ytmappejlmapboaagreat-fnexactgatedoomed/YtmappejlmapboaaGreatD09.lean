import Derived.Test.YtmappejlmapboaaGreatD03
set_option maxHeartbeats 16000000
set_option maxRecDepth 100000
open Go.Proofs.Tryz
namespace Go.Proofs.YtmappejlmapboaaGreat
open Go.RowKit Go.Deep
section
variable {Ss:List Sh} {k:Nat} {Fs:List Fd}
theorem ZbB (hk:k < Ss.length) (h:Za5 Ss k=false):ZaH Ss=false:=by
 unfold ZaH;rw [ZaZ hk h];simp
theorem ZbM (hk:k < Fs.length) (h:ZbF Ss Fs k=false):ZaA Ss Fs=false:=by
 unfold ZaA;rw [ZaZ hk h];simp
theorem ZgA (h:¬ Fs.length<=6):ZaA Ss Fs=false:=by
 unfold ZaA;simp [h]
theorem ZdQ (h:Fs.length<=6) (hall:∀ i,i < Fs.length->ZbF Ss Fs i=true):ZaA Ss Fs=true:=by
 unfold ZaA;rw [Za1 hall];simp [h]
theorem ZiG (lo:Nat) (v:Value) (Ss:List Sh) (w:World) (hv:ZaI lo w v Ss) :
 Calls prog 166 #[v] w fun e w'=>e=.returned (.bool (ZaH Ss))/\Zw_ w w':=by
 have HL:=Zab hv
 by_cases hL:Ss=[]
 . subst hL
   obtain⟨a,cap,rfl⟩:=hv.form;clear hv;go_enter func166,ntmps166;go_wp2
   go_loop [3] (fun i=>i=.int .i64 0) (fun _=>0)
   case atStart=>rfl
   case round=>
    subst hrel;go_wp2;go_ret;exact⟨rfl,Below.refl _ _⟩
 obtain⟨b,off,cap,rfl,hm,hbw,hc⟩:=hv.full hL;clear hv;unfold maxLen at hm
 by_cases h6:(Ss.length:Int)<=6
 . go_enter func166,ntmps166
   go_wp2
   go_loopw [3] (fun i wr=>∃ k:Nat,i=.int .i64 k/\k<=Ss.length/\Zw_ w wr/\∀ i,i < k->Za5 Ss i=true) (fun i _=>Ss.length - (intOf i).toNat)
   case atStart=>exact⟨0,rfl,by omega,Below.refl _ _,fun i h=>by omega⟩
   case round=>
    obtain⟨k,rfl,hk,hb,hall⟩:=hrel;have HA:=Zab hall;have HB:=Zab hb;clear hall hb;obtain⟨wo,rfl⟩:∃ wo:World,wo=wr:=⟨_,rfl⟩
    by_cases hlt:k < Ss.length
    . obtain⟨hsz,fv,d0,d1,hst⟩:=hc k hlt
      have c0:wo.cell? ⟨b,off+k*2,none⟩=some (.string Ss[k].kind):=by rw [HB.o.cell (p:=⟨b,_,none⟩) hbw];exact d0
      have c1:wo.cell? ⟨b,off+k*2+1,none⟩=some fv:=by rw [HB.o.cell (p:=⟨b,_,none⟩) hbw];exact d1
      have HST:=Zab hst;obtain⟨fa,fcap,rfl⟩:=hst.form;clear d0 d1 hst
      cases hnm:Zap Ss[k].kind with
      | false=>
       have HN:Hd (ZaH Ss=false):=by
        unfold Hd;refine ZbB hlt ?_
        cases k with
        | zero=>rw [ZcQ hlt,hnm];rfl
        | succ j=>rw [ZbP hlt,hnm];rfl
       go_wp2
       go_quiet ((go_at_call 132;exact Calls.quiet_of_same (Zae _ _ hsz)))
       go_wp2;go_ret;exact⟨Zaa HN.o.symm,below_drewN (HB.o.alloc HB.o.size _) _⟩
      | true=>
       cases k with
       | zero=>
        have HEQ:Hd (Za5 Ss 0=ZaA Ss Ss[0].fields):=by unfold Hd;rw [ZcQ hlt,hnm];rfl
        have c0':wo.cell? ⟨b,off,none⟩=some (.string Ss[0].kind):=by simpa using c0
        have c1':wo.cell? ⟨b,off+1,none⟩=some (.slice fa Ss[0].fields.length fcap):=by simpa using c1
        clear c0 c1
        by_cases h6f:Ss[0].fields.length<=6
        . have h6i:(Ss[0].fields.length:Int)<=6:=by omega
          by_cases hF:Ss[0].fields=[]
          . have hl0:Ss[0].fields.length<=0:=by rw [hF];simp
            clear hF;have hO:Hd (Below (wo.heap.size+1) (wo.alloc (.cells #[.string Ss[0].kind,.slice fa Ss[0].fields.length fcap] 131)) (wo.alloc (.cells #[.string Ss[0].kind,.slice fa Ss[0].fields.length fcap] 131))):=Below.refl _ _;go_wp2
            go_quiet ((go_at_call 132;exact Calls.quiet_of_same (Zae _ _ hsz)))
            try simp only [hnm]
            go_wp2
            go_loopw [5] (fun i u=>∃ q:Nat,i=.int .i64 q/\q<=Ss[0].fields.length/\Below (wo.heap.size+1) (wo.alloc (.cells #[.string Ss[0].kind,.slice fa Ss[0].fields.length fcap] 131)) u/\∀ i,i < q->ZbF Ss Ss[0].fields i=true) (fun i _=>Ss[0].fields.length - (intOf i).toNat)
            case atStart=>exact⟨0,rfl,by omega,below_drewN hO.o _,fun i h=>by omega⟩
            case round=>
             obtain⟨q,rfl,hq,hbu,hallq⟩:=hrel;have HAQ:=Zab hallq;have HBX:=Zab hbu;have hbx:=fun i=>ZaL wo wr _ 131 hbu i
             have HBU:Hd (Zw_ w wr):=HB.o.trans (((Zb_.alloc Zl_ _).mono HB.o.size).trans (hbu.mono (by have:=HB.o.size;omega)));clear hallq hbu;obtain⟨wi,rfl⟩:∃ wi:World,wi=wr:=⟨_,rfl⟩
             by_cases hql:q < Ss[0].fields.length
             . omega
             . go_wp2
               have HSH:Za5 Ss (0)=true:=by rw [HEQ.o];exact ZdQ h6f (fun i hi=>HAQ.o i (by omega))
               go_roundw
               . 
                have hnx:∀ i,i < 0+1->Za5 Ss i=true:=fun i hi=>by
                 by_cases e:i=0
                 . rw [e];exact HSH
                 . exact HA.o i (by omega)
                first
                 | exact⟨0+1,by go_num,by omega,HBU.o,hnx⟩
                 | ((repeat apply Exists.intro);exact⟨⟨0+1,by go_num,by omega,HBU.o,hnx⟩,rfl⟩)
               . simp [intOf];omega
          . obtain⟨fb,fo,fcap',hfe,_,hfb,_,hfc⟩:=(HST.o.below HB.o).full hF
            simp only [Value.slice.injEq,true_and] at hfe;obtain⟨rfl,rfl⟩:=hfe;have hO:Hd (Below (wo.heap.size+1) (wo.alloc (.cells #[.string Ss[0].kind,.slice (some ⟨fb,fo,none⟩) Ss[0].fields.length fcap] 131)) (wo.alloc (.cells #[.string Ss[0].kind,.slice (some ⟨fb,fo,none⟩) Ss[0].fields.length fcap] 131))):=Below.refl _ _;go_wp2
            go_quiet ((go_at_call 132;exact Calls.quiet_of_same (Zae _ _ hsz)))
            try simp only [hnm]
            go_wp2
            go_loopw [5] (fun i u=>∃ q:Nat,i=.int .i64 q/\q<=Ss[0].fields.length/\Below (wo.heap.size+1) (wo.alloc (.cells #[.string Ss[0].kind,.slice (some ⟨fb,fo,none⟩) Ss[0].fields.length fcap] 131)) u/\∀ i,i < q->ZbF Ss Ss[0].fields i=true) (fun i _=>Ss[0].fields.length - (intOf i).toNat)
            case atStart=>exact⟨0,rfl,by omega,below_drewN hO.o _,fun i h=>by omega⟩
            case round=>
             obtain⟨q,rfl,hq,hbu,hallq⟩:=hrel;have HAQ:=Zab hallq;have HBX:=Zab hbu;have hbx:=fun i=>ZaL wo wr _ 131 hbu i
             have HBU:Hd (Zw_ w wr):=HB.o.trans (((Zb_.alloc Zl_ _).mono HB.o.size).trans (hbu.mono (by have:=HB.o.size;omega)));clear hallq hbu;obtain⟨wi,rfl⟩:∃ wi:World,wi=wr:=⟨_,rfl⟩
             by_cases hql:q < Ss[0].fields.length
             . obtain⟨hzz,wv,hcell,hws⟩:=hfc q hql
               have HBW:Hd (Below wo.heap.size wo wi):=(Zb_.alloc Zl_ _).trans (HBX.o.mono (by omega));obtain⟨x0,x1,x2,x3,x4,x5,x6,x7,x8,x9,x10⟩:=hcell.below HBW.o hfb;clear hcell;go_wp2_with fail;refine (Zgf lo _ Ss Ss[0].fields[q] _ _ (HL.o.below HBU.o) (hws.at.below HBW.o) hzz).mono ?_;rintro e w1 ⟨rfl,hb1⟩;have HB1:Hd (Zw_ w w1):=HBU.o.trans (hb1.mono HBU.o.size);have HBX1:Hd (Below (wo.heap.size+1) (wo.alloc (.cells #[.string Ss[0].kind,.slice (some ⟨fb,fo,none⟩) Ss[0].fields.length fcap] 131)) w1):=HBX.o.trans (hb1.mono (by have:=HBX.o.size;simp at this;omega));clear hb1 hbx x0 x1 x2 x3 x4 x5 x6 x7 x8 x9 x10
               cases hfl:(Zap Ss[0].fields[q].nm&&Zd3 Ss Ss[0].fields[q]) with
               | false=>
                have HN:Hd (ZaH Ss=false):=ZbB hlt (by rw [HEQ.o];exact ZbM hql (by rw [ZaG hql,hfl];rfl));go_wp2;go_ret;exact⟨Zaa HN.o.symm,HB1.o⟩
               | true=>
                go_wp2
                go_loopw [6] (fun i u=>∃ p:Nat,i=.int .i64 p/\p<=q/\Below (wo.heap.size+1) (wo.alloc (.cells #[.string Ss[0].kind,.slice (some ⟨fb,fo,none⟩) Ss[0].fields.length fcap] 131)) u/\∀ j (hj:j < Ss[0].fields.length),j < p->(Ss[0].fields[j].nm.toList == Ss[0].fields[q].nm.toList)=false) (fun i _=>q - (intOf i).toNat)
                case atStart=>exact⟨0,rfl,by omega,HBX1.o,fun j _ h=>by omega⟩
                case round=>
                 obtain⟨p,rfl,hp,hbu,hallp⟩:=hrel;have HAP:=Zab hallp;have HBX2:=Zab hbu;have hbx:=fun i=>ZaL wo wr _ 131 hbu i
                 have HBU2:Hd (Zw_ w wr):=HB.o.trans (((Zb_.alloc Zl_ _).mono HB.o.size).trans (hbu.mono (by have:=HB.o.size;omega)));have HBW2:Hd (Below wo.heap.size wo wr):=(Zb_.alloc Zl_ _).trans (hbu.mono (by omega));clear hallp hbu
                 by_cases hpq:p < q
                 . obtain⟨_,wvp,hcp,_⟩:=hfc p (by omega)
                   obtain⟨_,wvq,hcq,_⟩:=hfc q hql;have y0:=(hcp.below HBW2.o hfb).c0;have z0:=(hcq.below HBW2.o hfb).c0;clear hcp hcq;have hpl:p < Ss[0].fields.length:=by omega
                   cases heq:(Ss[0].fields[p].nm.toList == Ss[0].fields[q].nm.toList) with
                   | true=>
                    have HN:Hd (ZaH Ss=false):=ZbB hlt (by rw [HEQ.o];exact ZbM hql (by rw [ZaG hql,Zho hpl hpq heq];simp));go_wp2
                    go_quiet (fail)
                    go_wp2;go_ret;exact⟨Zaa HN.o.symm,below_drewN HBU2.o _⟩
                   | false=>
                    go_wp2
                    go_quiet (fail)
                    go_wp2;go_roundw
                    case rel=>exact⟨p+1,by go_num,by omega,below_drewN HBX2.o _,fun j hj h=>by
                               by_cases e:j=p
                               . subst e;exact heq
                               . exact HAP.o j hj (by omega)⟩
                    . simp [intOf];omega
                 . have HFA:Hd (ZbF Ss Ss[0].fields q=true):=by
                    unfold Hd;rw [ZaG hql,hfl,ZjK (fun j hj h=>HAP.o j hj (by omega))];rfl
                   go_wp2;go_roundw
                   . 
                    have hnx:∀ i,i < q+1->ZbF Ss Ss[0].fields i=true:=fun i hi=>by
                     by_cases e:i=q
                     . rw [e];exact HFA.o
                     . exact HAQ.o i (by omega)
                    first
                     | exact⟨q+1,by go_num,by omega,HBX2.o,hnx⟩
                     | ((repeat apply Exists.intro);exact⟨⟨q+1,by go_num,by omega,HBX2.o,hnx⟩,rfl⟩)
                   . simp [intOf];omega
             . go_wp2
               have HSH:Za5 Ss (0)=true:=by rw [HEQ.o];exact ZdQ h6f (fun i hi=>HAQ.o i (by omega))
               go_roundw
               . 
                have hnx:∀ i,i < 0+1->Za5 Ss i=true:=fun i hi=>by
                 by_cases e:i=0
                 . rw [e];exact HSH
                 . exact HA.o i (by omega)
                first
                 | exact⟨0+1,by go_num,by omega,HBU.o,hnx⟩
                 | ((repeat apply Exists.intro);exact⟨⟨0+1,by go_num,by omega,HBU.o,hnx⟩,rfl⟩)
               . simp [intOf];omega
        . have HN:Hd (ZaH Ss=false):=ZbB hlt (by rw [HEQ.o];exact ZgA h6f)
          have h6i:¬ (Ss[0].fields.length:Int)<=6:=by omega
          go_wp2
          go_quiet ((go_at_call 132;exact Calls.quiet_of_same (Zae _ _ hsz)))
          go_wp2;go_ret;exact⟨Zaa HN.o.symm,below_drewN (HB.o.alloc HB.o.size _) _⟩
       | succ jj=>
        obtain⟨_,fvj,dj,_,_⟩:=hc jj (by omega);have cj:wo.cell? ⟨b,off+jj*2,none⟩=some (.string Ss[jj].kind):=by rw [HB.o.cell (p:=⟨b,_,none⟩) hbw];exact dj
        clear dj;have hjw:IntKind.i64.wrap (jj:Int)=jj:=by rw [IntKind.wrap_i64];omega
        have hjl:jj < Ss.length:=by omega
        have hdl:decide ((jj:Int)+1 < (Ss.length:Int))=true:=by simp;omega
        have hbo:b < wo.heap.size:=Zk_ hbw HB.o.size
        have cj2:∀ o,(wo.alloc o).cell? ⟨b,off+jj*2,none⟩=some (.string Ss[jj].kind):=fun o=>by rw [((Below.refl wo.heap.size wo).alloc Zl_ o).cell (p:=⟨b,_,none⟩) hbo];exact cj
        have cj3:∀ o n,((wo.alloc o).drewN n).cell? ⟨b,off+jj*2,none⟩=some (.string Ss[jj].kind):=fun o n=>cj2 o
        cases hls:Op.bytesLess Ss[jj].kind.toList Ss[jj+1].kind.toList with
        | false=>
         have HN:Hd (ZaH Ss=false):=ZbB hlt (by rw [ZbP hlt,hls];simp);go_wp2
         go_quiet ((go_at_call 132;exact Calls.quiet_of_same (Zae _ _ hsz)))
         go_wp2;go_ret;exact⟨Zaa HN.o.symm,below_drewN (HB.o.alloc HB.o.size _) _⟩
        | true=>
         have HEQ:Hd (Za5 Ss (jj+1)=ZaA Ss Ss[jj+1].fields):=by unfold Hd;rw [ZbP hlt,hnm,hls];rfl
         by_cases h6f:Ss[jj+1].fields.length<=6
         . have h6i:(Ss[jj+1].fields.length:Int)<=6:=by omega
           by_cases hF:Ss[jj+1].fields=[]
           . have hl0:Ss[jj+1].fields.length<=0:=by rw [hF];simp
             clear hF;have hO:Hd (Below (wo.heap.size+1) (wo.alloc (.cells #[.string Ss[jj+1].kind,.slice fa Ss[jj+1].fields.length fcap] 131)) (wo.alloc (.cells #[.string Ss[jj+1].kind,.slice fa Ss[jj+1].fields.length fcap] 131))):=Below.refl _ _;go_wp2
             go_quiet ((go_at_call 132;exact Calls.quiet_of_same (Zae _ _ hsz)))
             try simp only [hnm]
             go_wp2
             go_loopw [5] (fun i u=>∃ q:Nat,i=.int .i64 q/\q<=Ss[jj+1].fields.length/\Below (wo.heap.size+1) (wo.alloc (.cells #[.string Ss[jj+1].kind,.slice fa Ss[jj+1].fields.length fcap] 131)) u/\∀ i,i < q->ZbF Ss Ss[jj+1].fields i=true) (fun i _=>Ss[jj+1].fields.length - (intOf i).toNat)
             case atStart=>exact⟨0,rfl,by omega,below_drewN hO.o _,fun i h=>by omega⟩
             case round=>
              obtain⟨q,rfl,hq,hbu,hallq⟩:=hrel;have HAQ:=Zab hallq;have HBX:=Zab hbu;have hbx:=fun i=>ZaL wo wr _ 131 hbu i
              have HBU:Hd (Zw_ w wr):=HB.o.trans (((Zb_.alloc Zl_ _).mono HB.o.size).trans (hbu.mono (by have:=HB.o.size;omega)));clear hallq hbu;obtain⟨wi,rfl⟩:∃ wi:World,wi=wr:=⟨_,rfl⟩
              by_cases hql:q < Ss[jj+1].fields.length
              . omega
              . go_wp2
                have HSH:Za5 Ss (jj+1)=true:=by rw [HEQ.o];exact ZdQ h6f (fun i hi=>HAQ.o i (by omega))
                go_roundw
                . 
                 have hnx:∀ i,i < jj+1+1->Za5 Ss i=true:=fun i hi=>by
                  by_cases e:i=jj+1
                  . rw [e];exact HSH
                  . exact HA.o i (by omega)
                 first
                  | exact⟨jj+1+1,by go_num,by omega,HBU.o,hnx⟩
                  | ((repeat apply Exists.intro);exact⟨⟨jj+1+1,by go_num,by omega,HBU.o,hnx⟩,rfl⟩)
                . simp [intOf];omega
           . obtain⟨fb,fo,fcap',hfe,_,hfb,_,hfc⟩:=(HST.o.below HB.o).full hF
             simp only [Value.slice.injEq,true_and] at hfe;obtain⟨rfl,rfl⟩:=hfe;have hO:Hd (Below (wo.heap.size+1) (wo.alloc (.cells #[.string Ss[jj+1].kind,.slice (some ⟨fb,fo,none⟩) Ss[jj+1].fields.length fcap] 131)) (wo.alloc (.cells #[.string Ss[jj+1].kind,.slice (some ⟨fb,fo,none⟩) Ss[jj+1].fields.length fcap] 131))):=Below.refl _ _;go_wp2
             go_quiet ((go_at_call 132;exact Calls.quiet_of_same (Zae _ _ hsz)))
             try simp only [hnm]
             go_wp2
             go_loopw [5] (fun i u=>∃ q:Nat,i=.int .i64 q/\q<=Ss[jj+1].fields.length/\Below (wo.heap.size+1) (wo.alloc (.cells #[.string Ss[jj+1].kind,.slice (some ⟨fb,fo,none⟩) Ss[jj+1].fields.length fcap] 131)) u/\∀ i,i < q->ZbF Ss Ss[jj+1].fields i=true) (fun i _=>Ss[jj+1].fields.length - (intOf i).toNat)
             case atStart=>exact⟨0,rfl,by omega,below_drewN hO.o _,fun i h=>by omega⟩
             case round=>
              obtain⟨q,rfl,hq,hbu,hallq⟩:=hrel;have HAQ:=Zab hallq;have HBX:=Zab hbu;have hbx:=fun i=>ZaL wo wr _ 131 hbu i
              have HBU:Hd (Zw_ w wr):=HB.o.trans (((Zb_.alloc Zl_ _).mono HB.o.size).trans (hbu.mono (by have:=HB.o.size;omega)));clear hallq hbu;obtain⟨wi,rfl⟩:∃ wi:World,wi=wr:=⟨_,rfl⟩
              by_cases hql:q < Ss[jj+1].fields.length
              . obtain⟨hzz,wv,hcell,hws⟩:=hfc q hql
                have HBW:Hd (Below wo.heap.size wo wi):=(Zb_.alloc Zl_ _).trans (HBX.o.mono (by omega));obtain⟨x0,x1,x2,x3,x4,x5,x6,x7,x8,x9,x10⟩:=hcell.below HBW.o hfb;clear hcell;go_wp2_with fail;refine (Zgf lo _ Ss Ss[jj+1].fields[q] _ _ (HL.o.below HBU.o) (hws.at.below HBW.o) hzz).mono ?_;rintro e w1 ⟨rfl,hb1⟩;have HB1:Hd (Zw_ w w1):=HBU.o.trans (hb1.mono HBU.o.size);have HBX1:Hd (Below (wo.heap.size+1) (wo.alloc (.cells #[.string Ss[jj+1].kind,.slice (some ⟨fb,fo,none⟩) Ss[jj+1].fields.length fcap] 131)) w1):=HBX.o.trans (hb1.mono (by have:=HBX.o.size;simp at this;omega));clear hb1 hbx x0 x1 x2 x3 x4 x5 x6 x7 x8 x9 x10
                cases hfl:(Zap Ss[jj+1].fields[q].nm&&Zd3 Ss Ss[jj+1].fields[q]) with
                | false=>
                 have HN:Hd (ZaH Ss=false):=ZbB hlt (by rw [HEQ.o];exact ZbM hql (by rw [ZaG hql,hfl];rfl));go_wp2;go_ret;exact⟨Zaa HN.o.symm,HB1.o⟩
                | true=>
                 go_wp2
                 go_loopw [6] (fun i u=>∃ p:Nat,i=.int .i64 p/\p<=q/\Below (wo.heap.size+1) (wo.alloc (.cells #[.string Ss[jj+1].kind,.slice (some ⟨fb,fo,none⟩) Ss[jj+1].fields.length fcap] 131)) u/\∀ j (hj:j < Ss[jj+1].fields.length),j < p->(Ss[jj+1].fields[j].nm.toList == Ss[jj+1].fields[q].nm.toList)=false) (fun i _=>q - (intOf i).toNat)
                 case atStart=>exact⟨0,rfl,by omega,HBX1.o,fun j _ h=>by omega⟩
                 case round=>
                  obtain⟨p,rfl,hp,hbu,hallp⟩:=hrel;have HAP:=Zab hallp;have HBX2:=Zab hbu;have hbx:=fun i=>ZaL wo wr _ 131 hbu i
                  have HBU2:Hd (Zw_ w wr):=HB.o.trans (((Zb_.alloc Zl_ _).mono HB.o.size).trans (hbu.mono (by have:=HB.o.size;omega)));have HBW2:Hd (Below wo.heap.size wo wr):=(Zb_.alloc Zl_ _).trans (hbu.mono (by omega));clear hallp hbu
                  by_cases hpq:p < q
                  . obtain⟨_,wvp,hcp,_⟩:=hfc p (by omega)
                    obtain⟨_,wvq,hcq,_⟩:=hfc q hql;have y0:=(hcp.below HBW2.o hfb).c0;have z0:=(hcq.below HBW2.o hfb).c0;clear hcp hcq;have hpl:p < Ss[jj+1].fields.length:=by omega
                    cases heq:(Ss[jj+1].fields[p].nm.toList == Ss[jj+1].fields[q].nm.toList) with
                    | true=>
                     have HN:Hd (ZaH Ss=false):=ZbB hlt (by rw [HEQ.o];exact ZbM hql (by rw [ZaG hql,Zho hpl hpq heq];simp));go_wp2
                     go_quiet (fail)
                     go_wp2;go_ret;exact⟨Zaa HN.o.symm,below_drewN HBU2.o _⟩
                    | false=>
                     go_wp2
                     go_quiet (fail)
                     go_wp2;go_roundw
                     case rel=>exact⟨p+1,by go_num,by omega,below_drewN HBX2.o _,fun j hj h=>by
                                by_cases e:j=p
                                . subst e;exact heq
                                . exact HAP.o j hj (by omega)⟩
                     . simp [intOf];omega
                  . have HFA:Hd (ZbF Ss Ss[jj+1].fields q=true):=by
                     unfold Hd;rw [ZaG hql,hfl,ZjK (fun j hj h=>HAP.o j hj (by omega))];rfl
                    go_wp2;go_roundw
                    . 
                     have hnx:∀ i,i < q+1->ZbF Ss Ss[jj+1].fields i=true:=fun i hi=>by
                      by_cases e:i=q
                      . rw [e];exact HFA.o
                      . exact HAQ.o i (by omega)
                     first
                      | exact⟨q+1,by go_num,by omega,HBX2.o,hnx⟩
                      | ((repeat apply Exists.intro);exact⟨⟨q+1,by go_num,by omega,HBX2.o,hnx⟩,rfl⟩)
                    . simp [intOf];omega
              . go_wp2
                have HSH:Za5 Ss (jj+1)=true:=by rw [HEQ.o];exact ZdQ h6f (fun i hi=>HAQ.o i (by omega))
                go_roundw
                . 
                 have hnx:∀ i,i < jj+1+1->Za5 Ss i=true:=fun i hi=>by
                  by_cases e:i=jj+1
                  . rw [e];exact HSH
                  . exact HA.o i (by omega)
                 first
                  | exact⟨jj+1+1,by go_num,by omega,HBU.o,hnx⟩
                  | ((repeat apply Exists.intro);exact⟨⟨jj+1+1,by go_num,by omega,HBU.o,hnx⟩,rfl⟩)
                . simp [intOf];omega
         . have HN:Hd (ZaH Ss=false):=ZbB hlt (by rw [HEQ.o];exact ZgA h6f)
           have h6i:¬ (Ss[jj+1].fields.length:Int)<=6:=by omega
           go_wp2
           go_quiet ((go_at_call 132;exact Calls.quiet_of_same (Zae _ _ hsz)))
           go_wp2;go_ret;exact⟨Zaa HN.o.symm,below_drewN (HB.o.alloc HB.o.size _) _⟩
    . go_wp2
      go_ret;refine⟨Zaa ?_,HB.o⟩;unfold ZaH;rw [Za1 (fun i hi=>HA.o i (by omega))];simp;omega
 . go_enter func166,ntmps166
   go_wp2;go_ret;exact⟨Zaa (by unfold ZaH;simp;intro h;omega),Below.refl _ _⟩
end
variable {Fs:List Fd}
theorem Zau.take {lo:Nat}{w:World}{b off cap k:Nat} (hk:k<=Fs.length) (hm:Fs.length<=maxLen) (hb:b < w.heap.size) (hlo:lo<=b) (hcap:Fs.length<=cap)
 (hc:∀ i (h:i < Fs.length),Zfn Fs[i]/\∃ wv,ZcR w b (off+i*11) Fs[i] wv/\Zaq lo w wv Fs[i].words):Zau lo w (.slice (some ⟨b,off,none⟩) k cap) (Fs.take k):=by
 have hl:(Fs.take k).length=k:=by rw [List.length_take];omega
 by_cases h0:k=0
 . subst h0;exact Or.inl ⟨_,_,rfl,by simp⟩
 . refine Or.inr ⟨b,off,cap,by rw [hl],?_,by omega,hb,hlo,by omega,fun i hi=>?_⟩
   . intro e;rw [e] at hl;simp at hl;omega
   . rw [List.getElem_take]
     exact hc i (by omega)
section
variable (nm to df we:Zy_) (kd le mo ro:Int) (mu fx:Bool) (wv:Value) (w:World)
theorem ZrJ (s:Zy_) (B:Nat) (hB:B < w.heap.size) (hs:w.cell? ⟨B,0,none⟩=some (.string s)) :
 Calls prog 281 #[.agg #[.string nm,.int .i64 kd,.int .i64 le,.int .i64 mo,wv,.string to,.int .i64 ro,.bool mu,.bool fx,.string df,.string we],.pointer (some ⟨B,0,none⟩)] w
  fun e w'=>e=.returned (.bool (nm.toList == s.toList))/\Zw_ w w':=by
 go_enter func281,ntmps281;go_wp2;go_ret;exact⟨rfl,Zb_.alloc Zl_ _⟩
end
theorem ZsI {s:Zy_} (h:∀ j (hj:j < Fs.length),(Fs[j].nm.toList == s.toList)=false):ZnZ Fs s=false:=by
 have:=ZjK (Fs:=Fs) (s:=s) (k:=Fs.length) (fun j hj _=>h j hj)
 rwa [List.take_of_length_le Zl_] at this
theorem ZsJ {s:Zy_}{j:Nat} (hj:j < Fs.length) (h:(Fs[j].nm.toList == s.toList)=true):ZnZ Fs s=true:=by
 have:=Zho (Fs:=Fs) (s:=s) (k:=Fs.length) hj hj h
 rwa [List.take_of_length_le Zl_] at this
theorem ZjW (lo:Nat) (v:Value) (Fs:List Fd) (s:Zy_) (B:Nat) (w:World) (hv:Zau lo w v Fs) (hB:B < w.heap.size) (hs:w.cell? ⟨B,0,none⟩=some (.string s)) :
 Calls prog 294 #[v,.func (.func 281) #[] #[.pointer (some ⟨B,0,none⟩)]] w fun e w'=>∃ r:Int,e=.returned (.int .i64 r)/\Zw_ w w'/\decide (0<=r)=ZnZ Fs s:=by
 by_cases hL:Fs=[]
 . subst hL
   obtain⟨a,cap,rfl⟩:=Zdz hv;clear hv;go_enter func294,ntmps294;go_wp2
   go_loop [8] (fun i=>i=.int .i64 0) (fun _=>0)
   case atStart=>rfl
   case round=>
    subst hrel;go_wp2;go_ret;exact⟨-1,rfl,Below.refl _ _,rfl⟩
 . obtain⟨b,off,cap,rfl,hm,hbw,_,hc⟩:=hv.full hL
   clear hv;unfold maxLen at hm;go_enter func294,ntmps294;go_wp2
   go_loopw [8] (fun i wr=>∃ k:Nat,i=.int .i64 k/\k<=Fs.length/\Zw_ w wr/\∀ j (hj:j < Fs.length),j < k->(Fs[j].nm.toList == s.toList)=false) (fun i _=>Fs.length - (intOf i).toNat)
   case atStart=>exact⟨0,rfl,by omega,Below.refl _ _,fun j _ h=>by omega⟩
   case round=>
    obtain⟨k,rfl,hk,hb,hall⟩:=hrel;have HA:=Zab hall;have HB:=Zab hb;clear hall hb
    by_cases hlt:k < Fs.length
    . obtain⟨_,wv,hcell,_⟩:=hc k hlt
      obtain⟨c0,c1,c2,c3,c4,c5,c6,c7,c8,c9,c10⟩:=hcell.below HB.o hbw;clear hcell;go_wp2_with fail;refine (ZrJ _ _ _ _ _ _ _ _ _ _ _ _ s B (Zk_ hB HB.o.size) (by rw [HB.o.cell (p:=⟨B,0,none⟩) hB];exact hs)).mono ?_;rintro e w1 ⟨rfl,hb1⟩;have HB1:Hd (Zw_ w w1):=HB.o.trans (hb1.mono HB.o.size);clear hb1 c0 c1 c2 c3 c4 c5 c6 c7 c8 c9 c10
      cases he:(Fs[k].nm.toList == s.toList) with
      | true=>
       go_wp2;go_ret;exact⟨k,rfl,HB1.o,by rw [ZsJ hlt he];simp⟩
      | false=>
       go_wp2;go_roundw
       case rel=>exact⟨k+1,by go_num,by omega,HB1.o,fun j hj h=>by
                  by_cases e:j=k
                  . subst e;exact he
                  . exact HA.o j hj (by omega)⟩
       . simp [intOf];omega
    . go_wp2
      go_ret;exact⟨-1,rfl,HB.o,by rw [ZsI fun j hj=>HA.o j hj (by omega)];rfl⟩
theorem Zhi (lo:Nat) (v:Value) (Fs:List Fd) (s:Zy_) (B:Nat) (w:World) (hv:Zau lo w v Fs) (hB:B < w.heap.size) (hs:w.cell? ⟨B,0,none⟩=some (.string s)) :
 Calls prog 280 #[v,.func (.func 281) #[] #[.pointer (some ⟨B,0,none⟩)]] w fun e w'=>e=.returned (.bool (ZnZ Fs s))/\Zw_ w w':=by
 go_enter func280,ntmps280;go_wp2_with fail;refine (ZjW lo v Fs s B _ hv hB hs).mono ?_;rintro e w1 ⟨r,rfl,hb,hr⟩;have HR:=Zab hr;have HB:=Zab hb;clear hr hb;go_wp2;go_ret;exact⟨Zaa HR.o,HB.o⟩
theorem ZkL (lo:Nat) (v:Value) (Fs:List Fd) (s:Zy_) (w:World) (hv:Zau lo w v Fs) :
 Calls prog 262 #[v,.string s] w fun e w'=>e=.returned (.bool (ZnZ Fs s))/\Zw_ w w':=by
 have HV:=Zab hv;obtain⟨a,cap,rfl⟩:=hv.form;clear hv;have HW:∀ o,Hd (Zw_ w (w.alloc o)):=fun o=>Zb_.alloc Zl_ _
 go_enter func262,ntmps262;go_wp2_with fail;refine (Zhi lo _ Fs s _ _ (HV.o.below (HW _).o) (by simp) (by simp)).mono ?_;rintro e w1 ⟨rfl,hb⟩;have HB:Hd (Zw_ w w1):=(HW _).o.trans (hb.mono (by simp));clear hb;go_wp2;go_ret;exact⟨rfl,HB.o⟩
end Go.Proofs.YtmappejlmapboaaGreat
