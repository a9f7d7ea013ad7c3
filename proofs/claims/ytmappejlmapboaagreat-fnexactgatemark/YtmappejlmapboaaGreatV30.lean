import Derived.Test.YtmappejlmapboaaGreatV11
import Derived.Test.YtmappejlmapboaaGreatV29
set_option maxHeartbeats 16000000
set_option maxRecDepth 100000
open Go.Proofs.Tryz
namespace Go.Proofs.YtmappejlmapboaaGreat
open Go.RowKit Go.Deep
theorem Zmy {Ss:List Sh}{k:Nat} (h6:Ss.length<=6) (hk:Ss.length<=k) (h:∀ i,i < k->Za0 Ss i=true):ZaE Ss=true:=by
 unfold ZaE;rw [ZaY (fun i hi=>h i (by omega))];simp [h6]
theorem Zhl (lo:Nat) (v:Value) (Ss:List Sh) (w:World) (hv:ZaH lo w v Ss) :
 Calls prog 204 #[v] w fun e w'=>e=.returned (.bool (ZaE Ss))/\Zw_ w w':=by
 have HL:=Zab hv;have HW:∀ o,Hd (Zw_ w (w.alloc o)):=fun o=>Zb_.alloc Zl_ _
 by_cases hL:Ss=[]
 . subst hL
   obtain⟨a,cap,rfl⟩:=hv.form;clear hv;go_enter func204,ntmps204;go_wp2_with fail;refine (Zep _).mono ?_;rintro e w1 ⟨rfl,rfl⟩;go_wp2
   go_loop [12] (fun i=>i=.int .i64 0) (fun _=>0)
   case atStart=>rfl
   case round=>
    subst hrel;go_wp2;go_ret;exact⟨rfl,(HW _).o⟩
 obtain⟨b,off,cap,rfl,hm,hbw,hc⟩:=hv.full hL;clear hv;unfold maxLen at hm
 by_cases h6:(Ss.length:Int)<=6
 . go_enter func204,ntmps204
   go_wp2_with fail;refine (Zep _).mono ?_;rintro e w1 ⟨rfl,hw1⟩;have HB0:Hd (Zw_ w w1):=by unfold Hd;rw [hw1];exact (HW _).o
   have HR0:Hd (w1.heap[w.heap.size]?=some (.map Zak 4)):=by unfold Hd;rw [hw1];exact (MapKept.heap_alloc w _).1
   have hz1:w.heap.size < w1.heap.size:=by rw [hw1];simp
   clear hw1;go_wp2
   go_loopw [12] (fun i wr=>∃ k:Nat,i=.int .i64 k/\k<=Ss.length/\Below w1.heap.size w1 wr/\∀ i,i < k->Za0 Ss i=true) (fun i _=>Ss.length - (intOf i).toNat)
   case atStart=>exact⟨0,rfl,by omega,Below.refl _ _,fun i h=>by omega⟩
   case round=>
    obtain⟨k,rfl,hk,hb1,hall⟩:=hrel;have HA:=Zab hall;have HB1:=Zab hb1;have HB:Hd (Zw_ w wr):=HB0.o.trans (hb1.mono HB0.o.size);have HR:Hd (wr.heap[w.heap.size]?=some (.map Zak 4)):=by unfold Hd;rw [hb1.block w.heap.size hz1];exact HR0.o
    clear hall hb1
    by_cases hlt:k < Ss.length
    . obtain⟨hsz,fv,d0,d1,hst⟩:=hc k hlt
      have c0:wr.cell? ⟨b,off+k*2,none⟩=some (.string Ss[k].kind):=by rw [HB.o.cell (p:=⟨b,_,none⟩) hbw];exact d0
      have c1:wr.cell? ⟨b,off+k*2+1,none⟩=some fv:=by rw [HB.o.cell (p:=⟨b,_,none⟩) hbw];exact d1
      have HST:=Zab hst;obtain⟨fa,fcap,rfl⟩:=hst.form;clear d0 d1 hst;have hbo:b < wr.heap.size:=Zk_ hbw HB.o.size
      cases hnm:Zap Ss[k].kind with
      | false=>
       have HN:Hd (ZaE Ss=false):=by
        unfold Hd;refine Zbr hlt ?_
        cases k with
        | zero=>rw [Zcv hlt,hnm];rfl
        | succ j=>rw [ZbC hlt,hnm];rfl
       go_wp2
       go_quiet ((go_at_call 206;exact Calls.quiet_of_same (Zan _ _ hsz)))
       go_wp2;go_ret;exact⟨Zaa HN.o.symm,below_drewN (HB.o.alloc HB.o.size _) _⟩
      | true=>
       cases k with
       | zero=>
        have HEQ:Hd (Za0 Ss 0=Zaz Ss Ss[0].fields):=by unfold Hd;rw [Zcv hlt,hnm];rfl
        have c0':wr.cell? ⟨b,off,none⟩=some (.string Ss[0].kind):=by simpa using c0
        have c1':wr.cell? ⟨b,off+1,none⟩=some (.slice fa Ss[0].fields.length fcap):=by simpa using c1
        clear c0 c1;go_wp2
        go_quiet ((go_at_call 206;exact Calls.quiet_of_same (Zan _ _ hsz)))
        go_wp2_with fail;have HBD:∀ o n,Hd (Zw_ w ((wr.alloc o).drewN n)):=fun o n=>below_drewN (HB.o.alloc HB.o.size _) _
        have HRD:∀ o n,Hd (((wr.alloc o).drewN n).heap[w.heap.size]?=some (.map Zak 4)):=fun o n=>by
         unfold Hd;rw [(below_drewN ((Below.refl wr.heap.size wr).alloc Zl_ o) n).block w.heap.size (Zk_ hz1 HB1.o.size)];exact HR.o
        refine (ZfX w.heap.size lo lo _ _ Ss Ss[0].fields _ (HRD _ _).o (HL.o.below (HBD _ _).o) (HST.o.below (HBD _ _).o)).mono ?_;rintro e w3 ⟨rfl,hb3⟩;have HB3:Hd (Zw_ w w3):=(HBD _ _).o.trans (hb3.mono (HBD _ _).o.size);have HB13:Hd (Below w1.heap.size w1 w3):=(below_drewN (HB1.o.alloc HB1.o.size _) _).trans (hb3.mono (below_drewN (HB1.o.alloc HB1.o.size _) _).size);clear hb3
        cases hfb:Zaz Ss Ss[0].fields with
        | false=>
         have HN:Hd (ZaE Ss=false):=Zbr hlt (by rw [HEQ.o];exact hfb);go_wp2;go_ret;exact⟨Zaa HN.o.symm,HB3.o⟩
        | true=>
         have hnx:Hd (∀ i,i < 0+1->Za0 Ss i=true):=fun i hi=>by
          by_cases e:i=0
          . rw [e,HEQ.o];exact hfb
          . exact HA.o i (by omega)
         go_wp2;go_roundw
         . exact⟨0+1,by go_num,by omega,HB13.o,hnx.o⟩
         . simp [intOf];omega
       | succ jj=>
        obtain⟨_,fvj,dj,_,_⟩:=hc jj (by omega);have cj:wr.cell? ⟨b,off+jj*2,none⟩=some (.string Ss[jj].kind):=by rw [HB.o.cell (p:=⟨b,_,none⟩) hbw];exact dj
        clear dj;have hjw:IntKind.i64.wrap (jj:Int)=jj:=by rw [IntKind.wrap_i64];omega
        have hjl:jj < Ss.length:=by omega
        have hdl:decide ((jj:Int)+1 < (Ss.length:Int))=true:=by simp;omega
        have cj2:∀ o,(wr.alloc o).cell? ⟨b,off+jj*2,none⟩=some (.string Ss[jj].kind):=fun o=>by rw [((Below.refl wr.heap.size wr).alloc Zl_ o).cell (p:=⟨b,_,none⟩) hbo];exact cj
        have cj3:∀ o n,((wr.alloc o).drewN n).cell? ⟨b,off+jj*2,none⟩=some (.string Ss[jj].kind):=fun o n=>cj2 o
        cases hls:Op.bytesLess Ss[jj].kind.toList Ss[jj+1].kind.toList with
        | false=>
         have HN:Hd (ZaE Ss=false):=Zbr hlt (by rw [ZbC hlt,hls];simp);go_wp2
         go_quiet ((go_at_call 206;exact Calls.quiet_of_same (Zan _ _ hsz)))
         go_wp2;go_ret;exact⟨Zaa HN.o.symm,below_drewN (HB.o.alloc HB.o.size _) _⟩
        | true=>
         have HEQ:Hd (Za0 Ss (jj+1)=Zaz Ss Ss[jj+1].fields):=by unfold Hd;rw [ZbC hlt,hnm,hls];rfl
         go_wp2
         go_quiet ((go_at_call 206;exact Calls.quiet_of_same (Zan _ _ hsz)))
         go_wp2_with fail;have HBD:∀ o n,Hd (Zw_ w ((wr.alloc o).drewN n)):=fun o n=>below_drewN (HB.o.alloc HB.o.size _) _
         have HRD:∀ o n,Hd (((wr.alloc o).drewN n).heap[w.heap.size]?=some (.map Zak 4)):=fun o n=>by
          unfold Hd;rw [(below_drewN ((Below.refl wr.heap.size wr).alloc Zl_ o) n).block w.heap.size (Zk_ hz1 HB1.o.size)];exact HR.o
         refine (ZfX w.heap.size lo lo _ _ Ss Ss[jj+1].fields _ (HRD _ _).o (HL.o.below (HBD _ _).o) (HST.o.below (HBD _ _).o)).mono ?_;rintro e w3 ⟨rfl,hb3⟩;have HB3:Hd (Zw_ w w3):=(HBD _ _).o.trans (hb3.mono (HBD _ _).o.size);have HB13:Hd (Below w1.heap.size w1 w3):=(below_drewN (HB1.o.alloc HB1.o.size _) _).trans (hb3.mono (below_drewN (HB1.o.alloc HB1.o.size _) _).size);clear hb3
         cases hfb:Zaz Ss Ss[jj+1].fields with
         | false=>
          have HN:Hd (ZaE Ss=false):=Zbr hlt (by rw [HEQ.o];exact hfb);go_wp2;go_ret;exact⟨Zaa HN.o.symm,HB3.o⟩
         | true=>
          have hnx:Hd (∀ i,i < jj+1+1->Za0 Ss i=true):=fun i hi=>by
           by_cases e:i=jj+1
           . rw [e,HEQ.o];exact hfb
           . exact HA.o i (by omega)
          go_wp2;go_roundw
          . exact⟨jj+1+1,by go_num,by omega,HB13.o,hnx.o⟩
          . simp [intOf];omega
    . go_wp2
      go_ret;exact⟨Zaa (Zmy (by omega) (by omega) HA.o).symm,HB.o⟩
 . go_enter func204,ntmps204
   go_wp2;go_ret;exact⟨Zaa (by unfold ZaE;simp;intro h;omega),Below.refl _ _⟩
theorem ZhX (lo:Nat) (kind:Zy_) (v:Value) (Fs:List Fd) (field name:Zy_) (w:World) (hv:Zau lo w v Fs) :
 Calls prog 265 #[.agg #[.string kind,v],.string field,.string name] w fun e w'=>e=.returned (.bool (Zg1 Fs field name))/\Zw_ w w':=by
 have HV:=Zab hv;obtain⟨a,cap,rfl⟩:=hv.form;clear hv;have HW:∀ o,Hd (Zw_ w (w.alloc o)):=fun o=>Zb_.alloc Zl_ _
 go_enter func265,ntmps265;go_wp2_with fail;refine (Zf7 lo _ _ Fs name w _ HV.o (HW _).o).mono ?_;rintro e w1 ⟨hb1,hr⟩;have HB1:Hd (Zw_ w w1):=(HW _).o.trans (hb1.mono (by simp));have HB2:∀ o,Hd (Zw_ w (w1.alloc o)):=fun o=>HB1.o.alloc HB1.o.size _
 clear hb1
 rcases hr with ⟨f,wv,hff,hpl,rfl,hwd⟩ | ⟨hpl,rfl⟩
 . obtain⟨wa,wn,wcap,rfl⟩:=hwd.form
   clear hwd hff
   cases hne:name.toList.isEmpty with
   | true=>
    go_wp2;go_ret;exact⟨Zaa (by unfold Zg1;simp [hne]),(HB2 _).o⟩
   | false=>
    cases hnf:(name.toList == field.toList) with
    | true=>
     go_wp2;go_ret;exact⟨Zaa (by unfold Zg1;simp [hne,hnf,hpl]),(HB2 _).o⟩
    | false=>
     go_wp2;go_ret;exact⟨Zaa (by unfold Zg1;simp [hne,hnf,hpl]),(HB2 _).o⟩
 . cases hne:name.toList.isEmpty with
   | true=>
    go_wp2;go_ret;exact⟨Zaa (by unfold Zg1;simp [hne]),(HB2 _).o⟩
   | false=>
    go_wp2;go_ret;exact⟨Zaa (by unfold Zg1;simp [hne,hpl]),(HB2 _).o⟩
theorem Zme (lo:Nat) (kind:Zy_) (v:Value) (Fs:List Fd) (m:Md) (w0 w:World) (hv:Zau lo w0 v Fs) (h0:Below w0.heap.size w0 w) (hm:ZdK m) :
 Calls prog 234 #[.agg #[.string kind,v],.agg #[.string m.kind,.string m.field,.string m.wh,.string m.is,.string m.put,.string m.fr]] w fun e w'=>e=.returned (.bool (ZdP Fs m))/\Zw_ w w':=by
 have HV:=Zab hv;have H0:=Zab h0;have HM:=Zab hm;obtain⟨a,cap,rfl⟩:=hv.form;clear hv h0 hm;go_enter func234,ntmps234;go_wp2_with fail;generalize hWa:w.alloc _=Wa;have hza:Wa.heap.size=w.heap.size+1:=by rw [<- hWa];simp
 have HBa:Hd (Zw_ w Wa):=by rw [<- hWa];exact Zac _ _
 have FS:Hd (Box Wa w.heap.size #[.string kind,.slice a Fs.length cap]):=by rw [<- hWa];exact Box.new _ _ _ _ rfl
 clear hWa;generalize hWb:Wa.alloc _=Wb;have hbb:Below Wa.heap.size Wa Wb:=by rw [<- hWb];exact Zac _ _
 have HBb:Hd (Zw_ w Wb):=HBa.o.trans (hbb.mono (by omega));have FS:=Zab (FS.o.on hbb);have FM:Hd (Box Wb (w.heap.size+1) #[.string m.kind,.string m.field,.string m.wh,.string m.is,.string m.put,.string m.fr]):=by rw [<- hWb];exact Box.new _ _ _ _ hza
 clear hWb hbb HBa hza;refine (Zf7 lo _ _ Fs m.field w0 _ HV.o (H0.o.trans (HBb.o.mono H0.o.size))).mono ?_;rintro e w1 ⟨hb1,hr⟩;have FS:=Zab (FS.o.on hb1);have FM:=Zab (FM.o.on hb1);have HB1:Hd (Zw_ w w1):=HBb.o.trans (hb1.mono HBb.o.size);clear hb1 HBb
 rcases hr with ⟨f,wv,hff,hpl,rfl,hwd⟩ | ⟨hpl,rfl⟩
 . obtain⟨wa,wn,wcap,rfl⟩:=hwd.form
   have HWD:=Zab hwd;have HFIT:Hd (Zm9 Fs m.field m.put=ZaL f.kd f.le f.mo f.words m.put):=by unfold Hd Zm9;rw [hff]
   clear hwd hff;have g1:=FS.o.cell;have g2:=FM.o.cell;have gl:=FS.o.lt;have gl2:=FM.o.lt;go_wp2_with fail;generalize hWc:w1.alloc _=Wc;have hbc:Below w1.heap.size w1 Wc:=by rw [<- hWc];exact Zac _ _
   have FS:=Zab (FS.o.on hbc);have FM:=Zab (FM.o.on hbc);have FF:Hd (Box Wc w1.heap.size #[.string f.nm,.int .i64 f.kd,.int .i64 f.le,.int .i64 f.mo,(.slice wa wn wcap),.string f.to,.int .i64 f.ro,.bool f.mu,.bool f.fx,.string f.df,.string f.we]):=by rw [<- hWc];exact Box.new _ _ _ _ rfl
   have HBc:Hd (Zw_ w Wc):=HB1.o.trans (hbc.mono HB1.o.size);clear hWc hbc HB1 g1 g2 gl gl2;refine (ZhX lo _ _ Fs m.field m.wh _ (HV.o.below (H0.o.trans (HBc.o.mono H0.o.size)))).mono ?_;rintro e w2 ⟨rfl,hb2⟩;have FS:=Zab (FS.o.on hb2);have FM:=Zab (FM.o.on hb2);have FF:=Zab (FF.o.on hb2);have HB2:Hd (Zw_ w w2):=HBc.o.trans (hb2.mono HBc.o.size);clear hb2 HBc
   cases hrw:Zg1 Fs m.field m.wh with
   | false=>
    go_wp2;go_ret;exact⟨Zaa (by unfold ZdP;simp [hpl,hrw]),HB2.o⟩
   | true=>
    have g1:=FS.o.cell;have g2:=FM.o.cell;have gl:=FS.o.lt;have gl2:=FM.o.lt;go_wp2_with fail;clear g1 g2 gl gl2;refine (ZhX lo _ _ Fs m.field m.fr _ (HV.o.below (H0.o.trans (HB2.o.mono H0.o.size)))).mono ?_;rintro e w3 ⟨rfl,hb3⟩;have FM:=Zab (FM.o.on hb3);have FF:=Zab (FF.o.on hb3);have HB3:Hd (Zw_ w w3):=HB2.o.trans (hb3.mono HB2.o.size);clear hb3 HB2
    cases hrf:Zg1 Fs m.field m.fr with
    | false=>
     go_wp2;go_ret;exact⟨Zaa (by unfold ZdP;simp [hpl,hrw,hrf]),HB3.o⟩
    | true=>
     have g2:=FM.o.cell;have gl2:=FM.o.lt
     cases hwe:m.wh.toList.isEmpty with
     | true=>
      cases his:m.is.toList.isEmpty with
      | false=>
       go_wp2;go_ret;exact⟨Zaa (by unfold ZdP ZbQ;simp [hpl,hrw,hrf,hwe,his]),HB3.o⟩
      | true=>
       cases hfe:m.fr.toList.isEmpty with
       | true=>
        cases hpu:m.put.toList.isEmpty with
        | true=>
         go_wp2;go_ret;exact⟨Zaa (by unfold ZdP ZbQ;simp [hpl,hrw,hrf,hwe,his,hfe,hpu]),HB3.o⟩
        | false=>
         have HEND:Hd (ZdP Fs m=Zm9 Fs m.field m.put):=by unfold Hd ZdP ZbQ;simp [hpl,hrw,hrf,hwe,his,hfe,hpu]
         have g3:=FF.o.cell;have gl3:=FF.o.lt;go_wp2_with fail;clear g2 g3 gl2 gl3;refine (Zf0 _ _ _ _ _ _ _ _ _ _ f.words _ _ _ (HWD.o.at.below (H0.o.trans (HB3.o.mono H0.o.size))) HM.o.s4).mono ?_;rintro e w4 ⟨rfl,hb4⟩;have HB4:Hd (Zw_ w w4):=HB3.o.trans (hb4.mono HB3.o.size);clear hb4;go_wp2;go_ret;exact⟨Zaa (HEND.o.trans HFIT.o).symm,HB4.o⟩
       | false=>
        cases hpu:m.put.toList.isEmpty with
        | true=>
         go_wp2;go_ret;exact⟨Zaa (by unfold ZdP ZbQ;simp [hpl,hrw,hrf,hwe,his,hfe,hpu]),HB3.o⟩
        | false=>
         go_wp2;go_ret;exact⟨Zaa (by unfold ZdP ZbQ;simp [hpl,hrw,hrf,hwe,his,hfe,hpu]),HB3.o⟩
     | false=>
      cases hfe:m.fr.toList.isEmpty with
      | true=>
       cases hpu:m.put.toList.isEmpty with
       | true=>
        go_wp2;go_ret;exact⟨Zaa (by unfold ZdP ZbQ;simp [hpl,hrw,hrf,hwe,hfe,hpu]),HB3.o⟩
       | false=>
        have HEND:Hd (ZdP Fs m=Zm9 Fs m.field m.put):=by unfold Hd ZdP ZbQ;simp [hpl,hrw,hrf,hwe,hfe,hpu]
        have g3:=FF.o.cell;have gl3:=FF.o.lt;go_wp2_with fail;clear g2 g3 gl2 gl3;refine (Zf0 _ _ _ _ _ _ _ _ _ _ f.words _ _ _ (HWD.o.at.below (H0.o.trans (HB3.o.mono H0.o.size))) HM.o.s4).mono ?_;rintro e w4 ⟨rfl,hb4⟩;have HB4:Hd (Zw_ w w4):=HB3.o.trans (hb4.mono HB3.o.size);clear hb4;go_wp2;go_ret;exact⟨Zaa (HEND.o.trans HFIT.o).symm,HB4.o⟩
      | false=>
       cases hpu:m.put.toList.isEmpty with
       | true=>
        go_wp2;go_ret;exact⟨Zaa (by unfold ZdP ZbQ;simp [hpl,hrw,hrf,hwe,hfe,hpu]),HB3.o⟩
       | false=>
        go_wp2;go_ret;exact⟨Zaa (by unfold ZdP ZbQ;simp [hpl,hrw,hrf,hwe,hfe,hpu]),HB3.o⟩
 . have g1:=FS.o.cell
   have g2:=FM.o.cell;go_wp2;go_ret;exact⟨Zaa (by unfold ZdP;simp [hpl]),HB1.o.alloc HB1.o.size _⟩
end Go.Proofs.YtmappejlmapboaaGreat
