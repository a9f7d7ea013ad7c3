import Derived.Test.YtmappejlmapboaaGreatG27
import Derived.Test.YtmappejlmapboaaGreatG33
import Derived.Test.YtmappejlmapboaaGreatG34
set_option maxHeartbeats 16000000
set_option maxRecDepth 100000
open Go.Proofs.Tryz
namespace Go.Proofs.YtmappejlmapboaaGreat
open Go.RowKit Go.Deep
theorem ZnM {Ss:List Sh}{k:Nat} (h6:Ss.length<=6) (hk:Ss.length<=k) (h:∀ i,i < k->Za4 Ss i=true):ZaH Ss=true:=by
 unfold ZaH;rw [Za1 (fun i hi=>h i (by omega))];simp [h6]
theorem Zh0 (lo:Nat) (v:Value) (Ss:List Sh) (w:World) (hv:ZaI lo w v Ss) :
 Calls prog 204 #[v] w fun e w'=>e=.returned (.bool (ZaH Ss))/\Zw_ w w':=by
 have HL:=Zab hv;have HW:∀ o,Hd (Zw_ w (w.alloc o)):=fun o=>Zb_.alloc Zl_ _
 by_cases hL:Ss=[]
 . subst hL
   obtain⟨a,cap,rfl⟩:=hv.form;clear hv;go_enter func204,ntmps204;go_wp2_with fail;refine (ZeT _).mono ?_;rintro e w1 ⟨rfl,rfl⟩;go_wp2
   go_loop [12] (fun i=>i=.int .i64 0) (fun _=>0)
   case atStart=>rfl
   case round=>
    subst hrel;go_wp2;go_ret;exact⟨rfl,(HW _).o⟩
 obtain⟨b,off,cap,rfl,hm,hbw,hc⟩:=hv.full hL;clear hv;unfold maxLen at hm
 by_cases h6:(Ss.length:Int)<=6
 . go_enter func204,ntmps204
   go_wp2_with fail;refine (ZeT _).mono ?_;rintro e w1 ⟨rfl,hw1⟩;have HB0:Hd (Zw_ w w1):=by unfold Hd;rw [hw1];exact (HW _).o
   have HR0:Hd (w1.heap[w.heap.size]?=some (.map Zak 4)):=by unfold Hd;rw [hw1];exact (MapKept.heap_alloc w _).1
   have hz1:w.heap.size < w1.heap.size:=by rw [hw1];simp
   clear hw1;go_wp2
   go_loopw [12] (fun i wr=>∃ k:Nat,i=.int .i64 k/\k<=Ss.length/\Below w1.heap.size w1 wr/\∀ i,i < k->Za4 Ss i=true) (fun i _=>Ss.length - (intOf i).toNat)
   case atStart=>exact⟨0,rfl,by omega,Below.refl _ _,fun i h=>by omega⟩
   case round=>
    obtain⟨k,rfl,hk,hb1,hall⟩:=hrel;have HA:=Zab hall;have HB1:=Zab hb1;have HB:Hd (Zw_ w wr):=HB0.o.trans (hb1.mono HB0.o.size);have HR:Hd (wr.heap[w.heap.size]?=some (.map Zak 4)):=by unfold Hd;rw [hb1.block w.heap.size hz1];exact HR0.o
    clear hall hb1
    by_cases hlt:k < Ss.length
    . obtain⟨hsz,fv,d0,d1,hst⟩:=hc k hlt
      have c0:wr.cell? ⟨b,off+k*2,none⟩=some (.string Ss[k].kind):=by rw [HB.o.cell (p:=⟨b,_,none⟩) hbw];exact d0
      have c1:wr.cell? ⟨b,off+k*2+1,none⟩=some fv:=by rw [HB.o.cell (p:=⟨b,_,none⟩) hbw];exact d1
      have HST:=Zab hst;obtain⟨fa,fcap,rfl⟩:=hst.form;clear d0 d1 hst;have hbo:b < wr.heap.size:=Zk_ hbw HB.o.size
      cases hnm:Zap Ss[k].kind with
      | false=>
       have HN:Hd (ZaH Ss=false):=by
        unfold Hd;refine ZbA hlt ?_
        cases k with
        | zero=>rw [ZcJ hlt,hnm];rfl
        | succ j=>rw [ZbN hlt,hnm];rfl
       go_wp2
       go_quiet ((go_at_call 206;exact Calls.quiet_of_same (Zan _ _ hsz)))
       go_wp2;go_ret;exact⟨Zaa HN.o.symm,below_drewN (HB.o.alloc HB.o.size _) _⟩
      | true=>
       cases k with
       | zero=>
        have HEQ:Hd (Za4 Ss 0=Zay Ss Ss[0].fields):=by unfold Hd;rw [ZcJ hlt,hnm];rfl
        have c0':wr.cell? ⟨b,off,none⟩=some (.string Ss[0].kind):=by simpa using c0
        have c1':wr.cell? ⟨b,off+1,none⟩=some (.slice fa Ss[0].fields.length fcap):=by simpa using c1
        clear c0 c1;go_wp2
        go_quiet ((go_at_call 206;exact Calls.quiet_of_same (Zan _ _ hsz)))
        go_wp2_with fail;have HBD:∀ o n,Hd (Zw_ w ((wr.alloc o).drewN n)):=fun o n=>below_drewN (HB.o.alloc HB.o.size _) _
        have HRD:∀ o n,Hd (((wr.alloc o).drewN n).heap[w.heap.size]?=some (.map Zak 4)):=fun o n=>by
         unfold Hd;rw [(below_drewN ((Below.refl wr.heap.size wr).alloc Zl_ o) n).block w.heap.size (Zk_ hz1 HB1.o.size)];exact HR.o
        refine (Zgx w.heap.size lo lo _ _ Ss Ss[0].fields _ (HRD _ _).o (HL.o.below (HBD _ _).o) (HST.o.below (HBD _ _).o)).mono ?_;rintro e w3 ⟨rfl,hb3⟩;have HB3:Hd (Zw_ w w3):=(HBD _ _).o.trans (hb3.mono (HBD _ _).o.size);have HB13:Hd (Below w1.heap.size w1 w3):=(below_drewN (HB1.o.alloc HB1.o.size _) _).trans (hb3.mono (below_drewN (HB1.o.alloc HB1.o.size _) _).size);clear hb3
        cases hfb:Zay Ss Ss[0].fields with
        | false=>
         have HN:Hd (ZaH Ss=false):=ZbA hlt (by rw [HEQ.o];exact hfb);go_wp2;go_ret;exact⟨Zaa HN.o.symm,HB3.o⟩
        | true=>
         have hnx:Hd (∀ i,i < 0+1->Za4 Ss i=true):=fun i hi=>by
          by_cases e:i=0
          . rw [e,HEQ.o];exact hfb
          . exact HA.o i (by omega)
         go_wp2;go_roundw
         . exact⟨0+1,by go_num,by omega,HB13.o,hnx.o⟩
         . simp [intOf];omega
       | succ jj=>
        obtain⟨_,fvj,dj,_,_⟩:=hc jj (by omega);have cj:wr.cell? ⟨b,off+jj*2,none⟩=some (.string Ss[jj].kind):=by rw [HB.o.cell (p:=⟨b,_,none⟩) hbw];exact dj
        clear dj;have hjw:IntKind.i64.wrap (jj:Int)=jj:=by rw [IntKind.wrap_i64];omega
        have hjl:jj < Ss.length:=by omega
        have hdl:decide ((jj:Int)+1 < (Ss.length:Int))=true:=by simp;omega
        have cj2:∀ o,(wr.alloc o).cell? ⟨b,off+jj*2,none⟩=some (.string Ss[jj].kind):=fun o=>by rw [((Below.refl wr.heap.size wr).alloc Zl_ o).cell (p:=⟨b,_,none⟩) hbo];exact cj
        have cj3:∀ o n,((wr.alloc o).drewN n).cell? ⟨b,off+jj*2,none⟩=some (.string Ss[jj].kind):=fun o n=>cj2 o
        cases hls:Op.bytesLess Ss[jj].kind.toList Ss[jj+1].kind.toList with
        | false=>
         have HN:Hd (ZaH Ss=false):=ZbA hlt (by rw [ZbN hlt,hls];simp);go_wp2
         go_quiet ((go_at_call 206;exact Calls.quiet_of_same (Zan _ _ hsz)))
         go_wp2;go_ret;exact⟨Zaa HN.o.symm,below_drewN (HB.o.alloc HB.o.size _) _⟩
        | true=>
         have HEQ:Hd (Za4 Ss (jj+1)=Zay Ss Ss[jj+1].fields):=by unfold Hd;rw [ZbN hlt,hnm,hls];rfl
         go_wp2
         go_quiet ((go_at_call 206;exact Calls.quiet_of_same (Zan _ _ hsz)))
         go_wp2_with fail;have HBD:∀ o n,Hd (Zw_ w ((wr.alloc o).drewN n)):=fun o n=>below_drewN (HB.o.alloc HB.o.size _) _
         have HRD:∀ o n,Hd (((wr.alloc o).drewN n).heap[w.heap.size]?=some (.map Zak 4)):=fun o n=>by
          unfold Hd;rw [(below_drewN ((Below.refl wr.heap.size wr).alloc Zl_ o) n).block w.heap.size (Zk_ hz1 HB1.o.size)];exact HR.o
         refine (Zgx w.heap.size lo lo _ _ Ss Ss[jj+1].fields _ (HRD _ _).o (HL.o.below (HBD _ _).o) (HST.o.below (HBD _ _).o)).mono ?_;rintro e w3 ⟨rfl,hb3⟩;have HB3:Hd (Zw_ w w3):=(HBD _ _).o.trans (hb3.mono (HBD _ _).o.size);have HB13:Hd (Below w1.heap.size w1 w3):=(below_drewN (HB1.o.alloc HB1.o.size _) _).trans (hb3.mono (below_drewN (HB1.o.alloc HB1.o.size _) _).size);clear hb3
         cases hfb:Zay Ss Ss[jj+1].fields with
         | false=>
          have HN:Hd (ZaH Ss=false):=ZbA hlt (by rw [HEQ.o];exact hfb);go_wp2;go_ret;exact⟨Zaa HN.o.symm,HB3.o⟩
         | true=>
          have hnx:Hd (∀ i,i < jj+1+1->Za4 Ss i=true):=fun i hi=>by
           by_cases e:i=jj+1
           . rw [e,HEQ.o];exact hfb
           . exact HA.o i (by omega)
          go_wp2;go_roundw
          . exact⟨jj+1+1,by go_num,by omega,HB13.o,hnx.o⟩
          . simp [intOf];omega
    . go_wp2
      go_ret;exact⟨Zaa (ZnM (by omega) (by omega) HA.o).symm,HB.o⟩
 . go_enter func204,ntmps204
   go_wp2;go_ret;exact⟨Zaa (by unfold ZaH;simp;intro h;omega),Below.refl _ _⟩
theorem ZiL (lo:Nat) (kind:Zy_) (v:Value) (Fs:List Fd) (field name:Zy_) (w:World) (hv:Zau lo w v Fs) :
 Calls prog 265 #[.agg #[.string kind,v],.string field,.string name] w fun e w'=>e=.returned (.bool (ZhF Fs field name))/\Zw_ w w':=by
 have HV:=Zab hv;obtain⟨a,cap,rfl⟩:=hv.form;clear hv;have HW:∀ o,Hd (Zw_ w (w.alloc o)):=fun o=>Zb_.alloc Zl_ _
 go_enter func265,ntmps265;go_wp2_with fail;refine (ZgH lo _ _ Fs name w _ HV.o (HW _).o).mono ?_;rintro e w1 ⟨hb1,hr⟩;have HB1:Hd (Zw_ w w1):=(HW _).o.trans (hb1.mono (by simp));have HB2:∀ o,Hd (Zw_ w (w1.alloc o)):=fun o=>HB1.o.alloc HB1.o.size _
 clear hb1
 rcases hr with ⟨f,wv,hff,hpl,rfl,hwd⟩ | ⟨hpl,rfl⟩
 . obtain⟨wa,wn,wcap,rfl⟩:=hwd.form
   clear hwd hff
   cases hne:name.toList.isEmpty with
   | true=>
    go_wp2;go_ret;exact⟨Zaa (by unfold ZhF;simp [hne]),(HB2 _).o⟩
   | false=>
    cases hnf:(name.toList == field.toList) with
    | true=>
     go_wp2;go_ret;exact⟨Zaa (by unfold ZhF;simp [hne,hnf,hpl]),(HB2 _).o⟩
    | false=>
     go_wp2;go_ret;exact⟨Zaa (by unfold ZhF;simp [hne,hnf,hpl]),(HB2 _).o⟩
 . cases hne:name.toList.isEmpty with
   | true=>
    go_wp2;go_ret;exact⟨Zaa (by unfold ZhF;simp [hne]),(HB2 _).o⟩
   | false=>
    go_wp2;go_ret;exact⟨Zaa (by unfold ZhF;simp [hne,hpl]),(HB2 _).o⟩
theorem Znr (lo:Nat) (kind:Zy_) (v:Value) (Fs:List Fd) (m:Md) (w0 w:World) (hv:Zau lo w0 v Fs) (h0:Below w0.heap.size w0 w) (hm:Zeb m) :
 Calls prog 234 #[.agg #[.string kind,v],.agg #[.string m.kind,.string m.field,.string m.wh,.string m.is,.string m.put,.string m.fr]] w fun e w'=>e=.returned (.bool (Zei Fs m))/\Zw_ w w':=by
 have HV:=Zab hv;have H0:=Zab h0;have HM:=Zab hm;obtain⟨a,cap,rfl⟩:=hv.form;clear hv h0 hm;go_enter func234,ntmps234;go_wp2_with fail;generalize hWa:w.alloc _=Wa;have hza:Wa.heap.size=w.heap.size+1:=by rw [<- hWa];simp
 have HBa:Hd (Zw_ w Wa):=by rw [<- hWa];exact Zac _ _
 have FS:Hd (Box Wa w.heap.size #[.string kind,.slice a Fs.length cap]):=by rw [<- hWa];exact Box.new _ _ _ _ rfl
 clear hWa;generalize hWb:Wa.alloc _=Wb;have hbb:Below Wa.heap.size Wa Wb:=by rw [<- hWb];exact Zac _ _
 have HBb:Hd (Zw_ w Wb):=HBa.o.trans (hbb.mono (by omega));have FS:=Zab (FS.o.on hbb);have FM:Hd (Box Wb (w.heap.size+1) #[.string m.kind,.string m.field,.string m.wh,.string m.is,.string m.put,.string m.fr]):=by rw [<- hWb];exact Box.new _ _ _ _ hza
 clear hWb hbb HBa hza;refine (ZgH lo _ _ Fs m.field w0 _ HV.o (H0.o.trans (HBb.o.mono H0.o.size))).mono ?_;rintro e w1 ⟨hb1,hr⟩;have FS:=Zab (FS.o.on hb1);have FM:=Zab (FM.o.on hb1);have HB1:Hd (Zw_ w w1):=HBb.o.trans (hb1.mono HBb.o.size);clear hb1 HBb
 rcases hr with ⟨f,wv,hff,hpl,rfl,hwd⟩ | ⟨hpl,rfl⟩
 . obtain⟨wa,wn,wcap,rfl⟩:=hwd.form
   have HWD:=Zab hwd;have HFIT:Hd (Zot Fs m.field m.put=ZaL f.kd f.le f.mo f.words m.put):=by unfold Hd Zot;rw [hff]
   clear hwd hff;have g1:=FS.o.cell;have g2:=FM.o.cell;have gl:=FS.o.lt;have gl2:=FM.o.lt;go_wp2_with fail;generalize hWc:w1.alloc _=Wc;have hbc:Below w1.heap.size w1 Wc:=by rw [<- hWc];exact Zac _ _
   have FS:=Zab (FS.o.on hbc);have FM:=Zab (FM.o.on hbc);have FF:Hd (Box Wc w1.heap.size #[.string f.nm,.int .i64 f.kd,.int .i64 f.le,.int .i64 f.mo,(.slice wa wn wcap),.string f.to,.int .i64 f.ro,.bool f.mu,.bool f.fx,.string f.df,.string f.we]):=by rw [<- hWc];exact Box.new _ _ _ _ rfl
   have HBc:Hd (Zw_ w Wc):=HB1.o.trans (hbc.mono HB1.o.size);clear hWc hbc HB1 g1 g2 gl gl2;refine (ZiL lo _ _ Fs m.field m.wh _ (HV.o.below (H0.o.trans (HBc.o.mono H0.o.size)))).mono ?_;rintro e w2 ⟨rfl,hb2⟩;have FS:=Zab (FS.o.on hb2);have FM:=Zab (FM.o.on hb2);have FF:=Zab (FF.o.on hb2);have HB2:Hd (Zw_ w w2):=HBc.o.trans (hb2.mono HBc.o.size);clear hb2 HBc
   cases hrw:ZhF Fs m.field m.wh with
   | false=>
    go_wp2;go_ret;exact⟨Zaa (by unfold Zei;simp [hpl,hrw]),HB2.o⟩
   | true=>
    have g1:=FS.o.cell;have g2:=FM.o.cell;have gl:=FS.o.lt;have gl2:=FM.o.lt;go_wp2_with fail;clear g1 g2 gl gl2;refine (ZiL lo _ _ Fs m.field m.fr _ (HV.o.below (H0.o.trans (HB2.o.mono H0.o.size)))).mono ?_;rintro e w3 ⟨rfl,hb3⟩;have FM:=Zab (FM.o.on hb3);have FF:=Zab (FF.o.on hb3);have HB3:Hd (Zw_ w w3):=HB2.o.trans (hb3.mono HB2.o.size);clear hb3 HB2
    cases hrf:ZhF Fs m.field m.fr with
    | false=>
     go_wp2;go_ret;exact⟨Zaa (by unfold Zei;simp [hpl,hrw,hrf]),HB3.o⟩
    | true=>
     have g2:=FM.o.cell;have gl2:=FM.o.lt
     cases hwe:m.wh.toList.isEmpty with
     | true=>
      cases his:m.is.toList.isEmpty with
      | false=>
       go_wp2;go_ret;exact⟨Zaa (by unfold Zei Zb1;simp [hpl,hrw,hrf,hwe,his]),HB3.o⟩
      | true=>
       cases hfe:m.fr.toList.isEmpty with
       | true=>
        cases hpu:m.put.toList.isEmpty with
        | true=>
         go_wp2;go_ret;exact⟨Zaa (by unfold Zei Zb1;simp [hpl,hrw,hrf,hwe,his,hfe,hpu]),HB3.o⟩
        | false=>
         have HEND:Hd (Zei Fs m=Zot Fs m.field m.put):=by unfold Hd Zei Zb1;simp [hpl,hrw,hrf,hwe,his,hfe,hpu]
         have g3:=FF.o.cell;have gl3:=FF.o.lt;go_wp2_with fail;clear g2 g3 gl2 gl3;refine (ZgB _ _ _ _ _ _ _ _ _ _ f.words _ _ _ (HWD.o.at.below (H0.o.trans (HB3.o.mono H0.o.size))) HM.o.s4).mono ?_;rintro e w4 ⟨rfl,hb4⟩;have HB4:Hd (Zw_ w w4):=HB3.o.trans (hb4.mono HB3.o.size);clear hb4;go_wp2;go_ret;exact⟨Zaa (HEND.o.trans HFIT.o).symm,HB4.o⟩
       | false=>
        cases hpu:m.put.toList.isEmpty with
        | true=>
         go_wp2;go_ret;exact⟨Zaa (by unfold Zei Zb1;simp [hpl,hrw,hrf,hwe,his,hfe,hpu]),HB3.o⟩
        | false=>
         go_wp2;go_ret;exact⟨Zaa (by unfold Zei Zb1;simp [hpl,hrw,hrf,hwe,his,hfe,hpu]),HB3.o⟩
     | false=>
      cases hfe:m.fr.toList.isEmpty with
      | true=>
       cases hpu:m.put.toList.isEmpty with
       | true=>
        go_wp2;go_ret;exact⟨Zaa (by unfold Zei Zb1;simp [hpl,hrw,hrf,hwe,hfe,hpu]),HB3.o⟩
       | false=>
        have HEND:Hd (Zei Fs m=Zot Fs m.field m.put):=by unfold Hd Zei Zb1;simp [hpl,hrw,hrf,hwe,hfe,hpu]
        have g3:=FF.o.cell;have gl3:=FF.o.lt;go_wp2_with fail;clear g2 g3 gl2 gl3;refine (ZgB _ _ _ _ _ _ _ _ _ _ f.words _ _ _ (HWD.o.at.below (H0.o.trans (HB3.o.mono H0.o.size))) HM.o.s4).mono ?_;rintro e w4 ⟨rfl,hb4⟩;have HB4:Hd (Zw_ w w4):=HB3.o.trans (hb4.mono HB3.o.size);clear hb4;go_wp2;go_ret;exact⟨Zaa (HEND.o.trans HFIT.o).symm,HB4.o⟩
      | false=>
       cases hpu:m.put.toList.isEmpty with
       | true=>
        go_wp2;go_ret;exact⟨Zaa (by unfold Zei Zb1;simp [hpl,hrw,hrf,hwe,hfe,hpu]),HB3.o⟩
       | false=>
        go_wp2;go_ret;exact⟨Zaa (by unfold Zei Zb1;simp [hpl,hrw,hrf,hwe,hfe,hpu]),HB3.o⟩
 . have g1:=FS.o.cell
   have g2:=FM.o.cell;go_wp2;go_ret;exact⟨Zaa (by unfold Zei;simp [hpl]),HB1.o.alloc HB1.o.size _⟩
variable {Ss:List Sh} {m:Md}
theorem Zra {x:Sh} (hs:ZaH Ss=true) (hx:Zcj Ss m.kind=some x):Zei x.fields m=Zde Ss m:=by
 unfold Zde;rw [hx];exact ZpA (Zgy (Zbz hs (Zcd hx).1))
theorem Znq (hx:Zcj Ss m.kind=none):Zde Ss m=false:=by unfold Zde;rw [hx]
theorem Zp0 (lo lm:Nat) (sv mv:Value) (Ss:List Sh) (Ms:List Md) (w:World) (hS:ZaI lo w sv Ss) (hM:Zbc lm w mv Ms) (hsb:ZaH Ss=true) :
 Calls prog 205 #[sv,mv] w fun e w'=>e=.returned (.bool (Zax Ss Ms))/\Zw_ w w':=by
 have HS:=Zab hS;have HM:=Zab hM;have HSB:=Zab hsb;obtain⟨a1,cap1,rfl⟩:=hS.form;obtain⟨a2,cap2,rfl⟩:=hM.form;clear hS hM hsb
 have hml:(Ms.length:Int)<=9223372036854775807:=by
  rcases HM.o with ⟨_,_,_,h⟩ | ⟨_,_,_,_,_,h,_⟩
  . rw [h];simp
  . unfold maxLen at h;omega
 have hs6:Ss.length<=6:=ZiN HSB.o
 by_cases h12:(Ms.length:Int)<=12
 . go_enter func205,ntmps205
   go_wp2
   go_loopw [18] (fun i wr=>∃ k:Nat,i=.int .i64 k/\k<=Ms.length/\Zw_ w wr/\∀ i (h:i < Ms.length),i < k->Zde Ss Ms[i]=true) (fun i _=>Ms.length - (intOf i).toNat)
   case atStart=>exact⟨0,rfl,by omega,Below.refl _ _,fun i _ h=>by omega⟩
   case round=>
    obtain⟨k,rfl,hk,hb,hall⟩:=hrel;have HA:=Zab hall;have HB:=Zab hb;clear hall hb
    by_cases hlt:k < Ms.length
    . obtain⟨b,off,rfl,hbw,hc⟩:=HM.o.full' (by omega)
      obtain⟨hsz,hcell⟩:=hc k hlt;obtain⟨c0,c1,c2,c3,c4,c5⟩:=hcell.below HB.o hbw;clear hcell hc;go_wp2_with fail;generalize hWa:wr.alloc _=Wa;have hba:Below wr.heap.size wr Wa:=by rw [<- hWa];exact Zac _ _
      have FM:Hd (Box Wa wr.heap.size #[.string Ms[k].kind,.string Ms[k].field,.string Ms[k].wh,.string Ms[k].is,.string Ms[k].put,.string Ms[k].fr]):=by rw [<- hWa];exact Box.new _ _ _ _ rfl
      have HBa:Hd (Zw_ w Wa):=HB.o.trans (hba.mono HB.o.size);clear hWa hba c0 c1 c2 c3 c4 c5;refine (Zds lo _ Ss Ms[k].kind w _ HS.o HBa.o).mono ?_;rintro e w1 ⟨hb1,hsh⟩;have FM:=Zab (FM.o.on hb1);have HB1:Hd (Zw_ w w1):=HBa.o.trans (hb1.mono HBa.o.size);clear hb1 HBa;have g1:=FM.o.cell;have gl:=FM.o.lt
      rcases hsh with ⟨x,fv,hx,rfl,hfd⟩ | ⟨hx,rfl⟩
      . obtain⟨fa,fcap,rfl⟩:=hfd.form
        have HFD:=Zab hfd;have HX:=Zab hx;clear hfd hx;go_wp2_with fail;clear g1 gl;refine (Znr lo _ _ x.fields Ms[k] w _ HFD.o (HB1.o.alloc HB1.o.size _) hsz).mono ?_;rintro e w2 ⟨rfl,hb2⟩;have HB2:Hd (Zw_ w w2):=(HB1.o.alloc HB1.o.size _).trans (hb2.mono (HB1.o.alloc HB1.o.size _).size);clear hb2;rw [Zra HSB.o HX.o]
        cases hmb:Zde Ss Ms[k] with
        | false=>
         have HQ:Hd (Zax Ss Ms=false):=Zhy hlt hmb;go_wp2;go_ret;exact⟨Zaa HQ.o.symm,HB2.o⟩
        | true=>
         go_wp2;go_roundw
         case rel=>exact⟨k+1,by go_num,by omega,HB2.o,fun i h h'=>by
                    by_cases e:i=k
                    . subst e;exact hmb
                    . exact HA.o i h (by omega)⟩
         . simp [intOf];omega
      . have HQ:Hd (Zax Ss Ms=false):=Zhy hlt (Znq hx)
        go_wp2;go_ret;exact⟨Zaa HQ.o.symm,HB1.o.alloc HB1.o.size _⟩
    . have HAll:Hd (∀ i (h:i < Ms.length),Zde Ss Ms[i]=true):=fun i h=>HA.o i h (by omega)
      have HBx:Hd (Zw_ w wr):=HB.o;clear HA HB;go_wp2;clear hlt hk
      go_loopw [40] (fun i wr=>∃ k:Nat,i=.int .i64 k/\k<=Ss.length/\Zw_ w wr/\∀ i (h:i < Ss.length),i < k->Zbq Ms Ss[i]=true) (fun i _=>Ss.length - (intOf i).toNat)
      case atStart=>exact⟨0,rfl,by omega,HBx.o,fun i _ h=>by omega⟩
      case round=>
       clear HBx;obtain⟨j,rfl,hj,hb,hall⟩:=hrel;have HA:=Zab hall;have HB:=Zab hb;clear hall hb
       by_cases hlt:j < Ss.length
       . obtain⟨b,off,rfl,hbw,hc⟩:=HS.o.full' (by omega)
         obtain⟨hsz,fv,d0,d1,hst⟩:=hc j hlt;have c0:wr.cell? ⟨b,off+j*2,none⟩=some (.string Ss[j].kind):=by rw [HB.o.cell (p:=⟨b,_,none⟩) hbw];exact d0
         have c1:wr.cell? ⟨b,off+j*2+1,none⟩=some fv:=by rw [HB.o.cell (p:=⟨b,_,none⟩) hbw];exact d1
         obtain⟨fa,fcap,rfl⟩:=hst.form;have HST:=Zab hst;have h6:Ss[j].fields.length<=6:=Zc2 (Zbz HSB.o (List.getElem_mem hlt));clear d0 d1 hst hc;go_wp2_with fail;have HBa:=fun o=>Zab (HB.o.alloc HB.o.size o)
         refine (Zgv lo lm _ _ Ss[j] Ms w _ HST.o (HBa _).o (HM.o.below (HBa _).o) (by omega) (by omega)).mono ?_;rintro e w2 ⟨hb2,hgr⟩;have HB2:Hd (Zw_ w w2):=(HBa _).o.trans (hb2.mono (HBa _).o.size);clear hb2 HBa c0 c1
         rcases hgr with ⟨v2,R,rfl,ho,hg,hl⟩ | ⟨hno,rfl⟩
         . have HSR:Hd (Zbq Ms Ss[j]=true):=Zmy hg hl
           obtain⟨va,vcap,rfl⟩:=ho.form;clear ho hg hl;go_wp2;go_roundw
           case rel=>exact⟨j+1,by go_num,by omega,HB2.o,fun i h h'=>by
                      by_cases e:i=j
                      . subst e;exact HSR.o
                      . exact HA.o i h (by omega)⟩
           . simp [intOf];omega
         . have HQ:Hd (Zax Ss Ms=false):=ZkB hlt hno
           clear hno;go_wp2;go_ret;exact⟨Zaa HQ.o.symm,HB2.o⟩
       . have HQ:Hd (Zax Ss Ms=true):=Zkz HSB.o (by omega) HAll.o (fun i h=>HA.o i h (by omega))
         go_wp2;go_ret;exact⟨Zaa HQ.o.symm,HB.o⟩
 . have HQ:Hd (Zax Ss Ms=false):=Ziz (by omega)
   go_enter func205,ntmps205;go_wp2;go_ret;exact⟨Zaa HQ.o.symm,Below.refl _ _⟩
theorem Zjh (lo lm:Nat) (sv mv:Value) (Ss:List Sh) (Ms:List Md) (w:World) (hS:ZaI lo w sv Ss) (hM:Zbc lm w mv Ms) :
 Calls prog 178 #[sv,mv] w fun e w'=>e=.returned (.bool (Zax Ss Ms))/\Zw_ w w':=by
 have HS:=Zab hS;have HM:=Zab hM;obtain⟨a1,cap1,rfl⟩:=hS.form;obtain⟨a2,cap2,rfl⟩:=hM.form;clear hS hM;go_enter func178,ntmps178;go_wp2_with fail;refine (Zh0 lo _ Ss _ HS.o).mono ?_;rintro e w1 ⟨rfl,hb1⟩;have HB1:=Zab hb1;clear hb1
 cases hsb:ZaH Ss with
 | false=>
  have HQ:Hd (Zax Ss Ms=false):=ZkA hsb;go_wp2;go_ret;exact⟨Zaa HQ.o.symm,HB1.o⟩
 | true=>
  have HSB:=Zab hsb;clear hsb;go_wp2_with fail;refine (Zp0 lo lm _ _ Ss Ms _ (HS.o.below HB1.o) (HM.o.below HB1.o) HSB.o).mono ?_;rintro e w2 ⟨rfl,hb2⟩;have HB2:Hd (Zw_ w w2):=HB1.o.trans (hb2.mono HB1.o.size);clear hb2;go_wp2;go_ret;exact⟨rfl,HB2.o⟩
end Go.Proofs.YtmappejlmapboaaGreat
