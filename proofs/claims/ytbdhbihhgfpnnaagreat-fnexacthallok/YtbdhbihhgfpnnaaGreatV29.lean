import Derived.Test.YtbdhbihhgfpnnaaGreatV25
import Derived.Test.YtbdhbihhgfpnnaaGreatV28
set_option maxHeartbeats 16000000
set_option maxRecDepth 100000
open Go.Proofs.Tryz
namespace Go.Proofs.YtbdhbihhgfpnnaaGreat
open Go.RowKit Go.Deep
theorem Zmu {Ss:List Sh}{k:Nat} (h6:Ss.length<=6) (hk:Ss.length<=k) (h:∀ i,i < k->Za8 Ss i=true):ZaJ Ss=true:=by
 unfold ZaJ;rw [ZaH (fun i hi=>h i (by omega))];simp [h6]
theorem Zhg (lo:Nat) (v:Value) (Ss:List Sh) (w:World) (hv:Zba lo w v Ss) :
 Calls prog 165 #[v] w fun e w'=>e=.returned (.bool (ZaJ Ss))/\Zw_ w w':=by
 have HL:=Zab hv;have HW:∀ o,Hd (Zw_ w (w.alloc o)):=fun o=>Zb_.alloc Zl_ _
 by_cases hL:Ss=[]
 . subst hL
   obtain⟨a,cap,rfl⟩:=hv.form;clear hv;go_enter func165,ntmps165;go_wp2_with fail;refine (Zej _).mono ?_;rintro e w1 ⟨rfl,rfl⟩;go_wp2
   go_loop [12] (fun i=>i=.int .i64 0) (fun _=>0)
   case atStart=>rfl
   case round=>
    subst hrel;go_wp2;go_ret;exact⟨rfl,(HW _).o⟩
 obtain⟨b,off,cap,rfl,hm,hbw,hc⟩:=hv.full hL;clear hv;unfold maxLen at hm
 by_cases h6:(Ss.length:Int)<=6
 . go_enter func165,ntmps165
   go_wp2_with fail;refine (Zej _).mono ?_;rintro e w1 ⟨rfl,hw1⟩;have HB0:Hd (Zw_ w w1):=by unfold Hd;rw [hw1];exact (HW _).o
   have HR0:Hd (w1.heap[w.heap.size]?=some (.map Zaj 4)):=by unfold Hd;rw [hw1];exact (MapKept.heap_alloc w _).1
   have hz1:w.heap.size < w1.heap.size:=by rw [hw1];simp
   clear hw1;go_wp2
   go_loopw [12] (fun i wr=>∃ k:Nat,i=.int .i64 k/\k<=Ss.length/\Below w1.heap.size w1 wr/\∀ i,i < k->Za8 Ss i=true) (fun i _=>Ss.length - (intOf i).toNat)
   case atStart=>exact⟨0,rfl,by omega,Below.refl _ _,fun i h=>by omega⟩
   case round=>
    obtain⟨k,rfl,hk,hb1,hall⟩:=hrel;have HA:=Zab hall;have HB1:=Zab hb1;have HB:Hd (Zw_ w wr):=HB0.o.trans (hb1.mono HB0.o.size);have HR:Hd (wr.heap[w.heap.size]?=some (.map Zaj 4)):=by unfold Hd;rw [hb1.block w.heap.size hz1];exact HR0.o
    clear hall hb1
    by_cases hlt:k < Ss.length
    . obtain⟨hsz,fv,d0,d1,hst⟩:=hc k hlt
      have c0:wr.cell? ⟨b,off+k*2,none⟩=some (.string Ss[k].kind):=by rw [HB.o.cell (p:=⟨b,_,none⟩) hbw];exact d0
      have c1:wr.cell? ⟨b,off+k*2+1,none⟩=some fv:=by rw [HB.o.cell (p:=⟨b,_,none⟩) hbw];exact d1
      have HST:=Zab hst;obtain⟨fa,fcap,rfl⟩:=hst.form;clear d0 d1 hst;have hbo:b < wr.heap.size:=Zk_ hbw HB.o.size
      cases hnm:Zan Ss[k].kind with
      | false=>
       have HN:Hd (ZaJ Ss=false):=by
        unfold Hd;refine Zbt hlt ?_
        cases k with
        | zero=>rw [Zcy hlt,hnm];rfl
        | succ j=>rw [ZbD hlt,hnm];rfl
       go_wp2
       go_quiet ((go_at_call 68;exact Calls.quiet_of_same (Zak _ _ hsz)))
       go_wp2;go_ret;exact⟨Zaa HN.o.symm,below_drewN (HB.o.alloc HB.o.size _) _⟩
      | true=>
       cases k with
       | zero=>
        have HEQ:Hd (Za8 Ss 0=ZaE Ss Ss[0].fields):=by unfold Hd;rw [Zcy hlt,hnm];rfl
        have c0':wr.cell? ⟨b,off,none⟩=some (.string Ss[0].kind):=by simpa using c0
        have c1':wr.cell? ⟨b,off+1,none⟩=some (.slice fa Ss[0].fields.length fcap):=by simpa using c1
        clear c0 c1;go_wp2
        go_quiet ((go_at_call 68;exact Calls.quiet_of_same (Zak _ _ hsz)))
        go_wp2_with fail;have HBD:∀ o n,Hd (Zw_ w ((wr.alloc o).drewN n)):=fun o n=>below_drewN (HB.o.alloc HB.o.size _) _
        have HRD:∀ o n,Hd (((wr.alloc o).drewN n).heap[w.heap.size]?=some (.map Zaj 4)):=fun o n=>by
         unfold Hd;rw [(below_drewN ((Below.refl wr.heap.size wr).alloc Zl_ o) n).block w.heap.size (Zk_ hz1 HB1.o.size)];exact HR.o
        refine (ZfC w.heap.size lo lo _ _ Ss Ss[0].fields _ (HRD _ _).o (HL.o.below (HBD _ _).o) (HST.o.below (HBD _ _).o)).mono ?_;rintro e w3 ⟨rfl,hb3⟩;have HB3:Hd (Zw_ w w3):=(HBD _ _).o.trans (hb3.mono (HBD _ _).o.size);have HB13:Hd (Below w1.heap.size w1 w3):=(below_drewN (HB1.o.alloc HB1.o.size _) _).trans (hb3.mono (below_drewN (HB1.o.alloc HB1.o.size _) _).size);clear hb3
        cases hfb:ZaE Ss Ss[0].fields with
        | false=>
         have HN:Hd (ZaJ Ss=false):=Zbt hlt (by rw [HEQ.o];exact hfb);go_wp2;go_ret;exact⟨Zaa HN.o.symm,HB3.o⟩
        | true=>
         have hnx:Hd (∀ i,i < 0+1->Za8 Ss i=true):=fun i hi=>by
          by_cases e:i=0
          . rw [e,HEQ.o];exact hfb
          . exact HA.o i (by omega)
         go_wp2;go_roundw
         . exact⟨0+1,by go_num,by omega,HB13.o,hnx.o⟩
         . simp [intOf];omega
       | succ jj=>
        obtain⟨_,fvj,dj,_,_⟩:=hc jj (by omega);have cj:wr.cell? ⟨b,off+jj*2,none⟩=some (.string Ss[jj].kind):=by rw [HB.o.cell (p:=⟨b,_,none⟩) hbw];exact dj
        clear dj;have hjw:IntKind.i64.wrap (jj:Int)=jj:=by rw [IntKind.wrap_i64];omega
        have hjl:jj < Ss.length:=by omega
        have hdl:decide ((jj:Int)+1 < (Ss.length:Int))=true:=by simp;omega
        have cj2:∀ o,(wr.alloc o).cell? ⟨b,off+jj*2,none⟩=some (.string Ss[jj].kind):=fun o=>by rw [((Below.refl wr.heap.size wr).alloc Zl_ o).cell (p:=⟨b,_,none⟩) hbo];exact cj
        have cj3:∀ o n,((wr.alloc o).drewN n).cell? ⟨b,off+jj*2,none⟩=some (.string Ss[jj].kind):=fun o n=>cj2 o
        cases hls:Op.bytesLess Ss[jj].kind.toList Ss[jj+1].kind.toList with
        | false=>
         have HN:Hd (ZaJ Ss=false):=Zbt hlt (by rw [ZbD hlt,hls];simp);go_wp2
         go_quiet ((go_at_call 68;exact Calls.quiet_of_same (Zak _ _ hsz)))
         go_wp2;go_ret;exact⟨Zaa HN.o.symm,below_drewN (HB.o.alloc HB.o.size _) _⟩
        | true=>
         have HEQ:Hd (Za8 Ss (jj+1)=ZaE Ss Ss[jj+1].fields):=by unfold Hd;rw [ZbD hlt,hnm,hls];rfl
         go_wp2
         go_quiet ((go_at_call 68;exact Calls.quiet_of_same (Zak _ _ hsz)))
         go_wp2_with fail;have HBD:∀ o n,Hd (Zw_ w ((wr.alloc o).drewN n)):=fun o n=>below_drewN (HB.o.alloc HB.o.size _) _
         have HRD:∀ o n,Hd (((wr.alloc o).drewN n).heap[w.heap.size]?=some (.map Zaj 4)):=fun o n=>by
          unfold Hd;rw [(below_drewN ((Below.refl wr.heap.size wr).alloc Zl_ o) n).block w.heap.size (Zk_ hz1 HB1.o.size)];exact HR.o
         refine (ZfC w.heap.size lo lo _ _ Ss Ss[jj+1].fields _ (HRD _ _).o (HL.o.below (HBD _ _).o) (HST.o.below (HBD _ _).o)).mono ?_;rintro e w3 ⟨rfl,hb3⟩;have HB3:Hd (Zw_ w w3):=(HBD _ _).o.trans (hb3.mono (HBD _ _).o.size);have HB13:Hd (Below w1.heap.size w1 w3):=(below_drewN (HB1.o.alloc HB1.o.size _) _).trans (hb3.mono (below_drewN (HB1.o.alloc HB1.o.size _) _).size);clear hb3
         cases hfb:ZaE Ss Ss[jj+1].fields with
         | false=>
          have HN:Hd (ZaJ Ss=false):=Zbt hlt (by rw [HEQ.o];exact hfb);go_wp2;go_ret;exact⟨Zaa HN.o.symm,HB3.o⟩
         | true=>
          have hnx:Hd (∀ i,i < jj+1+1->Za8 Ss i=true):=fun i hi=>by
           by_cases e:i=jj+1
           . rw [e,HEQ.o];exact hfb
           . exact HA.o i (by omega)
          go_wp2;go_roundw
          . exact⟨jj+1+1,by go_num,by omega,HB13.o,hnx.o⟩
          . simp [intOf];omega
    . go_wp2
      go_ret;exact⟨Zaa (Zmu (by omega) (by omega) HA.o).symm,HB.o⟩
 . go_enter func165,ntmps165
   go_wp2;go_ret;exact⟨Zaa (by unfold ZaJ;simp;intro h;omega),Below.refl _ _⟩
theorem ZhO (lo:Nat) (kind:Zy_) (v:Value) (Fs:List Fd) (field name:Zy_) (w:World) (hv:ZaU lo w v Fs) :
 Calls prog 234 #[.agg #[.string kind,v],.string field,.string name] w fun e w'=>e=.returned (.bool (ZgP Fs field name))/\Zw_ w w':=by
 have HV:=Zab hv;obtain⟨a,cap,rfl⟩:=hv.form;clear hv;have HW:∀ o,Hd (Zw_ w (w.alloc o)):=fun o=>Zb_.alloc Zl_ _
 go_enter func234,ntmps234;go_wp2_with fail;refine (ZfI lo _ _ Fs name w _ HV.o (HW _).o).mono ?_;rintro e w1 ⟨hb1,hr⟩;have HB1:Hd (Zw_ w w1):=(HW _).o.trans (hb1.mono (by simp));have HB2:∀ o,Hd (Zw_ w (w1.alloc o)):=fun o=>HB1.o.alloc HB1.o.size _
 clear hb1
 rcases hr with ⟨f,wv,hff,hpl,rfl,hwd⟩ | ⟨hpl,rfl⟩
 . obtain⟨wa,wn,wcap,rfl⟩:=hwd.form
   clear hwd hff
   cases hne:name.toList.isEmpty with
   | true=>
    go_wp2;go_ret;exact⟨Zaa (by unfold ZgP;simp [hne]),(HB2 _).o⟩
   | false=>
    cases hnf:(name.toList == field.toList) with
    | true=>
     go_wp2;go_ret;exact⟨Zaa (by unfold ZgP;simp [hne,hnf,hpl]),(HB2 _).o⟩
    | false=>
     go_wp2;go_ret;exact⟨Zaa (by unfold ZgP;simp [hne,hnf,hpl]),(HB2 _).o⟩
 . cases hne:name.toList.isEmpty with
   | true=>
    go_wp2;go_ret;exact⟨Zaa (by unfold ZgP;simp [hne]),(HB2 _).o⟩
   | false=>
    go_wp2;go_ret;exact⟨Zaa (by unfold ZgP;simp [hne,hpl]),(HB2 _).o⟩
theorem Zme (lo:Nat) (kind:Zy_) (v:Value) (Fs:List Fd) (m:Md) (w0 w:World) (hv:ZaU lo w0 v Fs) (h0:Below w0.heap.size w0 w) (hm:ZdM m) :
 Calls prog 200 #[.agg #[.string kind,v],.agg #[.string m.kind,.string m.field,.string m.wh,.string m.is,.string m.put,.string m.fr]] w fun e w'=>e=.returned (.bool (ZdR Fs m))/\Zw_ w w':=by
 have HV:=Zab hv;have H0:=Zab h0;have HM:=Zab hm;obtain⟨a,cap,rfl⟩:=hv.form;clear hv h0 hm;go_enter func200,ntmps200;go_wp2_with fail;generalize hWa:w.alloc _=Wa;have hza:Wa.heap.size=w.heap.size+1:=by rw [<- hWa];simp
 have HBa:Hd (Zw_ w Wa):=by rw [<- hWa];exact Zac _ _
 have FS:Hd (Box Wa w.heap.size #[.string kind,.slice a Fs.length cap]):=by rw [<- hWa];exact Box.new _ _ _ _ rfl
 clear hWa;generalize hWb:Wa.alloc _=Wb;have hbb:Below Wa.heap.size Wa Wb:=by rw [<- hWb];exact Zac _ _
 have HBb:Hd (Zw_ w Wb):=HBa.o.trans (hbb.mono (by omega));have FS:=Zab (FS.o.on hbb);have FM:Hd (Box Wb (w.heap.size+1) #[.string m.kind,.string m.field,.string m.wh,.string m.is,.string m.put,.string m.fr]):=by rw [<- hWb];exact Box.new _ _ _ _ hza
 clear hWb hbb HBa hza;refine (ZfI lo _ _ Fs m.field w0 _ HV.o (H0.o.trans (HBb.o.mono H0.o.size))).mono ?_;rintro e w1 ⟨hb1,hr⟩;have FS:=Zab (FS.o.on hb1);have FM:=Zab (FM.o.on hb1);have HB1:Hd (Zw_ w w1):=HBb.o.trans (hb1.mono HBb.o.size);clear hb1 HBb
 rcases hr with ⟨f,wv,hff,hpl,rfl,hwd⟩ | ⟨hpl,rfl⟩
 . obtain⟨wa,wn,wcap,rfl⟩:=hwd.form
   have HWD:=Zab hwd;have HFIT:Hd (ZmW Fs m.field m.put=ZaN f.kd f.le f.mo f.words m.put):=by unfold Hd ZmW;rw [hff]
   clear hwd hff;have g1:=FS.o.cell;have g2:=FM.o.cell;have gl:=FS.o.lt;have gl2:=FM.o.lt;go_wp2_with fail;generalize hWc:w1.alloc _=Wc;have hbc:Below w1.heap.size w1 Wc:=by rw [<- hWc];exact Zac _ _
   have FS:=Zab (FS.o.on hbc);have FM:=Zab (FM.o.on hbc);have FF:Hd (Box Wc w1.heap.size #[.string f.nm,.int .i64 f.kd,.int .i64 f.le,.int .i64 f.mo,(.slice wa wn wcap),.string f.to,.int .i64 f.ro,.bool f.mu,.bool f.fx,.string f.df,.string f.we]):=by rw [<- hWc];exact Box.new _ _ _ _ rfl
   have HBc:Hd (Zw_ w Wc):=HB1.o.trans (hbc.mono HB1.o.size);clear hWc hbc HB1 g1 g2 gl gl2;refine (ZhO lo _ _ Fs m.field m.wh _ (HV.o.below (H0.o.trans (HBc.o.mono H0.o.size)))).mono ?_;rintro e w2 ⟨rfl,hb2⟩;have FS:=Zab (FS.o.on hb2);have FM:=Zab (FM.o.on hb2);have FF:=Zab (FF.o.on hb2);have HB2:Hd (Zw_ w w2):=HBc.o.trans (hb2.mono HBc.o.size);clear hb2 HBc
   cases hrw:ZgP Fs m.field m.wh with
   | false=>
    go_wp2;go_ret;exact⟨Zaa (by unfold ZdR;simp [hpl,hrw]),HB2.o⟩
   | true=>
    have g1:=FS.o.cell;have g2:=FM.o.cell;have gl:=FS.o.lt;have gl2:=FM.o.lt;go_wp2_with fail;clear g1 g2 gl gl2;refine (ZhO lo _ _ Fs m.field m.fr _ (HV.o.below (H0.o.trans (HB2.o.mono H0.o.size)))).mono ?_;rintro e w3 ⟨rfl,hb3⟩;have FM:=Zab (FM.o.on hb3);have FF:=Zab (FF.o.on hb3);have HB3:Hd (Zw_ w w3):=HB2.o.trans (hb3.mono HB2.o.size);clear hb3 HB2
    cases hrf:ZgP Fs m.field m.fr with
    | false=>
     go_wp2;go_ret;exact⟨Zaa (by unfold ZdR;simp [hpl,hrw,hrf]),HB3.o⟩
    | true=>
     have g2:=FM.o.cell;have gl2:=FM.o.lt
     cases hwe:m.wh.toList.isEmpty with
     | true=>
      cases his:m.is.toList.isEmpty with
      | false=>
       go_wp2;go_ret;exact⟨Zaa (by unfold ZdR ZbW;simp [hpl,hrw,hrf,hwe,his]),HB3.o⟩
      | true=>
       cases hfe:m.fr.toList.isEmpty with
       | true=>
        cases hpu:m.put.toList.isEmpty with
        | true=>
         go_wp2;go_ret;exact⟨Zaa (by unfold ZdR ZbW;simp [hpl,hrw,hrf,hwe,his,hfe,hpu]),HB3.o⟩
        | false=>
         have HEND:Hd (ZdR Fs m=ZmW Fs m.field m.put):=by unfold Hd ZdR ZbW;simp [hpl,hrw,hrf,hwe,his,hfe,hpu]
         have g3:=FF.o.cell;have gl3:=FF.o.lt;go_wp2_with fail;clear g2 g3 gl2 gl3;refine (ZfF _ _ _ _ _ _ _ _ _ _ f.words _ _ _ (HWD.o.at.below (H0.o.trans (HB3.o.mono H0.o.size))) HM.o.s4).mono ?_;rintro e w4 ⟨rfl,hb4⟩;have HB4:Hd (Zw_ w w4):=HB3.o.trans (hb4.mono HB3.o.size);clear hb4;go_wp2;go_ret;exact⟨Zaa (HEND.o.trans HFIT.o).symm,HB4.o⟩
       | false=>
        cases hpu:m.put.toList.isEmpty with
        | true=>
         go_wp2;go_ret;exact⟨Zaa (by unfold ZdR ZbW;simp [hpl,hrw,hrf,hwe,his,hfe,hpu]),HB3.o⟩
        | false=>
         go_wp2;go_ret;exact⟨Zaa (by unfold ZdR ZbW;simp [hpl,hrw,hrf,hwe,his,hfe,hpu]),HB3.o⟩
     | false=>
      cases hfe:m.fr.toList.isEmpty with
      | true=>
       cases hpu:m.put.toList.isEmpty with
       | true=>
        go_wp2;go_ret;exact⟨Zaa (by unfold ZdR ZbW;simp [hpl,hrw,hrf,hwe,hfe,hpu]),HB3.o⟩
       | false=>
        have HEND:Hd (ZdR Fs m=ZmW Fs m.field m.put):=by unfold Hd ZdR ZbW;simp [hpl,hrw,hrf,hwe,hfe,hpu]
        have g3:=FF.o.cell;have gl3:=FF.o.lt;go_wp2_with fail;clear g2 g3 gl2 gl3;refine (ZfF _ _ _ _ _ _ _ _ _ _ f.words _ _ _ (HWD.o.at.below (H0.o.trans (HB3.o.mono H0.o.size))) HM.o.s4).mono ?_;rintro e w4 ⟨rfl,hb4⟩;have HB4:Hd (Zw_ w w4):=HB3.o.trans (hb4.mono HB3.o.size);clear hb4;go_wp2;go_ret;exact⟨Zaa (HEND.o.trans HFIT.o).symm,HB4.o⟩
      | false=>
       cases hpu:m.put.toList.isEmpty with
       | true=>
        go_wp2;go_ret;exact⟨Zaa (by unfold ZdR ZbW;simp [hpl,hrw,hrf,hwe,hfe,hpu]),HB3.o⟩
       | false=>
        go_wp2;go_ret;exact⟨Zaa (by unfold ZdR ZbW;simp [hpl,hrw,hrf,hwe,hfe,hpu]),HB3.o⟩
 . have g1:=FS.o.cell
   have g2:=FM.o.cell;go_wp2;go_ret;exact⟨Zaa (by unfold ZdR;simp [hpl]),HB1.o.alloc HB1.o.size _⟩
variable {Ss:List Sh} {m:Md}
theorem Zo7 {x:Sh} (hs:ZaJ Ss=true) (hx:Zci Ss m.kind=some x):ZdR x.fields m=ZcZ Ss m:=by
 unfold ZcZ;rw [hx];exact ZnS (ZfD (ZbK hs (Zcf hx).1))
theorem Zmd (hx:Zci Ss m.kind=none):ZcZ Ss m=false:=by unfold ZcZ;rw [hx]
theorem Zn9 (lo lm:Nat) (sv mv:Value) (Ss:List Sh) (Ms:List Md) (w:World) (hS:Zba lo w sv Ss) (hM:ZbY lm w mv Ms) (hsb:ZaJ Ss=true) :
 Calls prog 166 #[sv,mv] w fun e w'=>e=.returned (.bool (Zay Ss Ms))/\Zw_ w w':=by
 have HS:=Zab hS;have HM:=Zab hM;have HSB:=Zab hsb;obtain⟨a1,cap1,rfl⟩:=hS.form;obtain⟨a2,cap2,rfl⟩:=hM.form;clear hS hM hsb
 have hml:(Ms.length:Int)<=9223372036854775807:=by
  rcases HM.o with ⟨_,_,_,h⟩ | ⟨_,_,_,_,_,h,_⟩
  . rw [h];simp
  . unfold maxLen at h;omega
 have hs6:Ss.length<=6:=ZhP HSB.o
 by_cases h12:(Ms.length:Int)<=12
 . go_enter func166,ntmps166
   go_wp2
   go_loopw [18] (fun i wr=>∃ k:Nat,i=.int .i64 k/\k<=Ms.length/\Zw_ w wr/\∀ i (h:i < Ms.length),i < k->ZcZ Ss Ms[i]=true) (fun i _=>Ms.length - (intOf i).toNat)
   case atStart=>exact⟨0,rfl,by omega,Below.refl _ _,fun i _ h=>by omega⟩
   case round=>
    obtain⟨k,rfl,hk,hb,hall⟩:=hrel;have HA:=Zab hall;have HB:=Zab hb;clear hall hb
    by_cases hlt:k < Ms.length
    . obtain⟨b,off,rfl,hbw,hc⟩:=HM.o.full' (by omega)
      obtain⟨hsz,hcell⟩:=hc k hlt;obtain⟨c0,c1,c2,c3,c4,c5⟩:=hcell.below HB.o hbw;clear hcell hc;go_wp2_with fail;generalize hWa:wr.alloc _=Wa;have hba:Below wr.heap.size wr Wa:=by rw [<- hWa];exact Zac _ _
      have FM:Hd (Box Wa wr.heap.size #[.string Ms[k].kind,.string Ms[k].field,.string Ms[k].wh,.string Ms[k].is,.string Ms[k].put,.string Ms[k].fr]):=by rw [<- hWa];exact Box.new _ _ _ _ rfl
      have HBa:Hd (Zw_ w Wa):=HB.o.trans (hba.mono HB.o.size);clear hWa hba c0 c1 c2 c3 c4 c5;refine (Zd9 lo _ Ss Ms[k].kind w _ HS.o HBa.o).mono ?_;rintro e w1 ⟨hb1,hsh⟩;have FM:=Zab (FM.o.on hb1);have HB1:Hd (Zw_ w w1):=HBa.o.trans (hb1.mono HBa.o.size);clear hb1 HBa;have g1:=FM.o.cell;have gl:=FM.o.lt
      rcases hsh with ⟨x,fv,hx,rfl,hfd⟩ | ⟨hx,rfl⟩
      . obtain⟨fa,fcap,rfl⟩:=hfd.form
        have HFD:=Zab hfd;have HX:=Zab hx;clear hfd hx;go_wp2_with fail;clear g1 gl;refine (Zme lo _ _ x.fields Ms[k] w _ HFD.o (HB1.o.alloc HB1.o.size _) hsz).mono ?_;rintro e w2 ⟨rfl,hb2⟩;have HB2:Hd (Zw_ w w2):=(HB1.o.alloc HB1.o.size _).trans (hb2.mono (HB1.o.alloc HB1.o.size _).size);clear hb2;rw [Zo7 HSB.o HX.o]
        cases hmb:ZcZ Ss Ms[k] with
        | false=>
         have HQ:Hd (Zay Ss Ms=false):=ZgK hlt hmb;go_wp2;go_ret;exact⟨Zaa HQ.o.symm,HB2.o⟩
        | true=>
         go_wp2;go_roundw
         case rel=>exact⟨k+1,by go_num,by omega,HB2.o,fun i h h'=>by
                    by_cases e:i=k
                    . subst e;exact hmb
                    . exact HA.o i h (by omega)⟩
         . simp [intOf];omega
      . have HQ:Hd (Zay Ss Ms=false):=ZgK hlt (Zmd hx)
        go_wp2;go_ret;exact⟨Zaa HQ.o.symm,HB1.o.alloc HB1.o.size _⟩
    . have HAll:Hd (∀ i (h:i < Ms.length),ZcZ Ss Ms[i]=true):=fun i h=>HA.o i h (by omega)
      have HBx:Hd (Zw_ w wr):=HB.o;clear HA HB;go_wp2;clear hlt hk
      go_loopw [40] (fun i wr=>∃ k:Nat,i=.int .i64 k/\k<=Ss.length/\Zw_ w wr/\∀ i (h:i < Ss.length),i < k->Zbn Ms Ss[i]=true) (fun i _=>Ss.length - (intOf i).toNat)
      case atStart=>exact⟨0,rfl,by omega,HBx.o,fun i _ h=>by omega⟩
      case round=>
       clear HBx;obtain⟨j,rfl,hj,hb,hall⟩:=hrel;have HA:=Zab hall;have HB:=Zab hb;clear hall hb
       by_cases hlt:j < Ss.length
       . obtain⟨b,off,rfl,hbw,hc⟩:=HS.o.full' (by omega)
         obtain⟨hsz,fv,d0,d1,hst⟩:=hc j hlt;have c0:wr.cell? ⟨b,off+j*2,none⟩=some (.string Ss[j].kind):=by rw [HB.o.cell (p:=⟨b,_,none⟩) hbw];exact d0
         have c1:wr.cell? ⟨b,off+j*2+1,none⟩=some fv:=by rw [HB.o.cell (p:=⟨b,_,none⟩) hbw];exact d1
         obtain⟨fa,fcap,rfl⟩:=hst.form;have HST:=Zab hst;have h6:Ss[j].fields.length<=6:=ZcO (ZbK HSB.o (List.getElem_mem hlt));clear d0 d1 hst hc;go_wp2_with fail;have HBa:=fun o=>Zab (HB.o.alloc HB.o.size o)
         refine (ZfA lo lm _ _ Ss[j] Ms w _ HST.o (HBa _).o (HM.o.below (HBa _).o) (by omega) (by omega)).mono ?_;rintro e w2 ⟨hb2,hgr⟩;have HB2:Hd (Zw_ w w2):=(HBa _).o.trans (hb2.mono (HBa _).o.size);clear hb2 HBa c0 c1
         rcases hgr with ⟨v2,R,rfl,ho,hg,hl⟩ | ⟨hno,rfl⟩
         . have HSR:Hd (Zbn Ms Ss[j]=true):=Zln hg hl
           obtain⟨va,vcap,rfl⟩:=ho.form;clear ho hg hl;go_wp2;go_roundw
           case rel=>exact⟨j+1,by go_num,by omega,HB2.o,fun i h h'=>by
                      by_cases e:i=j
                      . subst e;exact HSR.o
                      . exact HA.o i h (by omega)⟩
           . simp [intOf];omega
         . have HQ:Hd (Zay Ss Ms=false):=ZjB hlt hno
           clear hno;go_wp2;go_ret;exact⟨Zaa HQ.o.symm,HB2.o⟩
       . have HQ:Hd (Zay Ss Ms=true):=Zjz HSB.o (by omega) HAll.o (fun i h=>HA.o i h (by omega))
         go_wp2;go_ret;exact⟨Zaa HQ.o.symm,HB.o⟩
 . have HQ:Hd (Zay Ss Ms=false):=ZhG (by omega)
   go_enter func166,ntmps166;go_wp2;go_ret;exact⟨Zaa HQ.o.symm,Below.refl _ _⟩
theorem Zim (lo lm:Nat) (sv mv:Value) (Ss:List Sh) (Ms:List Md) (w:World) (hS:Zba lo w sv Ss) (hM:ZbY lm w mv Ms) :
 Calls prog 123 #[sv,mv] w fun e w'=>e=.returned (.bool (Zay Ss Ms))/\Zw_ w w':=by
 have HS:=Zab hS;have HM:=Zab hM;obtain⟨a1,cap1,rfl⟩:=hS.form;obtain⟨a2,cap2,rfl⟩:=hM.form;clear hS hM;go_enter func123,ntmps123;go_wp2_with fail;refine (Zhg lo _ Ss _ HS.o).mono ?_;rintro e w1 ⟨rfl,hb1⟩;have HB1:=Zab hb1;clear hb1
 cases hsb:ZaJ Ss with
 | false=>
  have HQ:Hd (Zay Ss Ms=false):=ZjA hsb;go_wp2;go_ret;exact⟨Zaa HQ.o.symm,HB1.o⟩
 | true=>
  have HSB:=Zab hsb;clear hsb;go_wp2_with fail;refine (Zn9 lo lm _ _ Ss Ms _ (HS.o.below HB1.o) (HM.o.below HB1.o) HSB.o).mono ?_;rintro e w2 ⟨rfl,hb2⟩;have HB2:Hd (Zw_ w w2):=HB1.o.trans (hb2.mono HB1.o.size);clear hb2;go_wp2;go_ret;exact⟨rfl,HB2.o⟩
end Go.Proofs.YtbdhbihhgfpnnaaGreat
