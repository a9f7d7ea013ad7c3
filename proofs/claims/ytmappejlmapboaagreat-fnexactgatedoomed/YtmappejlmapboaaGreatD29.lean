import Derived.Test.YtmappejlmapboaaGreatD24
import Derived.Test.YtmappejlmapboaaGreatD28
set_option maxHeartbeats 16000000
set_option maxRecDepth 100000
open Go.Proofs.Tryz
namespace Go.Proofs.YtmappejlmapboaaGreat
open Go.RowKit Go.Deep
theorem Zjk (lo:Nat) (kind:Zy_) (v:Value) (Fs:List Fd) (field name:Zy_) (w:World) (hv:Zau lo w v Fs) :
 Calls prog 265 #[.agg #[.string kind,v],.string field,.string name] w fun e w'=>e=.returned (.bool (Zib Fs field name))/\Zw_ w w':=by
 have HV:=Zab hv;obtain⟨a,cap,rfl⟩:=hv.form;clear hv;have HW:∀ o,Hd (Zw_ w (w.alloc o)):=fun o=>Zb_.alloc Zl_ _
 go_enter func265,ntmps265;go_wp2_with fail;refine (Zg8 lo _ _ Fs name w _ HV.o (HW _).o).mono ?_;rintro e w1 ⟨hb1,hr⟩;have HB1:Hd (Zw_ w w1):=(HW _).o.trans (hb1.mono (by simp));have HB2:∀ o,Hd (Zw_ w (w1.alloc o)):=fun o=>HB1.o.alloc HB1.o.size _
 clear hb1
 rcases hr with ⟨f,wv,hff,hpl,rfl,hwd⟩ | ⟨hpl,rfl⟩
 . obtain⟨wa,wn,wcap,rfl⟩:=hwd.form
   clear hwd hff
   cases hne:name.toList.isEmpty with
   | true=>
    go_wp2;go_ret;exact⟨Zaa (by unfold Zib;simp [hne]),(HB2 _).o⟩
   | false=>
    cases hnf:(name.toList == field.toList) with
    | true=>
     go_wp2;go_ret;exact⟨Zaa (by unfold Zib;simp [hne,hnf,hpl]),(HB2 _).o⟩
    | false=>
     go_wp2;go_ret;exact⟨Zaa (by unfold Zib;simp [hne,hnf,hpl]),(HB2 _).o⟩
 . cases hne:name.toList.isEmpty with
   | true=>
    go_wp2;go_ret;exact⟨Zaa (by unfold Zib;simp [hne]),(HB2 _).o⟩
   | false=>
    go_wp2;go_ret;exact⟨Zaa (by unfold Zib;simp [hne,hpl]),(HB2 _).o⟩
theorem Zox (lo:Nat) (kind:Zy_) (v:Value) (Fs:List Fd) (m:Md) (w0 w:World) (hv:Zau lo w0 v Fs) (h0:Below w0.heap.size w0 w) (hm:Zeq m) :
 Calls prog 234 #[.agg #[.string kind,v],.agg #[.string m.kind,.string m.field,.string m.wh,.string m.is,.string m.put,.string m.fr]] w fun e w'=>e=.returned (.bool (Zez Fs m))/\Zw_ w w':=by
 have HV:=Zab hv;have H0:=Zab h0;have HM:=Zab hm;obtain⟨a,cap,rfl⟩:=hv.form;clear hv h0 hm;go_enter func234,ntmps234;go_wp2_with fail;generalize hWa:w.alloc _=Wa;have hza:Wa.heap.size=w.heap.size+1:=by rw [<- hWa];simp
 have HBa:Hd (Zw_ w Wa):=by rw [<- hWa];exact Zac _ _
 have FS:Hd (Box Wa w.heap.size #[.string kind,.slice a Fs.length cap]):=by rw [<- hWa];exact Box.new _ _ _ _ rfl
 clear hWa;generalize hWb:Wa.alloc _=Wb;have hbb:Below Wa.heap.size Wa Wb:=by rw [<- hWb];exact Zac _ _
 have HBb:Hd (Zw_ w Wb):=HBa.o.trans (hbb.mono (by omega));have FS:=Zab (FS.o.on hbb);have FM:Hd (Box Wb (w.heap.size+1) #[.string m.kind,.string m.field,.string m.wh,.string m.is,.string m.put,.string m.fr]):=by rw [<- hWb];exact Box.new _ _ _ _ hza
 clear hWb hbb HBa hza;refine (Zg8 lo _ _ Fs m.field w0 _ HV.o (H0.o.trans (HBb.o.mono H0.o.size))).mono ?_;rintro e w1 ⟨hb1,hr⟩;have FS:=Zab (FS.o.on hb1);have FM:=Zab (FM.o.on hb1);have HB1:Hd (Zw_ w w1):=HBb.o.trans (hb1.mono HBb.o.size);clear hb1 HBb
 rcases hr with ⟨f,wv,hff,hpl,rfl,hwd⟩ | ⟨hpl,rfl⟩
 . obtain⟨wa,wn,wcap,rfl⟩:=hwd.form
   have HWD:=Zab hwd;have HFIT:Hd (Zpx Fs m.field m.put=ZaM f.kd f.le f.mo f.words m.put):=by unfold Hd Zpx;rw [hff]
   clear hwd hff;have g1:=FS.o.cell;have g2:=FM.o.cell;have gl:=FS.o.lt;have gl2:=FM.o.lt;go_wp2_with fail;generalize hWc:w1.alloc _=Wc;have hbc:Below w1.heap.size w1 Wc:=by rw [<- hWc];exact Zac _ _
   have FS:=Zab (FS.o.on hbc);have FM:=Zab (FM.o.on hbc);have FF:Hd (Box Wc w1.heap.size #[.string f.nm,.int .i64 f.kd,.int .i64 f.le,.int .i64 f.mo,(.slice wa wn wcap),.string f.to,.int .i64 f.ro,.bool f.mu,.bool f.fx,.string f.df,.string f.we]):=by rw [<- hWc];exact Box.new _ _ _ _ rfl
   have HBc:Hd (Zw_ w Wc):=HB1.o.trans (hbc.mono HB1.o.size);clear hWc hbc HB1 g1 g2 gl gl2;refine (Zjk lo _ _ Fs m.field m.wh _ (HV.o.below (H0.o.trans (HBc.o.mono H0.o.size)))).mono ?_;rintro e w2 ⟨rfl,hb2⟩;have FS:=Zab (FS.o.on hb2);have FM:=Zab (FM.o.on hb2);have FF:=Zab (FF.o.on hb2);have HB2:Hd (Zw_ w w2):=HBc.o.trans (hb2.mono HBc.o.size);clear hb2 HBc
   cases hrw:Zib Fs m.field m.wh with
   | false=>
    go_wp2;go_ret;exact⟨Zaa (by unfold Zez;simp [hpl,hrw]),HB2.o⟩
   | true=>
    have g1:=FS.o.cell;have g2:=FM.o.cell;have gl:=FS.o.lt;have gl2:=FM.o.lt;go_wp2_with fail;clear g1 g2 gl gl2;refine (Zjk lo _ _ Fs m.field m.fr _ (HV.o.below (H0.o.trans (HB2.o.mono H0.o.size)))).mono ?_;rintro e w3 ⟨rfl,hb3⟩;have FM:=Zab (FM.o.on hb3);have FF:=Zab (FF.o.on hb3);have HB3:Hd (Zw_ w w3):=HB2.o.trans (hb3.mono HB2.o.size);clear hb3 HB2
    cases hrf:Zib Fs m.field m.fr with
    | false=>
     go_wp2;go_ret;exact⟨Zaa (by unfold Zez;simp [hpl,hrw,hrf]),HB3.o⟩
    | true=>
     have g2:=FM.o.cell;have gl2:=FM.o.lt
     cases hwe:m.wh.toList.isEmpty with
     | true=>
      cases his:m.is.toList.isEmpty with
      | false=>
       go_wp2;go_ret;exact⟨Zaa (by unfold Zez Zb3;simp [hpl,hrw,hrf,hwe,his]),HB3.o⟩
      | true=>
       cases hfe:m.fr.toList.isEmpty with
       | true=>
        cases hpu:m.put.toList.isEmpty with
        | true=>
         go_wp2;go_ret;exact⟨Zaa (by unfold Zez Zb3;simp [hpl,hrw,hrf,hwe,his,hfe,hpu]),HB3.o⟩
        | false=>
         have HEND:Hd (Zez Fs m=Zpx Fs m.field m.put):=by unfold Hd Zez Zb3;simp [hpl,hrw,hrf,hwe,his,hfe,hpu]
         have g3:=FF.o.cell;have gl3:=FF.o.lt;go_wp2_with fail;clear g2 g3 gl2 gl3;refine (ZgZ _ _ _ _ _ _ _ _ _ _ f.words _ _ _ (HWD.o.at.below (H0.o.trans (HB3.o.mono H0.o.size))) HM.o.s4).mono ?_;rintro e w4 ⟨rfl,hb4⟩;have HB4:Hd (Zw_ w w4):=HB3.o.trans (hb4.mono HB3.o.size);clear hb4;go_wp2;go_ret;exact⟨Zaa (HEND.o.trans HFIT.o).symm,HB4.o⟩
       | false=>
        cases hpu:m.put.toList.isEmpty with
        | true=>
         go_wp2;go_ret;exact⟨Zaa (by unfold Zez Zb3;simp [hpl,hrw,hrf,hwe,his,hfe,hpu]),HB3.o⟩
        | false=>
         go_wp2;go_ret;exact⟨Zaa (by unfold Zez Zb3;simp [hpl,hrw,hrf,hwe,his,hfe,hpu]),HB3.o⟩
     | false=>
      cases hfe:m.fr.toList.isEmpty with
      | true=>
       cases hpu:m.put.toList.isEmpty with
       | true=>
        go_wp2;go_ret;exact⟨Zaa (by unfold Zez Zb3;simp [hpl,hrw,hrf,hwe,hfe,hpu]),HB3.o⟩
       | false=>
        have HEND:Hd (Zez Fs m=Zpx Fs m.field m.put):=by unfold Hd Zez Zb3;simp [hpl,hrw,hrf,hwe,hfe,hpu]
        have g3:=FF.o.cell;have gl3:=FF.o.lt;go_wp2_with fail;clear g2 g3 gl2 gl3;refine (ZgZ _ _ _ _ _ _ _ _ _ _ f.words _ _ _ (HWD.o.at.below (H0.o.trans (HB3.o.mono H0.o.size))) HM.o.s4).mono ?_;rintro e w4 ⟨rfl,hb4⟩;have HB4:Hd (Zw_ w w4):=HB3.o.trans (hb4.mono HB3.o.size);clear hb4;go_wp2;go_ret;exact⟨Zaa (HEND.o.trans HFIT.o).symm,HB4.o⟩
      | false=>
       cases hpu:m.put.toList.isEmpty with
       | true=>
        go_wp2;go_ret;exact⟨Zaa (by unfold Zez Zb3;simp [hpl,hrw,hrf,hwe,hfe,hpu]),HB3.o⟩
       | false=>
        go_wp2;go_ret;exact⟨Zaa (by unfold Zez Zb3;simp [hpl,hrw,hrf,hwe,hfe,hpu]),HB3.o⟩
 . have g1:=FS.o.cell
   have g2:=FM.o.cell;go_wp2;go_ret;exact⟨Zaa (by unfold Zez;simp [hpl]),HB1.o.alloc HB1.o.size _⟩
end Go.Proofs.YtmappejlmapboaaGreat
