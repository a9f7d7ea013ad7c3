import Derived.Test.YtmappejlmapboaaGreatD17
set_option maxHeartbeats 16000000
set_option maxRecDepth 100000
open Go.Proofs.Tryz
namespace Go.Proofs.YtmappejlmapboaaGreat
open Go.RowKit Go.Deep
theorem ZkW (lo:Nat) (sv:Value) (Ss:List Sh) (m:Md) (w:World) (hS:ZaI lo w sv Ss) (hm:Zeq m) :
 Calls prog 167 #[sv,.agg #[.string m.kind,.string m.field,.string m.wh,.string m.is,.string m.put,.string m.fr]] w fun e w'=>e=.returned (.bool (Zdp Ss m))/\Zw_ w w':=by
 have HS:=Zab hS;have HM:=Zab hm;obtain⟨a1,cap1,rfl⟩:=hS.form;clear hS hm;have HW:∀ o,Hd (Zw_ w (w.alloc o)):=fun o=>Zb_.alloc Zl_ _
 go_enter func167,ntmps167;go_wp2_with fail;refine (ZeY lo _ Ss m.kind _ (HS.o.below (HW _).o)).mono ?_;rintro e w1 ⟨rfl,⟨k,hk,rfl,hsh⟩ | ⟨rfl,hsh⟩⟩
 . obtain⟨b,off,rfl,hbw,hc⟩:=HS.o.full' (by omega)
   obtain⟨_,fv,d0,d1,hst⟩:=hc k hk;obtain⟨fa,fcap,rfl⟩:=hst.form;have HST:=Zab hst;have d1':∀ o,(w.alloc o).cell? ⟨b,off+k*2+1,none⟩=some (.slice fa Ss[k].fields.length fcap):=fun o=>by rw [Zaj _ _ _ _ hbw];exact d1
   have HQ:Hd (Zdp Ss m=ZcH Ss[k].fields m):=by unfold Hd Zdp;rw [hsh,List.getElem?_eq_getElem hk]
   clear d0 d1 hst hc hsh;generalize hF:Ss[k].fields=Fs at*;clear hF;go_wp2_with fail;refine (Zee lo _ Fs m.field _ (HST.o.below (HW _).o)).mono ?_;rintro e w1 ⟨rfl,rfl⟩
   cases hpf:Zbj Fs m.field with
   | false=>
    go_wp2;go_ret;exact⟨Zaa (by rw [HQ.o];unfold ZcH Zb3;simp [hpf]),(HW _).o⟩
   | true=>
    cases hwe:m.wh.toList.isEmpty with
    | true=>
     cases hfe:m.fr.toList.isEmpty with
     | true=>
      cases hb1:(m.wh.toList == m.field.toList) with
      | true=>
       go_wp2;go_ret;exact⟨Zaa (by rw [HQ.o];unfold ZcH Zb3;simp [hpf,hwe,hfe,hb1]),(HW _).o⟩
      | false=>
       cases hb2:(m.fr.toList == m.field.toList) with
       | true=>
        go_wp2;go_ret;exact⟨Zaa (by rw [HQ.o];unfold ZcH Zb3;simp [hpf,hwe,hfe,hb1,hb2]),(HW _).o⟩
       | false=>
        cases his:m.is.toList.isEmpty with
        | false=>
         go_wp2;go_ret;exact⟨Zaa (by rw [HQ.o];unfold ZcH Zb3;simp [hpf,hwe,hfe,hb1,hb2,his]),(HW _).o⟩
        | true=>
         cases hpu:m.put.toList.isEmpty with
         | true=>
          go_wp2;go_ret;exact⟨Zaa (by rw [HQ.o];unfold ZcH Zb3;simp [hpf,hwe,hfe,hb1,hb2,his,hpu]),(HW _).o⟩
         | false=>
          have hplt:ZaP Fs m.field < Fs.length:=Zcm.2 (Zd1 hpf)
          have HPI:Hd (Zcc Fs m.field=ZaP Fs m.field):=ZbO hplt;obtain⟨fb,fo,rfl,hfb,hfc⟩:=HST.o.full' (by omega);obtain⟨hfs,wv,hcell,hwd⟩:=hfc _ hplt;have HFIT:Hd (Zpx Fs m.field m.put=ZaM Fs[ZaP Fs m.field].kd Fs[ZaP Fs m.field].le Fs[ZaP Fs m.field].mo Fs[ZaP Fs m.field].words m.put):=Zqg hplt;obtain⟨c0,c1,c2,c3,c4,c5,c6,c7,c8,c9,c10⟩:=hcell;have HWD:=Zab hwd;obtain⟨wa,wn,wcap,rfl⟩:=hwd.form;have HEND:Hd (Zdp Ss m=Zpx Fs m.field m.put):=by unfold Hd;rw [HQ.o];unfold ZcH Zb3;simp [hpf,hwe,hfe,hb1,hb2,his,hpu]
          clear hwd hfc hfs;generalize hpp:ZaP Fs m.field=p at*
          have hpm:(Fs.length:Int)<=9223372036854775807:=by
           rcases HST.o with ⟨_,_,h,_⟩ | ⟨_,_,_,_,_,h,_⟩
           . injection h;omega
           . unfold maxLen at h;omega
          go_wp2
          go_region_with (first
           | (go_at_call 200
              refine (Zbm lo _ Fs m.field _ (HST.o.below ((HW _).o.drew))).mono ?_;rintro e w' ⟨rfl,rfl⟩;rw [HPI.o])
           | (go_at_call 171
              refine (Zbw _ _ _ _ _ _ _ _ _ _ Fs[p].words _ _ _ (HWD.o.at.below (below_drewN (HW _).o _)) HM.o.s4).mono ?_;rintro e w' ⟨rfl,hb⟩;have HB:Hd (Zw_ w w'):=(below_drewN (HW _).o _).trans (hb.mono (below_drewN (HW _).o _).size);clear hb))
          all_goals go_wp2
          all_goals go_ret
          all_goals exact⟨Zaa (HEND.o.trans HFIT.o).symm,HB.o⟩
     | false=>
      go_wp2_with fail;refine (Zee lo _ Fs m.fr _ (HST.o.below (HW _).o)).mono ?_;rintro e w1 ⟨rfl,rfl⟩
      cases hpr:Zbj Fs m.fr with
      | false=>
       go_wp2;go_ret;exact⟨Zaa (by rw [HQ.o];unfold ZcH Zb3;simp [hpf,hwe,hfe,hpr]),(HW _).o⟩
      | true=>
       cases hb1:(m.wh.toList == m.field.toList) with
       | true=>
        go_wp2;go_ret;exact⟨Zaa (by rw [HQ.o];unfold ZcH Zb3;simp [hpf,hwe,hfe,hpr,hb1]),(HW _).o⟩
       | false=>
        cases hb2:(m.fr.toList == m.field.toList) with
        | true=>
         go_wp2;go_ret;exact⟨Zaa (by rw [HQ.o];unfold ZcH Zb3;simp [hpf,hwe,hfe,hpr,hb1,hb2]),(HW _).o⟩
        | false=>
         cases his:m.is.toList.isEmpty with
         | false=>
          go_wp2;go_ret;exact⟨Zaa (by rw [HQ.o];unfold ZcH Zb3;simp [hpf,hwe,hfe,hpr,hb1,hb2,his]),(HW _).o⟩
         | true=>
          cases hpu:m.put.toList.isEmpty with
          | true=>
           go_wp2
           go_quiet (fail)
           go_wp2;go_ret;exact⟨Zaa (by rw [HQ.o];unfold ZcH Zb3;simp [hpf,hwe,hfe,hpr,hb1,hb2,his,hpu]),below_drewN (HW _).o _⟩
          | false=>
           go_wp2;go_ret;exact⟨Zaa (by rw [HQ.o];unfold ZcH Zb3;simp [hpf,hwe,hfe,hpr,hb1,hb2,his,hpu]),(HW _).o⟩
    | false=>
     go_wp2_with fail;refine (Zee lo _ Fs m.wh _ (HST.o.below (HW _).o)).mono ?_;rintro e w1 ⟨rfl,rfl⟩
     cases hpw:Zbj Fs m.wh with
     | false=>
      go_wp2;go_ret;exact⟨Zaa (by rw [HQ.o];unfold ZcH Zb3;simp [hpf,hwe,hpw]),(HW _).o⟩
     | true=>
      cases hfe:m.fr.toList.isEmpty with
      | true=>
       cases hb1:(m.wh.toList == m.field.toList) with
       | true=>
        go_wp2;go_ret;exact⟨Zaa (by rw [HQ.o];unfold ZcH Zb3;simp [hpf,hwe,hpw,hfe,hb1]),(HW _).o⟩
       | false=>
        cases hb2:(m.fr.toList == m.field.toList) with
        | true=>
         go_wp2;go_ret;exact⟨Zaa (by rw [HQ.o];unfold ZcH Zb3;simp [hpf,hwe,hpw,hfe,hb1,hb2]),(HW _).o⟩
        | false=>
         cases hpu:m.put.toList.isEmpty with
         | true=>
          go_wp2;go_ret;exact⟨Zaa (by rw [HQ.o];unfold ZcH Zb3;simp [hpf,hwe,hpw,hfe,hb1,hb2,hpu]),(HW _).o⟩
         | false=>
          have hplt:ZaP Fs m.field < Fs.length:=Zcm.2 (Zd1 hpf)
          have HPI:Hd (Zcc Fs m.field=ZaP Fs m.field):=ZbO hplt;obtain⟨fb,fo,rfl,hfb,hfc⟩:=HST.o.full' (by omega);obtain⟨hfs,wv,hcell,hwd⟩:=hfc _ hplt;have HFIT:Hd (Zpx Fs m.field m.put=ZaM Fs[ZaP Fs m.field].kd Fs[ZaP Fs m.field].le Fs[ZaP Fs m.field].mo Fs[ZaP Fs m.field].words m.put):=Zqg hplt;obtain⟨c0,c1,c2,c3,c4,c5,c6,c7,c8,c9,c10⟩:=hcell;have HWD:=Zab hwd;obtain⟨wa,wn,wcap,rfl⟩:=hwd.form;have HEND:Hd (Zdp Ss m=Zpx Fs m.field m.put):=by unfold Hd;rw [HQ.o];unfold ZcH Zb3;simp [hpf,hwe,hpw,hfe,hb1,hb2,hpu]
          clear hwd hfc hfs;generalize hpp:ZaP Fs m.field=p at*
          have hpm:(Fs.length:Int)<=9223372036854775807:=by
           rcases HST.o with ⟨_,_,h,_⟩ | ⟨_,_,_,_,_,h,_⟩
           . injection h;omega
           . unfold maxLen at h;omega
          go_wp2
          go_region_with (first
           | (go_at_call 200
              refine (Zbm lo _ Fs m.field _ (HST.o.below ((HW _).o.drew))).mono ?_;rintro e w' ⟨rfl,rfl⟩;rw [HPI.o])
           | (go_at_call 171
              refine (Zbw _ _ _ _ _ _ _ _ _ _ Fs[p].words _ _ _ (HWD.o.at.below (below_drewN (HW _).o _)) HM.o.s4).mono ?_;rintro e w' ⟨rfl,hb⟩;have HB:Hd (Zw_ w w'):=(below_drewN (HW _).o _).trans (hb.mono (below_drewN (HW _).o _).size);clear hb))
          all_goals go_wp2
          all_goals go_ret
          all_goals exact⟨Zaa (HEND.o.trans HFIT.o).symm,HB.o⟩
      | false=>
       go_wp2_with fail;refine (Zee lo _ Fs m.fr _ (HST.o.below (HW _).o)).mono ?_;rintro e w1 ⟨rfl,rfl⟩
       cases hpr:Zbj Fs m.fr with
       | false=>
        go_wp2;go_ret;exact⟨Zaa (by rw [HQ.o];unfold ZcH Zb3;simp [hpf,hwe,hpw,hfe,hpr]),(HW _).o⟩
       | true=>
        cases hb1:(m.wh.toList == m.field.toList) with
        | true=>
         go_wp2;go_ret;exact⟨Zaa (by rw [HQ.o];unfold ZcH Zb3;simp [hpf,hwe,hpw,hfe,hpr,hb1]),(HW _).o⟩
        | false=>
         cases hb2:(m.fr.toList == m.field.toList) with
         | true=>
          go_wp2;go_ret;exact⟨Zaa (by rw [HQ.o];unfold ZcH Zb3;simp [hpf,hwe,hpw,hfe,hpr,hb1,hb2]),(HW _).o⟩
         | false=>
          cases hpu:m.put.toList.isEmpty with
          | true=>
           go_wp2
           go_quiet (fail)
           go_wp2;go_ret;exact⟨Zaa (by rw [HQ.o];unfold ZcH Zb3;simp [hpf,hwe,hpw,hfe,hpr,hb1,hb2,hpu]),below_drewN (HW _).o _⟩
          | false=>
           go_wp2;go_ret;exact⟨Zaa (by rw [HQ.o];unfold ZcH Zb3;simp [hpf,hwe,hpw,hfe,hpr,hb1,hb2,hpu]),(HW _).o⟩
 . have HQ:Hd (Zdp Ss m=false):=by unfold Hd Zdp;rw [hsh]
   clear hsh;go_wp2;go_ret;exact⟨Zaa HQ.o.symm,(HW _).o⟩
end Go.Proofs.YtmappejlmapboaaGreat
