import Derived.Test.YtfohnageehneoaaGreatUNN
set_option maxHeartbeats 16000000
set_option maxRecDepth 100000
open Go.Proofs.Tryz
namespace Go.Proofs.YtfohnageehneoaaGreat
open Go.RowKit Go.Deep
variable {Ss:List Sh} {Ms:List Md} {k:Nat}
theorem ZjL (lo lm:Nat) (fv mv:Value) (x:Sh) (Ms:List Md) (w:World) (hf:Zav lo w fv x.fields) (hv:Zbg lm w mv Ms) (hn:x.fields.length<=1048576) :
 Calls prog 186 #[.agg #[.string x.kind,fv],mv] w fun e w'=>∃ v R,e=.returned v/\Zw_ w w'/\ZdU w.heap.size w' v R/\Zqc x Ms R:=by
 obtain⟨i0,hi,hz0,hz1,hz2⟩:=info_parts Tryz.info9;have HF:=Zab hf;have HV:=Zab hv;obtain⟨a,cap,rfl⟩:=hf.form;obtain⟨ma,mcap,rfl⟩:=hv.form;clear hf hv;have HW:∀ o,Hd (Zw_ w (w.alloc o)):=fun o=>Zb_.alloc Zl_ _
 go_enter func186,ntmps186;go_wp2;generalize hW0:w.alloc _=W0;have hz0':W0.heap.size=w.heap.size+1:=by rw [<- hW0];simp
 have HB0:Hd (Zw_ w W0):=by rw [<- hW0];exact (HW _).o
 have g0:∀ i,W0.cell? ⟨w.heap.size,i,none⟩=(#[.string x.kind,.slice a x.fields.length cap]:Array Value)[i]?:=fun i=>by rw [<- hW0];exact ZbH _ _ _ _ _ rfl
 clear hW0;have HI:=Zab (And.intro hi (And.intro hz0 (And.intro hz1 hz2)));have HG0:=Zab g0;clear g0 hi hz0 hz1 hz2
 go_loopw [5,6] (fun v i wr=>∃ (n:Nat) (R:List Zy_),i=.int .i64 n/\n<=x.fields.length/\ZdU (w.heap.size+1) wr v R/\Below (w.heap.size+1) W0 wr/\Zc8 (ZaD x.fields) (Zap x.kind Ms) R/\(R.length=n\/ZiQ (ZaD x.fields) (Zap x.kind Ms) R)) (fun _ i _=>x.fields.length - (intOf i).toNat)
 case atStart=>exact⟨0,[],rfl,by omega,ZdU.made W0 _ hz0' Zl_,Zb_.alloc (by omega) _,Zc8.nil,Or.inl rfl⟩
 case round=>
  obtain⟨n,R,rfl,hnn,hown,hb,hgood,hcase⟩:=hrel;have HO:=Zab hown;have HB:=Zab hb;have HGD:=Zab hgood;have HC:=Zab hcase;obtain⟨va,vcap,rfl⟩:=hown.form;have q1:wr.cell? ⟨w.heap.size,1,none⟩=some (.slice a x.fields.length cap):=by rw [hb.cell (p:=⟨w.heap.size,1,none⟩) (by simp)];exact HG0.o 1
  clear hown hb hgood hcase
  by_cases hlt:n < x.fields.length
  . go_wp2
    go_loopw [5,7] (fun v i wi=>∃ (k:Nat),v=.slice va R.length vcap/\i=.int .i64 k/\k<=x.fields.length/\ZdU (w.heap.size+1) wi v R/\Below (w.heap.size+1) W0 wi/\Zet x.fields (Zap x.kind Ms) R k) (fun _ i _=>x.fields.length - (intOf i).toNat)
    case atStart=>exact⟨0,rfl,rfl,by omega,HO.o,HB.o,fun i _ h=>by omega⟩
    case round=>
     obtain⟨k,rfl,rfl,hk,hown,hb,hny⟩:=hrel;have HOi:=Zab hown;have HBi:=Zab hb;have HN:=Zab hny;have p0:wr.cell? ⟨w.heap.size,0,none⟩=some (.string x.kind):=by rw [hb.cell (p:=⟨w.heap.size,0,none⟩) (by simp)];exact HG0.o 0
     have p1:wr.cell? ⟨w.heap.size,1,none⟩=some (.slice a x.fields.length cap):=by rw [hb.cell (p:=⟨w.heap.size,1,none⟩) (by simp)];exact HG0.o 1
     have HBw:Hd (Zw_ w wr):=HB0.o.trans (hb.mono (by omega));have hzr:w.heap.size+1<=wr.heap.size:=by have:=hb.size;omega
     clear hown hb hny q1
     by_cases hkl:k < x.fields.length
     . obtain⟨fb,fo,rfl,hfb,hfc⟩:=HF.o.full' (by omega)
       obtain⟨hfs,wv,hcell,_⟩:=hfc k hkl;have c0:wr.cell? ⟨fb,fo+k*11,none⟩=some (.string x.fields[k].nm):=by rw [HBw.o.cell (p:=⟨fb,_,none⟩) hfb];exact hcell.c0
       have HSZ:=Zab hfs.s0;clear hcell hfc hfs;go_wp2_with fail;refine (Zek _ R x.fields[k].nm _ HOi.o.strs).mono ?_;rintro e w1 ⟨rfl,rfl⟩
       cases hh:ZeJ R x.fields[k].nm with
       | true=>
        have HNX:Hd (Zet x.fields (Zap x.kind Ms) R (k+1)):=HN.o.succ hkl (Or.inl (Zdw.1 hh));go_wp2;go_roundw
        . exact⟨k+1,rfl,by go_num,by omega,HOi.o,HBi.o,HNX.o⟩
        . simp [intOf];omega
       | false=>
        go_wp2_with fail;refine (ZkP lm _ _ Ms x.kind x.fields[k].nm R _ (HV.o.below HBw.o) HOi.o.strs).mono ?_;rintro e w2 ⟨rfl,hb2⟩;have HO2:=Zab (HOi.o.below hb2);have HB2:Hd (Below (w.heap.size+1) W0 w2):=HBi.o.trans (hb2.mono hzr);have hz2:w.heap.size+1<=w2.heap.size:=by have:=hb2.size;omega
        clear hb2 p0 p1 c0
        cases hrd:Zfj Ms x.kind x.fields[k].nm R with
        | false=>
         have HNX:Hd (Zet x.fields (Zap x.kind Ms) R (k+1)):=HN.o.succ hkl (Or.inr fun h=>by rw [Zdm.2 h] at hrd;cases hrd);go_wp2;go_roundw
         . exact⟨k+1,rfl,by go_num,by omega,HO2.o,HB2.o,HNX.o⟩
         . simp [intOf];omega
        | true=>
         have HG1:Hd (Zc8 (ZaD x.fields) (Zap x.kind Ms) (R ++ [x.fields[k].nm])):=Zc8.snoc HGD.o (ZcE.2 ⟨k,hkl,rfl⟩) (Ziu hh) (Zdm.1 hrd)
         have HC1:Hd ((R ++ [x.fields[k].nm]).length=n+1\/ZiQ (ZaD x.fields) (Zap x.kind Ms) (R ++ [x.fields[k].nm])):=by
          rcases HC.o with h | h
          . exact Or.inl (by rw [List.length_append,h];rfl)
          . exact absurd (Zdm.1 hrd) (h _ (ZcE.2 ⟨k,hkl,rfl⟩) (Ziu hh))
         have HRL:Hd (R.length<=1048576):=Nat.le_trans (Zix HGD.o) hn;clear hh hrd;go_wp2_with (at_builtin;refine wpList_append_lies _ rfl (.tmp 42) (.tmp 44) 59 rfl (w.heap.size+1) 9 i0 (.string ⟨#[]⟩) 1 16 underlying59 HI.o.1 HI.o.2.1 HI.o.2.2.1 HI.o.2.2.2 rfl (by decide) _ _ _ rfl (HO2.o.below (Zb_.alloc Zl_ _)).row ⟨w2.heap.size,0,none⟩ 1 1 [.string x.fields[k].nm] rfl rfl (Zfx _ _ _ _ rfl) (Zd1 _) (by decide) (by have:=HRL.o;unfold maxLen;omega) (by have:=HRL.o;omega) (by simp;omega) _ rfl ?_;intro g cap1 w3 hown3 hgrow3 hat3 hlt3);exact⟨⟨n+1,R ++ [x.fields[k].nm],by go_num,by omega,HO2.o.snoc hown3 HSZ.o,(HB2.o.alloc (by omega) _).trans ((HO2.o.below (Zb_.alloc Zl_ _)).grown hgrow3 (by simp;omega)),HG1.o,HC1.o⟩,by simp [intOf];omega⟩
     . go_wp2
       exact⟨⟨n+1,R,by go_num,by omega,HOi.o,HBi.o,HGD.o,Or.inr (HN.o.stuck (by omega))⟩,by simp [intOf];omega⟩
  . go_wp2
    go_ret;exact⟨_,R,rfl,HB0.o.trans (HB.o.mono (by omega)),HO.o.mono (by omega),Zqc.mk' HGD.o (by omega) HC.o⟩
theorem Zky (lo:Nat) (sv:Value) (Ss:List Sh) (m:Md) (w:World) (hS:ZaR lo w sv Ss) (hm:Zea m) :
 Calls prog 185 #[sv,.agg #[.string m.kind,.string m.field,.string m.wh,.string m.is,.string m.put,.string m.fr]] w fun e w'=>e=.returned (.bool (Zde Ss m))/\Zw_ w w':=by
 have HS:=Zab hS;have HM:=Zab hm;obtain⟨a1,cap1,rfl⟩:=hS.form;clear hS hm;have HW:∀ o,Hd (Zw_ w (w.alloc o)):=fun o=>Zb_.alloc Zl_ _
 go_enter func185,ntmps185;go_wp2_with fail;refine (Zey lo _ Ss m.kind _ (HS.o.below (HW _).o)).mono ?_;rintro e w1 ⟨rfl,⟨k,hk,rfl,hsh⟩ | ⟨rfl,hsh⟩⟩
 . obtain⟨b,off,rfl,hbw,hc⟩:=HS.o.full' (by omega)
   obtain⟨_,fv,d0,d1,hst⟩:=hc k hk;obtain⟨fa,fcap,rfl⟩:=hst.form;have HST:=Zab hst;have d1':∀ o,(w.alloc o).cell? ⟨b,off+k*2+1,none⟩=some (.slice fa Ss[k].fields.length fcap):=fun o=>by rw [Zak _ _ _ _ hbw];exact d1
   have HQ:Hd (Zde Ss m=ZcH Ss[k].fields m):=by unfold Hd Zde;rw [hsh,List.getElem?_eq_getElem hk]
   clear d0 d1 hst hc hsh;generalize hF:Ss[k].fields=Fs at*;clear hF;go_wp2_with fail;refine (Zd5 lo _ Fs m.field _ (HST.o.below (HW _).o)).mono ?_;rintro e w1 ⟨rfl,rfl⟩
   cases hpf:Zbh Fs m.field with
   | false=>
    go_wp2;go_ret;exact⟨Zaa (by rw [HQ.o];unfold ZcH Zcc;simp [hpf]),(HW _).o⟩
   | true=>
    cases hwe:m.wh.toList.isEmpty with
    | true=>
     cases hfe:m.fr.toList.isEmpty with
     | true=>
      cases hb1:(m.wh.toList == m.field.toList) with
      | true=>
       go_wp2;go_ret;exact⟨Zaa (by rw [HQ.o];unfold ZcH Zcc;simp [hpf,hwe,hfe,hb1]),(HW _).o⟩
      | false=>
       cases hb2:(m.fr.toList == m.field.toList) with
       | true=>
        go_wp2;go_ret;exact⟨Zaa (by rw [HQ.o];unfold ZcH Zcc;simp [hpf,hwe,hfe,hb1,hb2]),(HW _).o⟩
       | false=>
        cases his:m.is.toList.isEmpty with
        | false=>
         go_wp2;go_ret;exact⟨Zaa (by rw [HQ.o];unfold ZcH Zcc;simp [hpf,hwe,hfe,hb1,hb2,his]),(HW _).o⟩
        | true=>
         cases hpu:m.put.toList.isEmpty with
         | true=>
          go_wp2;go_ret;exact⟨Zaa (by rw [HQ.o];unfold ZcH Zcc;simp [hpf,hwe,hfe,hb1,hb2,his,hpu]),(HW _).o⟩
         | false=>
          have hplt:ZaS Fs m.field < Fs.length:=Zcn.2 (ZdQ hpf)
          have HPI:Hd (Zch Fs m.field=ZaS Fs m.field):=ZbI hplt;obtain⟨fb,fo,rfl,hfb,hfc⟩:=HST.o.full' (by omega);obtain⟨hfs,wv,hcell,hwd⟩:=hfc _ hplt;have HFIT:Hd (ZnN Fs m.field m.put=ZaP Fs[ZaS Fs m.field].kd Fs[ZaS Fs m.field].le Fs[ZaS Fs m.field].mo Fs[ZaS Fs m.field].words m.put):=ZpG hplt;obtain⟨c0,c1,c2,c3,c4,c5,c6,c7,c8,c9,c10⟩:=hcell;have HWD:=Zab hwd;obtain⟨wa,wn,wcap,rfl⟩:=hwd.form;have HEND:Hd (Zde Ss m=ZnN Fs m.field m.put):=by unfold Hd;rw [HQ.o];unfold ZcH Zcc;simp [hpf,hwe,hfe,hb1,hb2,his,hpu]
          clear hwd hfc hfs;generalize hpp:ZaS Fs m.field=p at*
          have hpm:(Fs.length:Int)<=9223372036854775807:=by
           rcases HST.o with ⟨_,_,h,_⟩ | ⟨_,_,_,_,_,h,_⟩
           . injection h;omega
           . unfold maxLen at h;omega
          go_wp2
          go_region_with (first
           | (go_at_call 221
              refine (Zbl lo _ Fs m.field _ (HST.o.below ((HW _).o.drew))).mono ?_;rintro e w' ⟨rfl,rfl⟩;rw [HPI.o])
           | (go_at_call 199
              refine (Zby _ _ _ _ _ _ _ _ _ _ Fs[p].words _ _ _ (HWD.o.at.below (below_drewN (HW _).o _)) HM.o.s4).mono ?_;rintro e w' ⟨rfl,hb⟩;have HB:Hd (Zw_ w w'):=(below_drewN (HW _).o _).trans (hb.mono (below_drewN (HW _).o _).size);clear hb))
          all_goals go_wp2
          all_goals go_ret
          all_goals exact⟨Zaa (HEND.o.trans HFIT.o).symm,HB.o⟩
     | false=>
      go_wp2_with fail;refine (Zd5 lo _ Fs m.fr _ (HST.o.below (HW _).o)).mono ?_;rintro e w1 ⟨rfl,rfl⟩
      cases hpr:Zbh Fs m.fr with
      | false=>
       go_wp2;go_ret;exact⟨Zaa (by rw [HQ.o];unfold ZcH Zcc;simp [hpf,hwe,hfe,hpr]),(HW _).o⟩
      | true=>
       cases hb1:(m.wh.toList == m.field.toList) with
       | true=>
        go_wp2;go_ret;exact⟨Zaa (by rw [HQ.o];unfold ZcH Zcc;simp [hpf,hwe,hfe,hpr,hb1]),(HW _).o⟩
       | false=>
        cases hb2:(m.fr.toList == m.field.toList) with
        | true=>
         go_wp2;go_ret;exact⟨Zaa (by rw [HQ.o];unfold ZcH Zcc;simp [hpf,hwe,hfe,hpr,hb1,hb2]),(HW _).o⟩
        | false=>
         cases his:m.is.toList.isEmpty with
         | false=>
          go_wp2;go_ret;exact⟨Zaa (by rw [HQ.o];unfold ZcH Zcc;simp [hpf,hwe,hfe,hpr,hb1,hb2,his]),(HW _).o⟩
         | true=>
          cases hpu:m.put.toList.isEmpty with
          | true=>
           go_wp2
           go_quiet (fail)
           go_wp2;go_ret;exact⟨Zaa (by rw [HQ.o];unfold ZcH Zcc;simp [hpf,hwe,hfe,hpr,hb1,hb2,his,hpu]),below_drewN (HW _).o _⟩
          | false=>
           go_wp2;go_ret;exact⟨Zaa (by rw [HQ.o];unfold ZcH Zcc;simp [hpf,hwe,hfe,hpr,hb1,hb2,his,hpu]),(HW _).o⟩
    | false=>
     go_wp2_with fail;refine (Zd5 lo _ Fs m.wh _ (HST.o.below (HW _).o)).mono ?_;rintro e w1 ⟨rfl,rfl⟩
     cases hpw:Zbh Fs m.wh with
     | false=>
      go_wp2;go_ret;exact⟨Zaa (by rw [HQ.o];unfold ZcH Zcc;simp [hpf,hwe,hpw]),(HW _).o⟩
     | true=>
      cases hfe:m.fr.toList.isEmpty with
      | true=>
       cases hb1:(m.wh.toList == m.field.toList) with
       | true=>
        go_wp2;go_ret;exact⟨Zaa (by rw [HQ.o];unfold ZcH Zcc;simp [hpf,hwe,hpw,hfe,hb1]),(HW _).o⟩
       | false=>
        cases hb2:(m.fr.toList == m.field.toList) with
        | true=>
         go_wp2;go_ret;exact⟨Zaa (by rw [HQ.o];unfold ZcH Zcc;simp [hpf,hwe,hpw,hfe,hb1,hb2]),(HW _).o⟩
        | false=>
         cases hpu:m.put.toList.isEmpty with
         | true=>
          go_wp2;go_ret;exact⟨Zaa (by rw [HQ.o];unfold ZcH Zcc;simp [hpf,hwe,hpw,hfe,hb1,hb2,hpu]),(HW _).o⟩
         | false=>
          have hplt:ZaS Fs m.field < Fs.length:=Zcn.2 (ZdQ hpf)
          have HPI:Hd (Zch Fs m.field=ZaS Fs m.field):=ZbI hplt;obtain⟨fb,fo,rfl,hfb,hfc⟩:=HST.o.full' (by omega);obtain⟨hfs,wv,hcell,hwd⟩:=hfc _ hplt;have HFIT:Hd (ZnN Fs m.field m.put=ZaP Fs[ZaS Fs m.field].kd Fs[ZaS Fs m.field].le Fs[ZaS Fs m.field].mo Fs[ZaS Fs m.field].words m.put):=ZpG hplt;obtain⟨c0,c1,c2,c3,c4,c5,c6,c7,c8,c9,c10⟩:=hcell;have HWD:=Zab hwd;obtain⟨wa,wn,wcap,rfl⟩:=hwd.form;have HEND:Hd (Zde Ss m=ZnN Fs m.field m.put):=by unfold Hd;rw [HQ.o];unfold ZcH Zcc;simp [hpf,hwe,hpw,hfe,hb1,hb2,hpu]
          clear hwd hfc hfs;generalize hpp:ZaS Fs m.field=p at*
          have hpm:(Fs.length:Int)<=9223372036854775807:=by
           rcases HST.o with ⟨_,_,h,_⟩ | ⟨_,_,_,_,_,h,_⟩
           . injection h;omega
           . unfold maxLen at h;omega
          go_wp2
          go_region_with (first
           | (go_at_call 221
              refine (Zbl lo _ Fs m.field _ (HST.o.below ((HW _).o.drew))).mono ?_;rintro e w' ⟨rfl,rfl⟩;rw [HPI.o])
           | (go_at_call 199
              refine (Zby _ _ _ _ _ _ _ _ _ _ Fs[p].words _ _ _ (HWD.o.at.below (below_drewN (HW _).o _)) HM.o.s4).mono ?_;rintro e w' ⟨rfl,hb⟩;have HB:Hd (Zw_ w w'):=(below_drewN (HW _).o _).trans (hb.mono (below_drewN (HW _).o _).size);clear hb))
          all_goals go_wp2
          all_goals go_ret
          all_goals exact⟨Zaa (HEND.o.trans HFIT.o).symm,HB.o⟩
      | false=>
       go_wp2_with fail;refine (Zd5 lo _ Fs m.fr _ (HST.o.below (HW _).o)).mono ?_;rintro e w1 ⟨rfl,rfl⟩
       cases hpr:Zbh Fs m.fr with
       | false=>
        go_wp2;go_ret;exact⟨Zaa (by rw [HQ.o];unfold ZcH Zcc;simp [hpf,hwe,hpw,hfe,hpr]),(HW _).o⟩
       | true=>
        cases hb1:(m.wh.toList == m.field.toList) with
        | true=>
         go_wp2;go_ret;exact⟨Zaa (by rw [HQ.o];unfold ZcH Zcc;simp [hpf,hwe,hpw,hfe,hpr,hb1]),(HW _).o⟩
        | false=>
         cases hb2:(m.fr.toList == m.field.toList) with
         | true=>
          go_wp2;go_ret;exact⟨Zaa (by rw [HQ.o];unfold ZcH Zcc;simp [hpf,hwe,hpw,hfe,hpr,hb1,hb2]),(HW _).o⟩
         | false=>
          cases hpu:m.put.toList.isEmpty with
          | true=>
           go_wp2
           go_quiet (fail)
           go_wp2;go_ret;exact⟨Zaa (by rw [HQ.o];unfold ZcH Zcc;simp [hpf,hwe,hpw,hfe,hpr,hb1,hb2,hpu]),below_drewN (HW _).o _⟩
          | false=>
           go_wp2;go_ret;exact⟨Zaa (by rw [HQ.o];unfold ZcH Zcc;simp [hpf,hwe,hpw,hfe,hpr,hb1,hb2,hpu]),(HW _).o⟩
 . have HQ:Hd (Zde Ss m=false):=by unfold Hd Zde;rw [hsh]
   clear hsh;go_wp2;go_ret;exact⟨Zaa HQ.o.symm,(HW _).o⟩
theorem ZjT (h:ZaH Ss=false):Zay Ss Ms=false:=by unfold Zay;rw [h];rfl
theorem ZhS (h:12 < Ms.length):Zay Ss Ms=false:=by
 unfold Zay;rw [show decide (Ms.length<=12)=false from decide_eq_false (by omega)];simp
theorem Zg0 (hk:k < Ms.length) (h:Zde Ss Ms[k]=false):Zay Ss Ms=false:=by
 unfold Zay;rw [show Ms.all (Zde Ss)=false from by rw [List.all_eq_false];exact⟨Ms[k],List.getElem_mem hk,by simp [h]⟩];simp
theorem Zj3 (hk:k < Ss.length) (h:Zbt Ms Ss[k]=false):Zay Ss Ms=false:=by
 unfold Zay;rw [show Ss.all (Zbt Ms)=false from by rw [List.all_eq_false];exact⟨Ss[k],List.getElem_mem hk,by simp [h]⟩];simp
theorem ZkB (h1:ZaH Ss=true) (h2:Ms.length<=12) (h3:∀ i (h:i < Ms.length),Zde Ss Ms[i]=true) (h4:∀ i (h:i < Ss.length),Zbt Ms Ss[i]=true):Zay Ss Ms=true:=by
 unfold Zay;simp only [Bool.and_eq_true,List.all_eq_true,decide_eq_true_eq];refine⟨⟨⟨h1,h2⟩,fun m hm=>?_⟩,fun x hx=>?_⟩
 . obtain⟨i,hi,rfl⟩:=List.getElem_of_mem hm;exact h3 i hi
 . obtain⟨i,hi,rfl⟩:=List.getElem_of_mem hx;exact h4 i hi
theorem Zi6 (lo lm:Nat) (sv mv:Value) (Ss:List Sh) (Ms:List Md) (w:World) (hS:ZaR lo w sv Ss) (hM:Zbg lm w mv Ms) :
 Calls prog 139 #[sv,mv] w fun e w'=>e=.returned (.bool (Zay Ss Ms))/\Zw_ w w':=by
 have HS:=Zab hS;have HM:=Zab hM;obtain⟨a1,cap1,rfl⟩:=hS.form;obtain⟨a2,cap2,rfl⟩:=hM.form;clear hS hM;go_enter func139,ntmps139;go_wp2_with fail;refine (ZhL lo _ Ss _ HS.o).mono ?_;rintro e w1 ⟨rfl,hb1⟩;have HB1:=Zab hb1;clear hb1
 have hml:(Ms.length:Int)<=9223372036854775807:=by
  rcases HM.o with ⟨_,_,_,h⟩ | ⟨_,_,_,_,_,h,_⟩
  . rw [h];simp
  . unfold maxLen at h;omega
 have hsl:(Ss.length:Int)<=9223372036854775807:=by
  rcases HS.o with ⟨_,_,_,h⟩ | ⟨_,_,_,_,_,h,_⟩
  . rw [h];simp
  . unfold maxLen at h;omega
 cases hsb:ZaH Ss with
 | false=>
  have HQ:Hd (Zay Ss Ms=false):=ZjT hsb;go_wp2;go_ret;exact⟨Zaa HQ.o.symm,HB1.o⟩
 | true=>
  by_cases h12:(Ms.length:Int)<=12
  . have HSB:=Zab hsb
    clear hsb;go_wp2
    go_loopw [5] (fun i wr=>∃ k:Nat,i=.int .i64 k/\k<=Ms.length/\Zw_ w wr/\∀ i (h:i < Ms.length),i < k->Zde Ss Ms[i]=true) (fun i _=>Ms.length - (intOf i).toNat)
    case atStart=>exact⟨0,rfl,by omega,HB1.o,fun i _ h=>by omega⟩
    case round=>
     obtain⟨k,rfl,hk,hb,hall⟩:=hrel;have HA:=Zab hall;have HB:=Zab hb;clear hall hb
     by_cases hlt:k < Ms.length
     . obtain⟨b,off,rfl,hbw,hc⟩:=HM.o.full' (by omega)
       obtain⟨hsz,hcell⟩:=hc k hlt;obtain⟨c0,c1,c2,c3,c4,c5⟩:=hcell.below HB.o hbw;clear hcell hc;go_wp2_with fail;refine (Zky lo _ Ss Ms[k] _ (HS.o.below HB.o) hsz).mono ?_;rintro e w2 ⟨rfl,hb2⟩;have HB2:Hd (Zw_ w w2):=HB.o.trans (hb2.mono HB.o.size);clear hb2 c0 c1 c2 c3 c4 c5
       cases hmb:Zde Ss Ms[k] with
       | false=>
        have HQ:Hd (Zay Ss Ms=false):=Zg0 hlt hmb;go_wp2;go_ret;exact⟨Zaa HQ.o.symm,HB2.o⟩
       | true=>
        go_wp2;go_roundw
        case rel=>exact⟨k+1,by go_num,by omega,HB2.o,fun i h h'=>by
                   by_cases e:i=k
                   . subst e;exact hmb
                   . exact HA.o i h (by omega)⟩
        . simp [intOf];omega
     . have HAll:Hd (∀ i (h:i < Ms.length),Zde Ss Ms[i]=true):=fun i h=>HA.o i h (by omega)
       have HBx:Hd (Zw_ w wr):=HB.o;clear HA HB HB1;go_wp2;clear hlt hk;rename_i wx _ _ _ _ _ _
       go_loopw [6] (fun i wr=>∃ k:Nat,i=.int .i64 k/\k<=Ss.length/\Zw_ w wr/\∀ i (h:i < Ss.length),i < k->Zbt Ms Ss[i]=true) (fun i _=>Ss.length - (intOf i).toNat)
       case atStart=>exact⟨0,rfl,by omega,HBx.o,fun i _ h=>by omega⟩
       case round=>
        clear HBx;obtain⟨j,rfl,hj,hb,hall⟩:=hrel;have HA:=Zab hall;have HB:=Zab hb;clear hall hb
        by_cases hlt:j < Ss.length
        . obtain⟨b,off,rfl,hbw,hc⟩:=HS.o.full' (by omega)
          obtain⟨hsz,fv,d0,d1,hst⟩:=hc j hlt;have c0:wr.cell? ⟨b,off+j*2,none⟩=some (.string Ss[j].kind):=by rw [HB.o.cell (p:=⟨b,_,none⟩) hbw];exact d0
          have c1:wr.cell? ⟨b,off+j*2+1,none⟩=some fv:=by rw [HB.o.cell (p:=⟨b,_,none⟩) hbw];exact d1
          obtain⟨fa,fcap,rfl⟩:=hst.form;have HST:=Zab (hst.below HB.o);have hbr:b < wr.heap.size:=Zk_ hbw HB.o.size
          have h6:Ss[j].fields.length<=6:=Zdc (ZbZ HSB.o (List.getElem_mem hlt));clear d0 d1 hst hc;go_wp2
          go_region_with (go_at_call 186
                          refine (ZjL lo lm _ _ Ss[j] Ms _ (HST.o.below (Zb_.drew)) (HM.o.below (HB.o.drew)) (by omega)).mono ?_;rintro e w2 ⟨v2,R,rfl,hb2,ho2,hro⟩;obtain⟨ra,rcap,rfl⟩:=ho2.form;have HRO:=Zab hro;have HB2:Hd (Zw_ w w2):=(HB.o.drew).trans (hb2.mono HB.o.size);have c1':w2.cell? ⟨b,off+j*2+1,none⟩=some (.slice fa Ss[j].fields.length fcap):=(hb2.cell (p:=⟨b,off+j*2+1,none⟩) hbr).trans c1;clear hb2 ho2 hro)
          all_goals
           by_cases hq:(R.length:Int)=(Ss[j].fields.length:Int)
           . have HSR:Hd (Zbt Ms Ss[j]=true):=HRO.o.2.2.1 (by omega)
             go_wp2;go_roundw
             case rel=>exact⟨j+1,by go_num,by omega,HB2.o,fun i h h'=>by
                        by_cases e:i=j
                        . subst e;exact HSR.o
                        . exact HA.o i h (by omega)⟩
             . simp [intOf];omega
           . have HSR:Hd (Zbt Ms Ss[j]=false):=by
              unfold Hd
              cases h:Zbt Ms Ss[j] with
              | false=>rfl
              | true=>exact absurd (HRO.o.2.2.2 h) (by omega)
             have HQ:Hd (Zay Ss Ms=false):=Zj3 hlt HSR.o;go_wp2;go_ret;exact⟨Zaa HQ.o.symm,HB2.o⟩
        . have HQ:Hd (Zay Ss Ms=true):=ZkB HSB.o (by omega) HAll.o (fun i h=>HA.o i h (by omega))
          go_wp2;go_ret;exact⟨Zaa HQ.o.symm,HB.o⟩
  . have HQ:Hd (Zay Ss Ms=false):=ZhS (by omega)
    go_wp2;go_ret;exact⟨Zaa HQ.o.symm,HB1.o⟩
end Go.Proofs.YtfohnageehneoaaGreat
