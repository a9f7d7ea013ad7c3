import Derived.Test.YtcfjmagkinpaeaaGreatGNN
import Derived.Test.YtcfjmagkinpaeaaGreatGDA
set_option maxHeartbeats 16000000
set_option maxRecDepth 100000
open Go.Proofs.Tryz
namespace Go.Proofs.YtcfjmagkinpaeaaGreat
open Go.RowKit Go.Deep
theorem Zjj (lo lm:Nat) (fv mv:Value) (x:Sh) (Ms:List Md) (w:World) (hf:Zav lo w fv x.fields) (hv:Zbc lm w mv Ms) (hn:x.fields.length≤1048576) :
 Calls prog 157 #[.agg #[.string x.kind,fv],mv] w fun e w'=>∃ v R,e=.returned v∧Zw_ w w'∧ZdL w.heap.size w' v R∧Zpt x Ms R:=by
 obtain⟨i0,hi,hz0,hz1,hz2⟩:=info_parts Tryz.info9;have HF:=Zab hf;have HV:=Zab hv;obtain⟨a,cap,rfl⟩:=hf.form;obtain⟨ma,mcap,rfl⟩:=hv.form;clear hf hv;have HW:∀ o,Hid (Zw_ w (w.alloc o)):=fun o=>Zb_.alloc Zl_ _
 go_enter func157,ntmps157;go_wp2;generalize hW0:w.alloc _=W0;have hz0':W0.heap.size=w.heap.size+1:=by rw [← hW0];simp
 have HB0:Hid (Zw_ w W0):=by rw [← hW0];exact (HW _).out
 have g0:∀ i,W0.cell? ⟨w.heap.size,i,none⟩=(#[.string x.kind,.slice a x.fields.length cap]:Array Value)[i]?:=fun i=>by rw [← hW0];exact Zb8 _ _ _ _ _ rfl
 clear hW0;have HI:=Zab (And.intro hi (And.intro hz0 (And.intro hz1 hz2)));have HG0:=Zab g0;clear g0 hi hz0 hz1 hz2
 go_loopw [5,6] (fun v i wr=>∃ (n:Nat) (R:List Zy_),i=.int .i64 n∧n≤x.fields.length∧ZdL (w.heap.size+1) wr v R∧Below (w.heap.size+1) W0 wr∧ZcN (ZaD x.fields) (Zao x.kind Ms) R∧(R.length=n∨Zh5 (ZaD x.fields) (Zao x.kind Ms) R)) (fun _ i _=>x.fields.length - (intOf i).toNat)
 case atStart=>exact⟨0,[],rfl,by omega,ZdL.made W0 _ hz0' Zl_,Zb_.alloc (by omega) _,ZcN.nil,Or.inl rfl⟩
 case round=>
  obtain⟨n,R,rfl,hnn,hown,hb,hgood,hcase⟩:=hrel;have HO:=Zab hown;have HB:=Zab hb;have HGD:=Zab hgood;have HC:=Zab hcase;obtain⟨va,vcap,rfl⟩:=hown.form;have q1:wr.cell? ⟨w.heap.size,1,none⟩=some (.slice a x.fields.length cap):=by rw [hb.cell (p:=⟨w.heap.size,1,none⟩) (by simp)];exact HG0.out 1
  clear hown hb hgood hcase
  by_cases hlt:n < x.fields.length
  · go_wp2
    go_loopw [5,7] (fun v i wi=>∃ (k:Nat),v=.slice va R.length vcap∧i=.int .i64 k∧k≤x.fields.length∧ZdL (w.heap.size+1) wi v R∧Below (w.heap.size+1) W0 wi∧Zd3 x.fields (Zao x.kind Ms) R k) (fun _ i _=>x.fields.length - (intOf i).toNat)
    case atStart=>exact⟨0,rfl,rfl,by omega,HO.out,HB.out,fun i _ h=>by omega⟩
    case round=>
     obtain⟨k,rfl,rfl,hk,hown,hb,hny⟩:=hrel;have HOi:=Zab hown;have HBi:=Zab hb;have HN:=Zab hny;have p0:wr.cell? ⟨w.heap.size,0,none⟩=some (.string x.kind):=by rw [hb.cell (p:=⟨w.heap.size,0,none⟩) (by simp)];exact HG0.out 0
     have p1:wr.cell? ⟨w.heap.size,1,none⟩=some (.slice a x.fields.length cap):=by rw [hb.cell (p:=⟨w.heap.size,1,none⟩) (by simp)];exact HG0.out 1
     have HBw:Hid (Zw_ w wr):=HB0.out.trans (hb.mono (by omega));have hzr:w.heap.size+1≤wr.heap.size:=by have:=hb.size;omega
     clear hown hb hny q1
     by_cases hkl:k < x.fields.length
     · obtain⟨fb,fo,rfl,hfb,hfc⟩:=HF.out.full' (by omega)
       obtain⟨hfs,wv,hcell,_⟩:=hfc k hkl;have c0:wr.cell? ⟨fb,fo+k*11,none⟩=some (.string x.fields[k].nm):=by rw [HBw.out.cell (p:=⟨fb,_,none⟩) hfb];exact hcell.c0
       have HSZ:=Zab hfs.s0;clear hcell hfc hfs;go_wp2_with fail;refine (Zee _ R x.fields[k].nm _ HOi.out.strs).mono ?_;rintro e w1 ⟨rfl,rfl⟩
       cases hh:Zeq R x.fields[k].nm with
       | true=>
        have HNX:Hid (Zd3 x.fields (Zao x.kind Ms) R (k+1)):=HN.out.succ hkl (Or.inl (Zdl.1 hh));go_wp2;go_roundw
        case rel=>exact⟨k+1,rfl,by go_num,by omega,HOi.out,HBi.out,HNX.out⟩
        case measure=>simp [intOf];omega
       | false=>
        go_wp2_with fail;refine (Zkf lm _ _ Ms x.kind x.fields[k].nm R _ (HV.out.below HBw.out) HOi.out.strs).mono ?_;rintro e w2 ⟨rfl,hb2⟩;have HO2:=Zab (HOi.out.below hb2);have HB2:Hid (Below (w.heap.size+1) W0 w2):=HBi.out.trans (hb2.mono hzr);have hz2:w.heap.size+1≤w2.heap.size:=by have:=hb2.size;omega
        clear hb2 p0 p1 c0
        cases hrd:Zfl Ms x.kind x.fields[k].nm R with
        | false=>
         have HNX:Hid (Zd3 x.fields (Zao x.kind Ms) R (k+1)):=HN.out.succ hkl (Or.inr fun h=>by rw [Zda.2 h] at hrd;cases hrd);go_wp2;go_roundw
         case rel=>exact⟨k+1,rfl,by go_num,by omega,HO2.out,HB2.out,HNX.out⟩
         case measure=>simp [intOf];omega
        | true=>
         have HG1:Hid (ZcN (ZaD x.fields) (Zao x.kind Ms) (R ++ [x.fields[k].nm])):=ZcN.snoc HGD.out (Zcq.2 ⟨k,hkl,rfl⟩) (Zim hh) (Zda.1 hrd)
         have HC1:Hid ((R ++ [x.fields[k].nm]).length=n+1∨Zh5 (ZaD x.fields) (Zao x.kind Ms) (R ++ [x.fields[k].nm])):=by
          rcases HC.out with h | h
          · exact Or.inl (by rw [List.length_append,h];rfl)
          · exact absurd (Zda.1 hrd) (h _ (Zcq.2 ⟨k,hkl,rfl⟩) (Zim hh))
         have HRL:Hid (R.length≤1048576):=Nat.le_trans (Zil HGD.out) hn;clear hh hrd;go_wp2_with (at_builtin;refine wpList_append_lies _ rfl (.tmp 42) (.tmp 44) 120 rfl (w.heap.size+1) 9 i0 (.string ⟨#[]⟩) 1 16 underlying120 HI.out.1 HI.out.2.1 HI.out.2.2.1 HI.out.2.2.2 rfl (by decide) _ _ _ rfl (HO2.out.below (Zb_.alloc Zl_ _)).row ⟨w2.heap.size,0,none⟩ 1 1 [.string x.fields[k].nm] rfl rfl (Zfb _ _ _ _ rfl) (ZdT _) (by decide) (by have:=HRL.out;unfold maxLen;omega) (by have:=HRL.out;omega) (by simp;omega) _ rfl ?_;intro g cap1 w3 hown3 hgrow3 hat3 hlt3);exact⟨⟨n+1,R ++ [x.fields[k].nm],by go_num,by omega,HO2.out.snoc hown3 HSZ.out,(HB2.out.alloc (by omega) _).trans ((HO2.out.below (Zb_.alloc Zl_ _)).grown hgrow3 (by simp;omega)),HG1.out,HC1.out⟩,by simp [intOf];omega⟩
     · go_wp2
       exact⟨⟨n+1,R,by go_num,by omega,HOi.out,HBi.out,HGD.out,Or.inr (HN.out.stuck (by omega))⟩,by simp [intOf];omega⟩
  · go_wp2
    go_ret;exact⟨_,R,rfl,HB0.out.trans (HB.out.mono (by omega)),HO.out.mono (by omega),Zpt.mk' HGD.out (by omega) HC.out⟩
theorem Zjh (lo:Nat) (sv:Value) (Ss:List Sh) (m:Md) (w:World) (hS:ZaU lo w sv Ss) (hm:ZdX m) :
 Calls prog 156 #[sv,.agg #[.string m.kind,.string m.field,.string m.wh,.string m.is,.string m.put,.string m.fr]] w fun e w'=>e=.returned (.bool (Zc7 Ss m))∧Zw_ w w':=by
 have HS:=Zab hS;have HM:=Zab hm;obtain⟨a1,cap1,rfl⟩:=hS.form;clear hS hm;have HW:∀ o,Hid (Zw_ w (w.alloc o)):=fun o=>Zb_.alloc Zl_ _
 go_enter func156,ntmps156;go_wp2_with fail;refine (Zbh lo _ Ss m.kind _ (HS.out.below (HW _).out)).mono ?_;rintro e w1 ⟨rfl,⟨k,hk,rfl,hsh⟩ | ⟨rfl,hsh⟩⟩
 · obtain⟨b,off,rfl,hbw,hc⟩:=HS.out.full' (by omega)
   obtain⟨_,fv,d0,d1,hst⟩:=hc k hk;obtain⟨fa,fcap,rfl⟩:=hst.form;have HST:=Zab hst;have d1':∀ o,(w.alloc o).cell? ⟨b,off+k*2+1,none⟩=some (.slice fa Ss[k].fields.length fcap):=fun o=>by rw [Zah _ _ _ _ hbw];exact d1
   have HQ:Hid (Zc7 Ss m=Zcr Ss[k].fields m):=by unfold Hid Zc7;rw [hsh,List.getElem?_eq_getElem hk]
   clear d0 d1 hst hc hsh;generalize hF:Ss[k].fields=Fs at*;clear hF;go_wp2_with fail;refine (ZdQ lo _ Fs m.field _ (HST.out.below (HW _).out)).mono ?_;rintro e w1 ⟨rfl,rfl⟩
   cases hpf:Zbi Fs m.field with
   | false=>
    go_wp2;go_ret;exact⟨Zaa (by rw [HQ.out];unfold Zcr Zb1;simp [hpf]),(HW _).out⟩
   | true=>
    cases hwe:m.wh.toList.isEmpty with
    | true=>
     cases hfe:m.fr.toList.isEmpty with
     | true=>
      cases hb1:(m.wh.toList == m.field.toList) with
      | true=>
       go_wp2;go_ret;exact⟨Zaa (by rw [HQ.out];unfold Zcr Zb1;simp [hpf,hwe,hfe,hb1]),(HW _).out⟩
      | false=>
       cases hb2:(m.fr.toList == m.field.toList) with
       | true=>
        go_wp2;go_ret;exact⟨Zaa (by rw [HQ.out];unfold Zcr Zb1;simp [hpf,hwe,hfe,hb1,hb2]),(HW _).out⟩
       | false=>
        cases his:m.is.toList.isEmpty with
        | false=>
         go_wp2;go_ret;exact⟨Zaa (by rw [HQ.out];unfold Zcr Zb1;simp [hpf,hwe,hfe,hb1,hb2,his]),(HW _).out⟩
        | true=>
         cases hpu:m.put.toList.isEmpty with
         | true=>
          go_wp2;go_ret;exact⟨Zaa (by rw [HQ.out];unfold Zcr Zb1;simp [hpf,hwe,hfe,hb1,hb2,his,hpu]),(HW _).out⟩
         | false=>
          have hplt:ZaR Fs m.field < Fs.length:=Zcb.2 (ZdD hpf)
          have HPI:Hid (Zb4 Fs m.field=ZaR Fs m.field):=ZbJ hplt;obtain⟨fb,fo,rfl,hfb,hfc⟩:=HST.out.full' (by omega);obtain⟨hfs,wv,hcell,hwd⟩:=hfc _ hplt;have HFIT:Hid (ZmV Fs m.field m.put=ZaL Fs[ZaR Fs m.field].kd Fs[ZaR Fs m.field].le Fs[ZaR Fs m.field].mo Fs[ZaR Fs m.field].words m.put):=Zns hplt;obtain⟨c0,c1,c2,c3,c4,c5,c6,c7,c8,c9,c10⟩:=hcell;have HWD:=Zab hwd;obtain⟨wa,wn,wcap,rfl⟩:=hwd.form;have HEND:Hid (Zc7 Ss m=ZmV Fs m.field m.put):=by unfold Hid;rw [HQ.out];unfold Zcr Zb1;simp [hpf,hwe,hfe,hb1,hb2,his,hpu]
          clear hwd hfc hfs;generalize hpp:ZaR Fs m.field=p at*
          have hpm:(Fs.length:Int)≤9223372036854775807:=by
           rcases HST.out with ⟨_,_,h,_⟩ | ⟨_,_,_,_,_,h,_⟩
           · injection h;omega
           · unfold maxLen at h;omega
          go_wp2
          go_region_with (first
           | (go_at_call 200
              refine (Zbk lo _ Fs m.field _ (HST.out.below ((HW _).out.drew))).mono ?_;rintro e w' ⟨rfl,rfl⟩;rw [HPI.out])
           | (go_at_call 159
              refine (Zbu _ _ _ _ _ _ _ _ _ _ Fs[p].words _ _ _ (HWD.out.at.below (below_drewN (HW _).out _)) HM.out.s4).mono ?_;rintro e w' ⟨rfl,hb⟩;have HB:Hid (Zw_ w w'):=(below_drewN (HW _).out _).trans (hb.mono (below_drewN (HW _).out _).size);clear hb))
          all_goals go_wp2
          all_goals go_ret
          all_goals exact⟨Zaa (HEND.out.trans HFIT.out).symm,HB.out⟩
     | false=>
      go_wp2_with fail;refine (ZdQ lo _ Fs m.fr _ (HST.out.below (HW _).out)).mono ?_;rintro e w1 ⟨rfl,rfl⟩
      cases hpr:Zbi Fs m.fr with
      | false=>
       go_wp2;go_ret;exact⟨Zaa (by rw [HQ.out];unfold Zcr Zb1;simp [hpf,hwe,hfe,hpr]),(HW _).out⟩
      | true=>
       cases hb1:(m.wh.toList == m.field.toList) with
       | true=>
        go_wp2;go_ret;exact⟨Zaa (by rw [HQ.out];unfold Zcr Zb1;simp [hpf,hwe,hfe,hpr,hb1]),(HW _).out⟩
       | false=>
        cases hb2:(m.fr.toList == m.field.toList) with
        | true=>
         go_wp2;go_ret;exact⟨Zaa (by rw [HQ.out];unfold Zcr Zb1;simp [hpf,hwe,hfe,hpr,hb1,hb2]),(HW _).out⟩
        | false=>
         cases his:m.is.toList.isEmpty with
         | false=>
          go_wp2;go_ret;exact⟨Zaa (by rw [HQ.out];unfold Zcr Zb1;simp [hpf,hwe,hfe,hpr,hb1,hb2,his]),(HW _).out⟩
         | true=>
          cases hpu:m.put.toList.isEmpty with
          | true=>
           go_wp2
           go_quiet (fail)
           go_wp2;go_ret;exact⟨Zaa (by rw [HQ.out];unfold Zcr Zb1;simp [hpf,hwe,hfe,hpr,hb1,hb2,his,hpu]),below_drewN (HW _).out _⟩
          | false=>
           go_wp2;go_ret;exact⟨Zaa (by rw [HQ.out];unfold Zcr Zb1;simp [hpf,hwe,hfe,hpr,hb1,hb2,his,hpu]),(HW _).out⟩
    | false=>
     go_wp2_with fail;refine (ZdQ lo _ Fs m.wh _ (HST.out.below (HW _).out)).mono ?_;rintro e w1 ⟨rfl,rfl⟩
     cases hpw:Zbi Fs m.wh with
     | false=>
      go_wp2;go_ret;exact⟨Zaa (by rw [HQ.out];unfold Zcr Zb1;simp [hpf,hwe,hpw]),(HW _).out⟩
     | true=>
      cases hfe:m.fr.toList.isEmpty with
      | true=>
       cases hb1:(m.wh.toList == m.field.toList) with
       | true=>
        go_wp2;go_ret;exact⟨Zaa (by rw [HQ.out];unfold Zcr Zb1;simp [hpf,hwe,hpw,hfe,hb1]),(HW _).out⟩
       | false=>
        cases hb2:(m.fr.toList == m.field.toList) with
        | true=>
         go_wp2;go_ret;exact⟨Zaa (by rw [HQ.out];unfold Zcr Zb1;simp [hpf,hwe,hpw,hfe,hb1,hb2]),(HW _).out⟩
        | false=>
         cases hpu:m.put.toList.isEmpty with
         | true=>
          go_wp2;go_ret;exact⟨Zaa (by rw [HQ.out];unfold Zcr Zb1;simp [hpf,hwe,hpw,hfe,hb1,hb2,hpu]),(HW _).out⟩
         | false=>
          have hplt:ZaR Fs m.field < Fs.length:=Zcb.2 (ZdD hpf)
          have HPI:Hid (Zb4 Fs m.field=ZaR Fs m.field):=ZbJ hplt;obtain⟨fb,fo,rfl,hfb,hfc⟩:=HST.out.full' (by omega);obtain⟨hfs,wv,hcell,hwd⟩:=hfc _ hplt;have HFIT:Hid (ZmV Fs m.field m.put=ZaL Fs[ZaR Fs m.field].kd Fs[ZaR Fs m.field].le Fs[ZaR Fs m.field].mo Fs[ZaR Fs m.field].words m.put):=Zns hplt;obtain⟨c0,c1,c2,c3,c4,c5,c6,c7,c8,c9,c10⟩:=hcell;have HWD:=Zab hwd;obtain⟨wa,wn,wcap,rfl⟩:=hwd.form;have HEND:Hid (Zc7 Ss m=ZmV Fs m.field m.put):=by unfold Hid;rw [HQ.out];unfold Zcr Zb1;simp [hpf,hwe,hpw,hfe,hb1,hb2,hpu]
          clear hwd hfc hfs;generalize hpp:ZaR Fs m.field=p at*
          have hpm:(Fs.length:Int)≤9223372036854775807:=by
           rcases HST.out with ⟨_,_,h,_⟩ | ⟨_,_,_,_,_,h,_⟩
           · injection h;omega
           · unfold maxLen at h;omega
          go_wp2
          go_region_with (first
           | (go_at_call 200
              refine (Zbk lo _ Fs m.field _ (HST.out.below ((HW _).out.drew))).mono ?_;rintro e w' ⟨rfl,rfl⟩;rw [HPI.out])
           | (go_at_call 159
              refine (Zbu _ _ _ _ _ _ _ _ _ _ Fs[p].words _ _ _ (HWD.out.at.below (below_drewN (HW _).out _)) HM.out.s4).mono ?_;rintro e w' ⟨rfl,hb⟩;have HB:Hid (Zw_ w w'):=(below_drewN (HW _).out _).trans (hb.mono (below_drewN (HW _).out _).size);clear hb))
          all_goals go_wp2
          all_goals go_ret
          all_goals exact⟨Zaa (HEND.out.trans HFIT.out).symm,HB.out⟩
      | false=>
       go_wp2_with fail;refine (ZdQ lo _ Fs m.fr _ (HST.out.below (HW _).out)).mono ?_;rintro e w1 ⟨rfl,rfl⟩
       cases hpr:Zbi Fs m.fr with
       | false=>
        go_wp2;go_ret;exact⟨Zaa (by rw [HQ.out];unfold Zcr Zb1;simp [hpf,hwe,hpw,hfe,hpr]),(HW _).out⟩
       | true=>
        cases hb1:(m.wh.toList == m.field.toList) with
        | true=>
         go_wp2;go_ret;exact⟨Zaa (by rw [HQ.out];unfold Zcr Zb1;simp [hpf,hwe,hpw,hfe,hpr,hb1]),(HW _).out⟩
        | false=>
         cases hb2:(m.fr.toList == m.field.toList) with
         | true=>
          go_wp2;go_ret;exact⟨Zaa (by rw [HQ.out];unfold Zcr Zb1;simp [hpf,hwe,hpw,hfe,hpr,hb1,hb2]),(HW _).out⟩
         | false=>
          cases hpu:m.put.toList.isEmpty with
          | true=>
           go_wp2
           go_quiet (fail)
           go_wp2;go_ret;exact⟨Zaa (by rw [HQ.out];unfold Zcr Zb1;simp [hpf,hwe,hpw,hfe,hpr,hb1,hb2,hpu]),below_drewN (HW _).out _⟩
          | false=>
           go_wp2;go_ret;exact⟨Zaa (by rw [HQ.out];unfold Zcr Zb1;simp [hpf,hwe,hpw,hfe,hpr,hb1,hb2,hpu]),(HW _).out⟩
 · have HQ:Hid (Zc7 Ss m=false):=by unfold Hid Zc7;rw [hsh]
   clear hsh;go_wp2;go_ret;exact⟨Zaa HQ.out.symm,(HW _).out⟩
theorem Zjo {Ss:List Sh} {Ms:List Md} (h:ZaE Ss=false):Zau Ss Ms=false:=by unfold Zau;rw [h];rfl
theorem ZhF {Ss:List Sh} {Ms:List Md} (h:12 < Ms.length):Zau Ss Ms=false:=by
 unfold Zau;rw [show decide (Ms.length≤12)=false from decide_eq_false (by omega)];simp
theorem ZgK {Ss:List Sh} {Ms:List Md} {k:Nat} (hk:k < Ms.length) (h:Zc7 Ss Ms[k]=false):Zau Ss Ms=false:=by
 unfold Zau;rw [show Ms.all (Zc7 Ss)=false from by rw [List.all_eq_false];exact⟨Ms[k],List.getElem_mem hk,by simp [h]⟩];simp
theorem Zjp {Ss:List Sh} {Ms:List Md} {k:Nat} (hk:k < Ss.length) (h:Zbr Ms Ss[k]=false):Zau Ss Ms=false:=by
 unfold Zau;rw [show Ss.all (Zbr Ms)=false from by rw [List.all_eq_false];exact⟨Ss[k],List.getElem_mem hk,by simp [h]⟩];simp
theorem Zjn {Ss:List Sh} {Ms:List Md} (h1:ZaE Ss=true) (h2:Ms.length≤12) (h3:∀ i (h:i < Ms.length),Zc7 Ss Ms[i]=true) (h4:∀ i (h:i < Ss.length),Zbr Ms Ss[i]=true):Zau Ss Ms=true:=by
 unfold Zau;simp only [Bool.and_eq_true,List.all_eq_true,decide_eq_true_eq];refine⟨⟨⟨h1,h2⟩,fun m hm=>?_⟩,fun x hx=>?_⟩
 · obtain⟨i,hi,rfl⟩:=List.getElem_of_mem hm;exact h3 i hi
 · obtain⟨i,hi,rfl⟩:=List.getElem_of_mem hx;exact h4 i hi
theorem ZiL (lo lm:Nat) (sv mv:Value) (Ss:List Sh) (Ms:List Md) (w:World) (hS:ZaU lo w sv Ss) (hM:Zbc lm w mv Ms) :
 Calls prog 98 #[sv,mv] w fun e w'=>e=.returned (.bool (Zau Ss Ms))∧Zw_ w w':=by
 have HS:=Zab hS;have HM:=Zab hM;obtain⟨a1,cap1,rfl⟩:=hS.form;obtain⟨a2,cap2,rfl⟩:=hM.form;clear hS hM;go_enter func98,ntmps98;go_wp2_with fail;refine (Zhk lo _ Ss _ HS.out).mono ?_;rintro e w1 ⟨rfl,hb1⟩;have HB1:=Zab hb1;clear hb1
 have hml:(Ms.length:Int)≤9223372036854775807:=by
  rcases HM.out with ⟨_,_,_,h⟩ | ⟨_,_,_,_,_,h,_⟩
  · rw [h];simp
  · unfold maxLen at h;omega
 have hsl:(Ss.length:Int)≤9223372036854775807:=by
  rcases HS.out with ⟨_,_,_,h⟩ | ⟨_,_,_,_,_,h,_⟩
  · rw [h];simp
  · unfold maxLen at h;omega
 cases hsb:ZaE Ss with
 | false=>
  have HQ:Hid (Zau Ss Ms=false):=Zjo hsb;go_wp2;go_ret;exact⟨Zaa HQ.out.symm,HB1.out⟩
 | true=>
  by_cases h12:(Ms.length:Int)≤12
  · have HSB:=Zab hsb
    clear hsb;go_wp2
    go_loopw [5] (fun i wr=>∃ k:Nat,i=.int .i64 k∧k≤Ms.length∧Zw_ w wr∧∀ i (h:i < Ms.length),i < k→Zc7 Ss Ms[i]=true) (fun i _=>Ms.length - (intOf i).toNat)
    case atStart=>exact⟨0,rfl,by omega,HB1.out,fun i _ h=>by omega⟩
    case round=>
     obtain⟨k,rfl,hk,hb,hall⟩:=hrel;have HA:=Zab hall;have HB:=Zab hb;clear hall hb
     by_cases hlt:k < Ms.length
     · obtain⟨b,off,rfl,hbw,hc⟩:=HM.out.full' (by omega)
       obtain⟨hsz,hcell⟩:=hc k hlt;obtain⟨c0,c1,c2,c3,c4,c5⟩:=hcell.below HB.out hbw;clear hcell hc;go_wp2_with fail;refine (Zjh lo _ Ss Ms[k] _ (HS.out.below HB.out) hsz).mono ?_;rintro e w2 ⟨rfl,hb2⟩;have HB2:Hid (Zw_ w w2):=HB.out.trans (hb2.mono HB.out.size);clear hb2 c0 c1 c2 c3 c4 c5
       cases hmb:Zc7 Ss Ms[k] with
       | false=>
        have HQ:Hid (Zau Ss Ms=false):=ZgK hlt hmb;go_wp2;go_ret;exact⟨Zaa HQ.out.symm,HB2.out⟩
       | true=>
        go_wp2;go_roundw
        case rel=>exact⟨k+1,by go_num,by omega,HB2.out,fun i h h'=>by
                   by_cases e:i=k
                   · subst e;exact hmb
                   · exact HA.out i h (by omega)⟩
        case measure=>simp [intOf];omega
     · have HAll:Hid (∀ i (h:i < Ms.length),Zc7 Ss Ms[i]=true):=fun i h=>HA.out i h (by omega)
       have HBx:Hid (Zw_ w wr):=HB.out;clear HA HB HB1;go_wp2;clear hlt hk;rename_i wx _ _ _ _ _ _
       go_loopw [6] (fun i wr=>∃ k:Nat,i=.int .i64 k∧k≤Ss.length∧Zw_ w wr∧∀ i (h:i < Ss.length),i < k→Zbr Ms Ss[i]=true) (fun i _=>Ss.length - (intOf i).toNat)
       case atStart=>exact⟨0,rfl,by omega,HBx.out,fun i _ h=>by omega⟩
       case round=>
        clear HBx;obtain⟨j,rfl,hj,hb,hall⟩:=hrel;have HA:=Zab hall;have HB:=Zab hb;clear hall hb
        by_cases hlt:j < Ss.length
        · obtain⟨b,off,rfl,hbw,hc⟩:=HS.out.full' (by omega)
          obtain⟨hsz,fv,d0,d1,hst⟩:=hc j hlt;have c0:wr.cell? ⟨b,off+j*2,none⟩=some (.string Ss[j].kind):=by rw [HB.out.cell (p:=⟨b,_,none⟩) hbw];exact d0
          have c1:wr.cell? ⟨b,off+j*2+1,none⟩=some fv:=by rw [HB.out.cell (p:=⟨b,_,none⟩) hbw];exact d1
          obtain⟨fa,fcap,rfl⟩:=hst.form;have HST:=Zab (hst.below HB.out);have hbr:b < wr.heap.size:=Zk_ hbw HB.out.size
          have h6:Ss[j].fields.length≤6:=ZcY (ZbP HSB.out (List.getElem_mem hlt));clear d0 d1 hst hc;go_wp2
          go_region_with (go_at_call 157
                          refine (Zjj lo lm _ _ Ss[j] Ms _ (HST.out.below (Zb_.drew)) (HM.out.below (HB.out.drew)) (by omega)).mono ?_;rintro e w2 ⟨v2,R,rfl,hb2,ho2,hro⟩;obtain⟨ra,rcap,rfl⟩:=ho2.form;have HRO:=Zab hro;have HB2:Hid (Zw_ w w2):=(HB.out.drew).trans (hb2.mono HB.out.size);have c1':w2.cell? ⟨b,off+j*2+1,none⟩=some (.slice fa Ss[j].fields.length fcap):=(hb2.cell (p:=⟨b,off+j*2+1,none⟩) hbr).trans c1;clear hb2 ho2 hro)
          all_goals
           by_cases hq:(R.length:Int)=(Ss[j].fields.length:Int)
           · have HSR:Hid (Zbr Ms Ss[j]=true):=HRO.out.2.2.1 (by omega)
             go_wp2;go_roundw
             case rel=>exact⟨j+1,by go_num,by omega,HB2.out,fun i h h'=>by
                        by_cases e:i=j
                        · subst e;exact HSR.out
                        · exact HA.out i h (by omega)⟩
             case measure=>simp [intOf];omega
           · have HSR:Hid (Zbr Ms Ss[j]=false):=by
              unfold Hid
              cases h:Zbr Ms Ss[j] with
              | false=>rfl
              | true=>exact absurd (HRO.out.2.2.2 h) (by omega)
             have HQ:Hid (Zau Ss Ms=false):=Zjp hlt HSR.out;go_wp2;go_ret;exact⟨Zaa HQ.out.symm,HB2.out⟩
        · have HQ:Hid (Zau Ss Ms=true):=Zjn HSB.out (by omega) HAll.out (fun i h=>HA.out i h (by omega))
          go_wp2;go_ret;exact⟨Zaa HQ.out.symm,HB.out⟩
  · have HQ:Hid (Zau Ss Ms=false):=ZhF (by omega)
    go_wp2;go_ret;exact⟨Zaa HQ.out.symm,HB1.out⟩
end Go.Proofs.YtcfjmagkinpaeaaGreat
