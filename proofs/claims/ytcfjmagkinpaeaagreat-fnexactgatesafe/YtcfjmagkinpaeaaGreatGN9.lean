import Derived.Test.YtcfjmagkinpaeaaGreatGS14
import Derived.Test.YtcfjmagkinpaeaaGreatGN6
set_option maxHeartbeats 16000000
set_option maxRecDepth 100000
open Go.Proofs.Tryz
namespace Go.Proofs.YtcfjmagkinpaeaaGreat
open Go.RowKit Go.Deep
section
variable (nm tt df we:Zy_) (kd le mo ro:Int) (mu fx:Bool) (wv:Value) (w:World)
theorem Znd (s:Zy_) (B:Nat) (hB:B < w.heap.size) (hs:w.cell? ⟨B,0,none⟩=some (.string s)) :
 Calls prog 253 #[.agg #[.string nm,.int .i64 kd,.int .i64 le,.int .i64 mo,wv,.string tt,.int .i64 ro,.bool mu,.bool fx,.string df,.string we],.pointer (some ⟨B,0,none⟩)] w
  fun e w'=>e=.returned (.bool (nm.toList == s.toList))∧Zw_ w w':=by
 go_enter func253,ntmps253;go_wp2;go_ret;exact⟨rfl,Zb_.alloc Zl_ _⟩
end
theorem Zhg (lo:Nat) (v:Value) (Fs:List Fd) (s:Zy_) (B:Nat) (w:World) (hv:Zav lo w v Fs) (hB:B < w.heap.size) (hs:w.cell? ⟨B,0,none⟩=some (.string s)) :
 Calls prog 252 #[v,.func (.func 253) #[] #[.pointer (some ⟨B,0,none⟩)]] w fun e w'=>e=.returned (.int .i64 (Zb4 Fs s))∧Zw_ w w':=by
 by_cases hL:Fs=[]
 · subst hL
   obtain⟨a,cap,rfl⟩:=ZdS hv;clear hv;go_enter func252,ntmps252;go_wp2
   go_loop [8] (fun i=>i=.int .i64 0) (fun _=>0)
   case atStart=>rfl
   case round=>
    subst hrel;go_wp2;go_ret;exact⟨rfl,Below.refl _ _⟩
 · obtain⟨b,off,cap,rfl,hm,hbw,_,hc⟩:=hv.full hL
   clear hv;unfold maxLen at hm;go_enter func252,ntmps252;go_wp2
   go_loopw [8] (fun i wr=>∃ k:Nat,i=.int .i64 k∧k≤Fs.length∧Zw_ w wr∧∀ j (hj:j < Fs.length),j < k→(Fs[j].nm.toList == s.toList)=false) (fun i _=>Fs.length - (intOf i).toNat)
   case atStart=>exact⟨0,rfl,by omega,Below.refl _ _,fun j _ h=>by omega⟩
   case round=>
    obtain⟨k,rfl,hk,hb,hall⟩:=hrel;have HA:=Zab hall;have HB:=Zab hb;clear hall hb
    by_cases hlt:k < Fs.length
    · obtain⟨_,wv,hcell,_⟩:=hc k hlt
      obtain⟨c0,c1,c2,c3,c4,c5,c6,c7,c8,c9,c10⟩:=hcell.below HB.out hbw;clear hcell;go_wp2_with fail;refine (Znd _ _ _ _ _ _ _ _ _ _ _ _ s B (Zk_ hB HB.out.size) (by rw [HB.out.cell (p:=⟨B,0,none⟩) hB];exact hs)).mono ?_;rintro e w1 ⟨rfl,hb1⟩;have HB1:Hid (Zw_ w w1):=HB.out.trans (hb1.mono HB.out.size);clear hb1 c0 c1 c2 c3 c4 c5 c6 c7 c8 c9 c10
      cases he:(Fs[k].nm.toList == s.toList) with
      | true=>
       go_wp2;go_ret;exact⟨by rw [ZhN hlt he HA.out];rfl,HB1.out⟩
      | false=>
       go_wp2;go_roundw
       case rel=>exact⟨k+1,by go_num,by omega,HB1.out,fun j hj h=>by
                  by_cases e:j=k
                  · subst e;exact he
                  · exact HA.out j hj (by omega)⟩
       case measure=>simp [intOf];omega
    · go_wp2
      go_ret;exact⟨by rw [Zjv fun j hj=>HA.out j hj (by omega)];rfl,HB.out⟩
theorem ZeY (lo:Nat) (kind:Zy_) (v:Value) (Fs:List Fd) (s:Zy_) (w:World) (hv:Zav lo w v Fs) :
 Calls prog 238 #[.agg #[.string kind,v],.string s] w fun e w'=>e=.returned (.int .i64 (Zb4 Fs s))∧Zw_ w w':=by
 have HV:=Zab hv;obtain⟨a,cap,rfl⟩:=hv.form;clear hv;have HW:∀ o o',Hid (Zw_ w ((w.alloc o).alloc o')):=fun o o'=>(Zb_.alloc Zl_ _).alloc (by simp) _
 go_enter func238,ntmps238;go_wp2_with fail;refine (Zhg lo _ Fs s _ _ (HV.out.below (HW _ _).out) (by simp) (by simp)).mono ?_;rintro e w1 ⟨rfl,hb⟩;have HB:Hid (Zw_ w w1):=(HW _ _).out.trans (hb.mono (by simp;omega));clear hb;go_wp2;go_ret;exact⟨rfl,HB.out⟩
def Zm0 (lo:Nat) (Fs:List Fd) (s:Zy_) (e:Ending) (w:World):Prop:=
 (∃ (f:Fd) (wv:Value),Fs[ZaR Fs s]?=some f∧Zbi Fs s=true∧e=.returned (.tuple #[.agg #[.string f.nm,.int .i64 f.kd,.int .i64 f.le,.int .i64 f.mo,wv,.string f.to,.int .i64 f.ro,.bool f.mu,.bool f.fx,.string f.df,.string f.we],.bool true])∧Zan lo w wv f.words)∨
 (Zbi Fs s=false∧e=.returned (.tuple #[.agg #[.string ⟨#[]⟩,.int .i64 0,.int .i64 0,.int .i64 0,.slice none 0 0,.string ⟨#[]⟩,.int .i64 0,.bool false,.bool false,.string ⟨#[]⟩,.string ⟨#[]⟩],.bool false]))
theorem ZfR (lo:Nat) (kind:Zy_) (v:Value) (Fs:List Fd) (s:Zy_) (w0 w:World) (hv:Zav lo w0 v Fs) (h0:Below w0.heap.size w0 w) :
 Calls prog 214 #[.agg #[.string kind,v],.string s] w fun e w'=>Zw_ w w'∧Zm0 lo Fs s e w0:=by
 have HV:=Zab hv;have H0:=Zab h0;obtain⟨a,cap,rfl⟩:=hv.form;clear hv h0;go_enter func214,ntmps214;go_wp2_with fail;generalize hWa:w.alloc _=Wa;have hza:Wa.heap.size=w.heap.size+1:=by rw [← hWa];simp
 have HBa:Hid (Zw_ w Wa):=by rw [← hWa];exact Zac _ _
 have FS:Hid (Box Wa w.heap.size #[.string kind,.slice a Fs.length cap]):=by rw [← hWa];exact Box.new _ _ _ _ rfl
 clear hWa;generalize hWb:Wa.alloc _=Wb;have hbb:Below Wa.heap.size Wa Wb:=by rw [← hWb];exact Zac _ _
 have HBb:Hid (Zw_ w Wb):=HBa.out.trans (hbb.mono (by omega));have FS:=Zab (FS.out.on hbb);have FR:Hid (Box Wb (w.heap.size+1) #[.string ⟨#[]⟩,.int .i64 0,.int .i64 0,.int .i64 0,.slice none 0 0,.string ⟨#[]⟩,.int .i64 0,.bool false,.bool false,.string ⟨#[]⟩,.string ⟨#[]⟩]):=by rw [← hWb];exact Box.new _ _ _ _ hza
 clear hWb hbb HBa hza;refine (ZeY lo _ _ Fs s _ (HV.out.below (H0.out.trans (HBb.out.mono H0.out.size)))).mono ?_;rintro e w1 ⟨rfl,hb1⟩;have FS:=Zab (FS.out.on hb1);have FR:=Zab (FR.out.on hb1);have HB1:Hid (Zw_ w w1):=HBb.out.trans (hb1.mono HBb.out.size);clear hb1 HBb;have g1:=FS.out.cell;have gl:=FS.out.lt;have r:=FR.out.cell;have rf:=FR.out.free;have rl:=FR.out.lt;have r0:w1.cell? ⟨w.heap.size+1,0,none⟩=some (.string ⟨#[]⟩):=r 0;have r1:w1.cell? ⟨w.heap.size+1,1,none⟩=some (.int .i64 0):=r 1;have r2:w1.cell? ⟨w.heap.size+1,2,none⟩=some (.int .i64 0):=r 2;have r3:w1.cell? ⟨w.heap.size+1,3,none⟩=some (.int .i64 0):=r 3;have r4:w1.cell? ⟨w.heap.size+1,4,none⟩=some (.slice none 0 0):=r 4;have r5:w1.cell? ⟨w.heap.size+1,5,none⟩=some (.string ⟨#[]⟩):=r 5;have r6:w1.cell? ⟨w.heap.size+1,6,none⟩=some (.int .i64 0):=r 6
 have r7:w1.cell? ⟨w.heap.size+1,7,none⟩=some (.bool false):=r 7;have r8:w1.cell? ⟨w.heap.size+1,8,none⟩=some (.bool false):=r 8;have r9:w1.cell? ⟨w.heap.size+1,9,none⟩=some (.string ⟨#[]⟩):=r 9;have r10:w1.cell? ⟨w.heap.size+1,10,none⟩=some (.string ⟨#[]⟩):=r 10
 have HST:∀ (u0 u1 u2 u3 u4 u5 u6 u7 u8 u9 u10:Value),Hid (Zw_ w (((((((((((w1.setCell ⟨w.heap.size+1,0,none⟩ u0).setCell ⟨w.heap.size+1,1,none⟩ u1).setCell ⟨w.heap.size+1,2,none⟩ u2).setCell ⟨w.heap.size+1,3,none⟩ u3).setCell ⟨w.heap.size+1,4,none⟩ u4).setCell ⟨w.heap.size+1,5,none⟩ u5).setCell ⟨w.heap.size+1,6,none⟩ u6).setCell ⟨w.heap.size+1,7,none⟩ u7).setCell ⟨w.heap.size+1,8,none⟩ u8).setCell ⟨w.heap.size+1,9,none⟩ u9).setCell ⟨w.heap.size+1,10,none⟩ u10)):=fun u0 u1 u2 u3 u4 u5 u6 u7 u8 u9 u10=>by
  have q:∀ (i:Nat),w.heap.size≤(⟨w.heap.size+1,i,none⟩:Addr).block:=fun i=>Nat.le_succ _
  exact (((((((((((HB1.out.setCell (q 0) _).setCell (q 1) _).setCell (q 2) _).setCell (q 3) _).setCell (q 4) _).setCell (q 5) _).setCell (q 6) _).setCell (q 7) _).setCell (q 8) _).setCell (q 9) _).setCell (q 10) _)
 clear r
 by_cases hp:ZaR Fs s < Fs.length
 · rw [ZbJ hp]
   obtain⟨b,off,rfl,hbw0,hc⟩:=HV.out.full' (by omega);have hbw:b < w.heap.size:=Zk_ hbw0 H0.out.size
   obtain⟨_,wv,hcell,hwd⟩:=hc _ hp;have HWD:=Zab hwd;obtain⟨wa,wn,wcap,rfl⟩:=hwd.form;obtain⟨c0,c1,c2,c3,c4,c5,c6,c7,c8,c9,c10⟩:=hcell.below (H0.out.trans (HB1.out.mono H0.out.size)) hbw0;have HQ:Hid (Zbi Fs s=!(Fs[ZaR Fs s].kd == 4)):=Zlh hp;have HFF:Hid (Fs[ZaR Fs s]?=some Fs[ZaR Fs s]):=List.getElem?_eq_getElem hp
   have hpm:(Fs.length:Int)≤9223372036854775807:=by
    rcases HV.out with ⟨_,_,h,_⟩ | ⟨_,_,_,_,_,h,_⟩
    · injection h;omega
    · unfold maxLen at h;omega
   clear hc hwd hcell;generalize hpp:ZaR Fs s=p at*
   cases hk:(Fs[p].kd == 4) with
   | true=>
    have HN:Hid (Zbi Fs s=false):=by unfold Hid;rw [HQ.out,hk];rfl
    have e4:Fs[p].kd=4:=by simpa using hk
    rw [e4] at c1;clear hk;go_wp2;refine bodyPost_ret (v:=.tuple #[.agg #[.string ⟨#[]⟩,.int .i64 0,.int .i64 0,.int .i64 0,.slice none 0 0,.string ⟨#[]⟩,.int .i64 0,.bool false,.bool false,.string ⟨#[]⟩,.string ⟨#[]⟩],.bool false]) (by simp [results,results214,go_sem,r0,r1,r2,r3,r4,r5,r6,r7,r8,r9,r10]) rfl ⟨?_,Or.inr ⟨HN.out,rfl⟩⟩;exact (HST _ _ _ _ _ _ _ _ _ _ _).out
   | false=>
    have HN:Hid (Zbi Fs s=true):=by unfold Hid;rw [HQ.out,hk];rfl
    have e4:¬ Fs[p].kd=4:=by simpa using hk
    go_wp2;refine bodyPost_ret (v:=.tuple #[.agg #[.string Fs[p].nm,.int .i64 Fs[p].kd,.int .i64 Fs[p].le,.int .i64 Fs[p].mo,(.slice wa wn wcap),.string Fs[p].to,.int .i64 Fs[p].ro,.bool Fs[p].mu,.bool Fs[p].fx,.string Fs[p].df,.string Fs[p].we],.bool true]) (by simp [results,results214,go_sem,r0,r1,r2,r3,r4,r5,r6,r7,r8,r9,r10]) rfl ⟨?_,Or.inl ⟨Fs[p],_,by rw [hpp];exact HFF.out,HN.out,rfl,HWD.out⟩⟩;exact (HST _ _ _ _ _ _ _ _ _ _ _).out
 · rw [Zju hp]
   have HN:Hid (Zbi Fs s=false):=Zli hp;go_wp2;refine bodyPost_ret (v:=.tuple #[.agg #[.string ⟨#[]⟩,.int .i64 0,.int .i64 0,.int .i64 0,.slice none 0 0,.string ⟨#[]⟩,.int .i64 0,.bool false,.bool false,.string ⟨#[]⟩,.string ⟨#[]⟩],.bool false]) (by simp [results,results214,go_sem,r0,r1,r2,r3,r4,r5,r6,r7,r8,r9,r10]) rfl ⟨?_,Or.inr ⟨HN.out,rfl⟩⟩;exact (HST _ _ _ _ _ _ _ _ _ _ _).out
theorem ZhO (lo:Nat) (kind:Zy_) (v:Value) (Fs:List Fd) (field name:Zy_) (w:World) (hv:Zav lo w v Fs) :
 Calls prog 215 #[.agg #[.string kind,v],.string field,.string name] w fun e w'=>e=.returned (.bool (ZgR Fs field name))∧Zw_ w w':=by
 have HV:=Zab hv;obtain⟨a,cap,rfl⟩:=hv.form;clear hv;have HW:∀ o,Hid (Zw_ w (w.alloc o)):=fun o=>Zb_.alloc Zl_ _
 go_enter func215,ntmps215;go_wp2_with fail;refine (ZfR lo _ _ Fs name w _ HV.out (HW _).out).mono ?_;rintro e w1 ⟨hb1,hr⟩;have HB1:Hid (Zw_ w w1):=(HW _).out.trans (hb1.mono (by simp));have HB2:∀ o,Hid (Zw_ w (w1.alloc o)):=fun o=>HB1.out.alloc HB1.out.size _
 clear hb1
 rcases hr with ⟨f,wv,hff,hpl,rfl,hwd⟩ | ⟨hpl,rfl⟩
 · obtain⟨wa,wn,wcap,rfl⟩:=hwd.form
   clear hwd hff
   cases hne:name.toList.isEmpty with
   | true=>
    go_wp2;go_ret;exact⟨Zaa (by unfold ZgR;simp [hne]),(HB2 _).out⟩
   | false=>
    cases hnf:(name.toList == field.toList) with
    | true=>
     go_wp2;go_ret;exact⟨Zaa (by unfold ZgR;simp [hne,hnf,hpl]),(HB2 _).out⟩
    | false=>
     go_wp2;go_ret;exact⟨Zaa (by unfold ZgR;simp [hne,hnf,hpl]),(HB2 _).out⟩
 · cases hne:name.toList.isEmpty with
   | true=>
    go_wp2;go_ret;exact⟨Zaa (by unfold ZgR;simp [hne]),(HB2 _).out⟩
   | false=>
    go_wp2;go_ret;exact⟨Zaa (by unfold ZgR;simp [hne,hpl]),(HB2 _).out⟩
theorem Zmc (lo:Nat) (kind:Zy_) (v:Value) (Fs:List Fd) (m:Md) (w0 w:World) (hv:Zav lo w0 v Fs) (h0:Below w0.heap.size w0 w) (hm:ZdX m) :
 Calls prog 171 #[.agg #[.string kind,v],.agg #[.string m.kind,.string m.field,.string m.wh,.string m.is,.string m.put,.string m.fr]] w fun e w'=>e=.returned (.bool (Zd2 Fs m))∧Zw_ w w':=by
 have HV:=Zab hv;have H0:=Zab h0;have HM:=Zab hm;obtain⟨a,cap,rfl⟩:=hv.form;clear hv h0 hm;go_enter func171,ntmps171;go_wp2_with fail;generalize hWa:w.alloc _=Wa;have hza:Wa.heap.size=w.heap.size+1:=by rw [← hWa];simp
 have HBa:Hid (Zw_ w Wa):=by rw [← hWa];exact Zac _ _
 have FS:Hid (Box Wa w.heap.size #[.string kind,.slice a Fs.length cap]):=by rw [← hWa];exact Box.new _ _ _ _ rfl
 clear hWa;generalize hWb:Wa.alloc _=Wb;have hbb:Below Wa.heap.size Wa Wb:=by rw [← hWb];exact Zac _ _
 have HBb:Hid (Zw_ w Wb):=HBa.out.trans (hbb.mono (by omega));have FS:=Zab (FS.out.on hbb);have FM:Hid (Box Wb (w.heap.size+1) #[.string m.kind,.string m.field,.string m.wh,.string m.is,.string m.put,.string m.fr]):=by rw [← hWb];exact Box.new _ _ _ _ hza
 clear hWb hbb HBa hza;refine (ZfR lo _ _ Fs m.field w0 _ HV.out (H0.out.trans (HBb.out.mono H0.out.size))).mono ?_;rintro e w1 ⟨hb1,hr⟩;have FS:=Zab (FS.out.on hb1);have FM:=Zab (FM.out.on hb1);have HB1:Hid (Zw_ w w1):=HBb.out.trans (hb1.mono HBb.out.size);clear hb1 HBb
 rcases hr with ⟨f,wv,hff,hpl,rfl,hwd⟩ | ⟨hpl,rfl⟩
 · obtain⟨wa,wn,wcap,rfl⟩:=hwd.form
   have HWD:=Zab hwd;have HFIT:Hid (ZmV Fs m.field m.put=ZaL f.kd f.le f.mo f.words m.put):=by unfold Hid ZmV;rw [hff]
   clear hwd hff;have g1:=FS.out.cell;have g2:=FM.out.cell;have gl:=FS.out.lt;have gl2:=FM.out.lt;go_wp2_with fail;generalize hWc:w1.alloc _=Wc;have hbc:Below w1.heap.size w1 Wc:=by rw [← hWc];exact Zac _ _
   have FS:=Zab (FS.out.on hbc);have FM:=Zab (FM.out.on hbc);have FF:Hid (Box Wc w1.heap.size #[.string f.nm,.int .i64 f.kd,.int .i64 f.le,.int .i64 f.mo,(.slice wa wn wcap),.string f.to,.int .i64 f.ro,.bool f.mu,.bool f.fx,.string f.df,.string f.we]):=by rw [← hWc];exact Box.new _ _ _ _ rfl
   have HBc:Hid (Zw_ w Wc):=HB1.out.trans (hbc.mono HB1.out.size);clear hWc hbc HB1 g1 g2 gl gl2;refine (ZhO lo _ _ Fs m.field m.wh _ (HV.out.below (H0.out.trans (HBc.out.mono H0.out.size)))).mono ?_;rintro e w2 ⟨rfl,hb2⟩;have FS:=Zab (FS.out.on hb2);have FM:=Zab (FM.out.on hb2);have FF:=Zab (FF.out.on hb2);have HB2:Hid (Zw_ w w2):=HBc.out.trans (hb2.mono HBc.out.size);clear hb2 HBc
   cases hrw:ZgR Fs m.field m.wh with
   | false=>
    go_wp2;go_ret;exact⟨Zaa (by unfold Zd2;simp [hpl,hrw]),HB2.out⟩
   | true=>
    have g1:=FS.out.cell;have g2:=FM.out.cell;have gl:=FS.out.lt;have gl2:=FM.out.lt;go_wp2_with fail;clear g1 g2 gl gl2;refine (ZhO lo _ _ Fs m.field m.fr _ (HV.out.below (H0.out.trans (HB2.out.mono H0.out.size)))).mono ?_;rintro e w3 ⟨rfl,hb3⟩;have FM:=Zab (FM.out.on hb3);have FF:=Zab (FF.out.on hb3);have HB3:Hid (Zw_ w w3):=HB2.out.trans (hb3.mono HB2.out.size);clear hb3 HB2
    cases hrf:ZgR Fs m.field m.fr with
    | false=>
     go_wp2;go_ret;exact⟨Zaa (by unfold Zd2;simp [hpl,hrw,hrf]),HB3.out⟩
    | true=>
     have g2:=FM.out.cell;have gl2:=FM.out.lt
     cases hwe:m.wh.toList.isEmpty with
     | true=>
      cases his:m.is.toList.isEmpty with
      | false=>
       go_wp2;go_ret;exact⟨Zaa (by unfold Zd2 Zb1;simp [hpl,hrw,hrf,hwe,his]),HB3.out⟩
      | true=>
       cases hfe:m.fr.toList.isEmpty with
       | true=>
        cases hpu:m.put.toList.isEmpty with
        | true=>
         go_wp2;go_ret;exact⟨Zaa (by unfold Zd2 Zb1;simp [hpl,hrw,hrf,hwe,his,hfe,hpu]),HB3.out⟩
        | false=>
         have HEND:Hid (Zd2 Fs m=ZmV Fs m.field m.put):=by unfold Hid Zd2 Zb1;simp [hpl,hrw,hrf,hwe,his,hfe,hpu]
         have g3:=FF.out.cell;have gl3:=FF.out.lt;go_wp2_with fail;clear g2 g3 gl2 gl3;refine (ZfN _ _ _ _ _ _ _ _ _ _ f.words _ _ _ (HWD.out.at.below (H0.out.trans (HB3.out.mono H0.out.size))) HM.out.s4).mono ?_;rintro e w4 ⟨rfl,hb4⟩;have HB4:Hid (Zw_ w w4):=HB3.out.trans (hb4.mono HB3.out.size);clear hb4;go_wp2;go_ret;exact⟨Zaa (HEND.out.trans HFIT.out).symm,HB4.out⟩
       | false=>
        cases hpu:m.put.toList.isEmpty with
        | true=>
         go_wp2;go_ret;exact⟨Zaa (by unfold Zd2 Zb1;simp [hpl,hrw,hrf,hwe,his,hfe,hpu]),HB3.out⟩
        | false=>
         go_wp2;go_ret;exact⟨Zaa (by unfold Zd2 Zb1;simp [hpl,hrw,hrf,hwe,his,hfe,hpu]),HB3.out⟩
     | false=>
      cases hfe:m.fr.toList.isEmpty with
      | true=>
       cases hpu:m.put.toList.isEmpty with
       | true=>
        go_wp2;go_ret;exact⟨Zaa (by unfold Zd2 Zb1;simp [hpl,hrw,hrf,hwe,hfe,hpu]),HB3.out⟩
       | false=>
        have HEND:Hid (Zd2 Fs m=ZmV Fs m.field m.put):=by unfold Hid Zd2 Zb1;simp [hpl,hrw,hrf,hwe,hfe,hpu]
        have g3:=FF.out.cell;have gl3:=FF.out.lt;go_wp2_with fail;clear g2 g3 gl2 gl3;refine (ZfN _ _ _ _ _ _ _ _ _ _ f.words _ _ _ (HWD.out.at.below (H0.out.trans (HB3.out.mono H0.out.size))) HM.out.s4).mono ?_;rintro e w4 ⟨rfl,hb4⟩;have HB4:Hid (Zw_ w w4):=HB3.out.trans (hb4.mono HB3.out.size);clear hb4;go_wp2;go_ret;exact⟨Zaa (HEND.out.trans HFIT.out).symm,HB4.out⟩
      | false=>
       cases hpu:m.put.toList.isEmpty with
       | true=>
        go_wp2;go_ret;exact⟨Zaa (by unfold Zd2 Zb1;simp [hpl,hrw,hrf,hwe,hfe,hpu]),HB3.out⟩
       | false=>
        go_wp2;go_ret;exact⟨Zaa (by unfold Zd2 Zb1;simp [hpl,hrw,hrf,hwe,hfe,hpu]),HB3.out⟩
 · have g1:=FS.out.cell
   have g2:=FM.out.cell;go_wp2;go_ret;exact⟨Zaa (by unfold Zd2;simp [hpl]),HB1.out.alloc HB1.out.size _⟩
theorem Zm4 {L:List Zy_} {p:Zy_→Bool} {k:Nat} (h:k < L.length) (hp:p L[k]=false):L.all p=false:=by
 rw [List.all_eq_false];exact⟨L[k],List.getElem_mem h,by simp [hp]⟩
theorem Zpv {L:List Zy_} {p:Zy_→Bool} (h:∀ i (h:i < L.length),p L[i]=true):L.all p=true:=by
 rw [List.all_eq_true];intro x hx;obtain⟨i,hi,rfl⟩:=List.getElem_of_mem hx;exact h i hi
theorem ZiU (rv wv:Value) (row L:List Zy_) (w:World) (hr:Zaf w rv row) (hv:Zaf w wv L) :
 Calls prog 241 #[rv,wv] w fun e w'=>e=.returned (.bool (L.all (Zeq row)))∧w'=w:=by
 have HR:=Zab hr;obtain⟨ra,rn,rcap,rfl⟩:=hr.form;clear hr
 rcases hv with ⟨a,cap,rfl,rfl⟩ | ⟨b,off,cap,rfl,hne,hm,hbw,hc,hsz⟩
 · go_enter func241,ntmps241
   go_wp2
   go_loop [9] (fun i=>i=.int .i64 0) (fun _=>0)
   case atStart=>rfl
   case round=>
    subst hrel;go_wp2;go_ret;exact⟨rfl,rfl⟩
 · unfold maxLen at hm
   go_enter func241,ntmps241;go_wp2
   go_loop [9] (fun i=>∃ k:Nat,i=.int .i64 k∧k≤L.length∧∀ i (h:i < L.length),i < k→Zeq row L[i]=true) (fun i=>L.length - (intOf i).toNat)
   case atStart=>exact⟨0,rfl,by omega,fun i _ h=>by omega⟩
   case round=>
    obtain⟨k,rfl,hk,hall⟩:=hrel;have HA:=Zab hall;clear hall
    by_cases hlt:k < L.length
    · have hck:=hc k hlt
      go_wp2_with fail;refine (Zd8 _ row L[k] _ HR.out).mono ?_;rintro e w1 ⟨rfl,rfl⟩
      cases hh:Zeq row L[k] with
      | false=>
       go_wp2;go_ret;exact⟨Zaa (Zm4 hlt hh).symm,rfl⟩
      | true=>
       go_wp2
       go_round
       case rel=>exact⟨k+1,by go_num,by omega,fun i h h'=>by
                  by_cases e:i=k
                  · subst e;exact hh
                  · exact HA.out i h (by omega)⟩
       case measure=>simp [intOf];omega
    · go_wp2
      go_ret;exact⟨Zaa (Zpv fun i h=>HA.out i h (by omega)).symm,rfl⟩
def rdP (m:Md) (j:Nat):List Zy_:=if j=0 then [] else if j=1 then (if m.wh.toList.isEmpty=true then [] else [m.wh]) else ZiE m
theorem ZrR (m:Md) (j:Nat):(rdP m j).length≤2:=by
 unfold rdP ZiE
 split
 · simp
 · split
   · split <;> simp
   · rw [List.length_append];split <;> split <;> simp
theorem Zmm (kind field:Zy_) (m:Md) (Ms:List Md):Zao kind (m :: Ms) field=(if Zc3 kind field m=true then ZiE m else []) ++ Zao kind Ms field:=by
 unfold Zao
 by_cases h:Zc3 kind field m=true <;> simp [h]
theorem ZnW (kind field:Zy_) (Ms:List Md):(Zao kind Ms field).length≤2*Ms.length:=by
 induction Ms with
 | nil=>simp [Zky]
 | cons m Ms ih=>
  have h2:(ZiE m).length≤2:=by unfold ZiE;rw [List.length_append];split <;> split <;> simp
  rw [Zmm,List.length_append,List.length_cons]
  by_cases h:Zc3 kind field m=true
  · rw [if_pos h];omega
  · rw [if_neg h];simp only [List.length_nil];omega
theorem ZhL {base:Nat} {W:World} {v:Value} {R R':List Zy_} (h:ZdL base W v R) (e:R=R'):ZdL base W v R':=e ▸ h
theorem Zmn {kind field:Zy_} {Ms:List Md} {k:Nat} (hk:k < Ms.length):Zao kind (Ms.take (k+1)) field=Zao kind (Ms.take k) field ++ (if Zc3 kind field Ms[k]=true then ZiE Ms[k] else []):=by
 rw [List.take_succ_eq_append_getElem hk,Zjw]
theorem Zl8 (W:World) (x y:Zy_):(Instr.index 336 (.agg #[.string x,.string y]) (.int .i64 0)).run prog W=.ok (.string x) W:=by
 kernel_rfl
theorem ZnC (W:World) (x y:Zy_):(Instr.index 336 (.agg #[.string x,.string y]) (.int .i64 1)).run prog W=.ok (.string y) W:=by
 kernel_rfl
theorem Zkx (lo:Nat) (v:Value) (Ms:List Md) (kind field:Zy_) (w:World) (hv:Zbc lo w v Ms) (hn:Ms.length≤1048576) :
 Calls prog 219 #[.string kind,.string field,v] w fun e w'=>∃ v',e=.returned v'∧Zw_ w w'∧ZdL w.heap.size w' v' (Zao kind Ms field):=by
 obtain⟨i0,hi,hz0,hz1,hz2⟩:=info_parts Tryz.info9;have HI:=Zab (And.intro hi (And.intro hz0 (And.intro hz1 hz2)));clear hi hz0 hz1 hz2;have HV:=Zab hv;obtain⟨a,cap,rfl⟩:=hv.form;clear hv;go_enter func219,ntmps219;go_wp2
 go_loopw [7,14] (fun r i wr=>∃ k:Nat,i=.int .i64 k∧k≤Ms.length∧Zw_ w wr∧ZdL w.heap.size wr r (Zao kind (Ms.take k) field)) (fun _ i _=>Ms.length - (intOf i).toNat)
 case atStart=>exact⟨0,rfl,by omega,Below.refl _ _,ZdL.nil _ _⟩
 case round=>
  obtain⟨k,rfl,hk,hb,hown⟩:=hrel;have HB:=Zab hb;have HO:=Zab hown;obtain⟨ra,rcap,rfl⟩:=hown.form;clear hb hown
  by_cases hlt:k < Ms.length
  · obtain⟨b,off,rfl,hbw,hc⟩:=HV.out.full' (by omega)
    obtain⟨hsz,hcell⟩:=hc k hlt;obtain⟨c0,c1,c2,c3,c4,c5⟩:=hcell.below HB.out hbw;clear hcell hc;have HST:=Zab (Zmn (kind:=kind) (field:=field) hlt)
    cases hk1:(Ms[k].kind.toList == kind.toList) with
    | false=>
     have HF:Hid (Zao kind (Ms.take (k+1)) field=Zao kind (Ms.take k) field):=by unfold Hid;rw [HST.out,if_neg (by unfold Zc3;simp [hk1]),List.append_nil]
     go_wp2;go_roundw
     case rel=>exact⟨k+1,by go_num,by omega,HB.out.alloc HB.out.size _,by rw [HF.out];exact HO.out.below (Zb_.alloc Zl_ _)⟩
     case measure=>simp [intOf];omega
    | true=>
     cases hf1:(Ms[k].field.toList == field.toList) with
     | false=>
      have HF:Hid (Zao kind (Ms.take (k+1)) field=Zao kind (Ms.take k) field):=by unfold Hid;rw [HST.out,if_neg (by unfold Zc3;simp [hf1]),List.append_nil]
      go_wp2;go_roundw
      case rel=>exact⟨k+1,by go_num,by omega,HB.out.alloc HB.out.size _,by rw [HF.out];exact HO.out.below (Zb_.alloc Zl_ _)⟩
      case measure=>simp [intOf];omega
     | true=>
      have HF:Hid (Zao kind (Ms.take (k+1)) field=Zao kind (Ms.take k) field ++ ZiE Ms[k]):=by unfold Hid;rw [HST.out,if_pos (by unfold Zc3;simp [hk1,hf1])]
      have HRL:Hid ((Zao kind (Ms.take k) field).length≤2097152):=by
       have:=ZnW kind field (Ms.take k);rw [List.length_take] at this;unfold Hid;omega
      clear HST;generalize Zao kind (Ms.take k) field=R0 at*;have HSZ:=Zab hsz;go_wp2;generalize hW2:wr.alloc _=W2;have HB2:Hid (Zw_ w W2):=by rw [← hW2];exact HB.out.alloc HB.out.size _
      have HO2:Hid (ZdL w.heap.size W2 (.slice ra R0.length rcap) R0):=by rw [← hW2];exact HO.out.below (Zb_.alloc Zl_ _)
      clear hW2 HB HO c0 c1 c2 c3 c4 c5 hk1 hf1;have hx0:=fun W=>Zl8 W Ms[k].wh Ms[k].fr
      have hx1:=fun W=>ZnC W Ms[k].wh Ms[k].fr
      go_loopw [7,33] (fun r i wr=>∃ j:Nat,j≤2∧i=.int .i64 j∧Zw_ w wr∧ZdL w.heap.size wr r (R0 ++ rdP Ms[k] j)) (fun _ i _=>2 - (intOf i).toNat)
      case atStart=>exact⟨0,by omega,rfl,HB2.out,by unfold rdP;simpa using HO2.out⟩
      case round=>
       obtain⟨j,hj2,rfl,hbj,hoj⟩:=hrel;have HBj:=Zab hbj;have HOj:=Zab hoj
       have HLj:Hid ((R0 ++ rdP Ms[k] j).length≤2097154):=by
        have:=ZrR Ms[k] j;have:=HRL.out;unfold Hid;rw [List.length_append];omega
       obtain⟨ja,jcap,rfl⟩:=hoj.form;clear hbj hoj HB2 HO2
       by_cases hj0:j=0
       · subst hj0
         cases hwe:Ms[k].wh.toList.isEmpty with
         | true=>
          go_wp2;go_roundw
          case rel=>exact⟨1,by omega,rfl,HBj.out,ZhL HOj.out (by unfold rdP;simp [hwe])⟩
          case measure=>simp [intOf]
         | false=>
          generalize hR1:R0 ++ rdP Ms[k] 0=R1 at*;go_wp2_with (at_builtin;refine wpList_append_lies _ rfl (.tmp 38) (.tmp 40) 120 rfl w.heap.size 9 i0 (.string ⟨#[]⟩) 1 16 underlying120 HI.out.1 HI.out.2.1 HI.out.2.2.1 HI.out.2.2.2 rfl (by decide) _ _ _ rfl (HOj.out.below (Zb_.alloc Zl_ _)).row ⟨wr.heap.size,0,none⟩ 1 1 [.string Ms[k].wh] rfl rfl (Zfb _ _ _ _ rfl) (ZdT _) (by decide) (by have:=HLj.out;unfold maxLen;omega) (by have:=HLj.out;omega) (by have:=HBj.out.size;simp;omega) _ rfl ?_;intro g cap1 w3 hown3 hgrow3 hat3 hlt3);go_roundw
          case rel=>exact⟨1,by omega,rfl,(HBj.out.alloc HBj.out.size _).trans ((HOj.out.below (Zb_.alloc Zl_ _)).grown hgrow3 (by have:=HBj.out.size;simp;omega)),ZhL (HOj.out.snoc hown3 HSZ.out.s2) (by rw [← hR1];unfold rdP ZiE;simp [hwe])⟩
          case measure=>simp [intOf]
       · by_cases hj1:j=1
         · subst hj1
           cases hfe:Ms[k].fr.toList.isEmpty with
           | true=>
            go_wp2;go_roundw
            case rel=>exact⟨2,by omega,rfl,HBj.out,ZhL HOj.out (by unfold rdP ZiE;simp [hfe])⟩
            case measure=>simp [intOf]
           | false=>
            generalize hR1:R0 ++ rdP Ms[k] 1=R1 at*;go_wp2_with (at_builtin;refine wpList_append_lies _ rfl (.tmp 38) (.tmp 40) 120 rfl w.heap.size 9 i0 (.string ⟨#[]⟩) 1 16 underlying120 HI.out.1 HI.out.2.1 HI.out.2.2.1 HI.out.2.2.2 rfl (by decide) _ _ _ rfl (HOj.out.below (Zb_.alloc Zl_ _)).row ⟨wr.heap.size,0,none⟩ 1 1 [.string Ms[k].fr] rfl rfl (Zfb _ _ _ _ rfl) (ZdT _) (by decide) (by have:=HLj.out;unfold maxLen;omega) (by have:=HLj.out;omega) (by have:=HBj.out.size;simp;omega) _ rfl ?_;intro g cap1 w3 hown3 hgrow3 hat3 hlt3);go_roundw
            case rel=>exact⟨2,by omega,rfl,(HBj.out.alloc HBj.out.size _).trans ((HOj.out.below (Zb_.alloc Zl_ _)).grown hgrow3 (by have:=HBj.out.size;simp;omega)),ZhL (HOj.out.snoc hown3 HSZ.out.s5) (by rw [← hR1];unfold rdP ZiE;simp [hfe])⟩
            case measure=>simp [intOf]
         · have e:j=2:=by omega
           subst e;go_wp2;exact⟨⟨k+1,by go_num,by omega,HBj.out,ZhL HOj.out (by rw [HF.out];rfl)⟩,by simp [intOf];omega⟩
  · have e:k=Ms.length:=by omega
    subst e;have HE:Hid (Zao kind (Ms.take Ms.length) field=Zao kind Ms field):=by unfold Hid;rw [List.take_length]
    go_wp2;go_ret;exact⟨_,rfl,HB.out,ZhL HO.out HE.out⟩
theorem ZkB (lo:Nat) (mv:Value) (Ms:List Md) (kind name:Zy_) (B1 B2:Nat) (w:World) (h1:w.cell? ⟨B1,0,none⟩=some (.string kind)) (h2:w.cell? ⟨B2,0,none⟩=some mv) (hv:Zbc lo w mv Ms) (hn:Ms.length≤1048576) :
 Calls prog 218 #[.string name,.pointer (some ⟨B1,0,none⟩),.pointer (some ⟨B2,0,none⟩)] w fun e w'=>∃ v',e=.returned v'∧Zw_ w w'∧ZdL w.heap.size w' v' (Zao kind Ms name):=by
 have HV:=Zab hv;obtain⟨a,cap,rfl⟩:=hv.form;clear hv;go_enter func218,ntmps218;go_wp2_with fail;refine (Zkx lo _ Ms kind name _ HV.out hn).mono ?_;rintro e w1 ⟨v1,rfl,hb1,ho1⟩;have HB1:=Zab hb1;have HO1:=Zab ho1;clear hb1 ho1;go_wp2;go_ret;exact⟨_,rfl,HB1.out,HO1.out⟩
def Zlo:Value→Nat
 | .slice _ n _=>n
 | _=>0
def Zlw (N:List Zy_) (rd:Zy_→List Zy_) (R:List Zy_) (k:Nat):Prop:=∀ i (h:i < N.length),i < k→N[i] ∈ R∨¬ ∀ r ∈ rd N[i],r ∈ R
theorem Zlw.stuck {N:List Zy_} {rd:Zy_→List Zy_} {R:List Zy_} {k:Nat} (h:Zlw N rd R k) (hk:N.length≤k):Zh5 N rd R:=by
 intro x hx hn;obtain⟨i,hi,rfl⟩:=List.getElem_of_mem hx
 rcases h i hi (by omega) with h1 | h1
 · exact absurd h1 hn
 · exact h1
theorem Zlw.succ {N:List Zy_} {rd:Zy_→List Zy_} {R:List Zy_} {k:Nat} (h:Zlw N rd R k) (hk:k < N.length) (hx:N[k] ∈ R∨¬ ∀ r ∈ rd N[k],r ∈ R):Zlw N rd R (k+1):=by
 intro i hi hik
 by_cases e:i=k
 · subst e;exact hx
 · exact h i hi (by omega)
theorem Zi9 {N:List Zy_} {rd:Zy_→List Zy_} {R:List Zy_} (h:ZcN N rd R):R.length≤N.length:=List.Nodup.length_le_of_subset h.nodup h.sub
def Zs0 (N:List Zy_) (rd:Zy_→List Zy_) (R R':List Zy_) (k:Nat):Prop:=(R'=R∧Zlw N rd R k)∨R.length < R'.length
def Zty (base:Nat) (N:List Zy_) (rd:Zy_→List Zy_) (e:Ending) (w':World):Prop:=
 (∃ v R,e=.returned (.tuple #[v,.bool true])∧ZdL base w' v R∧ZcN N rd R∧N.length≤R.length)∨
 (ZmW N rd=false∧e=.returned (.tuple #[.slice none 0 0,.bool false]))
theorem ZdL.room {base:Nat} (W:World) (n g:Nat) (hg:W.heap.size=g) (hb:base≤g) (hn:n≤maxLen):ZdL base (W.alloc (.cells (madeCells #[.string ⟨#[]⟩] n) 9)) (.slice (some ⟨g,0,none⟩) 0 n) []:=by
 subst hg;exact⟨World.ownsRow_made (base:=base) (e:=9) (size:=1) W _ n hb hn (by rw [size_madeCells,Nat.mul_one]),fun s h=>by simp at h⟩
theorem Zkc (lo:Nat) (tv mv:Value) (N:List Zy_) (Ms:List Md) (kind:Zy_) (B1 B2:Nat) (w:World) (ht:Zaf w tv N) (hnn:N.length≤1048576) (hb1:B1 < w.heap.size) (hb2:B2 < w.heap.size)
 (h1:w.cell? ⟨B1,0,none⟩=some (.string kind)) (h2:w.cell? ⟨B2,0,none⟩=some mv) (hv:Zbc lo w mv Ms) (hn:Ms.length≤1048576) :
 Calls prog 217 #[tv,.func (.func 218) #[] #[.pointer (some ⟨B1,0,none⟩),.pointer (some ⟨B2,0,none⟩)]] w fun e w'=>Zw_ w w'∧Zty w.heap.size N (Zao kind Ms) e w':=by
 obtain⟨i0,hi,hz0,hz1,hz2⟩:=info_parts Tryz.info9;have HT:=Zab ht;have HV:=Zab hv;have H1:=Zab h1;have H2:=Zab h2;obtain⟨ta,tcap,rfl⟩:=ht.form_len;clear ht hv h1 h2
 have hmk:∀ u:World,(Instr.makeSlice 120 (.int .i64 0) (.int .i64 (N.length:Int))).run prog u=.ok (.slice (some ⟨u.heap.size,0,none⟩) 0 N.length) (u.alloc (.cells (madeCells #[.string ⟨#[]⟩] N.length) 9)):=fun u=>by
  have h:=run_make (P:=prog) u 120 9 i0 _ underlying120 hi hz0 .i64 .i64 0 N.length (by omega) (by omega) (by rw [hz2];omega) (by omega);have ec:(Value.string ⟨#[]⟩).cells=#[.string ⟨#[]⟩]:=rfl;rw [hz1,ec] at h
  simpa using h
 have HI:=Zab (And.intro hi (And.intro hz0 (And.intro hz1 hz2)));clear hi hz0 hz1 hz2;go_enter func217,ntmps217;go_wp2;clear hmk
 go_loopw [6] (fun r wr=>∃ R:List Zy_,ZdL w.heap.size wr r R∧Zw_ w wr∧ZcN N (Zao kind Ms) R) (fun r _=>N.length - Zlo r)
 case atStart=>exact⟨[],ZdL.room w _ _ rfl Zl_ (by unfold maxLen;omega),Zb_.alloc Zl_ _,ZcN.nil⟩
 case round=>
  obtain⟨R,hown,hb,hgood⟩:=hrel;have HO:=Zab hown;have HB:=Zab hb;have HG:=Zab hgood;obtain⟨ra,rcap,rfl⟩:=hown.form;have hRl:R.length≤N.length:=Zi9 hgood;clear hown hb hgood
  by_cases hlt:R.length < N.length
  · go_wp2
    go_loopw [6,22] (fun r i wr=>∃ (k:Nat) (R':List Zy_),i=.int .i64 k∧k≤N.length∧ZdL w.heap.size wr r R'∧Zw_ w wr∧ZcN N (Zao kind Ms) R'∧Zs0 N (Zao kind Ms) R R' k) (fun _ i _=>N.length - (intOf i).toNat)
    case atStart=>exact⟨0,R,rfl,by omega,HO.out,HB.out,HG.out,Or.inl ⟨rfl,fun i _ h=>by omega⟩⟩
    case round=>
     obtain⟨k,R',rfl,hk,hown,hb,hgood,hpass⟩:=hrel;have HO':=Zab hown;have HB':=Zab hb;have HG':=Zab hgood;have HP:=Zab hpass;obtain⟨ra',rcap',rfl⟩:=hown.form;have hRl':R'.length≤N.length:=Zi9 hgood;clear hown hb hgood hpass HO HB
     by_cases hkl:k < N.length
     · obtain⟨tb,toff,htw,hta,hcN,hszN⟩:∃ tb toff,tb < w.heap.size∧ta=some ⟨tb,toff,none⟩∧(∀ i (h:i < N.length),w.cell? ⟨tb,toff+i,none⟩=some (.string N[i]))∧∀ s ∈ N,s.size≤maxLen:=by
        rcases HT.out with ⟨_,_,_,h⟩ | ⟨b,off,cap,h1,h2,h3,h4,h5,h6⟩
        · rw [h] at hkl;simp at hkl
        · injection h1 with e1 e2 e3;exact⟨b,off,h4,e1,h5,h6⟩
       subst hta;have ck:wr.cell? ⟨tb,toff+k,none⟩=some (.string N[k]):=by rw [HB'.out.cell (p:=⟨tb,_,none⟩) htw];exact hcN k hkl
       have HSZ:Hid (N[k].size≤maxLen):=hszN _ (List.getElem_mem hkl);clear hcN hszN;go_wp2_with fail;refine (Zd8 _ R' N[k] _ HO'.out.strs).mono ?_;rintro e w1 ⟨rfl,rfl⟩
       cases hh:Zeq R' N[k] with
       | true=>
        have HNX:Hid (Zs0 N (Zao kind Ms) R R' (k+1)):=by
         rcases HP.out with ⟨e1,e2⟩ | h
         · subst e1;exact Or.inl ⟨rfl,e2.succ hkl (Or.inl (Zdl.1 hh))⟩
         · exact Or.inr h
        go_wp2;go_roundw
        case rel=>exact⟨k+1,R',by go_num,by omega,HO'.out,HB'.out,HG'.out,HNX.out⟩
        case measure=>simp [intOf];omega
       | false=>
        go_wp2_with fail;refine (ZkB lo mv Ms kind N[k] B1 B2 _ (by rw [HB'.out.cell (p:=⟨B1,0,none⟩) hb1];exact H1.out) (by rw [HB'.out.cell (p:=⟨B2,0,none⟩) hb2];exact H2.out) (HV.out.below HB'.out) hn).mono ?_;rintro e w2 ⟨v2,rfl,hbw2,ho2⟩;have HO2:=Zab (HO'.out.below hbw2);have HB2:Hid (Zw_ w w2):=HB'.out.trans (hbw2.mono HB'.out.size);have HS2:=Zab ho2.strs;obtain⟨va,vcap,rfl⟩:=ho2.form;clear hbw2 ho2 ck;go_wp2_with fail;refine (ZiU _ _ R' (Zao kind Ms N[k]) _ HO2.out.strs HS2.out).mono ?_;rintro e w3 ⟨rfl,rfl⟩
        cases hrd:(Zao kind Ms N[k]).all (Zeq R') with
        | false=>
         have HNX:Hid (Zs0 N (Zao kind Ms) R R' (k+1)):=by
          rcases HP.out with ⟨e1,e2⟩ | h
          · subst e1;exact Or.inl ⟨rfl,e2.succ hkl (Or.inr fun h=>by have:=Zda.2 h;unfold Zfl at this;rw [this] at hrd;cases hrd)⟩
          · exact Or.inr h
         go_wp2;go_roundw
         case rel=>exact⟨k+1,R',by go_num,by omega,HO2.out,HB2.out,HG'.out,HNX.out⟩
         case measure=>simp [intOf];omega
        | true=>
         have HG1:Hid (ZcN N (Zao kind Ms) (R' ++ [N[k]])):=ZcN.snoc HG'.out (List.getElem_mem hkl) (Zim hh) (Zda.1 hrd)
         have HNX:Hid (Zs0 N (Zao kind Ms) R (R' ++ [N[k]]) (k+1)):=by
          refine Or.inr ?_;rw [List.length_append]
          rcases HP.out with ⟨e1,_⟩ | h
          · subst e1;simp
          · simp;omega
         clear hh hrd;go_wp2_with (at_builtin;refine wpList_append_lies _ rfl (.tmp 37) (.tmp 39) 120 rfl w.heap.size 9 i0 (.string ⟨#[]⟩) 1 16 underlying120 HI.out.1 HI.out.2.1 HI.out.2.2.1 HI.out.2.2.2 rfl (by decide) _ _ _ rfl (HO2.out.below (Zb_.alloc Zl_ _)).row ⟨w3.heap.size,0,none⟩ 1 1 [.string N[k]] rfl rfl (Zfb _ _ _ _ rfl) (ZdT _) (by decide) (by unfold maxLen;omega) (by omega) (by have:=HB2.out.size;simp;omega) _ rfl ?_;intro g cap1 w4 hown4 hgrow4 hat4 hlt4);go_roundw
         case rel=>exact⟨k+1,R' ++ [N[k]],by go_num,by omega,HO2.out.snoc hown4 HSZ.out,(HB2.out.alloc HB2.out.size _).trans ((HO2.out.below (Zb_.alloc Zl_ _)).grown hgrow4 (by have:=HB2.out.size;simp;omega)),HG1.out,HNX.out⟩
         case measure=>simp [intOf];omega
     · by_cases hgr:(R'.length:Int)=(R.length:Int)
       · have HNO:Hid (ZmW N (Zao kind Ms)=false):=by
          rcases HP.out with ⟨e1,e2⟩ | h
          · subst e1;exact Zn6 (e2.stuck (by omega)) hlt
          · omega
         go_wp2;refine bodyPost_ret (v:=.tuple #[.slice none 0 0,.bool false]) (by simp [results,results217,go_sem]) rfl ⟨HB'.out,Or.inr ⟨HNO.out,rfl⟩⟩
       · have hgt:R.length < R'.length:=by
          rcases HP.out with ⟨e1,e2⟩ | h
          · subst e1;omega
          · exact h
         go_wp2;exact⟨⟨R',HO'.out,HB'.out,HG'.out⟩,by simp only [Zlo];omega⟩
  · go_wp2
    refine bodyPost_ret (v:=.tuple #[.slice ra R.length rcap,.bool true]) (by simp [results,results217,go_sem]) rfl ⟨HB.out,Or.inl ⟨_,R,rfl,HO.out,HG.out,by omega⟩⟩
theorem Zcm.below {wr w1:World} {B:Nat} {L:List Zy_} {k:Nat} (h:Zcm wr B L k) (hb:Below wr.heap.size wr w1):Zcm w1 B L k:=World.rowIs.of_block h (hb.block B (World.rowIs.lt h))
theorem ZfI (lo lm:Nat) (fv mv:Value) (x:Sh) (Ms:List Md) (w0 w:World) (hf:Zav lo w0 fv x.fields) (h0:Below w0.heap.size w0 w) (hv:Zbc lm w mv Ms) (hn:x.fields.length≤1048576) (hm:Ms.length≤1048576) :
 Calls prog 172 #[.agg #[.string x.kind,fv],mv] w fun e w'=>Zw_ w w'∧Zty w.heap.size (ZaD x.fields) (Zao x.kind Ms) e w':=by
 have HF:=Zab hf;have H0:=Zab h0;have HV:=Zab hv;obtain⟨a,cap,rfl⟩:=hf.form;obtain⟨ma,mcap,rfl⟩:=hv.form;clear hf hv h0;have hNl:=Zef x.fields
 have hmk:∀ u:World,(Instr.makeSlice 120 (.int .i64 (x.fields.length:Int)) (.int .i64 (x.fields.length:Int))).run prog u=.ok (.slice (some ⟨u.heap.size,0,none⟩) x.fields.length x.fields.length) (u.alloc (.cells (madeCells #[.string ⟨#[]⟩] x.fields.length) 9)):=
  fun u=>run_make_row' 120 9 (.string ⟨#[]⟩) 16 underlying120 Tryz.info9 rfl .i64 .i64 x.fields.length (by omega) (by omega) u
 go_enter func172,ntmps172;go_wp2;clear hmk;generalize hWa:w.alloc _=Wa;have hza:Wa.heap.size=w.heap.size+1:=by rw [← hWa];simp
 have HBa:Hid (Zw_ w Wa):=by rw [← hWa];exact Zac _ _
 have FS:Hid (Box Wa w.heap.size #[.string x.kind,.slice a x.fields.length cap]):=by rw [← hWa];exact Box.new _ _ _ _ rfl
 clear hWa;generalize hWb:Wa.alloc _=Wb;have hzb:Wb.heap.size=w.heap.size+1+1:=by rw [← hWb];simp [hza]
 have hbb:Below Wa.heap.size Wa Wb:=by rw [← hWb];exact Zac _ _
 have HBb:Hid (Zw_ w Wb):=HBa.out.trans (hbb.mono (by omega));have FS:=Zab (FS.out.on hbb);have FM:Hid (Box Wb (w.heap.size+1) #[.slice ma Ms.length mcap]):=by rw [← hWb];exact Box.new _ _ _ _ hza
 clear hWb hbb HBa hza
 have HMD:Hid (Zcm (Wb.alloc (.cells (madeCells #[.string ⟨#[]⟩] x.fields.length) 9)) (w.heap.size+1+1) (ZaD x.fields) 0):=by
  have:=World.rowIs_made Wb (.string ⟨#[]⟩) x.fields.length 9;rw [hzb,← hNl] at this;unfold Hid Zcm;rw [hNl] at*;exact this
 have HSZ:Hid (∀ s ∈ ZaD x.fields,s.size≤maxLen):=fun s hs=>by
  obtain⟨i,hi,rfl⟩:=Zcq.1 hs;obtain⟨_,_,_,_,hc⟩:=HF.out.full' (by omega);exact (hc i hi).1.s0
 go_loopw [16] (fun i wr=>∃ k:Nat,i=.int .i64 k∧k≤x.fields.length∧Below (w.heap.size+1+1) Wb wr∧Zcm wr (w.heap.size+1+1) (ZaD x.fields) k) (fun i _=>x.fields.length - (intOf i).toNat)
 case atStart=>exact⟨0,rfl,by omega,Zb_.alloc (by omega) _,HMD.out⟩
 case round=>
  obtain⟨k,rfl,hk,hb,hfl⟩:=hrel;have HB:=Zab hb;have HFL:=Zab hfl;have HBw:Hid (Zw_ w wr):=HBb.out.trans (hb.mono (by omega));have hBl:w.heap.size+1+1 < wr.heap.size:=World.rowIs.lt hfl
  clear hb hfl HMD
  by_cases hlt:k < x.fields.length
  · obtain⟨b,off,rfl,hbw,hc⟩:=HF.out.full' (by omega)
    obtain⟨_,wv,hcell,hwd⟩:=hc k hlt;obtain⟨wa,wn,wcap,rfl⟩:=hwd.form;obtain⟨c0,c1,c2,c3,c4,c5,c6,c7,c8,c9,c10⟩:=hcell.below (H0.out.trans (HBw.out.mono H0.out.size)) hbw;have hbr:b < wr.heap.size:=Zk_ hbw (Nat.le_trans H0.out.size HBw.out.size)
    obtain⟨ov,hold⟩:=HFL.out.old (by omega:k < (ZaD x.fields).length);have hfr:=HFL.out.frozen
    have HNX:∀ o,Hid (Zcm ((wr.setCell ⟨w.heap.size+1+1,k,none⟩ (.string x.fields[k].nm)).alloc o) (w.heap.size+1+1) (ZaD x.fields) (k+1)):=fun o=>by
     have:=HFL.out.step (by omega:k < (ZaD x.fields).length);have e:(ZaD x.fields)[k]'(by omega)=x.fields[k].nm:=by simp [ZaD]
     rw [e] at this;exact this.below (Zb_.alloc Zl_ o)
    clear hcell hc hwd;go_wp2;go_roundw
    case rel=>exact⟨k+1,by go_num,by omega,(HB.out.setCell Zl_ _).alloc (by simp [World.setCell];omega) _,(HNX _).out⟩
    case measure=>simp [intOf];omega
  · have HST:Hid (Zaf wr (.slice (some ⟨w.heap.size+1+1,0,none⟩) x.fields.length x.fields.length) (ZaD x.fields)):=by
     by_cases hz:x.fields.length=0
     · exact Or.inl ⟨_,_,by rw [hz],List.length_eq_zero_iff.1 (by omega)⟩
     · have:=(HFL.out.done (by omega) (by intro e;rw [e] at hNl;simp only [List.length_nil] at hNl;omega) (by unfold maxLen;omega) HSZ.out).at
       rw [hNl] at this;exact this
    have hl0:w.heap.size < Wb.heap.size:=by omega
    have FS:=Zab (FS.out.below HB.out (by omega));have FM:=Zab (FM.out.below HB.out (by omega));go_wp2_with fail;refine (Zkc lm _ _ (ZaD x.fields) Ms x.kind w.heap.size (w.heap.size+1) _ HST.out (by omega) (by omega) (by omega) (FS.out.cell 0) (FM.out.cell 0) (HV.out.below HBw.out) hm).mono ?_;rintro e w2 ⟨hb2,hgr⟩;have HB2:Hid (Zw_ w w2):=HBw.out.trans (hb2.mono HBw.out.size);have hle:w.heap.size≤wr.heap.size:=HBw.out.size;clear hb2
    rcases hgr with ⟨v2,R,rfl,ho,hg,hl⟩ | ⟨hno,rfl⟩
    · have HO:=Zab (ho.mono hle)
      have HG:=Zab hg;obtain⟨va,vcap,rfl⟩:=ho.form;clear ho hg;go_wp2;refine bodyPost_ret (v:=.tuple #[.slice va R.length vcap,.bool true]) (by simp [results,results172,go_sem]) rfl ⟨HB2.out,Or.inl ⟨_,R,rfl,HO.out,HG.out,hl⟩⟩
    · have HN:=Zab hno
      clear hno;go_wp2;refine bodyPost_ret (v:=.tuple #[.slice none 0 0,.bool false]) (by simp [results,results172,go_sem]) rfl ⟨HB2.out,Or.inr ⟨HN.out,rfl⟩⟩
theorem ZpG {Ss:List Sh} {m:Md} {x:Sh} (hs:ZaE Ss=true) (hx:Zb3 Ss m.kind=some x):Zd2 x.fields m=Zc7 Ss m:=by
 unfold Zc7;rw [hx];exact ZnH (ZfL (ZbP hs (Zch hx).1))
theorem Zmb {Ss:List Sh} {m:Md} (hx:Zb3 Ss m.kind=none):Zc7 Ss m=false:=by unfold Zc7;rw [hx]
theorem Zoe (lo lm:Nat) (sv mv:Value) (Ss:List Sh) (Ms:List Md) (w:World) (hS:ZaU lo w sv Ss) (hM:Zbc lm w mv Ms) (hsb:ZaE Ss=true) :
 Calls prog 117 #[sv,mv] w fun e w'=>e=.returned (.bool (Zau Ss Ms))∧Zw_ w w':=by
 have HS:=Zab hS;have HM:=Zab hM;have HSB:=Zab hsb;obtain⟨a1,cap1,rfl⟩:=hS.form;obtain⟨a2,cap2,rfl⟩:=hM.form;clear hS hM hsb
 have hml:(Ms.length:Int)≤9223372036854775807:=by
  rcases HM.out with ⟨_,_,_,h⟩ | ⟨_,_,_,_,_,h,_⟩
  · rw [h];simp
  · unfold maxLen at h;omega
 have hs6:Ss.length≤6:=ZhQ HSB.out
 by_cases h12:(Ms.length:Int)≤12
 · go_enter func117,ntmps117
   go_wp2
   go_loopw [18] (fun i wr=>∃ k:Nat,i=.int .i64 k∧k≤Ms.length∧Zw_ w wr∧∀ i (h:i < Ms.length),i < k→Zc7 Ss Ms[i]=true) (fun i _=>Ms.length - (intOf i).toNat)
   case atStart=>exact⟨0,rfl,by omega,Below.refl _ _,fun i _ h=>by omega⟩
   case round=>
    obtain⟨k,rfl,hk,hb,hall⟩:=hrel;have HA:=Zab hall;have HB:=Zab hb;clear hall hb
    by_cases hlt:k < Ms.length
    · obtain⟨b,off,rfl,hbw,hc⟩:=HM.out.full' (by omega)
      obtain⟨hsz,hcell⟩:=hc k hlt;obtain⟨c0,c1,c2,c3,c4,c5⟩:=hcell.below HB.out hbw;clear hcell hc;go_wp2_with fail;generalize hWa:wr.alloc _=Wa;have hba:Below wr.heap.size wr Wa:=by rw [← hWa];exact Zac _ _
      have FM:Hid (Box Wa wr.heap.size #[.string Ms[k].kind,.string Ms[k].field,.string Ms[k].wh,.string Ms[k].is,.string Ms[k].put,.string Ms[k].fr]):=by rw [← hWa];exact Box.new _ _ _ _ rfl
      have HBa:Hid (Zw_ w Wa):=HB.out.trans (hba.mono HB.out.size);clear hWa hba c0 c1 c2 c3 c4 c5;refine (Zeg lo _ Ss Ms[k].kind w _ HS.out HBa.out).mono ?_;rintro e w1 ⟨hb1,hsh⟩;have FM:=Zab (FM.out.on hb1);have HB1:Hid (Zw_ w w1):=HBa.out.trans (hb1.mono HBa.out.size);clear hb1 HBa;have g1:=FM.out.cell;have gl:=FM.out.lt
      rcases hsh with ⟨x,fv,hx,rfl,hfd⟩ | ⟨hx,rfl⟩
      · obtain⟨fa,fcap,rfl⟩:=hfd.form
        have HFD:=Zab hfd;have HX:=Zab hx;clear hfd hx;go_wp2_with fail;clear g1 gl;refine (Zmc lo _ _ x.fields Ms[k] w _ HFD.out (HB1.out.alloc HB1.out.size _) hsz).mono ?_;rintro e w2 ⟨rfl,hb2⟩;have HB2:Hid (Zw_ w w2):=(HB1.out.alloc HB1.out.size _).trans (hb2.mono (HB1.out.alloc HB1.out.size _).size);clear hb2;rw [ZpG HSB.out HX.out]
        cases hmb:Zc7 Ss Ms[k] with
        | false=>
         have HQ:Hid (Zau Ss Ms=false):=ZgK hlt hmb;go_wp2;go_ret;exact⟨Zaa HQ.out.symm,HB2.out⟩
        | true=>
         go_wp2;go_roundw
         case rel=>exact⟨k+1,by go_num,by omega,HB2.out,fun i h h'=>by
                    by_cases e:i=k
                    · subst e;exact hmb
                    · exact HA.out i h (by omega)⟩
         case measure=>simp [intOf];omega
      · have HQ:Hid (Zau Ss Ms=false):=ZgK hlt (Zmb hx)
        go_wp2;go_ret;exact⟨Zaa HQ.out.symm,HB1.out.alloc HB1.out.size _⟩
    · have HAll:Hid (∀ i (h:i < Ms.length),Zc7 Ss Ms[i]=true):=fun i h=>HA.out i h (by omega)
      have HBx:Hid (Zw_ w wr):=HB.out;clear HA HB;go_wp2;clear hlt hk
      go_loopw [40] (fun i wr=>∃ k:Nat,i=.int .i64 k∧k≤Ss.length∧Zw_ w wr∧∀ i (h:i < Ss.length),i < k→Zbr Ms Ss[i]=true) (fun i _=>Ss.length - (intOf i).toNat)
      case atStart=>exact⟨0,rfl,by omega,HBx.out,fun i _ h=>by omega⟩
      case round=>
       clear HBx;obtain⟨j,rfl,hj,hb,hall⟩:=hrel;have HA:=Zab hall;have HB:=Zab hb;clear hall hb
       by_cases hlt:j < Ss.length
       · obtain⟨b,off,rfl,hbw,hc⟩:=HS.out.full' (by omega)
         obtain⟨hsz,fv,d0,d1,hst⟩:=hc j hlt;have c0:wr.cell? ⟨b,off+j*2,none⟩=some (.string Ss[j].kind):=by rw [HB.out.cell (p:=⟨b,_,none⟩) hbw];exact d0
         have c1:wr.cell? ⟨b,off+j*2+1,none⟩=some fv:=by rw [HB.out.cell (p:=⟨b,_,none⟩) hbw];exact d1
         obtain⟨fa,fcap,rfl⟩:=hst.form;have HST:=Zab hst;have h6:Ss[j].fields.length≤6:=ZcY (ZbP HSB.out (List.getElem_mem hlt));clear d0 d1 hst hc;go_wp2_with fail;have HBa:=fun o=>Zab (HB.out.alloc HB.out.size o)
         refine (ZfI lo lm _ _ Ss[j] Ms w _ HST.out (HBa _).out (HM.out.below (HBa _).out) (by omega) (by omega)).mono ?_;rintro e w2 ⟨hb2,hgr⟩;have HB2:Hid (Zw_ w w2):=(HBa _).out.trans (hb2.mono (HBa _).out.size);clear hb2 HBa c0 c1
         rcases hgr with ⟨v2,R,rfl,ho,hg,hl⟩ | ⟨hno,rfl⟩
         · have HSR:Hid (Zbr Ms Ss[j]=true):=Zll hg hl
           obtain⟨va,vcap,rfl⟩:=ho.form;clear ho hg hl;go_wp2;go_roundw
           case rel=>exact⟨j+1,by go_num,by omega,HB2.out,fun i h h'=>by
                      by_cases e:i=j
                      · subst e;exact HSR.out
                      · exact HA.out i h (by omega)⟩
           case measure=>simp [intOf];omega
         · have HQ:Hid (Zau Ss Ms=false):=Zjp hlt hno
           clear hno;go_wp2;go_ret;exact⟨Zaa HQ.out.symm,HB2.out⟩
       · have HQ:Hid (Zau Ss Ms=true):=Zjn HSB.out (by omega) HAll.out (fun i h=>HA.out i h (by omega))
         go_wp2;go_ret;exact⟨Zaa HQ.out.symm,HB.out⟩
 · have HQ:Hid (Zau Ss Ms=false):=ZhF (by omega)
   go_enter func117,ntmps117;go_wp2;go_ret;exact⟨Zaa HQ.out.symm,Below.refl _ _⟩
theorem Zio (lo lm:Nat) (sv mv:Value) (Ss:List Sh) (Ms:List Md) (w:World) (hS:ZaU lo w sv Ss) (hM:Zbc lm w mv Ms) :
 Calls prog 64 #[sv,mv] w fun e w'=>e=.returned (.bool (Zau Ss Ms))∧Zw_ w w':=by
 have HS:=Zab hS;have HM:=Zab hM;obtain⟨a1,cap1,rfl⟩:=hS.form;obtain⟨a2,cap2,rfl⟩:=hM.form;clear hS hM;go_enter func64,ntmps64;go_wp2_with fail;refine (Zhf lo _ Ss _ HS.out).mono ?_;rintro e w1 ⟨rfl,hb1⟩;have HB1:=Zab hb1;clear hb1
 cases hsb:ZaE Ss with
 | false=>
  have HQ:Hid (Zau Ss Ms=false):=Zjo hsb;go_wp2;go_ret;exact⟨Zaa HQ.out.symm,HB1.out⟩
 | true=>
  have HSB:=Zab hsb;clear hsb;go_wp2_with fail;refine (Zoe lo lm _ _ Ss Ms _ (HS.out.below HB1.out) (HM.out.below HB1.out) HSB.out).mono ?_;rintro e w2 ⟨rfl,hb2⟩;have HB2:Hid (Zw_ w w2):=HB1.out.trans (hb2.mono HB1.out.size);clear hb2;go_wp2;go_ret;exact⟨rfl,HB2.out⟩
end Go.Proofs.YtcfjmagkinpaeaaGreat
