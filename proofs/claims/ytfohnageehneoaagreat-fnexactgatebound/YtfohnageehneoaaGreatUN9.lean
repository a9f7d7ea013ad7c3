import Derived.Test.YtfohnageehneoaaGreatUS14
import Derived.Test.YtfohnageehneoaaGreatUN6
import Derived.WalkMore
set_option maxHeartbeats 16000000
set_option maxRecDepth 100000
open Go.Proofs.Tryz
namespace Go.Proofs.YtfohnageehneoaaGreat
open Go.RowKit Go.Deep
variable {k base β rb vb:Nat} {W wr W':World} {v:Value} {m:Md} {Fs:List Fd} {cs:Array Value}
section
variable (nm tt df we:Zy_) (kd le mo ro:Int) (mu fx:Bool) (wv:Value) (w:World)
theorem Zoj (s:Zy_) (B:Nat) (hB:B < w.heap.size) (hs:w.cell? ⟨B,0,none⟩=some (.string s)) :
 Calls prog 283 #[.agg #[.string nm,.int .i64 kd,.int .i64 le,.int .i64 mo,wv,.string tt,.int .i64 ro,.bool mu,.bool fx,.string df,.string we],.pointer (some ⟨B,0,none⟩)] w
  fun e w'=>e=.returned (.bool (nm.toList == s.toList))/\Zw_ w w':=by
 go_enter func283,ntmps283;go_wp2;go_ret;exact⟨rfl,Zb_.alloc Zl_ _⟩
end
theorem ZhH (lo:Nat) (v:Value) (Fs:List Fd) (s:Zy_) (B:Nat) (w:World) (hv:Zav lo w v Fs) (hB:B < w.heap.size) (hs:w.cell? ⟨B,0,none⟩=some (.string s)) :
 Calls prog 282 #[v,.func (.func 283) #[] #[.pointer (some ⟨B,0,none⟩)]] w fun e w'=>e=.returned (.int .i64 (Zch Fs s))/\Zw_ w w':=by
 by_cases hL:Fs=[]
 . subst hL
   obtain⟨a,cap,rfl⟩:=Zdt hv;clear hv;go_enter func282,ntmps282;go_wp2
   go_loop [8] (fun i=>i=.int .i64 0) (fun _=>0)
   case atStart=>rfl
   case round=>
    subst hrel;go_wp2;go_ret;exact⟨rfl,Below.refl _ _⟩
 . obtain⟨b,off,cap,rfl,hm,hbw,_,hc⟩:=hv.full hL
   clear hv;unfold maxLen at hm;go_enter func282,ntmps282;go_wp2
   go_loopw [8] (fun i wr=>∃ k:Nat,i=.int .i64 k/\k<=Fs.length/\Zw_ w wr/\∀ j (hj:j < Fs.length),j < k->(Fs[j].nm.toList == s.toList)=false) (fun i _=>Fs.length - (intOf i).toNat)
   case atStart=>exact⟨0,rfl,by omega,Below.refl _ _,fun j _ h=>by omega⟩
   case round=>
    obtain⟨k,rfl,hk,hb,hall⟩:=hrel;have HA:=Zab hall;have HB:=Zab hb;clear hall hb
    by_cases hlt:k < Fs.length
    . obtain⟨_,wv,hcell,_⟩:=hc k hlt
      obtain⟨c0,c1,c2,c3,c4,c5,c6,c7,c8,c9,c10⟩:=hcell.below HB.o hbw;clear hcell;go_wp2_with fail;refine (Zoj _ _ _ _ _ _ _ _ _ _ _ _ s B (Zk_ hB HB.o.size) (by rw [HB.o.cell (p:=⟨B,0,none⟩) hB];exact hs)).mono ?_;rintro e w1 ⟨rfl,hb1⟩;have HB1:Hd (Zw_ w w1):=HB.o.trans (hb1.mono HB.o.size);clear hb1 c0 c1 c2 c3 c4 c5 c6 c7 c8 c9 c10
      cases he:(Fs[k].nm.toList == s.toList) with
      | true=>
       go_wp2;go_ret;exact⟨by rw [Zid hlt he HA.o];rfl,HB1.o⟩
      | false=>
       go_wp2;go_roundw
       case rel=>exact⟨k+1,by go_num,by omega,HB1.o,fun j hj h=>by
                  by_cases e:j=k
                  . subst e;exact he
                  . exact HA.o j hj (by omega)⟩
       . simp [intOf];omega
    . go_wp2
      go_ret;exact⟨by rw [Zkr fun j hj=>HA.o j hj (by omega)];rfl,HB.o⟩
theorem Zfc (lo:Nat) (kind:Zy_) (v:Value) (Fs:List Fd) (s:Zy_) (w:World) (hv:Zav lo w v Fs) :
 Calls prog 273 #[.agg #[.string kind,v],.string s] w fun e w'=>e=.returned (.int .i64 (Zch Fs s))/\Zw_ w w':=by
 have HV:=Zab hv;obtain⟨a,cap,rfl⟩:=hv.form;clear hv;have HW:∀ o o',Hd (Zw_ w ((w.alloc o).alloc o')):=fun o o'=>(Zb_.alloc Zl_ _).alloc (by simp) _
 go_enter func273,ntmps273;go_wp2_with fail;refine (ZhH lo _ Fs s _ _ (HV.o.below (HW _ _).o) (by simp) (by simp)).mono ?_;rintro e w1 ⟨rfl,hb⟩;have HB:Hd (Zw_ w w1):=(HW _ _).o.trans (hb.mono (by simp;omega));clear hb;go_wp2;go_ret;exact⟨rfl,HB.o⟩
def Zph (lo:Nat) (Fs:List Fd) (s:Zy_) (e:Ending) (w:World):Prop:=
 (∃ (f:Fd) (wv:Value),Fs[ZaS Fs s]?=some f/\Zbh Fs s=true/\e=.returned (.tuple #[.agg #[.string f.nm,.int .i64 f.kd,.int .i64 f.le,.int .i64 f.mo,wv,.string f.to,.int .i64 f.ro,.bool f.mu,.bool f.fx,.string f.df,.string f.we],.bool true])/\Zaq lo w wv f.words)\/
 (Zbh Fs s=false/\e=.returned (.tuple #[.agg #[.string ⟨#[]⟩,.int .i64 0,.int .i64 0,.int .i64 0,.slice none 0 0,.string ⟨#[]⟩,.int .i64 0,.bool false,.bool false,.string ⟨#[]⟩,.string ⟨#[]⟩],.bool false]))
theorem Zgb (lo:Nat) (kind:Zy_) (v:Value) (Fs:List Fd) (s:Zy_) (w0 w:World) (hv:Zav lo w0 v Fs) (h0:Below w0.heap.size w0 w) :
 Calls prog 256 #[.agg #[.string kind,v],.string s] w fun e w'=>Zw_ w w'/\Zph lo Fs s e w0:=by
 have HV:=Zab hv;have H0:=Zab h0;obtain⟨a,cap,rfl⟩:=hv.form;clear hv h0;go_enter func256,ntmps256;go_wp2_with fail;generalize hWa:w.alloc _=Wa;have hza:Wa.heap.size=w.heap.size+1:=by rw [<- hWa];simp
 have HBa:Hd (Zw_ w Wa):=by rw [<- hWa];exact Zac _ _
 have FS:Hd (Box Wa w.heap.size #[.string kind,.slice a Fs.length cap]):=by rw [<- hWa];exact Box.new _ _ _ _ rfl
 clear hWa;generalize hWb:Wa.alloc _=Wb;have hbb:Below Wa.heap.size Wa Wb:=by rw [<- hWb];exact Zac _ _
 have HBb:Hd (Zw_ w Wb):=HBa.o.trans (hbb.mono (by omega));have FS:=Zab (FS.o.on hbb);have FR:Hd (Box Wb (w.heap.size+1) #[.string ⟨#[]⟩,.int .i64 0,.int .i64 0,.int .i64 0,.slice none 0 0,.string ⟨#[]⟩,.int .i64 0,.bool false,.bool false,.string ⟨#[]⟩,.string ⟨#[]⟩]):=by rw [<- hWb];exact Box.new _ _ _ _ hza
 clear hWb hbb HBa hza;refine (Zfc lo _ _ Fs s _ (HV.o.below (H0.o.trans (HBb.o.mono H0.o.size)))).mono ?_;rintro e w1 ⟨rfl,hb1⟩;have FS:=Zab (FS.o.on hb1);have FR:=Zab (FR.o.on hb1);have HB1:Hd (Zw_ w w1):=HBb.o.trans (hb1.mono HBb.o.size);clear hb1 HBb;have g1:=FS.o.cell;have gl:=FS.o.lt;have r:=FR.o.cell;have rf:=FR.o.free;have rl:=FR.o.lt;have r0:w1.cell? ⟨w.heap.size+1,0,none⟩=some (.string ⟨#[]⟩):=r 0;have r1:w1.cell? ⟨w.heap.size+1,1,none⟩=some (.int .i64 0):=r 1;have r2:w1.cell? ⟨w.heap.size+1,2,none⟩=some (.int .i64 0):=r 2;have r3:w1.cell? ⟨w.heap.size+1,3,none⟩=some (.int .i64 0):=r 3;have r4:w1.cell? ⟨w.heap.size+1,4,none⟩=some (.slice none 0 0):=r 4;have r5:w1.cell? ⟨w.heap.size+1,5,none⟩=some (.string ⟨#[]⟩):=r 5;have r6:w1.cell? ⟨w.heap.size+1,6,none⟩=some (.int .i64 0):=r 6
 have r7:w1.cell? ⟨w.heap.size+1,7,none⟩=some (.bool false):=r 7;have r8:w1.cell? ⟨w.heap.size+1,8,none⟩=some (.bool false):=r 8;have r9:w1.cell? ⟨w.heap.size+1,9,none⟩=some (.string ⟨#[]⟩):=r 9;have r10:w1.cell? ⟨w.heap.size+1,10,none⟩=some (.string ⟨#[]⟩):=r 10
 have HST:∀ (u0 u1 u2 u3 u4 u5 u6 u7 u8 u9 u10:Value),Hd (Zw_ w (((((((((((w1.setCell ⟨w.heap.size+1,0,none⟩ u0).setCell ⟨w.heap.size+1,1,none⟩ u1).setCell ⟨w.heap.size+1,2,none⟩ u2).setCell ⟨w.heap.size+1,3,none⟩ u3).setCell ⟨w.heap.size+1,4,none⟩ u4).setCell ⟨w.heap.size+1,5,none⟩ u5).setCell ⟨w.heap.size+1,6,none⟩ u6).setCell ⟨w.heap.size+1,7,none⟩ u7).setCell ⟨w.heap.size+1,8,none⟩ u8).setCell ⟨w.heap.size+1,9,none⟩ u9).setCell ⟨w.heap.size+1,10,none⟩ u10)):=fun u0 u1 u2 u3 u4 u5 u6 u7 u8 u9 u10=>by
  have q:∀ (i:Nat),w.heap.size<=(⟨w.heap.size+1,i,none⟩:Addr).block:=fun i=>Nat.le_succ _
  exact (((((((((((HB1.o.setCell (q 0) _).setCell (q 1) _).setCell (q 2) _).setCell (q 3) _).setCell (q 4) _).setCell (q 5) _).setCell (q 6) _).setCell (q 7) _).setCell (q 8) _).setCell (q 9) _).setCell (q 10) _)
 clear r
 by_cases hp:ZaS Fs s < Fs.length
 . rw [ZbI hp]
   obtain⟨b,off,rfl,hbw0,hc⟩:=HV.o.full' (by omega);have hbw:b < w.heap.size:=Zk_ hbw0 H0.o.size
   obtain⟨_,wv,hcell,hwd⟩:=hc _ hp;have HWD:=Zab hwd;obtain⟨wa,wn,wcap,rfl⟩:=hwd.form;obtain⟨c0,c1,c2,c3,c4,c5,c6,c7,c8,c9,c10⟩:=hcell.below (H0.o.trans (HB1.o.mono H0.o.size)) hbw0;have HQ:Hd (Zbh Fs s=!(Fs[ZaS Fs s].kd == 4)):=ZlU hp;have HFF:Hd (Fs[ZaS Fs s]?=some Fs[ZaS Fs s]):=List.getElem?_eq_getElem hp
   have hpm:(Fs.length:Int)<=9223372036854775807:=by
    rcases HV.o with ⟨_,_,h,_⟩ | ⟨_,_,_,_,_,h,_⟩
    . injection h;omega
    . unfold maxLen at h;omega
   clear hc hwd hcell;generalize hpp:ZaS Fs s=p at*
   cases hk:(Fs[p].kd == 4) with
   | true=>
    have HN:Hd (Zbh Fs s=false):=by unfold Hd;rw [HQ.o,hk];rfl
    have e4:Fs[p].kd=4:=by simpa using hk
    rw [e4] at c1;clear hk;go_wp2;refine bodyPost_ret (v:=.tuple #[.agg #[.string ⟨#[]⟩,.int .i64 0,.int .i64 0,.int .i64 0,.slice none 0 0,.string ⟨#[]⟩,.int .i64 0,.bool false,.bool false,.string ⟨#[]⟩,.string ⟨#[]⟩],.bool false]) (by simp [results,results256,go_sem,r0,r1,r2,r3,r4,r5,r6,r7,r8,r9,r10]) rfl ⟨?_,Or.inr ⟨HN.o,rfl⟩⟩;exact (HST _ _ _ _ _ _ _ _ _ _ _).o
   | false=>
    have HN:Hd (Zbh Fs s=true):=by unfold Hd;rw [HQ.o,hk];rfl
    have e4:¬ Fs[p].kd=4:=by simpa using hk
    go_wp2;refine bodyPost_ret (v:=.tuple #[.agg #[.string Fs[p].nm,.int .i64 Fs[p].kd,.int .i64 Fs[p].le,.int .i64 Fs[p].mo,(.slice wa wn wcap),.string Fs[p].to,.int .i64 Fs[p].ro,.bool Fs[p].mu,.bool Fs[p].fx,.string Fs[p].df,.string Fs[p].we],.bool true]) (by simp [results,results256,go_sem,r0,r1,r2,r3,r4,r5,r6,r7,r8,r9,r10]) rfl ⟨?_,Or.inl ⟨Fs[p],_,by rw [hpp];exact HFF.o,HN.o,rfl,HWD.o⟩⟩;exact (HST _ _ _ _ _ _ _ _ _ _ _).o
 . rw [Zj5 hp]
   have HN:Hd (Zbh Fs s=false):=Zl1 hp;go_wp2;refine bodyPost_ret (v:=.tuple #[.agg #[.string ⟨#[]⟩,.int .i64 0,.int .i64 0,.int .i64 0,.slice none 0 0,.string ⟨#[]⟩,.int .i64 0,.bool false,.bool false,.string ⟨#[]⟩,.string ⟨#[]⟩],.bool false]) (by simp [results,results256,go_sem,r0,r1,r2,r3,r4,r5,r6,r7,r8,r9,r10]) rfl ⟨?_,Or.inr ⟨HN.o,rfl⟩⟩;exact (HST _ _ _ _ _ _ _ _ _ _ _).o
theorem Zij (lo:Nat) (kind:Zy_) (v:Value) (Fs:List Fd) (field name:Zy_) (w:World) (hv:Zav lo w v Fs) :
 Calls prog 257 #[.agg #[.string kind,v],.string field,.string name] w fun e w'=>e=.returned (.bool (Zhd Fs field name))/\Zw_ w w':=by
 have HV:=Zab hv;obtain⟨a,cap,rfl⟩:=hv.form;clear hv;have HW:∀ o,Hd (Zw_ w (w.alloc o)):=fun o=>Zb_.alloc Zl_ _
 go_enter func257,ntmps257;go_wp2_with fail;refine (Zgb lo _ _ Fs name w _ HV.o (HW _).o).mono ?_;rintro e w1 ⟨hb1,hr⟩;have HB1:Hd (Zw_ w w1):=(HW _).o.trans (hb1.mono (by simp));have HB2:∀ o,Hd (Zw_ w (w1.alloc o)):=fun o=>HB1.o.alloc HB1.o.size _
 clear hb1
 rcases hr with ⟨f,wv,hff,hpl,rfl,hwd⟩ | ⟨hpl,rfl⟩
 . obtain⟨wa,wn,wcap,rfl⟩:=hwd.form
   clear hwd hff
   cases hne:name.toList.isEmpty with
   | true=>
    go_wp2;go_ret;exact⟨Zaa (by unfold Zhd;simp [hne]),(HB2 _).o⟩
   | false=>
    cases hnf:(name.toList == field.toList) with
    | true=>
     go_wp2;go_ret;exact⟨Zaa (by unfold Zhd;simp [hne,hnf,hpl]),(HB2 _).o⟩
    | false=>
     go_wp2;go_ret;exact⟨Zaa (by unfold Zhd;simp [hne,hnf,hpl]),(HB2 _).o⟩
 . cases hne:name.toList.isEmpty with
   | true=>
    go_wp2;go_ret;exact⟨Zaa (by unfold Zhd;simp [hne]),(HB2 _).o⟩
   | false=>
    go_wp2;go_ret;exact⟨Zaa (by unfold Zhd;simp [hne,hpl]),(HB2 _).o⟩
theorem Zm2 (lo:Nat) (kind:Zy_) (v:Value) (Fs:List Fd) (m:Md) (w0 w:World) (hv:Zav lo w0 v Fs) (h0:Below w0.heap.size w0 w) (hm:Zea m) :
 Calls prog 227 #[.agg #[.string kind,v],.agg #[.string m.kind,.string m.field,.string m.wh,.string m.is,.string m.put,.string m.fr]] w fun e w'=>e=.returned (.bool (Zee Fs m))/\Zw_ w w':=by
 have HV:=Zab hv;have H0:=Zab h0;have HM:=Zab hm;obtain⟨a,cap,rfl⟩:=hv.form;clear hv h0 hm;go_enter func227,ntmps227;go_wp2_with fail;generalize hWa:w.alloc _=Wa;have hza:Wa.heap.size=w.heap.size+1:=by rw [<- hWa];simp
 have HBa:Hd (Zw_ w Wa):=by rw [<- hWa];exact Zac _ _
 have FS:Hd (Box Wa w.heap.size #[.string kind,.slice a Fs.length cap]):=by rw [<- hWa];exact Box.new _ _ _ _ rfl
 clear hWa;generalize hWb:Wa.alloc _=Wb;have hbb:Below Wa.heap.size Wa Wb:=by rw [<- hWb];exact Zac _ _
 have HBb:Hd (Zw_ w Wb):=HBa.o.trans (hbb.mono (by omega));have FS:=Zab (FS.o.on hbb);have FM:Hd (Box Wb (w.heap.size+1) #[.string m.kind,.string m.field,.string m.wh,.string m.is,.string m.put,.string m.fr]):=by rw [<- hWb];exact Box.new _ _ _ _ hza
 clear hWb hbb HBa hza;refine (Zgb lo _ _ Fs m.field w0 _ HV.o (H0.o.trans (HBb.o.mono H0.o.size))).mono ?_;rintro e w1 ⟨hb1,hr⟩;have FS:=Zab (FS.o.on hb1);have FM:=Zab (FM.o.on hb1);have HB1:Hd (Zw_ w w1):=HBb.o.trans (hb1.mono HBb.o.size);clear hb1 HBb
 rcases hr with ⟨f,wv,hff,hpl,rfl,hwd⟩ | ⟨hpl,rfl⟩
 . obtain⟨wa,wn,wcap,rfl⟩:=hwd.form
   have HWD:=Zab hwd;have HFIT:Hd (ZnN Fs m.field m.put=ZaP f.kd f.le f.mo f.words m.put):=by unfold Hd ZnN;rw [hff]
   clear hwd hff;have g1:=FS.o.cell;have g2:=FM.o.cell;have gl:=FS.o.lt;have gl2:=FM.o.lt;go_wp2_with fail;generalize hWc:w1.alloc _=Wc;have hbc:Below w1.heap.size w1 Wc:=by rw [<- hWc];exact Zac _ _
   have FS:=Zab (FS.o.on hbc);have FM:=Zab (FM.o.on hbc);have FF:Hd (Box Wc w1.heap.size #[.string f.nm,.int .i64 f.kd,.int .i64 f.le,.int .i64 f.mo,(.slice wa wn wcap),.string f.to,.int .i64 f.ro,.bool f.mu,.bool f.fx,.string f.df,.string f.we]):=by rw [<- hWc];exact Box.new _ _ _ _ rfl
   have HBc:Hd (Zw_ w Wc):=HB1.o.trans (hbc.mono HB1.o.size);clear hWc hbc HB1 g1 g2 gl gl2;refine (Zij lo _ _ Fs m.field m.wh _ (HV.o.below (H0.o.trans (HBc.o.mono H0.o.size)))).mono ?_;rintro e w2 ⟨rfl,hb2⟩;have FS:=Zab (FS.o.on hb2);have FM:=Zab (FM.o.on hb2);have FF:=Zab (FF.o.on hb2);have HB2:Hd (Zw_ w w2):=HBc.o.trans (hb2.mono HBc.o.size);clear hb2 HBc
   cases hrw:Zhd Fs m.field m.wh with
   | false=>
    go_wp2;go_ret;exact⟨Zaa (by unfold Zee;simp [hpl,hrw]),HB2.o⟩
   | true=>
    have g1:=FS.o.cell;have g2:=FM.o.cell;have gl:=FS.o.lt;have gl2:=FM.o.lt;go_wp2_with fail;clear g1 g2 gl gl2;refine (Zij lo _ _ Fs m.field m.fr _ (HV.o.below (H0.o.trans (HB2.o.mono H0.o.size)))).mono ?_;rintro e w3 ⟨rfl,hb3⟩;have FM:=Zab (FM.o.on hb3);have FF:=Zab (FF.o.on hb3);have HB3:Hd (Zw_ w w3):=HB2.o.trans (hb3.mono HB2.o.size);clear hb3 HB2
    cases hrf:Zhd Fs m.field m.fr with
    | false=>
     go_wp2;go_ret;exact⟨Zaa (by unfold Zee;simp [hpl,hrw,hrf]),HB3.o⟩
    | true=>
     have g2:=FM.o.cell;have gl2:=FM.o.lt
     cases hwe:m.wh.toList.isEmpty with
     | true=>
      cases his:m.is.toList.isEmpty with
      | false=>
       go_wp2;go_ret;exact⟨Zaa (by unfold Zee Zcc;simp [hpl,hrw,hrf,hwe,his]),HB3.o⟩
      | true=>
       cases hfe:m.fr.toList.isEmpty with
       | true=>
        cases hpu:m.put.toList.isEmpty with
        | true=>
         go_wp2;go_ret;exact⟨Zaa (by unfold Zee Zcc;simp [hpl,hrw,hrf,hwe,his,hfe,hpu]),HB3.o⟩
        | false=>
         have HEND:Hd (Zee Fs m=ZnN Fs m.field m.put):=by unfold Hd Zee Zcc;simp [hpl,hrw,hrf,hwe,his,hfe,hpu]
         have g3:=FF.o.cell;have gl3:=FF.o.lt;go_wp2_with fail;clear g2 g3 gl2 gl3;refine (Zf7 _ _ _ _ _ _ _ _ _ _ f.words _ _ _ (HWD.o.at.below (H0.o.trans (HB3.o.mono H0.o.size))) HM.o.s4).mono ?_;rintro e w4 ⟨rfl,hb4⟩;have HB4:Hd (Zw_ w w4):=HB3.o.trans (hb4.mono HB3.o.size);clear hb4;go_wp2;go_ret;exact⟨Zaa (HEND.o.trans HFIT.o).symm,HB4.o⟩
       | false=>
        cases hpu:m.put.toList.isEmpty with
        | true=>
         go_wp2;go_ret;exact⟨Zaa (by unfold Zee Zcc;simp [hpl,hrw,hrf,hwe,his,hfe,hpu]),HB3.o⟩
        | false=>
         go_wp2;go_ret;exact⟨Zaa (by unfold Zee Zcc;simp [hpl,hrw,hrf,hwe,his,hfe,hpu]),HB3.o⟩
     | false=>
      cases hfe:m.fr.toList.isEmpty with
      | true=>
       cases hpu:m.put.toList.isEmpty with
       | true=>
        go_wp2;go_ret;exact⟨Zaa (by unfold Zee Zcc;simp [hpl,hrw,hrf,hwe,hfe,hpu]),HB3.o⟩
       | false=>
        have HEND:Hd (Zee Fs m=ZnN Fs m.field m.put):=by unfold Hd Zee Zcc;simp [hpl,hrw,hrf,hwe,hfe,hpu]
        have g3:=FF.o.cell;have gl3:=FF.o.lt;go_wp2_with fail;clear g2 g3 gl2 gl3;refine (Zf7 _ _ _ _ _ _ _ _ _ _ f.words _ _ _ (HWD.o.at.below (H0.o.trans (HB3.o.mono H0.o.size))) HM.o.s4).mono ?_;rintro e w4 ⟨rfl,hb4⟩;have HB4:Hd (Zw_ w w4):=HB3.o.trans (hb4.mono HB3.o.size);clear hb4;go_wp2;go_ret;exact⟨Zaa (HEND.o.trans HFIT.o).symm,HB4.o⟩
      | false=>
       cases hpu:m.put.toList.isEmpty with
       | true=>
        go_wp2;go_ret;exact⟨Zaa (by unfold Zee Zcc;simp [hpl,hrw,hrf,hwe,hfe,hpu]),HB3.o⟩
       | false=>
        go_wp2;go_ret;exact⟨Zaa (by unfold Zee Zcc;simp [hpl,hrw,hrf,hwe,hfe,hpu]),HB3.o⟩
 . have g1:=FS.o.cell
   have g2:=FM.o.cell;go_wp2;go_ret;exact⟨Zaa (by unfold Zee;simp [hpl]),HB1.o.alloc HB1.o.size _⟩
theorem Zpx {L:List Zy_}{p:Zy_->Bool} (h:k < L.length) (hp:p L[k]=false):L.all p=false:=by
 rw [List.all_eq_false];exact⟨L[k],List.getElem_mem h,by simp [hp]⟩
theorem ZqV {L:List Zy_}{p:Zy_->Bool} (h:∀ i (h:i < L.length),p L[i]=true):L.all p=true:=by
 rw [List.all_eq_true];intro x hx;obtain⟨i,hi,rfl⟩:=List.getElem_of_mem hx;exact h i hi
theorem Zkk (rv wv:Value) (row L:List Zy_) (w:World) (hr:Zag w rv row) (hv:Zag w wv L) :
 Calls prog 276 #[rv,wv] w fun e w'=>e=.returned (.bool (L.all (ZeJ row)))/\w'=w:=by
 have HR:=Zab hr;obtain⟨ra,rn,rcap,rfl⟩:=hr.form;clear hr
 rcases hv with ⟨a,cap,rfl,rfl⟩ | ⟨b,off,cap,rfl,hne,hm,hbw,hc,hsz⟩
 . go_enter func276,ntmps276
   go_wp2
   go_loop [9] (fun i=>i=.int .i64 0) (fun _=>0)
   case atStart=>rfl
   case round=>
    subst hrel;go_wp2;go_ret;exact⟨rfl,rfl⟩
 . unfold maxLen at hm
   go_enter func276,ntmps276;go_wp2
   go_loop [9] (fun i=>∃ k:Nat,i=.int .i64 k/\k<=L.length/\∀ i (h:i < L.length),i < k->ZeJ row L[i]=true) (fun i=>L.length - (intOf i).toNat)
   case atStart=>exact⟨0,rfl,by omega,fun i _ h=>by omega⟩
   case round=>
    obtain⟨k,rfl,hk,hall⟩:=hrel;have HA:=Zab hall;clear hall
    by_cases hlt:k < L.length
    . have hck:=hc k hlt
      go_wp2_with fail;refine (Zex _ row L[k] _ HR.o).mono ?_;rintro e w1 ⟨rfl,rfl⟩
      cases hh:ZeJ row L[k] with
      | false=>
       go_wp2;go_ret;exact⟨Zaa (Zpx hlt hh).symm,rfl⟩
      | true=>
       go_wp2
       go_round
       case rel=>exact⟨k+1,by go_num,by omega,fun i h h'=>by
                  by_cases e:i=k
                  . subst e;exact hh
                  . exact HA.o i h (by omega)⟩
       . simp [intOf];omega
    . go_wp2
      go_ret;exact⟨Zaa (ZqV fun i h=>HA.o i h (by omega)).symm,rfl⟩
def rdP (m:Md) (j:Nat):List Zy_:=if j=0 then [] else if j=1 then (if m.wh.toList.isEmpty=true then [] else [m.wh]) else ZiH m
theorem ZrZ (m:Md) (j:Nat):(rdP m j).length<=2:=by
 unfold rdP ZiH
 split
 . simp
 . split
   . split <;> simp
   . rw [List.length_append];split <;> split <;> simp
theorem ZmD (kind field:Zy_) (m:Md) (Ms:List Md):Zap kind (m :: Ms) field=(if Zdg kind field m=true then ZiH m else []) ++ Zap kind Ms field:=by
 unfold Zap
 by_cases h:Zdg kind field m=true <;> simp [h]
theorem Zoe (kind field:Zy_) (Ms:List Md):(Zap kind Ms field).length<=2*Ms.length:=by
 induction Ms with
 | nil=>simp [Zll]
 | cons m Ms ih=>
  have h2:(ZiH m).length<=2:=by unfold ZiH;rw [List.length_append];split <;> split <;> simp
  rw [ZmD,List.length_append,List.length_cons]
  by_cases h:Zdg kind field m=true
  . rw [if_pos h];omega
  . rw [if_neg h];simp only [List.length_nil];omega
theorem Zh2 {R R':List Zy_} (h:ZdU base W v R) (e:R=R'):ZdU base W v R':=e ▸ h
theorem Zne {kind field:Zy_}{Ms:List Md} (hk:k < Ms.length):Zap kind (Ms.take (k+1)) field=Zap kind (Ms.take k) field ++ (if Zdg kind field Ms[k]=true then ZiH Ms[k] else []):=by
 rw [List.take_succ_eq_append_getElem hk,Zkq]
theorem Znu (W:World) (x y:Zy_):(Instr.index 343 (.agg #[.string x,.string y]) (.int .i64 0)).run prog W=.ok (.string x) W:=by
 kernel_rfl
theorem Zpq (W:World) (x y:Zy_):(Instr.index 343 (.agg #[.string x,.string y]) (.int .i64 1)).run prog W=.ok (.string y) W:=by
 kernel_rfl
theorem Zly (lo:Nat) (v:Value) (Ms:List Md) (kind field:Zy_) (w:World) (hv:Zbg lo w v Ms) (hn:Ms.length<=1048576) :
 Calls prog 261 #[.string kind,.string field,v] w fun e w'=>∃ v',e=.returned v'/\Zw_ w w'/\ZdU w.heap.size w' v' (Zap kind Ms field):=by
 obtain⟨i0,hi,hz0,hz1,hz2⟩:=info_parts Tryz.info9;have HI:=Zab (And.intro hi (And.intro hz0 (And.intro hz1 hz2)));clear hi hz0 hz1 hz2;have HV:=Zab hv;obtain⟨a,cap,rfl⟩:=hv.form;clear hv;go_enter func261,ntmps261;go_wp2
 go_loopw [7,14] (fun r i wr=>∃ k:Nat,i=.int .i64 k/\k<=Ms.length/\Zw_ w wr/\ZdU w.heap.size wr r (Zap kind (Ms.take k) field)) (fun _ i _=>Ms.length - (intOf i).toNat)
 case atStart=>exact⟨0,rfl,by omega,Below.refl _ _,ZdU.nil _ _⟩
 case round=>
  obtain⟨k,rfl,hk,hb,hown⟩:=hrel;have HB:=Zab hb;have HO:=Zab hown;obtain⟨ra,rcap,rfl⟩:=hown.form;clear hb hown
  by_cases hlt:k < Ms.length
  . obtain⟨b,off,rfl,hbw,hc⟩:=HV.o.full' (by omega)
    obtain⟨hsz,hcell⟩:=hc k hlt;obtain⟨c0,c1,c2,c3,c4,c5⟩:=hcell.below HB.o hbw;clear hcell hc;have HST:=Zab (Zne (kind:=kind) (field:=field) hlt)
    cases hk1:(Ms[k].kind.toList == kind.toList) with
    | false=>
     have HF:Hd (Zap kind (Ms.take (k+1)) field=Zap kind (Ms.take k) field):=by unfold Hd;rw [HST.o,if_neg (by unfold Zdg;simp [hk1]),List.append_nil]
     go_wp2;go_roundw
     . exact⟨k+1,by go_num,by omega,HB.o.alloc HB.o.size _,by rw [HF.o];exact HO.o.below (Zb_.alloc Zl_ _)⟩
     . simp [intOf];omega
    | true=>
     cases hf1:(Ms[k].field.toList == field.toList) with
     | false=>
      have HF:Hd (Zap kind (Ms.take (k+1)) field=Zap kind (Ms.take k) field):=by unfold Hd;rw [HST.o,if_neg (by unfold Zdg;simp [hf1]),List.append_nil]
      go_wp2;go_roundw
      . exact⟨k+1,by go_num,by omega,HB.o.alloc HB.o.size _,by rw [HF.o];exact HO.o.below (Zb_.alloc Zl_ _)⟩
      . simp [intOf];omega
     | true=>
      have HF:Hd (Zap kind (Ms.take (k+1)) field=Zap kind (Ms.take k) field ++ ZiH Ms[k]):=by unfold Hd;rw [HST.o,if_pos (by unfold Zdg;simp [hk1,hf1])]
      have HRL:Hd ((Zap kind (Ms.take k) field).length<=2097152):=by
       have:=Zoe kind field (Ms.take k);rw [List.length_take] at this;unfold Hd;omega
      clear HST;generalize Zap kind (Ms.take k) field=R0 at*;have HSZ:=Zab hsz;go_wp2;generalize hW2:wr.alloc _=W2;have HB2:Hd (Zw_ w W2):=by rw [<- hW2];exact HB.o.alloc HB.o.size _
      have HO2:Hd (ZdU w.heap.size W2 (.slice ra R0.length rcap) R0):=by rw [<- hW2];exact HO.o.below (Zb_.alloc Zl_ _)
      clear hW2 HB HO c0 c1 c2 c3 c4 c5 hk1 hf1;have hx0:=fun W=>Znu W Ms[k].wh Ms[k].fr
      have hx1:=fun W=>Zpq W Ms[k].wh Ms[k].fr
      go_loopw [7,33] (fun r i wr=>∃ j:Nat,j<=2/\i=.int .i64 j/\Zw_ w wr/\ZdU w.heap.size wr r (R0 ++ rdP Ms[k] j)) (fun _ i _=>2 - (intOf i).toNat)
      case atStart=>exact⟨0,by omega,rfl,HB2.o,by unfold rdP;simpa using HO2.o⟩
      case round=>
       obtain⟨j,hj2,rfl,hbj,hoj⟩:=hrel;have HBj:=Zab hbj;have HOj:=Zab hoj
       have HLj:Hd ((R0 ++ rdP Ms[k] j).length<=2097154):=by
        have:=ZrZ Ms[k] j;have:=HRL.o;unfold Hd;rw [List.length_append];omega
       obtain⟨ja,jcap,rfl⟩:=hoj.form;clear hbj hoj HB2 HO2
       by_cases hj0:j=0
       . subst hj0
         cases hwe:Ms[k].wh.toList.isEmpty with
         | true=>
          go_wp2;go_roundw
          . exact⟨1,by omega,rfl,HBj.o,Zh2 HOj.o (by unfold rdP;simp [hwe])⟩
          . simp [intOf]
         | false=>
          generalize hR1:R0 ++ rdP Ms[k] 0=R1 at*;go_wp2_with (at_builtin;refine wpList_append_lies _ rfl (.tmp 38) (.tmp 40) 59 rfl w.heap.size 9 i0 (.string ⟨#[]⟩) 1 16 underlying59 HI.o.1 HI.o.2.1 HI.o.2.2.1 HI.o.2.2.2 rfl (by decide) _ _ _ rfl (HOj.o.below (Zb_.alloc Zl_ _)).row ⟨wr.heap.size,0,none⟩ 1 1 [.string Ms[k].wh] rfl rfl (Zfx _ _ _ _ rfl) (Zd1 _) (by decide) (by have:=HLj.o;unfold maxLen;omega) (by have:=HLj.o;omega) (by have:=HBj.o.size;simp;omega) _ rfl ?_;intro g cap1 w3 hown3 hgrow3 hat3 hlt3);go_roundw
          . exact⟨1,by omega,rfl,(HBj.o.alloc HBj.o.size _).trans ((HOj.o.below (Zb_.alloc Zl_ _)).grown hgrow3 (by have:=HBj.o.size;simp;omega)),Zh2 (HOj.o.snoc hown3 HSZ.o.s2) (by rw [<- hR1];unfold rdP ZiH;simp [hwe])⟩
          . simp [intOf]
       . by_cases hj1:j=1
         . subst hj1
           cases hfe:Ms[k].fr.toList.isEmpty with
           | true=>
            go_wp2;go_roundw
            . exact⟨2,by omega,rfl,HBj.o,Zh2 HOj.o (by unfold rdP ZiH;simp [hfe])⟩
            . simp [intOf]
           | false=>
            generalize hR1:R0 ++ rdP Ms[k] 1=R1 at*;go_wp2_with (at_builtin;refine wpList_append_lies _ rfl (.tmp 38) (.tmp 40) 59 rfl w.heap.size 9 i0 (.string ⟨#[]⟩) 1 16 underlying59 HI.o.1 HI.o.2.1 HI.o.2.2.1 HI.o.2.2.2 rfl (by decide) _ _ _ rfl (HOj.o.below (Zb_.alloc Zl_ _)).row ⟨wr.heap.size,0,none⟩ 1 1 [.string Ms[k].fr] rfl rfl (Zfx _ _ _ _ rfl) (Zd1 _) (by decide) (by have:=HLj.o;unfold maxLen;omega) (by have:=HLj.o;omega) (by have:=HBj.o.size;simp;omega) _ rfl ?_;intro g cap1 w3 hown3 hgrow3 hat3 hlt3);go_roundw
            . exact⟨2,by omega,rfl,(HBj.o.alloc HBj.o.size _).trans ((HOj.o.below (Zb_.alloc Zl_ _)).grown hgrow3 (by have:=HBj.o.size;simp;omega)),Zh2 (HOj.o.snoc hown3 HSZ.o.s5) (by rw [<- hR1];unfold rdP ZiH;simp [hfe])⟩
            . simp [intOf]
         . have e:j=2:=by omega
           subst e;go_wp2;exact⟨⟨k+1,by go_num,by omega,HBj.o,Zh2 HOj.o (by rw [HF.o];rfl)⟩,by simp [intOf];omega⟩
  . have e:k=Ms.length:=by omega
    subst e;have HE:Hd (Zap kind (Ms.take Ms.length) field=Zap kind Ms field):=by unfold Hd;rw [List.take_length]
    go_wp2;go_ret;exact⟨_,rfl,HB.o,Zh2 HO.o HE.o⟩
theorem Zlf (lo:Nat) (mv:Value) (Ms:List Md) (kind name:Zy_) (B1 B2:Nat) (w:World) (h1:w.cell? ⟨B1,0,none⟩=some (.string kind)) (h2:w.cell? ⟨B2,0,none⟩=some mv) (hv:Zbg lo w mv Ms) (hn:Ms.length<=1048576) :
 Calls prog 260 #[.string name,.pointer (some ⟨B1,0,none⟩),.pointer (some ⟨B2,0,none⟩)] w fun e w'=>∃ v',e=.returned v'/\Zw_ w w'/\ZdU w.heap.size w' v' (Zap kind Ms name):=by
 have HV:=Zab hv;obtain⟨a,cap,rfl⟩:=hv.form;clear hv;go_enter func260,ntmps260;go_wp2_with fail;refine (Zly lo _ Ms kind name _ HV.o hn).mono ?_;rintro e w1 ⟨v1,rfl,hb1,ho1⟩;have HB1:=Zab hb1;have HO1:=Zab ho1;clear hb1 ho1;go_wp2;go_ret;exact⟨_,rfl,HB1.o,HO1.o⟩
def ZlQ:Value->Nat
 | .slice _ n _=>n
 | _=>0
def Znw (N:List Zy_) (rd:Zy_->List Zy_) (R:List Zy_) (k:Nat):Prop:=∀ i (h:i < N.length),i < k->N[i] ∈ R\/¬ ∀ r ∈ rd N[i],r ∈ R
theorem Znw.stuck {N:List Zy_}{rd:Zy_->List Zy_}{R:List Zy_} (h:Znw N rd R k) (hk:N.length<=k):ZiQ N rd R:=by
 intro x hx hn;obtain⟨i,hi,rfl⟩:=List.getElem_of_mem hx
 rcases h i hi (by omega) with h1 | h1
 . exact absurd h1 hn
 . exact h1
theorem Znw.succ {N:List Zy_}{rd:Zy_->List Zy_}{R:List Zy_} (h:Znw N rd R k) (hk:k < N.length) (hx:N[k] ∈ R\/¬ ∀ r ∈ rd N[k],r ∈ R):Znw N rd R (k+1):=by
 intro i hi hik
 by_cases e:i=k
 . subst e;exact hx
 . exact h i hi (by omega)
theorem ZjU {N:List Zy_}{rd:Zy_->List Zy_}{R:List Zy_} (h:Zc8 N rd R):R.length<=N.length:=List.Nodup.length_le_of_subset h.nodup h.sub
def ZsS (N:List Zy_) (rd:Zy_->List Zy_) (R R':List Zy_) (k:Nat):Prop:=(R'=R/\Znw N rd R k)\/R.length < R'.length
def Zte (base:Nat) (N:List Zy_) (rd:Zy_->List Zy_) (e:Ending) (w':World):Prop:=
 (∃ v R,e=.returned (.tuple #[v,.bool true])/\ZdU base w' v R/\Zc8 N rd R/\N.length<=R.length)\/
 (ZnO N rd=false/\e=.returned (.tuple #[.slice none 0 0,.bool false]))
theorem ZdU.room (W:World) (n g:Nat) (hg:W.heap.size=g) (hb:base<=g) (hn:n<=maxLen):ZdU base (W.alloc (.cells (madeCells #[.string ⟨#[]⟩] n) 9)) (.slice (some ⟨g,0,none⟩) 0 n) []:=by
 subst hg;exact⟨World.ownsRow_made (base:=base) (e:=9) (size:=1) W _ n hb hn (by rw [size_madeCells,Nat.mul_one]),fun s h=>by simp at h⟩
theorem ZlF (lo:Nat) (tv mv:Value) (N:List Zy_) (Ms:List Md) (kind:Zy_) (B1 B2:Nat) (w:World) (ht:Zag w tv N) (hnn:N.length<=1048576) (hb1:B1 < w.heap.size) (hb2:B2 < w.heap.size)
 (h1:w.cell? ⟨B1,0,none⟩=some (.string kind)) (h2:w.cell? ⟨B2,0,none⟩=some mv) (hv:Zbg lo w mv Ms) (hn:Ms.length<=1048576) :
 Calls prog 259 #[tv,.func (.func 260) #[] #[.pointer (some ⟨B1,0,none⟩),.pointer (some ⟨B2,0,none⟩)]] w fun e w'=>Zw_ w w'/\Zte w.heap.size N (Zap kind Ms) e w':=by
 obtain⟨i0,hi,hz0,hz1,hz2⟩:=info_parts Tryz.info9;have HT:=Zab ht;have HV:=Zab hv;have H1:=Zab h1;have H2:=Zab h2;obtain⟨ta,tcap,rfl⟩:=ht.form_len;clear ht hv h1 h2
 have hmk:∀ u:World,(Instr.makeSlice 59 (.int .i64 0) (.int .i64 (N.length:Int))).run prog u=.ok (.slice (some ⟨u.heap.size,0,none⟩) 0 N.length) (u.alloc (.cells (madeCells #[.string ⟨#[]⟩] N.length) 9)):=fun u=>by
  have h:=run_make (P:=prog) u 59 9 i0 _ underlying59 hi hz0 .i64 .i64 0 N.length (by omega) (by omega) (by rw [hz2];omega) (by omega);have ec:(Value.string ⟨#[]⟩).cells=#[.string ⟨#[]⟩]:=rfl;rw [hz1,ec] at h
  simpa using h
 have HI:=Zab (And.intro hi (And.intro hz0 (And.intro hz1 hz2)));clear hi hz0 hz1 hz2;go_enter func259,ntmps259;go_wp2;clear hmk
 go_loopw [6] (fun r wr=>∃ R:List Zy_,ZdU w.heap.size wr r R/\Zw_ w wr/\Zc8 N (Zap kind Ms) R) (fun r _=>N.length - ZlQ r)
 case atStart=>exact⟨[],ZdU.room w _ _ rfl Zl_ (by unfold maxLen;omega),Zb_.alloc Zl_ _,Zc8.nil⟩
 case round=>
  obtain⟨R,hown,hb,hgood⟩:=hrel;have HO:=Zab hown;have HB:=Zab hb;have HG:=Zab hgood;obtain⟨ra,rcap,rfl⟩:=hown.form;have hRl:R.length<=N.length:=ZjU hgood;clear hown hb hgood
  by_cases hlt:R.length < N.length
  . go_wp2
    go_loopw [6,22] (fun r i wr=>∃ (k:Nat) (R':List Zy_),i=.int .i64 k/\k<=N.length/\ZdU w.heap.size wr r R'/\Zw_ w wr/\Zc8 N (Zap kind Ms) R'/\ZsS N (Zap kind Ms) R R' k) (fun _ i _=>N.length - (intOf i).toNat)
    case atStart=>exact⟨0,R,rfl,by omega,HO.o,HB.o,HG.o,Or.inl ⟨rfl,fun i _ h=>by omega⟩⟩
    case round=>
     obtain⟨k,R',rfl,hk,hown,hb,hgood,hpass⟩:=hrel;have HO':=Zab hown;have HB':=Zab hb;have HG':=Zab hgood;have HP:=Zab hpass;obtain⟨ra',rcap',rfl⟩:=hown.form;have hRl':R'.length<=N.length:=ZjU hgood;clear hown hb hgood hpass HO HB
     by_cases hkl:k < N.length
     . obtain⟨tb,toff,htw,hta,hcN,hszN⟩:∃ tb toff,tb < w.heap.size/\ta=some ⟨tb,toff,none⟩/\(∀ i (h:i < N.length),w.cell? ⟨tb,toff+i,none⟩=some (.string N[i]))/\∀ s ∈ N,s.size<=maxLen:=by
        rcases HT.o with ⟨_,_,_,h⟩ | ⟨b,off,cap,h1,h2,h3,h4,h5,h6⟩
        . rw [h] at hkl;simp at hkl
        . injection h1 with e1 e2 e3;exact⟨b,off,h4,e1,h5,h6⟩
       subst hta;have ck:wr.cell? ⟨tb,toff+k,none⟩=some (.string N[k]):=by rw [HB'.o.cell (p:=⟨tb,_,none⟩) htw];exact hcN k hkl
       have HSZ:Hd (N[k].size<=maxLen):=hszN _ (List.getElem_mem hkl);clear hcN hszN;go_wp2_with fail;refine (Zex _ R' N[k] _ HO'.o.strs).mono ?_;rintro e w1 ⟨rfl,rfl⟩
       cases hh:ZeJ R' N[k] with
       | true=>
        have HNX:Hd (ZsS N (Zap kind Ms) R R' (k+1)):=by
         rcases HP.o with ⟨e1,e2⟩ | h
         . subst e1;exact Or.inl ⟨rfl,e2.succ hkl (Or.inl (Zdw.1 hh))⟩
         . exact Or.inr h
        go_wp2;go_roundw
        . exact⟨k+1,R',by go_num,by omega,HO'.o,HB'.o,HG'.o,HNX.o⟩
        . simp [intOf];omega
       | false=>
        go_wp2_with fail;refine (Zlf lo mv Ms kind N[k] B1 B2 _ (by rw [HB'.o.cell (p:=⟨B1,0,none⟩) hb1];exact H1.o) (by rw [HB'.o.cell (p:=⟨B2,0,none⟩) hb2];exact H2.o) (HV.o.below HB'.o) hn).mono ?_;rintro e w2 ⟨v2,rfl,hbw2,ho2⟩;have HO2:=Zab (HO'.o.below hbw2);have HB2:Hd (Zw_ w w2):=HB'.o.trans (hbw2.mono HB'.o.size);have HS2:=Zab ho2.strs;obtain⟨va,vcap,rfl⟩:=ho2.form;clear hbw2 ho2 ck;go_wp2_with fail;refine (Zkk _ _ R' (Zap kind Ms N[k]) _ HO2.o.strs HS2.o).mono ?_;rintro e w3 ⟨rfl,rfl⟩
        cases hrd:(Zap kind Ms N[k]).all (ZeJ R') with
        | false=>
         have HNX:Hd (ZsS N (Zap kind Ms) R R' (k+1)):=by
          rcases HP.o with ⟨e1,e2⟩ | h
          . subst e1;exact Or.inl ⟨rfl,e2.succ hkl (Or.inr fun h=>by have:=Zdm.2 h;unfold Zfj at this;rw [this] at hrd;cases hrd)⟩
          . exact Or.inr h
         go_wp2;go_roundw
         . exact⟨k+1,R',by go_num,by omega,HO2.o,HB2.o,HG'.o,HNX.o⟩
         . simp [intOf];omega
        | true=>
         have HG1:Hd (Zc8 N (Zap kind Ms) (R' ++ [N[k]])):=Zc8.snoc HG'.o (List.getElem_mem hkl) (Ziu hh) (Zdm.1 hrd)
         have HNX:Hd (ZsS N (Zap kind Ms) R (R' ++ [N[k]]) (k+1)):=by
          refine Or.inr ?_;rw [List.length_append]
          rcases HP.o with ⟨e1,_⟩ | h
          . subst e1;simp
          . simp;omega
         clear hh hrd;go_wp2_with (at_builtin;refine wpList_append_lies _ rfl (.tmp 37) (.tmp 39) 59 rfl w.heap.size 9 i0 (.string ⟨#[]⟩) 1 16 underlying59 HI.o.1 HI.o.2.1 HI.o.2.2.1 HI.o.2.2.2 rfl (by decide) _ _ _ rfl (HO2.o.below (Zb_.alloc Zl_ _)).row ⟨w3.heap.size,0,none⟩ 1 1 [.string N[k]] rfl rfl (Zfx _ _ _ _ rfl) (Zd1 _) (by decide) (by unfold maxLen;omega) (by omega) (by have:=HB2.o.size;simp;omega) _ rfl ?_;intro g cap1 w4 hown4 hgrow4 hat4 hlt4);go_roundw
         . exact⟨k+1,R' ++ [N[k]],by go_num,by omega,HO2.o.snoc hown4 HSZ.o,(HB2.o.alloc HB2.o.size _).trans ((HO2.o.below (Zb_.alloc Zl_ _)).grown hgrow4 (by have:=HB2.o.size;simp;omega)),HG1.o,HNX.o⟩
         . simp [intOf];omega
     . by_cases hgr:(R'.length:Int)=(R.length:Int)
       . have HNO:Hd (ZnO N (Zap kind Ms)=false):=by
          rcases HP.o with ⟨e1,e2⟩ | h
          . subst e1;exact ZnZ (e2.stuck (by omega)) hlt
          . omega
         go_wp2;refine bodyPost_ret (v:=.tuple #[.slice none 0 0,.bool false]) (by simp [results,results259,go_sem]) rfl ⟨HB'.o,Or.inr ⟨HNO.o,rfl⟩⟩
       . have hgt:R.length < R'.length:=by
          rcases HP.o with ⟨e1,e2⟩ | h
          . subst e1;omega
          . exact h
         go_wp2;exact⟨⟨R',HO'.o,HB'.o,HG'.o⟩,by simp only [ZlQ];omega⟩
  . go_wp2
    refine bodyPost_ret (v:=.tuple #[.slice ra R.length rcap,.bool true]) (by simp [results,results259,go_sem]) rfl ⟨HB.o,Or.inl ⟨_,R,rfl,HO.o,HG.o,by omega⟩⟩
theorem Zcg.below {w1:World}{B:Nat}{L:List Zy_} (h:Zcg wr B L k) (hb:Below wr.heap.size wr w1):Zcg w1 B L k:=World.rowIs.of_block h (hb.block B (World.rowIs.lt h))
theorem Zgm (lo lm:Nat) (fv mv:Value) (x:Sh) (Ms:List Md) (w0 w:World) (hf:Zav lo w0 fv x.fields) (h0:Below w0.heap.size w0 w) (hv:Zbg lm w mv Ms) (hn:x.fields.length<=1048576) (hm:Ms.length<=1048576) :
 Calls prog 228 #[.agg #[.string x.kind,fv],mv] w fun e w'=>Zw_ w w'/\Zte w.heap.size (ZaD x.fields) (Zap x.kind Ms) e w':=by
 have HF:=Zab hf;have H0:=Zab h0;have HV:=Zab hv;obtain⟨a,cap,rfl⟩:=hf.form;obtain⟨ma,mcap,rfl⟩:=hv.form;clear hf hv h0;have hNl:=Zev x.fields
 have hmk:∀ u:World,(Instr.makeSlice 59 (.int .i64 (x.fields.length:Int)) (.int .i64 (x.fields.length:Int))).run prog u=.ok (.slice (some ⟨u.heap.size,0,none⟩) x.fields.length x.fields.length) (u.alloc (.cells (madeCells #[.string ⟨#[]⟩] x.fields.length) 9)):=
  fun u=>run_make_row' 59 9 (.string ⟨#[]⟩) 16 underlying59 Tryz.info9 rfl .i64 .i64 x.fields.length (by omega) (by omega) u
 go_enter func228,ntmps228;go_wp2;clear hmk;generalize hWa:w.alloc _=Wa;have hza:Wa.heap.size=w.heap.size+1:=by rw [<- hWa];simp
 have HBa:Hd (Zw_ w Wa):=by rw [<- hWa];exact Zac _ _
 have FS:Hd (Box Wa w.heap.size #[.string x.kind,.slice a x.fields.length cap]):=by rw [<- hWa];exact Box.new _ _ _ _ rfl
 clear hWa;generalize hWb:Wa.alloc _=Wb;have hzb:Wb.heap.size=w.heap.size+1+1:=by rw [<- hWb];simp [hza]
 have hbb:Below Wa.heap.size Wa Wb:=by rw [<- hWb];exact Zac _ _
 have HBb:Hd (Zw_ w Wb):=HBa.o.trans (hbb.mono (by omega));have FS:=Zab (FS.o.on hbb);have FM:Hd (Box Wb (w.heap.size+1) #[.slice ma Ms.length mcap]):=by rw [<- hWb];exact Box.new _ _ _ _ hza
 clear hWb hbb HBa hza
 have HMD:Hd (Zcg (Wb.alloc (.cells (madeCells #[.string ⟨#[]⟩] x.fields.length) 9)) (w.heap.size+1+1) (ZaD x.fields) 0):=by
  have:=World.rowIs_made Wb (.string ⟨#[]⟩) x.fields.length 9;rw [hzb,<- hNl] at this;unfold Hd Zcg;rw [hNl] at*;exact this
 have HSZ:Hd (∀ s ∈ ZaD x.fields,s.size<=maxLen):=fun s hs=>by
  obtain⟨i,hi,rfl⟩:=ZcE.1 hs;obtain⟨_,_,_,_,hc⟩:=HF.o.full' (by omega);exact (hc i hi).1.s0
 go_loopw [16] (fun i wr=>∃ k:Nat,i=.int .i64 k/\k<=x.fields.length/\Below (w.heap.size+1+1) Wb wr/\Zcg wr (w.heap.size+1+1) (ZaD x.fields) k) (fun i _=>x.fields.length - (intOf i).toNat)
 case atStart=>exact⟨0,rfl,by omega,Zb_.alloc (by omega) _,HMD.o⟩
 case round=>
  obtain⟨k,rfl,hk,hb,hfl⟩:=hrel;have HB:=Zab hb;have HFL:=Zab hfl;have HBw:Hd (Zw_ w wr):=HBb.o.trans (hb.mono (by omega));have hBl:w.heap.size+1+1 < wr.heap.size:=World.rowIs.lt hfl
  clear hb hfl HMD
  by_cases hlt:k < x.fields.length
  . obtain⟨b,off,rfl,hbw,hc⟩:=HF.o.full' (by omega)
    obtain⟨_,wv,hcell,hwd⟩:=hc k hlt;obtain⟨wa,wn,wcap,rfl⟩:=hwd.form;obtain⟨c0,c1,c2,c3,c4,c5,c6,c7,c8,c9,c10⟩:=hcell.below (H0.o.trans (HBw.o.mono H0.o.size)) hbw;have hbr:b < wr.heap.size:=Zk_ hbw (Nat.le_trans H0.o.size HBw.o.size)
    obtain⟨ov,hold⟩:=HFL.o.old (by omega:k < (ZaD x.fields).length);have hfr:=HFL.o.frozen
    have HNX:∀ o,Hd (Zcg ((wr.setCell ⟨w.heap.size+1+1,k,none⟩ (.string x.fields[k].nm)).alloc o) (w.heap.size+1+1) (ZaD x.fields) (k+1)):=fun o=>by
     have:=HFL.o.step (by omega:k < (ZaD x.fields).length);have e:(ZaD x.fields)[k]'(by omega)=x.fields[k].nm:=by simp [ZaD]
     rw [e] at this;exact this.below (Zb_.alloc Zl_ o)
    clear hcell hc hwd;go_wp2;go_roundw
    . exact⟨k+1,by go_num,by omega,(HB.o.setCell Zl_ _).alloc (by simp [World.setCell];omega) _,(HNX _).o⟩
    . simp [intOf];omega
  . have HST:Hd (Zag wr (.slice (some ⟨w.heap.size+1+1,0,none⟩) x.fields.length x.fields.length) (ZaD x.fields)):=by
     by_cases hz:x.fields.length=0
     . exact Or.inl ⟨_,_,by rw [hz],List.length_eq_zero_iff.1 (by omega)⟩
     . have:=(HFL.o.done (by omega) (by intro e;rw [e] at hNl;simp only [List.length_nil] at hNl;omega) (by unfold maxLen;omega) HSZ.o).at
       rw [hNl] at this;exact this
    have hl0:w.heap.size < Wb.heap.size:=by omega
    have FS:=Zab (FS.o.below HB.o (by omega));have FM:=Zab (FM.o.below HB.o (by omega));go_wp2_with fail;refine (ZlF lm _ _ (ZaD x.fields) Ms x.kind w.heap.size (w.heap.size+1) _ HST.o (by omega) (by omega) (by omega) (FS.o.cell 0) (FM.o.cell 0) (HV.o.below HBw.o) hm).mono ?_;rintro e w2 ⟨hb2,hgr⟩;have HB2:Hd (Zw_ w w2):=HBw.o.trans (hb2.mono HBw.o.size);have hle:w.heap.size<=wr.heap.size:=HBw.o.size;clear hb2
    rcases hgr with ⟨v2,R,rfl,ho,hg,hl⟩ | ⟨hno,rfl⟩
    . have HO:=Zab (ho.mono hle)
      have HG:=Zab hg;obtain⟨va,vcap,rfl⟩:=ho.form;clear ho hg;go_wp2;refine bodyPost_ret (v:=.tuple #[.slice va R.length vcap,.bool true]) (by simp [results,results228,go_sem]) rfl ⟨HB2.o,Or.inl ⟨_,R,rfl,HO.o,HG.o,hl⟩⟩
    . have HN:=Zab hno
      clear hno;go_wp2;refine bodyPost_ret (v:=.tuple #[.slice none 0 0,.bool false]) (by simp [results,results228,go_sem]) rfl ⟨HB2.o,Or.inr ⟨HN.o,rfl⟩⟩
theorem ZqI {Ss:List Sh}{x:Sh} (hs:ZaH Ss=true) (hx:Zcz Ss m.kind=some x):Zee x.fields m=Zde Ss m:=by
 unfold Zde;rw [hx];exact Zo2 (Zgd (ZbZ hs (Zcv hx).1))
theorem Znf {Ss:List Sh} (hx:Zcz Ss m.kind=none):Zde Ss m=false:=by unfold Zde;rw [hx]
theorem ZoJ (lo lm:Nat) (sv mv:Value) (Ss:List Sh) (Ms:List Md) (w:World) (hS:ZaR lo w sv Ss) (hM:Zbg lm w mv Ms) (hsb:ZaH Ss=true) :
 Calls prog 193 #[sv,mv] w fun e w'=>e=.returned (.bool (Zay Ss Ms))/\Zw_ w w':=by
 have HS:=Zab hS;have HM:=Zab hM;have HSB:=Zab hsb;obtain⟨a1,cap1,rfl⟩:=hS.form;obtain⟨a2,cap2,rfl⟩:=hM.form;clear hS hM hsb
 have hml:(Ms.length:Int)<=9223372036854775807:=by
  rcases HM.o with ⟨_,_,_,h⟩ | ⟨_,_,_,_,_,h,_⟩
  . rw [h];simp
  . unfold maxLen at h;omega
 have hs6:Ss.length<=6:=Zh9 HSB.o
 by_cases h12:(Ms.length:Int)<=12
 . go_enter func193,ntmps193
   go_wp2
   go_loopw [18] (fun i wr=>∃ k:Nat,i=.int .i64 k/\k<=Ms.length/\Zw_ w wr/\∀ i (h:i < Ms.length),i < k->Zde Ss Ms[i]=true) (fun i _=>Ms.length - (intOf i).toNat)
   case atStart=>exact⟨0,rfl,by omega,Below.refl _ _,fun i _ h=>by omega⟩
   case round=>
    obtain⟨k,rfl,hk,hb,hall⟩:=hrel;have HA:=Zab hall;have HB:=Zab hb;clear hall hb
    by_cases hlt:k < Ms.length
    . obtain⟨b,off,rfl,hbw,hc⟩:=HM.o.full' (by omega)
      obtain⟨hsz,hcell⟩:=hc k hlt;obtain⟨c0,c1,c2,c3,c4,c5⟩:=hcell.below HB.o hbw;clear hcell hc;go_wp2_with fail;generalize hWa:wr.alloc _=Wa;have hba:Below wr.heap.size wr Wa:=by rw [<- hWa];exact Zac _ _
      have FM:Hd (Box Wa wr.heap.size #[.string Ms[k].kind,.string Ms[k].field,.string Ms[k].wh,.string Ms[k].is,.string Ms[k].put,.string Ms[k].fr]):=by rw [<- hWa];exact Box.new _ _ _ _ rfl
      have HBa:Hd (Zw_ w Wa):=HB.o.trans (hba.mono HB.o.size);clear hWa hba c0 c1 c2 c3 c4 c5;refine (Zel lo _ Ss Ms[k].kind w _ HS.o HBa.o).mono ?_;rintro e w1 ⟨hb1,hsh⟩;have FM:=Zab (FM.o.on hb1);have HB1:Hd (Zw_ w w1):=HBa.o.trans (hb1.mono HBa.o.size);clear hb1 HBa;have g1:=FM.o.cell;have gl:=FM.o.lt
      rcases hsh with ⟨x,fv,hx,rfl,hfd⟩ | ⟨hx,rfl⟩
      . obtain⟨fa,fcap,rfl⟩:=hfd.form
        have HFD:=Zab hfd;have HX:=Zab hx;clear hfd hx;go_wp2_with fail;clear g1 gl;refine (Zm2 lo _ _ x.fields Ms[k] w _ HFD.o (HB1.o.alloc HB1.o.size _) hsz).mono ?_;rintro e w2 ⟨rfl,hb2⟩;have HB2:Hd (Zw_ w w2):=(HB1.o.alloc HB1.o.size _).trans (hb2.mono (HB1.o.alloc HB1.o.size _).size);clear hb2;rw [ZqI HSB.o HX.o]
        cases hmb:Zde Ss Ms[k] with
        | false=>
         have HQ:Hd (Zay Ss Ms=false):=Zg0 hlt hmb;go_wp2;go_ret;exact⟨Zaa HQ.o.symm,HB2.o⟩
        | true=>
         go_wp2;go_roundw
         case rel=>exact⟨k+1,by go_num,by omega,HB2.o,fun i h h'=>by
                    by_cases e:i=k
                    . subst e;exact hmb
                    . exact HA.o i h (by omega)⟩
         . simp [intOf];omega
      . have HQ:Hd (Zay Ss Ms=false):=Zg0 hlt (Znf hx)
        go_wp2;go_ret;exact⟨Zaa HQ.o.symm,HB1.o.alloc HB1.o.size _⟩
    . have HAll:Hd (∀ i (h:i < Ms.length),Zde Ss Ms[i]=true):=fun i h=>HA.o i h (by omega)
      have HBx:Hd (Zw_ w wr):=HB.o;clear HA HB;go_wp2;clear hlt hk
      go_loopw [40] (fun i wr=>∃ k:Nat,i=.int .i64 k/\k<=Ss.length/\Zw_ w wr/\∀ i (h:i < Ss.length),i < k->Zbt Ms Ss[i]=true) (fun i _=>Ss.length - (intOf i).toNat)
      case atStart=>exact⟨0,rfl,by omega,HBx.o,fun i _ h=>by omega⟩
      case round=>
       clear HBx;obtain⟨j,rfl,hj,hb,hall⟩:=hrel;have HA:=Zab hall;have HB:=Zab hb;clear hall hb
       by_cases hlt:j < Ss.length
       . obtain⟨b,off,rfl,hbw,hc⟩:=HS.o.full' (by omega)
         obtain⟨hsz,fv,d0,d1,hst⟩:=hc j hlt;have c0:wr.cell? ⟨b,off+j*2,none⟩=some (.string Ss[j].kind):=by rw [HB.o.cell (p:=⟨b,_,none⟩) hbw];exact d0
         have c1:wr.cell? ⟨b,off+j*2+1,none⟩=some fv:=by rw [HB.o.cell (p:=⟨b,_,none⟩) hbw];exact d1
         obtain⟨fa,fcap,rfl⟩:=hst.form;have HST:=Zab hst;have h6:Ss[j].fields.length<=6:=Zdc (ZbZ HSB.o (List.getElem_mem hlt));clear d0 d1 hst hc;go_wp2_with fail;have HBa:=fun o=>Zab (HB.o.alloc HB.o.size o)
         refine (Zgm lo lm _ _ Ss[j] Ms w _ HST.o (HBa _).o (HM.o.below (HBa _).o) (by omega) (by omega)).mono ?_;rintro e w2 ⟨hb2,hgr⟩;have HB2:Hd (Zw_ w w2):=(HBa _).o.trans (hb2.mono (HBa _).o.size);clear hb2 HBa c0 c1
         rcases hgr with ⟨v2,R,rfl,ho,hg,hl⟩ | ⟨hno,rfl⟩
         . have HSR:Hd (Zbt Ms Ss[j]=true):=Zl2 hg hl
           obtain⟨va,vcap,rfl⟩:=ho.form;clear ho hg hl;go_wp2;go_roundw
           case rel=>exact⟨j+1,by go_num,by omega,HB2.o,fun i h h'=>by
                      by_cases e:i=j
                      . subst e;exact HSR.o
                      . exact HA.o i h (by omega)⟩
           . simp [intOf];omega
         . have HQ:Hd (Zay Ss Ms=false):=Zj3 hlt hno
           clear hno;go_wp2;go_ret;exact⟨Zaa HQ.o.symm,HB2.o⟩
       . have HQ:Hd (Zay Ss Ms=true):=ZkB HSB.o (by omega) HAll.o (fun i h=>HA.o i h (by omega))
         go_wp2;go_ret;exact⟨Zaa HQ.o.symm,HB.o⟩
 . have HQ:Hd (Zay Ss Ms=false):=ZhS (by omega)
   go_enter func193,ntmps193;go_wp2;go_ret;exact⟨Zaa HQ.o.symm,Below.refl _ _⟩
theorem ZiE (lo lm:Nat) (sv mv:Value) (Ss:List Sh) (Ms:List Md) (w:World) (hS:ZaR lo w sv Ss) (hM:Zbg lm w mv Ms) :
 Calls prog 145 #[sv,mv] w fun e w'=>e=.returned (.bool (Zay Ss Ms))/\Zw_ w w':=by
 have HS:=Zab hS;have HM:=Zab hM;obtain⟨a1,cap1,rfl⟩:=hS.form;obtain⟨a2,cap2,rfl⟩:=hM.form;clear hS hM;go_enter func145,ntmps145;go_wp2_with fail;refine (ZhO lo _ Ss _ HS.o).mono ?_;rintro e w1 ⟨rfl,hb1⟩;have HB1:=Zab hb1;clear hb1
 cases hsb:ZaH Ss with
 | false=>
  have HQ:Hd (Zay Ss Ms=false):=ZjT hsb;go_wp2;go_ret;exact⟨Zaa HQ.o.symm,HB1.o⟩
 | true=>
  have HSB:=Zab hsb;clear hsb;go_wp2_with fail;refine (ZoJ lo lm _ _ Ss Ms _ (HS.o.below HB1.o) (HM.o.below HB1.o) HSB.o).mono ?_;rintro e w2 ⟨rfl,hb2⟩;have HB2:Hd (Zw_ w w2):=HB1.o.trans (hb2.mono HB1.o.size);clear hb2;go_wp2;go_ret;exact⟨rfl,HB2.o⟩
theorem Zag.full' {w:World}{a:Option Addr}{n cap:Nat}{L:List Zy_} (h:Zag w (.slice a n cap) L) (hL:0 < L.length) :
 ∃ b off,a=some ⟨b,off,none⟩/\b < w.heap.size/\∀ i (h:i < L.length),w.cell? ⟨b,off+i,none⟩=some (.string L[i]):=by
 rcases h with ⟨a',cap',h,rfl⟩ | ⟨b',off',cap',h1,h2,h3,h4,h5,h6⟩
 . simp at hL
 . injection h1 with e1 e2 e3
   exact⟨b',off',e1,h4,h5⟩
theorem Zok (lo:Nat) (kind:Zy_) (v vv:Value) (Fs:List Fd) (m:Md) (V:List Zy_) (w0 w:World) (hv:Zav lo w0 v Fs) (h0:Below w0.heap.size w0 w) (hV:Zag w vv V) (hl:Fs.length=V.length) (h6:Fs.length<=6) (hr:m.fr.toList.isEmpty=true\/m.fr ∈ ZaD Fs) :
 Calls prog 293 #[.agg #[.string kind,v],.agg #[.string m.kind,.string m.field,.string m.wh,.string m.is,.string m.put,.string m.fr],vv] w fun e w'=>e=.returned (.string (Zct Fs V m))/\Zw_ w w':=by
 have HV:=Zab hv;have H0:=Zab h0;have HVV:=Zab hV;obtain⟨a,cap,rfl⟩:=hv.form;obtain⟨va,vcap,rfl⟩:=hV.form';have HL:=Zab hl;clear hv h0 hV hl;have HW:∀ o o',Hd (Zw_ w ((w.alloc o).alloc o')):=fun o o'=>(Zb_.alloc Zl_ _).alloc (by simp) _
 cases hfe:m.fr.toList.isEmpty with
 | true=>
  have HQ:Hd (Zct Fs V m=m.put):=by unfold Hd Zct;rw [if_pos hfe]
  go_enter func293,ntmps293;go_wp2;go_ret;exact⟨by rw [HQ.o];rfl,(HW _ _).o⟩
 | false=>
  have hp:ZaS Fs m.fr < Fs.length:=Zcn.2 (by rcases hr with h | h;rw [h] at hfe;cases hfe;exact h)
  have hpv:ZaS Fs m.fr < V.length:=by have:=HL.o;omega
  have HQ:Hd (Zct Fs V m=V[ZaS Fs m.fr]):=by unfold Hd Zct ZbM;rw [if_neg (by rw [hfe];simp),List.getElem?_eq_getElem hpv];rfl
  have HP:Hd (Zch Fs m.fr=ZaS Fs m.fr):=ZbI hp;obtain⟨b,off,rfl,hbw,hc⟩:=HVV.o.full' (by omega);have h6':V.length<=6:=by have:=HL.o;omega
  have ck:=hc _ hpv;clear hc;go_enter func293,ntmps293;go_wp2_with fail;refine (Zfc lo _ _ Fs m.fr _ (HV.o.below (H0.o.trans ((HW _ _).o.mono H0.o.size)))).mono ?_;rintro e w1 ⟨rfl,hb1⟩;have HB1:Hd (Zw_ w w1):=(HW _ _).o.trans (hb1.mono (by simp;omega));have ck1:w1.cell? ⟨b,off+ZaS Fs m.fr,none⟩=some (.string V[ZaS Fs m.fr]):=by rw [HB1.o.cell (p:=⟨b,_,none⟩) hbw];exact ck
  rw [HP.o];clear hb1 ck HP;generalize ZaS Fs m.fr=p at*;go_wp2;go_ret;exact⟨by rw [HQ.o];rfl,HB1.o⟩
def Zti (Fs:List Fd) (kind:Zy_) (Ms:List Md) (V:List Zy_) (f:Zy_) (e:Ending):Prop:=
 (∃ v,ZcY Fs kind Ms V f=some v/\e=.returned (.tuple #[.string v,.bool true]))\/(ZcY Fs kind Ms V f=none/\e=.returned (.tuple #[.string ⟨#[]⟩,.bool false]))
def ZqR (Fs:List Fd) (kind:Zy_) (Ms:List Md):Prop:=∀ m ∈ Ms,m.kind=kind->(m.wh.toList.isEmpty=true\/m.wh ∈ ZaD Fs)/\(m.fr.toList.isEmpty=true\/m.fr ∈ ZaD Fs)
theorem Zli (lo lm:Nat) (kind f:Zy_) (v mv vv:Value) (Ss:List Sh) (Fs:List Fd) (Ms:List Md) (V:List Zy_) (w0 w:World) (hv:Zav lo w0 v Fs) (h0:Below w0.heap.size w0 w) (hM:Zbg lm w mv Ms) (hV:Zag w vv V)
 (hfb:ZaG Ss Fs=true) (hl:Fs.length=V.length) (hn:ZqR Fs kind Ms) (h12:Ms.length<=12) :
 Calls prog 290 #[.agg #[.string kind,v],mv,vv,.string f] w fun e w'=>Zw_ w w'/\Zti Fs kind Ms V f e:=by
 have HV:=Zab hv;have H0:=Zab h0;have HM:=Zab hM;have HVV:=Zab hV;have HFB:=Zab hfb;have HN:=Zab hn;have h6:Fs.length<=6:=Zdc hfb;obtain⟨a,cap,rfl⟩:=hv.form;obtain⟨ma,mcap,rfl⟩:=hM.form;obtain⟨va,vcap,rfl⟩:=hV.form';have HL:=Zab hl;have h6':V.length<=6:=by omega
 clear hv h0 hM hV hfb hn hl;go_enter func290,ntmps290;go_wp2
 go_step3
 go_wp2
 go_step3
 go_wp2;generalize hWa:w.alloc _=Wa;have hza:Wa.heap.size=w.heap.size+1:=by rw [<- hWa];simp
 have HBa:Hd (Zw_ w Wa):=by rw [<- hWa];exact Zac _ _
 have FS:Hd (Box Wa w.heap.size #[.string kind,.slice a Fs.length cap]):=by rw [<- hWa];exact Box.new _ _ _ _ rfl
 clear hWa
 go_loopw [16] (fun i wr=>∃ k:Nat,i=.int .i64 k/\k<=Ms.length/\Below Wa.heap.size Wa wr/\∀ i (h:i < Ms.length),i < k->(Zdg kind f Ms[i]&&Zgq Fs V Ms[i])=false) (fun i _=>Ms.length - (intOf i).toNat)
 case atStart=>exact⟨0,rfl,by omega,Below.refl _ _,fun i _ h=>by omega⟩
 case round=>
  obtain⟨k,rfl,hk,hb,hall⟩:=hrel;have HA:=Zab hall;have HB:=Zab hb;have HBw:Hd (Zw_ w wr):=HBa.o.trans (hb.mono (by omega));have FSr:=Zab (FS.o.on hb);clear hall hb
  by_cases hlt:k < Ms.length
  . obtain⟨b,off,rfl,hbw,hc⟩:=HM.o.full' (by omega)
    obtain⟨hsz,hcell⟩:=hc k hlt;obtain⟨c0,c1,c2,c3,c4,c5⟩:=hcell.below HBw.o hbw;have g1:=FSr.o.cell;have gl:=FSr.o.lt;clear hcell hc
    have HNX:Hd ((Zdg kind f Ms[k]&&Zgq Fs V Ms[k])=false->∀ i (h:i < Ms.length),i < k+1->(Zdg kind f Ms[i]&&Zgq Fs V Ms[i])=false):=fun h i hi hik=>by
     by_cases e:i=k
     . subst e;exact h
     . exact HA.o i hi (by omega)
    cases hk1:(Ms[k].kind.toList == kind.toList) with
    | false=>
     go_wp2;go_roundw
     . exact⟨k+1,by go_num,by omega,HB.o.alloc HB.o.size _,HNX.o (by unfold Zdg;simp [hk1])⟩
     . simp [intOf];omega
    | true=>
     cases hf1:(Ms[k].field.toList == f.toList) with
     | false=>
      go_wp2;go_roundw
      . exact⟨k+1,by go_num,by omega,HB.o.alloc HB.o.size _,HNX.o (by unfold Zdg;simp [hf1])⟩
      . simp [intOf];omega
     | true=>
      have HFOR:Hd (Zdg kind f Ms[k]=true):=by unfold Hd Zdg;simp [hk1,hf1]
      have HNM:=Zab (HN.o Ms[k] (List.getElem_mem hlt) (ZaU.1 hk1));go_wp2;clear c0 c1 c2 c3 c4 c5 g1 gl hk1 hf1;generalize hWm:wr.alloc _=Wm;have hbm:Below wr.heap.size wr Wm:=by rw [<- hWm];exact Zac _ _
      have hzm:Wm.heap.size=wr.heap.size+1:=by rw [<- hWm];simp
      have FM:Hd (Box Wm wr.heap.size #[.string Ms[k].kind,.string Ms[k].field,.string Ms[k].wh,.string Ms[k].is,.string Ms[k].put,.string Ms[k].fr]):=by rw [<- hWm];exact Box.new _ _ _ _ rfl
      have FSm:=Zab (FSr.o.on hbm);have HBm:Hd (Below Wa.heap.size Wa Wm):=HB.o.trans (hbm.mono HB.o.size);have HBmw:Hd (Zw_ w Wm):=HBw.o.trans (hbm.mono HBw.o.size);clear hWm hbm FSr HB HBw
      go_loopw [34] (fun i wr=>∃ p:Nat,i=.int .i64 p/\p<=Fs.length/\Below Wm.heap.size Wm wr/\∀ j (h:j < Fs.length) (h':j < V.length),j < p->Ze5 Fs[j].nm V[j] Ms[k]=false) (fun i _=>Fs.length - (intOf i).toNat)
      case atStart=>exact⟨0,rfl,by omega,Below.refl _ _,fun i _ _ h=>by omega⟩
      case round=>
       obtain⟨p,rfl,hp,hbp,hallp⟩:=hrel;have HAP:=Zab hallp;have HBP:=Zab hbp;have FMp:=Zab (FM.o.on hbp);have FSp:=Zab (FSm.o.on hbp);have HBPa:Hd (Below Wa.heap.size Wa wr):=HBm.o.trans (hbp.mono HBm.o.size);have HBPw:Hd (Zw_ w wr):=HBmw.o.trans (hbp.mono HBmw.o.size);clear hallp hbp FM FSm HBm HBmw;have g1:=FSp.o.cell;have gl:=FSp.o.lt;have g2:=FMp.o.cell;have gl2:=FMp.o.lt
       by_cases hpl:p < Fs.length
       . have hpv:p < V.length:=by have:=HL.o;omega
         obtain⟨fb,fo,rfl,hfb,hfc⟩:=HV.o.full' (by omega);obtain⟨_,wv,hfcell,hwd⟩:=hfc p hpl;obtain⟨wa,wn,wcap,rfl⟩:=hwd.form;obtain⟨d0,d1,d2,d3,d4,d5,d6,d7,d8,d9,d10⟩:=hfcell.below (H0.o.trans (HBPw.o.mono H0.o.size)) hfb;have hfr:fb < wr.heap.size:=Zk_ hfb (Nat.le_trans H0.o.size HBPw.o.size)
         obtain⟨vb,vo,rfl,hvb,hvc⟩:=HVV.o.full' (by omega);have ck:wr.cell? ⟨vb,vo+p,none⟩=some (.string V[p]):=by rw [HBPw.o.cell (p:=⟨vb,_,none⟩) hvb];exact hvc p hpv
         have hvr:vb < wr.heap.size:=Zk_ hvb HBPw.o.size
         have HNP:Hd (Ze5 Fs[p].nm V[p] Ms[k]=false->∀ j (h:j < Fs.length) (h':j < V.length),j < p+1->Ze5 Fs[j].nm V[j] Ms[k]=false):=fun h j hj hj' hjp=>by
          by_cases e:j=p
          . subst e;exact h
          . exact HAP.o j hj hj' (by omega)
         clear hfcell hfc hwd hvc
         cases h1:(Fs[p].nm.toList == Ms[k].wh.toList) with
         | false=>
          cases h3:(Fs[p].nm.toList == Ms[k].fr.toList) with
          | false=>
           go_wp2
           go_quiet (fail)
           go_wp2;go_roundw
           . exact⟨p+1,by go_num,by omega,below_drewN (HBP.o.alloc HBP.o.size _) _,HNP.o (by unfold Ze5;simp [h1,h3])⟩
           . simp [intOf];omega
          | true=>
           cases h4:V[p].toList.isEmpty with
           | true=>
            go_wp2
            go_quiet (fail)
            go_wp2;exact⟨⟨k+1,by go_num,by omega,below_drewN (HBPa.o.alloc HBPa.o.size _) _,HNX.o (by rw [ZpW HFB.o hpl hpv (by unfold Ze5;simp [h1,h3,h4])];simp)⟩,by simp [intOf];omega⟩
           | false=>
            go_wp2
            go_quiet (fail)
            go_wp2;go_roundw
            . exact⟨p+1,by go_num,by omega,below_drewN (HBP.o.alloc HBP.o.size _) _,HNP.o (by unfold Ze5;simp [h1,h3,h4])⟩
            . simp [intOf];omega
         | true=>
          cases h2:(V[p].toList == Ms[k].is.toList) with
          | false=>
           go_wp2
           go_quiet (fail)
           go_wp2;exact⟨⟨k+1,by go_num,by omega,below_drewN (HBPa.o.alloc HBPa.o.size _) _,HNX.o (by rw [ZpW HFB.o hpl hpv (by unfold Ze5;simp [h1,h2])];simp)⟩,by simp [intOf];omega⟩
          | true=>
           cases h3:(Fs[p].nm.toList == Ms[k].fr.toList) with
           | false=>
            go_wp2
            go_quiet (fail)
            go_wp2;go_roundw
            . exact⟨p+1,by go_num,by omega,below_drewN (HBP.o.alloc HBP.o.size _) _,HNP.o (by unfold Ze5;simp [h1,h2,h3])⟩
            . simp [intOf];omega
           | true=>
            cases h4:V[p].toList.isEmpty with
            | true=>
             go_wp2
             go_quiet (fail)
             go_wp2;exact⟨⟨k+1,by go_num,by omega,below_drewN (HBPa.o.alloc HBPa.o.size _) _,HNX.o (by rw [ZpW HFB.o hpl hpv (by unfold Ze5;simp [h1,h2,h3,h4])];simp)⟩,by simp [intOf];omega⟩
            | false=>
             go_wp2
             go_quiet (fail)
             go_wp2;go_roundw
             . exact⟨p+1,by go_num,by omega,below_drewN (HBP.o.alloc HBP.o.size _) _,HNP.o (by unfold Ze5;simp [h1,h2,h3,h4])⟩
             . simp [intOf];omega
       . have HAPP:Hd (Zgq Fs V Ms[k]=true):=Zrq HL.o HNM.o.1 HNM.o.2 fun j hj hj'=>HAP.o j hj hj' (by omega)
         have HD:Hd (ZcY Fs kind Ms V f=some (Zct Fs V Ms[k])):=Zef hlt (by rw [HFOR.o,HAPP.o];rfl) HA.o;go_wp2_with fail;clear g1 g2 gl gl2;refine (Zok lo _ _ _ Fs Ms[k] V w0 _ HV.o (H0.o.trans (HBPw.o.mono H0.o.size)) (HVV.o.below HBPw.o) HL.o h6 HNM.o.2).mono ?_;rintro e w2 ⟨rfl,hb2⟩;have HB2:Hd (Zw_ w w2):=HBPw.o.trans (hb2.mono HBPw.o.size);clear hb2;go_wp2
         try rw [Exit.noGoto_ret]
         refine bodyPost_ret (v:=.tuple #[.string (Zct Fs V Ms[k]),.bool true]) (by simp [results,results290,go_sem]) rfl ⟨HB2.o,Or.inl ⟨_,HD.o,rfl⟩⟩
  . have HQ:Hd (ZcY Fs kind Ms V f=none):=ZkC fun i h=>HA.o i h (by omega)
    go_wp2
    try rw [Exit.noGoto_ret]
    refine bodyPost_ret (v:=.tuple #[.string ⟨#[]⟩,.bool false]) (by simp [results,results290,go_sem]) rfl ⟨HBw.o,Or.inr ⟨HQ.o,rfl⟩⟩
theorem ZdU.touch {lo hi:Nat}{R:List Zy_} (h:ZdU base W v R) (ht:Zad lo hi W W') (hh:hi<=base):ZdU base W' v R:=by
 refine⟨⟨h.row.1,?_⟩,h.sz⟩
 rcases h.row.2 with hv | ⟨g,cap,cur,hv,h1,h2,h3⟩
 . exact Or.inl hv
 . have hg:g < W.heap.size:=by
    rcases Nat.lt_or_ge g W.heap.size with h | h
    . exact h
    . rw [Array.getElem?_eq_none h] at h2;cases h2
   exact Or.inr ⟨g,cap,cur,hv,h1,by rw [ht.block g hg (Or.inr (by omega))];exact h2,h3⟩
theorem Zbg.sizes {lo:Nat}{w:World}{Ms:List Md} (h:Zbg lo w v Ms):∀ m ∈ Ms,Zea m:=by
 intro m hm;obtain⟨i,hi,rfl⟩:=List.getElem_of_mem hm
 rcases h with ⟨_,_,_,h⟩ | ⟨b,off,cap,h1,h2,h3,h4,h5,h6,h7⟩
 . subst h;simp at hi
 . exact (h7 i hi).1
theorem Zag.sizes {w:World}{L:List Zy_} (h:Zag w v L):∀ s ∈ L,s.size<=maxLen:=by
 rcases h with ⟨_,_,_,h⟩ | ⟨b,off,cap,h1,h2,h3,h4,h5,h6⟩
 . subst h;intro s hs;simp at hs
 . exact h6
theorem ZjG {kind:Zy_}{Ms:List Md}{V:List Zy_}{f v:Zy_} (hm:∀ m ∈ Ms,Zea m) (hv:∀ s ∈ V,s.size<=maxLen) (h:ZcY Fs kind Ms V f=some v):v.size<=maxLen:=by
 unfold ZcY at h;obtain⟨m,hf,rfl⟩:=Option.map_eq_some_iff.1 h;have hmem:=List.mem_of_find?_eq_some hf;unfold Zct
 by_cases he:m.fr.toList.isEmpty=true
 . rw [if_pos he];exact (hm m hmem).s4
 . rw [if_neg he]
   unfold ZbM
   by_cases hp:ZaS Fs m.fr < V.length
   . rw [List.getElem?_eq_getElem hp];exact hv _ (List.getElem_mem hp)
   . rw [List.getElem?_eq_none (by omega)];exact Nat.zero_le _
theorem ZlZ {Ss:List Sh}{Ms:List Md}{k0:Zy_}{x:Sh} (h:Zay Ss Ms=true) (hx:Zcz Ss k0=some x):ZqR x.fields x.kind Ms:=fun _ hm hk=>(Znp h hx hm hk).2
section
variable (kind nm team:Zy_) (vv hv sv mv fv:Value) (en:Bool) (ver:Int) (V Ho:List Zy_) (Ss:List Sh) (Ms:List Md) (x:Sh) (k0:Zy_) (w:World) (lo lm:Nat)
theorem Zlv (hV:Zag w vv V) (hH:Zag w hv Ho) (hF:Zav lo w fv x.fields) (hM:Zbg lm w mv Ms) (hmb:Zay Ss Ms=true) (hx:Zcz Ss k0=some x) (hl:x.fields.length=V.length) (n2:Ho.length<=1048576) :
 Calls prog 278 #[.agg #[.string x.kind,fv],mv,.agg #[.string kind,.string nm,.string team,vv,.bool en,hv,.int .i64 ver]] w
  fun e w'=>∃ v' h' F,e=.returned (.agg #[.string kind,.string nm,.string team,v',.bool en,h',.int .i64 ver])/\Zw_ w w'/\Zep w.heap.size w' v' h' F Ho/\ZpY x Ms V F:=by
 have HV:=Zab hV;have HH:=Zab hH;have HF:=Zab hF;have HM:=Zab hM;have HMB:=Zab hmb;have HX:=Zab hx;have hfb:ZaG Ss x.fields=true:=ZbZ (Zc4 hmb) (Zcv hx).1;have HFB:=Zab hfb;have h6:x.fields.length<=6:=Zdc hfb;have n1:V.length<=6:=by omega
 have h12:Ms.length<=12:=Zfo hmb;have HROW:Hd (ZnO (ZaD x.fields) (Zap x.kind Ms)=true):=ZeI hmb (Zcv hx).1;have HNA:=Zab (ZlZ hmb hx);obtain⟨a,cap,rfl⟩:=hV.form';obtain⟨a',cap',rfl⟩:=hH.form';obtain⟨a1,cap1,rfl⟩:=hF.form;obtain⟨ma,mcap,rfl⟩:=hM.form;have HL:=Zab hl;clear hV hH hF hM hl hmb hx hfb;go_enter func278,ntmps278;go_wp2_with fail;generalize hWa:w.alloc _=Wa;have hza:Wa.heap.size=w.heap.size+1:=by rw [<- hWa];simp
 have HBa:Hd (Zw_ w Wa):=by rw [<- hWa];exact Zac _ _
 have FS:Hd (Box Wa w.heap.size #[.string x.kind,.slice a1 x.fields.length cap1]):=by rw [<- hWa];exact Box.new _ _ _ _ rfl
 clear hWa;generalize hWb:Wa.alloc _=Wb;have hzb:Wb.heap.size=w.heap.size+1+1:=by rw [<- hWb];simp [hza]
 have hbb:Below Wa.heap.size Wa Wb:=by rw [<- hWb];exact Zac _ _
 have HBb:Hd (Zw_ w Wb):=HBa.o.trans (hbb.mono (by omega));have FS:=Zab (FS.o.on hbb);clear hWb hbb HBa;generalize hWc:Wb.alloc _=Wc;have hzc:Wc.heap.size=w.heap.size+3:=by rw [<- hWc];simp [hzb]
 have hbc:Below Wb.heap.size Wb Wc:=by rw [<- hWc];exact Zac _ _
 have HBc:Hd (Zw_ w Wc):=HBb.o.trans (hbc.mono (by omega));have FS:=Zab (FS.o.on hbc);have FR:Hd (Box Wc (w.heap.size+1+1) #[.string ⟨#[]⟩,.string ⟨#[]⟩,.string ⟨#[]⟩,.slice none 0 0,.bool false,.slice none 0 0,.int .i64 0]):=by rw [<- hWc];exact Box.new _ _ _ _ hzb
 clear hWc hbc HBb hza hzb;refine (Zfa _ _ _ _ _ _ _ V Ho _ (HV.o.below HBc.o) (HH.o.below HBc.o) (by omega) n2).mono ?_;rintro e w1 ⟨v1,h1,rfl,hb1,mid,hlo,hmid,hs1,hs2⟩;obtain⟨a2,cap2,rfl⟩:=hs1.form;obtain⟨a3,cap3,rfl⟩:=hs2.form;have hz1:=hb1.size;have FS:=Zab (FS.o.on hb1);have FR:=Zab (FR.o.on hb1);have HB1:Hd (Zw_ w w1):=HBc.o.trans (hb1.mono HBc.o.size);have HS1:Hd (Zae (w.heap.size+3) mid w1 (.slice a2 V.length cap2) V):=by rw [<- hzc];exact hs1
 have HS2:=Zab hs2;have hlo':w.heap.size+3<=mid:=by omega
 clear hb1 hs1 hs2 HBc hlo;have g1:=FS.o.cell;have gl:=FS.o.lt;go_wp2_with fail;clear g1 gl;generalize hWd:w1.alloc _=Wd;have hzd:Wd.heap.size=w1.heap.size+1:=by rw [<- hWd];simp
 have hbd:Below w1.heap.size w1 Wd:=by rw [<- hWd];exact Zac _ _
 have HBd:Hd (Zw_ w Wd):=HB1.o.trans (hbd.mono HB1.o.size);have FS:=Zab (FS.o.on hbd);have FR:=Zab (FR.o.on hbd);have FO:Hd (Box Wd w1.heap.size #[.string kind,.string nm,.string team,.slice a2 V.length cap2,.bool en,.slice a3 Ho.length cap3,.int .i64 ver]):=by rw [<- hWd];exact Box.new _ _ _ _ rfl
 have HS1:=Zab (HS1.o.below hbd);have HS2:=Zab (HS2.o.below hbd);clear hWd hbd HB1;refine (Zgm lo lm _ _ x Ms w _ HF.o HBd.o (HM.o.below HBd.o) (by omega) (by omega)).mono ?_;rintro e w2 ⟨hb2,hgr⟩;have hz2:=hb2.size;have HB2:Hd (Zw_ w w2):=HBd.o.trans (hb2.mono HBd.o.size);have FS:=Zab (FS.o.on hb2);have FR:=Zab (FR.o.on hb2);have FO:=Zab (FO.o.on hb2);have HS1:=Zab (HS1.o.below hb2);have HS2:=Zab (HS2.o.below hb2);clear hb2 HBd
 rcases hgr with ⟨rv,R,rfl,ho,hg,hlen⟩ | ⟨hno,_⟩
 . have HO:=Zab ho
   have HG:=Zab hg;obtain⟨ra,rcap,rfl⟩:=ho.form;have HFIX:Hd (ZpY x Ms V (Zc5 (ZaS x.fields) (ZcY x.fields x.kind Ms) R V)):=Zjh hg hlen HL.o;have hRl:R.length<=6:=Nat.le_trans (Zix hg) h6;clear ho hg hlen;go_wp2
   go_loopw [24] (fun i wr=>∃ k:Nat,i=.int .i64 k/\k<=R.length/\Zae (w.heap.size+3) mid wr (.slice a2 V.length cap2) (Zc5 (ZaS x.fields) (ZcY x.fields x.kind Ms) (R.take k) V)/\Zad (w.heap.size+3) mid w2 wr) (fun i _=>R.length - (intOf i).toNat)
   case atStart=>exact⟨0,rfl,by omega,HS1.o,Zad.refl _ _ _⟩
   case round=>
    obtain⟨k,rfl,hk,hso,ht⟩:=hrel;have HSO:=Zab hso;have HT:=Zab ht;have hzr:=ht.size;have HBr:Hd (Zw_ w wr):=HB2.o.trans ((ht.under (by omega)).mono (by omega));have FSr:=Zab (FS.o.touch ht (by omega));have FRr:=Zab (FR.o.touch ht (by omega));have FOr:=Zab (FO.o.touch ht (by omega));have HOr:=Zab (HO.o.touch ht (by omega));clear hso ht HS1
    by_cases hlt:k < R.length
    . obtain⟨rb,ro,rfl,hrb,hrc⟩:=HOr.o.strs.full' (by omega)
      have ck:=hrc k hlt;clear hrc;have g1:=FSr.o.cell;have gl:=FSr.o.lt;have g2:=FOr.o.cell;have gl2:=FOr.o.lt;have HLv:Hd ((Zc5 (ZaS x.fields) (ZcY x.fields x.kind Ms) (R.take k) V).length=V.length):=ZgW _ _ _ _;have HNEXT:=Zab (Zif (ZaS x.fields) (ZcY x.fields x.kind Ms) hlt V);have HIN:Hd (R[k] ∈ ZaD x.fields):=HG.o.sub (List.getElem_mem hlt);generalize hcur:Zc5 (ZaS x.fields) (ZcY x.fields x.kind Ms) (R.take k) V=L at*;go_wp2_with fail;refine (Zli lo lm _ R[k] _ _ _ Ss x.fields Ms L w _ HF.o HBr.o (HM.o.below HBr.o) HSO.o.at HFB.o (HL.o.trans HLv.o.symm) HNA.o h12).mono ?_;rintro e w3 ⟨hb3,hdr⟩;have hz3:=hb3.size;have FS3:=Zab (FSr.o.on hb3);have FO3:=Zab (FOr.o.on hb3);have HS3:=Zab (HSO.o.below hb3);have HT3:Hd (Zad (w.heap.size+3) mid w2 w3):=HT.o.trans (Zad.below hb3)
      have HB3:Hd (Zw_ w w3):=HBr.o.trans (hb3.mono HBr.o.size);clear hb3 g1 gl g2 gl2 ck FSr FRr FOr HOr
      rcases hdr with ⟨nv,hd,rfl⟩ | ⟨hd,rfl⟩
      . have hp:ZaS x.fields R[k] < x.fields.length:=Zcn.2 HIN.o
        have hpL:ZaS x.fields R[k] < L.length:=by have:=HLv.o;have:=HL.o;omega
        have hpV:ZaS x.fields R[k] < V.length:=by have:=HL.o;omega
        have HPI:Hd (Zch x.fields R[k]=ZaS x.fields R[k]):=ZbI hp;have HNX:Hd (Zc5 (ZaS x.fields) (ZcY x.fields x.kind Ms) (R.take (k+1)) V=L.set (ZaS x.fields R[k]) nv):=by unfold Hd;rw [HNEXT.o];exact Zo5 hd
        have HNS:Hd (nv.size<=maxLen):=ZjG HM.o.sizes HS3.o.at.sizes hd;have hLl:L.length<=6:=by have:=HLv.o;omega
        clear hd HNEXT;obtain⟨vb,vo,rfl,hVL,hvb,hv1,hv2,hvc,hvf⟩:=HS3.o.full (by omega);clear hVL;have ck3:=hvc _ hpL;have fz3:=hvf (ZaS x.fields R[k]);have g1:=FS3.o.cell;have gl:=FS3.o.lt;have g2:=FO3.o.cell;have gl2:=FO3.o.lt;clear hvc hvf;generalize hpp:ZaS x.fields R[k]=p at*;go_wp2
        go_region_with (go_at_call 273
                        refine (Zfc lo _ _ x.fields R[k] _ (HF.o.below (HB3.o.drew))).mono ?_;rintro e w4 ⟨rfl,hb4⟩;rw [HPI.o];have hb4':=ZlI hb4;have g3:∀ i,w4.cell? ⟨w1.heap.size,i,none⟩=(#[.string kind,.string nm,.string team,.slice (some ⟨vb,vo,none⟩) V.length cap2,.bool en,.slice a3 Ho.length cap3,.int .i64 ver]:Array Value)[i]?:=(FO3.o.on hb4').cell
                        have ck4:w4.cell? ⟨vb,vo+p,none⟩=some (.string L[p]):=(hb4'.cell (p:=⟨vb,vo+p,none⟩) hvb).trans ck3;have fz4:w4.frozen? ⟨vb,vo+p,none⟩=false:=(hb4'.frozen (p:=⟨vb,vo+p,none⟩) hvb).trans fz3;have HS4:=Zab (HS3.o.below hb4');have HT4:Hd (Zad (w.heap.size+3) mid w2 w4):=HT3.o.trans (Zad.below hb4');clear hb4 hb4')
        all_goals
         go_wp2;go_roundw
         . exact⟨k+1,by go_num,by omega,by rw [HNX.o];exact HS4.o.put hpL HNS.o,HT4.o.trans (Zad.setCell _ _ _ _ _ ⟨hv1,hv2⟩)⟩
         . simp [intOf];omega
      . have HNX:Hd (Zc5 (ZaS x.fields) (ZcY x.fields x.kind Ms) (R.take (k+1)) V=L):=by unfold Hd;rw [HNEXT.o];exact Zo4 hd
        clear hd;go_wp2;go_roundw
        . exact⟨k+1,by go_num,by omega,by rw [HNX.o];exact HS3.o,HT3.o⟩
        . simp [intOf];omega
    . have e:k=R.length:=by omega
      subst e;have HE:Hd (R.take R.length=R):=List.take_length;have g2:=FOr.o.cell;have gl2:=FOr.o.lt;have HS2r:=Zab (HS2.o.touch HT.o (Or.inr Zl_));have rr:=FRr.o.cell;have rf:=FRr.o.free;have rl:=FRr.o.lt;have r0:wr.cell? ⟨w.heap.size+1+1,0,none⟩=some (.string ⟨#[]⟩):=rr 0;have r1:wr.cell? ⟨w.heap.size+1+1,1,none⟩=some (.string ⟨#[]⟩):=rr 1;have r2:wr.cell? ⟨w.heap.size+1+1,2,none⟩=some (.string ⟨#[]⟩):=rr 2;have r3:wr.cell? ⟨w.heap.size+1+1,3,none⟩=some (.slice none 0 0):=rr 3;have r4:wr.cell? ⟨w.heap.size+1+1,4,none⟩=some (.bool false):=rr 4;have r5:wr.cell? ⟨w.heap.size+1+1,5,none⟩=some (.slice none 0 0):=rr 5;have r6:wr.cell? ⟨w.heap.size+1+1,6,none⟩=some (.int .i64 0):=rr 6;clear rr;go_wp2
      refine bodyPost_ret (v:=.agg #[.string kind,.string nm,.string team,.slice a2 V.length cap2,.bool en,.slice a3 Ho.length cap3,.int .i64 ver]) (by simp [results,results278,go_sem,r0,r1,r2,r3,r4,r5,r6]) rfl ⟨_,_,_,rfl,?_,⟨mid,?_,?_,?_,?_⟩,by rw [<- HE.o] at HFIX;exact HFIX.o⟩
      . repeat (refine Below.setCell ?_ (by dsimp;omega) _)
        exact HBr.o
      . omega
      . simp only [World.setCell,Array.size_modify];omega
      . refine Zae.wide (lo:=w.heap.size+3) (hi:=mid) ?_ (by omega) Zl_
        repeat (refine Zae.setCell ?_ (by dsimp;omega) _)
        exact HSO.o
      . refine Zae.wide (lo:=mid) (hi:=w1.heap.size) ?_ Zl_ (by simp only [World.setCell,Array.size_modify];omega)
        repeat (refine Zae.setCell ?_ (by dsimp;omega) _)
        exact HS2r.o
 . rw [HROW.o] at hno;cases hno
end
def ZcF (Ss:List Sh) (Ms:List Md) (kind:Zy_) (V F:List Zy_):Prop:=
 (∃ x,Zay Ss Ms=true/\Zcz Ss kind=some x/\x.fields.length=V.length/\ZpY x Ms (ZeL V x.fields) F)\/
 ((Zay Ss Ms=false\/∀ x,Zcz Ss kind=some x->x.fields.length≠V.length)/\F=V)
theorem ZcF.unique {Ss:List Sh}{Ms:List Md}{kind:Zy_}{V F G:List Zy_} (h1:ZcF Ss Ms kind V F) (h2:ZcF Ss Ms kind V G):F=G:=by
 rcases h1 with ⟨x,a1,a2,a3,a4⟩ | ⟨a1,a2⟩
 . rcases h2 with ⟨y,b1,b2,b3,b4⟩ | ⟨b1,b2⟩
   . rw [a2] at b2;cases b2
     exact ZpY.unique a1 (Zcv a2).1 a4 b4
   . rcases b1 with b1 | b1
     . rw [a1] at b1;cases b1
     . exact absurd a3 (b1 x a2)
 . rcases h2 with ⟨y,b1,b2,b3,b4⟩ | ⟨b1,b2⟩
   . rcases a1 with a1 | a1
     . rw [b1] at a1;cases a1
     . exact absurd b3 (a1 y b2)
   . rw [a2,b2]
section
variable (kind nm team:Zy_) (vv hv sv mv fv:Value) (en:Bool) (ver:Int) (V Ho:List Zy_) (Ss:List Sh) (Ms:List Md) (x:Sh) (k0:Zy_) (w:World) (lo lm:Nat)
theorem Zkp (hV:Zag w vv V) (hH:Zag w hv Ho) (hF:Zav lo w fv x.fields) (hM:Zbg lm w mv Ms) (hmb:Zay Ss Ms=true) (hx:Zcz Ss k0=some x) (hl:x.fields.length=V.length) (n2:Ho.length<=1048576) :
 Calls prog 265 #[.agg #[.string x.kind,fv],mv,.agg #[.string kind,.string nm,.string team,vv,.bool en,hv,.int .i64 ver]] w
  fun e w'=>∃ v' h' F,e=.returned (.agg #[.string kind,.string nm,.string team,v',.bool en,h',.int .i64 ver])/\Zw_ w w'/\Zep w.heap.size w' v' h' F Ho/\ZpY x Ms (ZeL V x.fields) F:=by
 have HV:=Zab hV;have HH:=Zab hH;have HF:=Zab hF;have HM:=Zab hM;have HMB:=Zab hmb;have HX:=Zab hx;have h6:x.fields.length<=6:=Zdc (ZbZ (Zc4 hmb) (Zcv hx).1);have n1:V.length<=6:=by omega
 obtain⟨a,cap,rfl⟩:=hV.form';obtain⟨a',cap',rfl⟩:=hH.form';obtain⟨a1,cap1,rfl⟩:=hF.form;obtain⟨ma,mcap,rfl⟩:=hM.form;have HL:=Zab hl;have HFL:Hd (x.fields.length=(ZeL V x.fields).length):=by unfold Hd;rw [Zeu hl];exact hl
 clear hV hH hF hM hl hmb hx;go_enter func265,ntmps265;go_wp2;generalize hWa:w.alloc _=Wa;have hza:Wa.heap.size=w.heap.size+1:=by rw [<- hWa];simp
 have HBa:Hd (Zw_ w Wa):=by rw [<- hWa];exact Zac _ _
 have FS:Hd (Box Wa w.heap.size #[.string x.kind,.slice a1 x.fields.length cap1]):=by rw [<- hWa];exact Box.new _ _ _ _ rfl
 clear hWa;generalize hWb:Wa.alloc _=Wb;have hzb:Wb.heap.size=w.heap.size+1+1:=by rw [<- hWb];simp [hza]
 have hbb:Below Wa.heap.size Wa Wb:=by rw [<- hWb];exact Zac _ _
 have HBb:Hd (Zw_ w Wb):=HBa.o.trans (hbb.mono (by omega));have FS:=Zab (FS.o.on hbb);have FO:Hd (Box Wb (w.heap.size+1) #[.string kind,.string nm,.string team,.slice a V.length cap,.bool en,.slice a' Ho.length cap',.int .i64 ver]):=by rw [<- hWb];exact Box.new _ _ _ _ hza
 clear hWb hbb HBa;generalize hWc:Wb.alloc _=Wc;have hzc:Wc.heap.size=w.heap.size+3:=by rw [<- hWc];simp [hzb]
 have hbc:Below Wb.heap.size Wb Wc:=by rw [<- hWc];exact Zac _ _
 have HBc:Hd (Zw_ w Wc):=HBb.o.trans (hbc.mono (by omega));have FS:=Zab (FS.o.on hbc);have FO:=Zab (FO.o.on hbc);have FR:Hd (Box Wc (w.heap.size+1+1) #[.string ⟨#[]⟩,.string ⟨#[]⟩,.string ⟨#[]⟩,.slice none 0 0,.bool false,.slice none 0 0,.int .i64 0]):=by rw [<- hWc];exact Box.new _ _ _ _ hzb
 clear hWc hbc HBb hza hzb;have g1:=FS.o.cell;have gl:=FS.o.lt;have g2:=FO.o.cell;have gl2:=FO.o.lt
 go_region_with (first
  | (go_at_call 279
     refine (ZkH _ _ _ _ _ _ _ _ _ V Ho x.fields _ lo (HV.o.below (HBc.o.drew)) (HH.o.below (HBc.o.drew)) (HF.o.below (HBc.o.drew)) (by omega) n2 HL.o).mono ?_;rintro e w1 ⟨v1,h1,rfl,hb1,mid1,hlo1,hmi1,hs1,hs2⟩;obtain⟨a2,cap2,rfl⟩:=hs1.form;obtain⟨a3,cap3,rfl⟩:=hs2.form;have hb1':=ZlI hb1;have HB1:Hd (Zw_ w w1):=HBc.o.trans (hb1'.mono HBc.o.size);have g3:∀ i,w1.cell? ⟨w.heap.size,i,none⟩=(#[.string x.kind,.slice a1 x.fields.length cap1]:Array Value)[i]?:=(FS.o.on hb1').cell
     have gl3:w.heap.size < w1.heap.size:=(FS.o.on hb1').lt
     have FR1:=Zab (FR.o.on hb1');have HV1:=Zab hs1.at;have HH1:=Zab hs2.at;clear hb1 hb1' hs1 hs2 hlo1 hmi1)
  | (go_at_call 278
     refine (Zlv _ _ _ _ _ _ _ _ _ (ZeL V x.fields) Ho Ss Ms x k0 _ lo lm HV1.o HH1.o (HF.o.below HB1.o) (HM.o.below HB1.o) HMB.o HX.o HFL.o n2).mono ?_;rintro e w2 ⟨v2,h2,F,rfl,hb2,⟨mid2,hlo2,hmi2,hs3,hs4⟩,hfix⟩;obtain⟨a4,cap4,rfl⟩:=hs3.form;obtain⟨a5,cap5,rfl⟩:=hs4.form;have HB2:Hd (Zw_ w w2):=HB1.o.trans (hb2.mono HB1.o.size);have hz2:=hb2.size;have FR2:=Zab (FR1.o.on hb2);have hb12:w.heap.size+3<=w1.heap.size:=by have:=FR1.o.lt;omega
     have HV2:=Zab hs3;have HH2:=Zab hs4;have HFIX:=Zab hfix;have rr:=FR2.o.cell;have rf:=FR2.o.free;have rl:=FR2.o.lt;have r0:w2.cell? ⟨w.heap.size+1+1,0,none⟩=some (.string ⟨#[]⟩):=rr 0;have r1:w2.cell? ⟨w.heap.size+1+1,1,none⟩=some (.string ⟨#[]⟩):=rr 1;have r2:w2.cell? ⟨w.heap.size+1+1,2,none⟩=some (.string ⟨#[]⟩):=rr 2;have r3:w2.cell? ⟨w.heap.size+1+1,3,none⟩=some (.slice none 0 0):=rr 3;have r4:w2.cell? ⟨w.heap.size+1+1,4,none⟩=some (.bool false):=rr 4;have r5:w2.cell? ⟨w.heap.size+1+1,5,none⟩=some (.slice none 0 0):=rr 5;have r6:w2.cell? ⟨w.heap.size+1+1,6,none⟩=some (.int .i64 0):=rr 6;clear rr;clear hb2 hs3 hs4 hfix))
 all_goals
  go_wp2;refine bodyPost_ret (v:=.agg #[.string kind,.string nm,.string team,.slice a4 F.length cap4,.bool en,.slice a5 Ho.length cap5,.int .i64 ver]) (by simp [results,results265,go_sem,r0,r1,r2,r3,r4,r5,r6]) rfl ⟨_,_,F,rfl,?_,⟨mid2,?_,?_,?_,?_⟩,HFIX.o⟩
  . repeat (refine Below.setCell ?_ (by dsimp;omega) _)
    exact HB2.o
  . omega
  . simp only [World.setCell,Array.size_modify];omega
  . refine Zae.wide (lo:=w1.heap.size) (hi:=mid2) ?_ (by omega) Zl_
    repeat (refine Zae.setCell ?_ (by dsimp;omega) _)
    exact HV2.o
  . refine Zae.wide (lo:=mid2) (hi:=w2.heap.size) ?_ Zl_ (by simp only [World.setCell,Array.size_modify];omega)
    repeat (refine Zae.setCell ?_ (by dsimp;omega) _)
    exact HH2.o
end
theorem Zi5 (lo lm:Nat) (kind nm team f:Zy_) (v mv vv hv:Value) (en:Bool) (ver:Int) (Fs:List Fd) (Ms:List Md) (V Ho:List Zy_) (w:World) (hF:Zav lo w v Fs) (hM:Zbg lm w mv Ms) (hV:Zag w vv V) (hH:Zag w hv Ho)
 (h6:Fs.length<=6) (hl:Fs.length=V.length) (hn:ZqR Fs kind Ms) (h12:Ms.length<=12) (hf:f ∈ ZaD Fs) :
 Calls prog 231 #[v,mv,.agg #[.string kind,.string nm,.string team,vv,.bool en,hv,.int .i64 ver],.string f] w fun e w'=>e=.returned (.string ((ZcY Fs kind Ms V f).getD (ZbM Fs V f)))/\Zw_ w w':=by
 have HF:=Zab hF;have HM:=Zab hM;have HVV:=Zab hV;have HN:=Zab hn;have HIN:=Zab hf;obtain⟨fa,fcap,rfl⟩:=hF.form;obtain⟨ma,mcap,rfl⟩:=hM.form;obtain⟨a,cap,rfl⟩:=hV.form';obtain⟨a',cap',rfl⟩:=hH.form';have HL:=Zab hl;have n1:V.length<=6:=by omega
 clear hF hM hV hH hn hf hl;have hpf:ZaS Fs f < Fs.length:=Zcn.2 HIN.o
 have hpfv:ZaS Fs f < V.length:=by have:=HL.o;omega
 obtain⟨vb,vo,rfl,hvb,hvc0⟩:=HVV.o.full' (by omega);go_enter func231,ntmps231;go_wp2;generalize hWa:w.alloc _=Wa;have hza:Wa.heap.size=w.heap.size+1:=by rw [<- hWa];simp
 have HBa:Hd (Zw_ w Wa):=by rw [<- hWa];exact Zac _ _
 have FO:Hd (Box Wa w.heap.size #[.string kind,.string nm,.string team,.slice (some ⟨vb,vo,none⟩) V.length cap,.bool en,.slice a' Ho.length cap',.int .i64 ver]):=by rw [<- hWa];exact Box.new _ _ _ _ rfl
 clear hWa
 go_loopw [9] (fun i wr=>∃ k:Nat,i=.int .i64 k/\k<=Ms.length/\Below Wa.heap.size Wa wr/\∀ i (h:i < Ms.length),i < k->(Zdg kind f Ms[i]&&Zgq Fs V Ms[i])=false) (fun i _=>Ms.length - (intOf i).toNat)
 case atStart=>exact⟨0,rfl,by omega,Below.refl _ _,fun i _ h=>by omega⟩
 case round=>
  obtain⟨k,rfl,hk,hb,hall⟩:=hrel;have HA:=Zab hall;have HB:=Zab hb;have HBw:Hd (Zw_ w wr):=HBa.o.trans (hb.mono (by omega));have FOr:=Zab (FO.o.on hb);clear hall hb;have g1:=FOr.o.cell;have gl:=FOr.o.lt;have hvr:vb < wr.heap.size:=Zk_ hvb HBw.o.size
  have hvc:∀ i (h:i < V.length),wr.cell? ⟨vb,vo+i,none⟩=some (.string V[i]):=fun i h=>by rw [HBw.o.cell (p:=⟨vb,_,none⟩) hvb];exact hvc0 i h
  by_cases hlt:k < Ms.length
  . obtain⟨b,off,rfl,hbw,hc⟩:=HM.o.full' (by omega)
    obtain⟨hsz,hcell⟩:=hc k hlt;obtain⟨c0,c1,c2,c3,c4,c5⟩:=hcell.below HBw.o hbw;clear hcell hc
    have HNX:Hd ((Zdg kind f Ms[k]&&Zgq Fs V Ms[k])=false->∀ i (h:i < Ms.length),i < k+1->(Zdg kind f Ms[i]&&Zgq Fs V Ms[i])=false):=fun h i hi hik=>by
     by_cases e:i=k
     . subst e;exact h
     . exact HA.o i hi (by omega)
    have HFr:∀ o n,Hd (Zav lo ((wr.alloc o).drewN n) (.slice fa Fs.length fcap) Fs):=fun o n=>HF.o.below (below_drewN (HBw.o.alloc HBw.o.size _) _)
    cases hk1:(Ms[k].kind.toList == kind.toList) with
    | false=>
     go_wp2
     go_quiet (fail)
     go_wp2;go_roundw
     . exact⟨k+1,by go_num,by omega,below_drewN (HB.o.alloc HB.o.size _) _,HNX.o (by unfold Zdg;simp [hk1])⟩
     . simp [intOf];omega
    | true=>
     cases hf1:(Ms[k].field.toList == f.toList) with
     | false=>
      go_wp2
      go_quiet (fail)
      go_wp2;go_roundw
      . exact⟨k+1,by go_num,by omega,below_drewN (HB.o.alloc HB.o.size _) _,HNX.o (by unfold Zdg;simp [hf1])⟩
      . simp [intOf];omega
     | true=>
      have HFOR:Hd (Zdg kind f Ms[k]=true):=by unfold Hd Zdg;simp [hk1,hf1]
      have HNM:=Zab (HN.o Ms[k] (List.getElem_mem hlt) (ZaU.1 hk1))
      cases hwe:Ms[k].wh.toList.isEmpty with
      | true=>
       go_wp2
       go_quiet (fail)
       cases hfe:Ms[k].fr.toList.isEmpty with
       | true=>
        have HD:Hd (ZcY Fs kind Ms V f=some (Zct Fs V Ms[k])):=Zef hlt (by rw [HFOR.o];unfold Zgq;simp [hwe,hfe]) HA.o;have HV2:Hd ((ZcY Fs kind Ms V f).getD (ZbM Fs V f)=Ms[k].put):=by unfold Hd;rw [HD.o];unfold Zct;rw [if_pos hfe];rfl
        go_wp2;go_ret;exact⟨by rw [HV2.o];rfl,below_drewN (HBw.o.alloc HBw.o.size _) _⟩
       | false=>
        have hp2:ZaS Fs Ms[k].fr < Fs.length:=Zcn.2 (by rcases HNM.o.2 with h | h;rw [h] at hfe;cases hfe;exact h)
        have hp2v:ZaS Fs Ms[k].fr < V.length:=by have:=HL.o;omega
        have hpi2:Zch Fs Ms[k].fr=(ZaS Fs Ms[k].fr:Int):=ZbI hp2;have ck2:=hvc _ hp2v;have HVA2:Hd (ZbM Fs V Ms[k].fr=V[ZaS Fs Ms[k].fr]):=by unfold Hd ZbM;rw [List.getElem?_eq_getElem hp2v];rfl
        generalize hpp2:ZaS Fs Ms[k].fr=p2 at*;go_wp2
        go_quiet ((go_at_call 221;exact (Zbl lo _ Fs Ms[k].fr _ (HFr _ _).o).mono fun _ _ h=>⟨h.1,_,h.2⟩))
        cases hve:V[p2].toList.isEmpty with
        | true=>
         go_wp2;go_roundw
         . exact⟨k+1,by go_num,by omega,(by first | exact below_drewN (HB.o.alloc HB.o.size _) _ | exact below_drewN (below_drewN (HB.o.alloc HB.o.size _) _) _),HNX.o (by unfold Zgq;simp [hfe,HVA2.o,hve])⟩
         . simp [intOf];omega
        | false=>
         have HD:Hd (ZcY Fs kind Ms V f=some (Zct Fs V Ms[k])):=Zef hlt (by rw [HFOR.o];unfold Zgq;simp [hwe,hfe,HVA2.o,hve]) HA.o;have HV2:Hd ((ZcY Fs kind Ms V f).getD (ZbM Fs V f)=V[p2]):=by unfold Hd;rw [HD.o];unfold Zct;rw [if_neg (by rw [hfe];simp),HVA2.o];rfl
         go_wp2;go_ret;exact⟨by rw [HV2.o];rfl,by first | exact below_drewN (HBw.o.alloc HBw.o.size _) _ | exact below_drewN (below_drewN (HBw.o.alloc HBw.o.size _) _) _⟩
      | false=>
       have hp1:ZaS Fs Ms[k].wh < Fs.length:=Zcn.2 (by rcases HNM.o.1 with h | h;rw [h] at hwe;cases hwe;exact h)
       have hp1v:ZaS Fs Ms[k].wh < V.length:=by have:=HL.o;omega
       have hpi1:Zch Fs Ms[k].wh=(ZaS Fs Ms[k].wh:Int):=ZbI hp1;have ck1:=hvc _ hp1v;have HVA1:Hd (ZbM Fs V Ms[k].wh=V[ZaS Fs Ms[k].wh]):=by unfold Hd ZbM;rw [List.getElem?_eq_getElem hp1v];rfl
       generalize hpp1:ZaS Fs Ms[k].wh=p1 at*
       cases hvi:(V[p1].toList == Ms[k].is.toList) with
       | false=>
        go_wp2
        go_quiet ((go_at_call 221;exact (Zbl lo _ Fs Ms[k].wh _ (HFr _ _).o).mono fun _ _ h=>⟨h.1,_,h.2⟩))
        go_wp2;go_roundw
        . exact⟨k+1,by go_num,by omega,below_drewN (HB.o.alloc HB.o.size _) _,HNX.o (by unfold Zgq;simp [hwe,HVA1.o,hvi])⟩
        . simp [intOf];omega
       | true=>
        go_wp2
        go_quiet ((go_at_call 221;exact (Zbl lo _ Fs Ms[k].wh _ (HFr _ _).o).mono fun _ _ h=>⟨h.1,_,h.2⟩))
        cases hfe:Ms[k].fr.toList.isEmpty with
        | true=>
         have HD:Hd (ZcY Fs kind Ms V f=some (Zct Fs V Ms[k])):=Zef hlt (by rw [HFOR.o];unfold Zgq;simp [hwe,HVA1.o,hvi,hfe]) HA.o;have HV2:Hd ((ZcY Fs kind Ms V f).getD (ZbM Fs V f)=Ms[k].put):=by unfold Hd;rw [HD.o];unfold Zct;rw [if_pos hfe];rfl
         go_wp2;go_ret;exact⟨by rw [HV2.o];rfl,below_drewN (HBw.o.alloc HBw.o.size _) _⟩
        | false=>
         have hp2:ZaS Fs Ms[k].fr < Fs.length:=Zcn.2 (by rcases HNM.o.2 with h | h;rw [h] at hfe;cases hfe;exact h)
         have hp2v:ZaS Fs Ms[k].fr < V.length:=by have:=HL.o;omega
         have hpi2:Zch Fs Ms[k].fr=(ZaS Fs Ms[k].fr:Int):=ZbI hp2;have ck2:=hvc _ hp2v;have HVA2:Hd (ZbM Fs V Ms[k].fr=V[ZaS Fs Ms[k].fr]):=by unfold Hd ZbM;rw [List.getElem?_eq_getElem hp2v];rfl
         generalize hpp2:ZaS Fs Ms[k].fr=p2 at*;go_wp2
         go_quiet ((go_at_call 221;exact (Zbl lo _ Fs Ms[k].fr _ (HFr _ _).o).mono fun _ _ h=>⟨h.1,_,h.2⟩))
         cases hve:V[p2].toList.isEmpty with
         | true=>
          go_wp2;go_roundw
          . exact⟨k+1,by go_num,by omega,(by first | exact below_drewN (HB.o.alloc HB.o.size _) _ | exact below_drewN (below_drewN (HB.o.alloc HB.o.size _) _) _),HNX.o (by unfold Zgq;simp [hfe,HVA2.o,hve])⟩
          . simp [intOf];omega
         | false=>
          have HD:Hd (ZcY Fs kind Ms V f=some (Zct Fs V Ms[k])):=Zef hlt (by rw [HFOR.o];unfold Zgq;simp [hwe,HVA1.o,hvi,hfe,HVA2.o,hve]) HA.o;have HV2:Hd ((ZcY Fs kind Ms V f).getD (ZbM Fs V f)=V[p2]):=by unfold Hd;rw [HD.o];unfold Zct;rw [if_neg (by rw [hfe];simp),HVA2.o];rfl
          go_wp2;go_ret;exact⟨by rw [HV2.o];rfl,by first | exact below_drewN (HBw.o.alloc HBw.o.size _) _ | exact below_drewN (below_drewN (HBw.o.alloc HBw.o.size _) _) _⟩
  . have HD:Hd (ZcY Fs kind Ms V f=none):=ZkC fun i h=>HA.o i h (by omega)
    have HV2:Hd ((ZcY Fs kind Ms V f).getD (ZbM Fs V f)=V[ZaS Fs f]):=by unfold Hd;rw [HD.o];unfold ZbM;rw [List.getElem?_eq_getElem hpfv];rfl
    have hpi:Zch Fs f=(ZaS Fs f:Int):=ZbI hpf;have ckf:=hvc _ hpfv;have HFr:∀ n,Hd (Zav lo (wr.drewN n) (.slice fa Fs.length fcap) Fs):=fun n=>HF.o.below (below_drewN HBw.o _)
    generalize hppf:ZaS Fs f=pf at*;go_wp2
    go_quiet ((go_at_call 221;exact Calls.quiet_of_same (Zbl lo _ Fs f _ (HFr _).o)))
    go_wp2;go_ret;exact⟨by rw [HV2.o];rfl,below_drewN HBw.o _⟩
theorem Zpp {kind:Zy_}{Ms:List Md}{V:List Zy_}{f:Zy_} (hp:ZaS Fs f < V.length):setp (ZaS Fs) (ZcY Fs kind Ms) V f=V.set (ZaS Fs f) ((ZcY Fs kind Ms V f).getD (ZbM Fs V f)):=by
 unfold setp
 cases h:ZcY Fs kind Ms V f with
 | some v=>rfl
 | none=>
  unfold ZbM;rw [List.getElem?_eq_getElem hp];simp
theorem Zon {kind:Zy_}{Ms:List Md}{V:List Zy_}{f:Zy_} (hm:∀ m ∈ Ms,Zea m) (hv:∀ s ∈ V,s.size<=maxLen) (hp:ZaS Fs f < V.length):((ZcY Fs kind Ms V f).getD (ZbM Fs V f)).size<=maxLen:=by
 cases h:ZcY Fs kind Ms V f with
 | some v=>exact ZjG hm hv h
 | none=>unfold ZbM;rw [List.getElem?_eq_getElem hp];exact hv _ (List.getElem_mem hp)
theorem ZjC (lo:Nat) (v:Value) (Fs:List Fd) (s:Zy_) (w:World) (hv:Zav lo w v Fs) :
 Calls prog 221 #[v,.string s] w fun e w'=>e=.returned (.int .i64 (Zch Fs s))/\Zw_ w w':=
 (Zbl lo v Fs s w hv).mono fun _ _ h=>⟨h.1,by rw [h.2];exact Below.refl _ _⟩
abbrev Zgt (wr:World) (β:Nat) (cs:Array Value) (rb ro:Nat) (s:Zy_) (vb:Nat) (W:World):Prop:=
 (∀ i,W.cell? ⟨β,i,none⟩=cs[i]?)/\W.cell? ⟨rb,ro,none⟩=some (.string s)/\Hd (Below vb wr W/\β < W.heap.size/\rb < W.heap.size/\vb≠β/\vb≠rb)
theorem Zgt.start {ro:Nat}{s:Zy_} (h:Hd (Box wr β cs)) (h1:Hd (wr.cell? ⟨rb,ro,none⟩=some (.string s))) (hr:rb < wr.heap.size) (e1:Hd (vb≠β)) (e2:Hd (vb≠rb)):Zgt wr β cs rb ro s vb wr.drew:=
 ⟨h.o.cell,h1.o,Zb_.drew,h.o.lt,hr,e1.o,e2.o⟩
theorem Zgt.on {ro:Nat}{s:Zy_} (h:Zgt wr β cs rb ro s vb W) (hb:Below W.heap.size W W') (hv:vb<=W.heap.size):Zgt wr β cs rb ro s vb W':=by
 obtain⟨h1,h2,h5,h6,h7,h8,h9⟩:=h;exact⟨fun i=>(hb.cell (p:=⟨β,i,none⟩) h6).trans (h1 i),(hb.cell (p:=⟨rb,ro,none⟩) h7).trans h2,h5.trans (hb.mono hv),Zk_ h6 hb.size,Zk_ h7 hb.size,h8,h9⟩
theorem Zgt.set {ro:Nat}{s:Zy_}{vo:Nat} (h:Zgt wr β cs rb ro s vb W) (u:Value):Zgt wr β cs rb ro s vb (W.setCell ⟨vb,vo,none⟩ u):=by
 obtain⟨h1,h2,h5,h6,h7,h8,h9⟩:=h;exact⟨fun i=>(World.cell?_setCell_far _ _ _ _ h8).trans (h1 i),(World.cell?_setCell_far _ _ _ _ h9).trans h2,h5.setCell Zl_ _,by simpa [World.setCell] using h6,by simpa [World.setCell] using h7,h8,h9⟩
section
variable (kind nm team:Zy_) (vv hv sv mv:Value) (en:Bool) (ver:Int) (V Ho:List Zy_) (Ss:List Sh) (Ms:List Md) (w:World) (lo lm:Nat)
theorem Zkg (hS:ZaR lo w sv Ss) (hM:Zbg lm w mv Ms) (hV:Zag w vv V) (hH:Zag w hv Ho) (n1:V.length<=1048576) (n2:Ho.length<=1048576) (hmb:Zay Ss Ms=true) :
 Calls prog 200 #[sv,mv,.agg #[.string kind,.string nm,.string team,vv,.bool en,hv,.int .i64 ver]] w
  fun e w'=>∃ v' h' F,e=.returned (.agg #[.string kind,.string nm,.string team,v',.bool en,h',.int .i64 ver])/\Zw_ w w'/\Zep w.heap.size w' v' h' F Ho/\Zl9 Ss Ms kind V F:=by
 have HV:=Zab hV;have HH:=Zab hH;have HS:=Zab hS;have HM:=Zab hM;have HMB:=Zab hmb;have h12:Ms.length<=12:=Zfo hmb;obtain⟨a,cap,rfl⟩:=hV.form';obtain⟨a',cap',rfl⟩:=hH.form';obtain⟨a1,cap1,rfl⟩:=hS.form;obtain⟨ma,mcap,rfl⟩:=hM.form;clear hV hH hS hM hmb;go_enter func200,ntmps200;go_wp2_with fail;generalize hWa:w.alloc _=Wa;have hza:Wa.heap.size=w.heap.size+1:=by rw [<- hWa];simp
 have HBa:Hd (Zw_ w Wa):=by rw [<- hWa];exact Zac _ _
 have FI:Hd (Box Wa w.heap.size #[.string kind,.string nm,.string team,.slice a V.length cap,.bool en,.slice a' Ho.length cap',.int .i64 ver]):=by rw [<- hWa];exact Box.new _ _ _ _ rfl
 clear hWa;generalize hWb:Wa.alloc _=Wb;have hzb:Wb.heap.size=w.heap.size+2:=by rw [<- hWb];simp [hza]
 have hbb:Below Wa.heap.size Wa Wb:=by rw [<- hWb];exact Zac _ _
 have HBb:Hd (Zw_ w Wb):=HBa.o.trans (hbb.mono (by omega));have FI:=Zab (FI.o.on hbb);have FR:Hd (Box Wb (w.heap.size+1) #[.string ⟨#[]⟩,.string ⟨#[]⟩,.string ⟨#[]⟩,.slice none 0 0,.bool false,.slice none 0 0,.int .i64 0]):=by rw [<- hWb];exact Box.new _ _ _ _ hza
 clear hWb hbb HBa hza;refine (ZfZ _ _ _ _ _ _ _ V Ho _ (HV.o.below HBb.o) (HH.o.below HBb.o) n1 n2).mono ?_;rintro e w1 ⟨v1,h1,rfl,hb1,mid,hlo,hmid,hs1,hs2⟩;obtain⟨a2,cap2,rfl⟩:=hs1.form;obtain⟨a3,cap3,rfl⟩:=hs2.form;have hz1:=hb1.size;have FI:=Zab (FI.o.on hb1);have FR:=Zab (FR.o.on hb1);have HB1:Hd (Zw_ w w1):=HBb.o.trans (hb1.mono HBb.o.size);have HS1:Hd (Zae (w.heap.size+2) mid w1 (.slice a2 V.length cap2) V):=by rw [<- hzb];exact hs1
 have HS2:=Zab hs2;have hlo':w.heap.size+2<=mid:=by omega
 clear hb1 hs1 hs2 HBb hlo;have g1:=FI.o.cell;have gl:=FI.o.lt;go_wp2_with fail;clear g1 gl;generalize hWd:w1.alloc _=Wd;have hzd:Wd.heap.size=w1.heap.size+1:=by rw [<- hWd];simp
 have hbd:Below w1.heap.size w1 Wd:=by rw [<- hWd];exact Zac _ _
 have HBd:Hd (Zw_ w Wd):=HB1.o.trans (hbd.mono HB1.o.size);have FI:=Zab (FI.o.on hbd);have FR:=Zab (FR.o.on hbd);have FO:Hd (Box Wd w1.heap.size #[.string kind,.string nm,.string team,.slice a2 V.length cap2,.bool en,.slice a3 Ho.length cap3,.int .i64 ver]):=by rw [<- hWd];exact Box.new _ _ _ _ rfl
 have HS1:=Zab (HS1.o.below hbd);have HS2:=Zab (HS2.o.below hbd);clear hWd hbd HB1;refine (ZcK _ _ _ _ _ _ _ _ V Ho Ss _ lo w HS.o HBd.o (HV.o.below HBd.o) (HH.o.below HBd.o)).mono ?_;rintro e w2 ⟨hb2,hlf⟩;have hz2:=hb2.size;have HB2:Hd (Zw_ w w2):=HBd.o.trans (hb2.mono HBd.o.size);have FI:=Zab (FI.o.on hb2);have FR:=Zab (FR.o.on hb2);have FO:=Zab (FO.o.on hb2);have HS1:=Zab (HS1.o.below hb2);have HS2:=Zab (HS2.o.below hb2);clear hb2 HBd
 rcases hlf with ⟨x,fv,hx,hlx,rfl,hfd⟩ | ⟨hno,fa0,fcap0,rfl⟩
 . obtain⟨fa,fcap,rfl⟩:=hfd.form
   have HFD:=Zab hfd;have HX:=Zab hx;have HL:=Zab hlx;have hfb:ZaG Ss x.fields=true:=ZbZ (Zc4 HMB.o) (Zcv hx).1;have h6:x.fields.length<=6:=Zdc hfb;have n6:V.length<=6:=by omega
   have HNA:Hd (ZqR x.fields kind Ms):=by unfold Hd;have:=ZlZ HMB.o hx;rw [(Zcv hx).2] at this;exact this
   have HKX:Hd (x.kind=kind):=(Zcv hx).2;have HRB:Hd (Zbt Ms x=true):=ZeI HMB.o (Zcv hx).1;have hs6:Ss.length<=6:=Zh9 (Zc4 HMB.o);clear hfd hx hlx hfb;have g1:=FI.o.cell;have gl:=FI.o.lt;go_wp2_with fail;refine (Zey lo _ Ss kind _ (HS.o.below HB2.o)).mono ?_;rintro e w2' ⟨rfl,⟨k,hk,rfl,hsh⟩ | ⟨rfl,hsh⟩⟩
   . have HXK:Hd (Ss[k]=x):=by
      have:=HX.o;rw [hsh,List.getElem?_eq_getElem hk] at this;exact Option.some.inj this
     clear hsh;obtain⟨b,off,rfl,hbw,hc⟩:=HS.o.full' (by omega);obtain⟨_,fv',d0,d1,hst⟩:=hc k hk;rw [HXK.o] at d0 hst;obtain⟨fa',fcap',rfl⟩:=hst.form;have HST:=Zab hst;have c0:w2'.cell? ⟨b,off+k*2,none⟩=some (.string x.kind):=by rw [HB2.o.cell (p:=⟨b,_,none⟩) hbw];exact d0
     have c1:w2'.cell? ⟨b,off+k*2+1,none⟩=some (.slice fa' x.fields.length fcap'):=by rw [HB2.o.cell (p:=⟨b,_,none⟩) hbw];exact d1
     clear d0 d1 hst hc;go_wp2_with fail;clear g1 gl c0 c1;refine (ZjL lo lm _ _ x Ms _ (HST.o.below HB2.o) (HM.o.below HB2.o) (by omega)).mono ?_;rintro e w3 ⟨rv,R,rfl,hb3,ho,hro⟩;have hz3:=hb3.size;have HB3:Hd (Zw_ w w3):=HB2.o.trans (hb3.mono HB2.o.size);have FR:=Zab (FR.o.on hb3);have FO:=Zab (FO.o.on hb3);have HS1:=Zab (HS1.o.below hb3);have HS2:=Zab (HS2.o.below hb3);have HO:=Zab ho;obtain⟨ra,rcap,rfl⟩:=ho.form;have HG:Hd (Zc8 (ZaD x.fields) (Zap x.kind Ms) R):=hro.1;have HFIX:Hd (ZpY x Ms V (Zc5 (ZaS x.fields) (ZcY x.fields x.kind Ms) R V)):=Zjh hro.1 (by rw [Zev];have:=hro.2.2.2 HRB.o;omega) HL.o;have hRl:R.length<=6:=Nat.le_trans hro.2.1 h6;clear hb3 ho hro HB2;rw [HKX.o] at HG HFIX;go_wp2
     go_loopw [11] (fun i wr=>∃ j:Nat,i=.int .i64 j/\j<=R.length/\Zae (w.heap.size+2) mid wr (.slice a2 V.length cap2) (Zc5 (ZaS x.fields) (ZcY x.fields kind Ms) (R.take j) V)/\Zad (w.heap.size+2) mid w3 wr) (fun i _=>R.length - (intOf i).toNat)
     case atStart=>exact⟨0,rfl,by omega,HS1.o,Zad.refl _ _ _⟩
     case round=>
      obtain⟨j,rfl,hj,hso,ht⟩:=hrel;have HSO:=Zab hso;have HT:=Zab ht;have hzr:=ht.size;have HBr:Hd (Zw_ w wr):=HB3.o.trans ((ht.under (by omega)).mono (by omega));have FRr:=Zab (FR.o.touch ht (by omega));have FOr:=Zab (FO.o.touch ht (by omega));have HOr:=Zab (HO.o.touch ht (by omega));clear hso ht HS1
      by_cases hlt:j < R.length
      . obtain⟨rb,ro,rfl,hrb,hrc⟩:=HOr.o.strs.full' (by omega)
        have ck:=hrc j hlt;clear hrc;have HLv:Hd ((Zc5 (ZaS x.fields) (ZcY x.fields kind Ms) (R.take j) V).length=V.length):=ZgW _ _ _ _;have HNEXT:=Zab (Zif (ZaS x.fields) (ZcY x.fields kind Ms) hlt V);have HIN:Hd (R[j] ∈ ZaD x.fields):=HG.o.sub (List.getElem_mem hlt);generalize hcur:Zc5 (ZaS x.fields) (ZcY x.fields kind Ms) (R.take j) V=L at*;have hp:ZaS x.fields R[j] < x.fields.length:=Zcn.2 HIN.o
        have hpL:ZaS x.fields R[j] < L.length:=by have:=HLv.o;have:=HL.o;omega
        have hpV:ZaS x.fields R[j] < V.length:=by have:=HL.o;omega
        have hpi:Zch x.fields R[j]=(ZaS x.fields R[j]:Int):=ZbI hp;have HNX:Hd (Zc5 (ZaS x.fields) (ZcY x.fields kind Ms) (R.take (j+1)) V=L.set (ZaS x.fields R[j]) ((ZcY x.fields kind Ms L R[j]).getD (ZbM x.fields L R[j]))):=by unfold Hd;rw [HNEXT.o];exact Zpp hpL
        have HNS:Hd (((ZcY x.fields kind Ms L R[j]).getD (ZbM x.fields L R[j])).size<=maxLen):=Zon HM.o.sizes HSO.o.at.sizes hpL;have hLl:L.length<=6:=by have:=HLv.o;omega
        have HSH:=Zab (HS2.o.touch HT.o (Or.inr Zl_));clear HNEXT;obtain⟨vb,vo,rfl,hVL,hvb,hv1,hv2,hvc,hvf⟩:=HSO.o.full (by omega);clear hVL;have ck3:=hvc _ hpL;have fz3:=hvf (ZaS x.fields R[j]);have g1:=FOr.o.cell;have gl:=FOr.o.lt;clear hvc hvf;generalize hpp:ZaS x.fields R[j]=p at*;generalize hdv:(ZcY x.fields kind Ms L R[j]).getD (ZbM x.fields L R[j])=dv at*;have HCK:=Zab ck;have HCK3:=Zab ck3;have HFZ3:=Zab fz3;clear ck ck3 fz3 g1 gl;have HFDr:=Zab (HFD.o.below HBr.o);have HMr:=Zab (HM.o.below HBr.o);have HE1:Hd (vb≠w1.heap.size):=by unfold Hd;omega
        have HE2:Hd (vb≠rb):=by
         have:=HOr.o.row.form (by omega);obtain⟨g,cp,e1,e2,_⟩:=this;injection e1 with e1
         injection e1 with e1
         injection e1 with e1
         unfold Hd;omega
        have hvl:vb<=wr.drew.heap.size:=Nat.le_of_lt hvb;go_wp2
        go_region_held3 (Zgt wr w1.heap.size #[.string kind,.string nm,.string team,.slice (some ⟨vb,vo,none⟩) V.length cap2,.bool en,.slice a3 Ho.length cap3,.int .i64 ver] rb (ro+j) R[j] vb)
         (first
           | (with_reducible exact Zgt.start FOr HCK hrb HE1 HE2)
           | (with_reducible exact Zgt.set (by assumption) _)
           | (with_reducible exact Zgt.on (by assumption) (by assumption) (by assumption)))
         (first
           | (go_at_call 221
              refine (ZjC lo _ x.fields R[j] _ (HFDr.o.below (Zb_.drew))).mono ?_;rintro e w4 ⟨rfl,hb4⟩;rw [hpi];have hq4:Below wr.heap.size wr w4:=ZlI hb4;have HQ4:=Zab hq4;have hvl4:vb<=w4.heap.size:=Nat.le_trans (Nat.le_of_lt hvb) hq4.size;clear hq4)
           | (go_at_call 231
              refine (Zi5 lo lm _ _ _ R[j] _ _ _ _ _ _ x.fields Ms L Ho _ (HFDr.o.below HQ4.o) (HMr.o.below HQ4.o) (HSO.o.at.below HQ4.o) (HSH.o.at.below HQ4.o) h6 (HL.o.trans HLv.o.symm) HNA.o h12 HIN.o).mono ?_;rintro e w5 ⟨rfl,hb5⟩;rw [hdv];have HB5:Hd (Below wr.heap.size wr w5):=HQ4.o.trans (hb5.mono HQ4.o.size);have ck5:w5.cell? ⟨vb,vo+p,none⟩=some (.string L[p]):=(HB5.o.cell (p:=⟨vb,vo+p,none⟩) hvb).trans HCK3.o;have fz5:w5.frozen? ⟨vb,vo+p,none⟩=false:=(HB5.o.frozen (p:=⟨vb,vo+p,none⟩) hvb).trans HFZ3.o))
        all_goals
         go_wp2;go_roundw
         . exact⟨j+1,by go_num,by omega,by rw [HNX.o];exact (HSO.o.below HB5.o).put hpL HNS.o,(HT.o.trans (Zad.below HB5.o)).trans (Zad.setCell _ _ _ _ _ ⟨hv1,hv2⟩)⟩
         . simp [intOf];omega
      . have e:j=R.length:=by omega
        subst e;have HE:Hd (R.take R.length=R):=List.take_length;have g2:=FOr.o.cell;have gl2:=FOr.o.lt;have HS2r:=Zab (HS2.o.touch HT.o (Or.inr Zl_));have HR:Hd (Zl9 Ss Ms kind V (Zc5 (ZaS x.fields) (ZcY x.fields kind Ms) (R.take R.length) V)):=Or.inl ⟨x,HMB.o,HX.o,HL.o,by rw [HE.o];exact HFIX.o⟩;have rr:=FRr.o.cell;have rf:=FRr.o.free;have rl:=FRr.o.lt;have r0:wr.cell? ⟨w.heap.size+1,0,none⟩=some (.string ⟨#[]⟩):=rr 0;have r1:wr.cell? ⟨w.heap.size+1,1,none⟩=some (.string ⟨#[]⟩):=rr 1;have r2:wr.cell? ⟨w.heap.size+1,2,none⟩=some (.string ⟨#[]⟩):=rr 2;have r3:wr.cell? ⟨w.heap.size+1,3,none⟩=some (.slice none 0 0):=rr 3;have r4:wr.cell? ⟨w.heap.size+1,4,none⟩=some (.bool false):=rr 4;have r5:wr.cell? ⟨w.heap.size+1,5,none⟩=some (.slice none 0 0):=rr 5;have r6:wr.cell? ⟨w.heap.size+1,6,none⟩=some (.int .i64 0):=rr 6;clear rr;go_wp2
        refine bodyPost_ret (v:=.agg #[.string kind,.string nm,.string team,.slice a2 V.length cap2,.bool en,.slice a3 Ho.length cap3,.int .i64 ver]) (by simp [results,results200,go_sem,r0,r1,r2,r3,r4,r5,r6]) rfl ⟨_,_,_,rfl,?_,⟨mid,?_,?_,?_,?_⟩,HR.o⟩
        . repeat (refine Below.setCell ?_ (by dsimp;omega) _)
          exact HBr.o
        . omega
        . simp only [World.setCell,Array.size_modify];omega
        . refine Zae.wide (lo:=w.heap.size+2) (hi:=mid) ?_ (by omega) Zl_
          repeat (refine Zae.setCell ?_ (by dsimp;omega) _)
          exact HSO.o
        . refine Zae.wide (lo:=mid) (hi:=w1.heap.size) ?_ Zl_ (by simp only [World.setCell,Array.size_modify];omega)
          repeat (refine Zae.setCell ?_ (by dsimp;omega) _)
          exact HS2r.o
   . rw [hsh] at HX;cases HX.o
 . have HR:Hd (Zl9 Ss Ms kind V V):=Or.inr ⟨Or.inr hno,rfl⟩
   clear hno;have g2:=FO.o.cell;have gl2:=FO.o.lt;have rr:=FR.o.cell;have rf:=FR.o.free;have rl:=FR.o.lt;have r0:w2.cell? ⟨w.heap.size+1,0,none⟩=some (.string ⟨#[]⟩):=rr 0;have r1:w2.cell? ⟨w.heap.size+1,1,none⟩=some (.string ⟨#[]⟩):=rr 1;have r2:w2.cell? ⟨w.heap.size+1,2,none⟩=some (.string ⟨#[]⟩):=rr 2;have r3:w2.cell? ⟨w.heap.size+1,3,none⟩=some (.slice none 0 0):=rr 3;have r4:w2.cell? ⟨w.heap.size+1,4,none⟩=some (.bool false):=rr 4;have r5:w2.cell? ⟨w.heap.size+1,5,none⟩=some (.slice none 0 0):=rr 5;have r6:w2.cell? ⟨w.heap.size+1,6,none⟩=some (.int .i64 0):=rr 6;clear rr;go_wp2;refine bodyPost_ret (v:=.agg #[.string kind,.string nm,.string team,.slice a2 V.length cap2,.bool en,.slice a3 Ho.length cap3,.int .i64 ver]) (by simp [results,results200,go_sem,r0,r1,r2,r3,r4,r5,r6]) rfl ⟨_,_,V,rfl,?_,⟨mid,?_,?_,?_,?_⟩,HR.o⟩
   . repeat (refine Below.setCell ?_ (by dsimp;omega) _)
     exact HB2.o
   . omega
   . simp only [World.setCell,Array.size_modify];omega
   . refine Zae.wide (lo:=w.heap.size+2) (hi:=mid) ?_ (by omega) Zl_
     repeat (refine Zae.setCell ?_ (by dsimp;omega) _)
     exact HS1.o
   . refine Zae.wide (lo:=mid) (hi:=w1.heap.size) ?_ Zl_ (by simp only [World.setCell,Array.size_modify];omega)
     repeat (refine Zae.setCell ?_ (by dsimp;omega) _)
     exact HS2.o
end
theorem Zm7 {Ss:List Sh}{Ms:List Md}{kind:Zy_}{V F:List Zy_} (hm:Zay Ss Ms=true) (h:Zl9 Ss Ms kind (ZgO Ss kind V) F):ZcF Ss Ms kind V F:=by
 by_cases hx:∃ x,Zcz Ss kind=some x/\x.fields.length=V.length
 . obtain⟨x,h1,h2⟩:=hx
   rw [ZgS h1 h2] at h
   rcases h with ⟨y,a1,a2,a3,a4⟩ | ⟨a1,a2⟩
   . rw [h1] at a2;cases a2
     exact Or.inl ⟨x,a1,h1,h2,a4⟩
   . rcases a1 with a1 | a1
     . rw [hm] at a1;cases a1
     . exact absurd (by rw [Zeu h2];exact h2) (a1 x h1)
 . have hno:∀ x,Zcz Ss kind=some x->x.fields.length≠V.length:=fun x h1 h2=>hx ⟨x,h1,h2⟩
   rw [ZiL hno] at h
   rcases h with ⟨y,a1,a2,a3,a4⟩ | ⟨a1,a2⟩
   . exact absurd a3 (hno y a2)
   . exact Or.inr ⟨a1,a2⟩
theorem Zow (Ss:List Sh) (kind:Zy_) (V:List Zy_):(ZgO Ss kind V).length=V.length:=by
 by_cases hx:∃ x,Zcz Ss kind=some x/\x.fields.length=V.length
 . obtain⟨x,h1,h2⟩:=hx
   rw [ZgS h1 h2,Zeu h2]
 . rw [ZiL fun x h1 h2=>hx ⟨x,h1,h2⟩]
section
variable (kind nm team:Zy_) (vv hv sv mv:Value) (en:Bool) (ver:Int) (V Ho:List Zy_) (Ss:List Sh) (Ms:List Md) (w:World) (lo lm:Nat)
theorem Zj8 (hS:ZaR lo w sv Ss) (hM:Zbg lm w mv Ms) (hV:Zag w vv V) (hH:Zag w hv Ho) (n1:V.length<=1048576) (n2:Ho.length<=1048576) (hmb:Zay Ss Ms=true) :
 Calls prog 155 #[sv,mv,.agg #[.string kind,.string nm,.string team,vv,.bool en,hv,.int .i64 ver]] w
  fun e w'=>∃ v' h' F,e=.returned (.agg #[.string kind,.string nm,.string team,v',.bool en,h',.int .i64 ver])/\Zw_ w w'/\Zep w.heap.size w' v' h' F Ho/\ZcF Ss Ms kind V F:=by
 have HV:=Zab hV;have HH:=Zab hH;have HS:=Zab hS;have HM:=Zab hM;obtain⟨a,cap,rfl⟩:=hV.form';obtain⟨a',cap',rfl⟩:=hH.form';obtain⟨a1,cap1,rfl⟩:=hS.form;obtain⟨ma,mcap,rfl⟩:=hM.form;clear hV hH hS hM;go_enter func155,ntmps155;go_wp2_with fail;generalize hWa:w.alloc _=Wa;have hza:Wa.heap.size=w.heap.size+1:=by rw [<- hWa];simp
 have HBa:Hd (Zw_ w Wa):=by rw [<- hWa];exact Zac _ _
 have FO:Hd (Box Wa w.heap.size #[.string kind,.string nm,.string team,.slice a V.length cap,.bool en,.slice a' Ho.length cap',.int .i64 ver]):=by rw [<- hWa];exact Box.new _ _ _ _ rfl
 clear hWa;generalize hWb:Wa.alloc _=Wb;have hzb:Wb.heap.size=w.heap.size+2:=by rw [<- hWb];simp [hza]
 have hbb:Below Wa.heap.size Wa Wb:=by rw [<- hWb];exact Zac _ _
 have HBb:Hd (Zw_ w Wb):=HBa.o.trans (hbb.mono (by omega));have FO:=Zab (FO.o.on hbb);have FR:Hd (Box Wb (w.heap.size+1) #[.string ⟨#[]⟩,.string ⟨#[]⟩,.string ⟨#[]⟩,.slice none 0 0,.bool false,.slice none 0 0,.int .i64 0]):=by rw [<- hWb];exact Box.new _ _ _ _ hza
 clear hWb hbb HBa hza;refine (Zng _ _ _ _ _ _ _ _ V Ho Ss _ lo (HS.o.below HBb.o) (HV.o.below HBb.o) (HH.o.below HBb.o) n1 n2).mono ?_;rintro e w1 ⟨v1,h1,rfl,hb1,mid1,hlo1,hmi1,hs1,hs2⟩;obtain⟨a2,cap2,rfl⟩:=hs1.form;obtain⟨a3,cap3,rfl⟩:=hs2.form;have FR:=Zab (FR.o.on hb1);have HB1:Hd (Zw_ w w1):=HBb.o.trans (hb1.mono HBb.o.size);have hz1:=hb1.size;have HV1:=Zab hs1.at;have HH1:=Zab hs2.at;have HMB:=Zab hmb;have nf:(ZgO Ss kind V).length<=1048576:=by rw [Zow];exact n1
 clear hb1 HBb hs1 hs2 hlo1 hmi1 FO hmb;go_wp2_with fail;refine (Zkg _ _ _ _ _ _ _ _ _ (ZgO Ss kind V) Ho Ss Ms _ lo lm (HS.o.below HB1.o) (HM.o.below HB1.o) HV1.o HH1.o nf n2 HMB.o).mono ?_;rintro e w2 ⟨v2,h2,F,rfl,hb2,⟨mid2,hlo2,hmi2,hs3,hs4⟩,hfix⟩;have HR:=Zab (Zm7 HMB.o hfix);clear hfix;have HB2:Hd (Zw_ w w2):=HB1.o.trans (hb2.mono HB1.o.size);have hz2:=hb2.size;have FR2:=Zab (FR.o.on hb2);obtain⟨a4,cap4,rfl⟩:=hs3.form;obtain⟨a5,cap5,rfl⟩:=hs4.form;have HV2:=Zab hs3;have HH2:=Zab hs4;clear hb2 hs3 hs4;have rr:=FR2.o.cell;have rf:=FR2.o.free;have rl:=FR2.o.lt;have r0:w2.cell? ⟨w.heap.size+1,0,none⟩=some (.string ⟨#[]⟩):=rr 0;have r1:w2.cell? ⟨w.heap.size+1,1,none⟩=some (.string ⟨#[]⟩):=rr 1;have r2:w2.cell? ⟨w.heap.size+1,2,none⟩=some (.string ⟨#[]⟩):=rr 2
 have r3:w2.cell? ⟨w.heap.size+1,3,none⟩=some (.slice none 0 0):=rr 3;have r4:w2.cell? ⟨w.heap.size+1,4,none⟩=some (.bool false):=rr 4;have r5:w2.cell? ⟨w.heap.size+1,5,none⟩=some (.slice none 0 0):=rr 5;have r6:w2.cell? ⟨w.heap.size+1,6,none⟩=some (.int .i64 0):=rr 6;clear rr;go_wp2;refine bodyPost_ret (v:=.agg #[.string kind,.string nm,.string team,.slice a4 F.length cap4,.bool en,.slice a5 Ho.length cap5,.int .i64 ver]) (by simp [results,results155,go_sem,r0,r1,r2,r3,r4,r5,r6]) rfl ⟨_,_,F,rfl,?_,⟨mid2,?_,?_,?_,?_⟩,HR.o⟩
 . repeat (refine Below.setCell ?_ (by dsimp;omega) _)
   exact HB2.o
 . omega
 . simp only [World.setCell,Array.size_modify];omega
 . refine Zae.wide (lo:=w1.heap.size) (hi:=mid2) ?_ (by omega) Zl_
   repeat (refine Zae.setCell ?_ (by dsimp;omega) _)
   exact HV2.o
 . refine Zae.wide (lo:=mid2) (hi:=w2.heap.size) ?_ Zl_ (by simp only [World.setCell,Array.size_modify];omega)
   repeat (refine Zae.setCell ?_ (by dsimp;omega) _)
   exact HH2.o
end
theorem ZcF.exists (Ss:List Sh) (Ms:List Md) (kind:Zy_) (V:List Zy_):∃ F,ZcF Ss Ms kind V F:=by
 by_cases hm:Zay Ss Ms=true
 . by_cases hx:∃ x,Zcz Ss kind=some x/\x.fields.length=V.length
   . obtain⟨x,h1,h2⟩:=hx
     obtain⟨R,hg,hl⟩:=Zjr (ZeI hm (Zcv h1).1);exact⟨_,Or.inl ⟨x,hm,h1,h2,Zjh hg hl (by rw [Zeu h2];exact h2)⟩⟩
   . exact⟨V,Or.inr ⟨Or.inr fun x h1 h2=>hx ⟨x,h1,h2⟩,rfl⟩⟩
 . exact⟨V,Or.inr ⟨Or.inl (by simpa using hm),rfl⟩⟩
end Go.Proofs.YtfohnageehneoaaGreat
