import Derived.Test.YtmappejlmapboaaGreatV32
import Derived.WalkMore
set_option maxHeartbeats 16000000
set_option maxRecDepth 100000
open Go.Proofs.Tryz
namespace Go.Proofs.YtmappejlmapboaaGreat
open Go.RowKit Go.Deep
theorem Zaf.full' {w:World}{a:Option Addr}{n cap:Nat}{L:List Zy_} (h:Zaf w (.slice a n cap) L) (hL:0 < L.length) :
 ∃ b off,a=some ⟨b,off,none⟩/\b < w.heap.size/\∀ i (h:i < L.length),w.cell? ⟨b,off+i,none⟩=some (.string L[i]):=by
 rcases h with ⟨a',cap',h,rfl⟩ | ⟨b',off',cap',h1,h2,h3,h4,h5,h6⟩
 . simp at hL
 . injection h1 with e1 e2 e3
   exact⟨b',off',e1,h4,h5⟩
theorem ZnG (lo:Nat) (kind:Zy_) (v vv:Value) (Fs:List Fd) (m:Md) (V:List Zy_) (w0 w:World) (hv:Zau lo w0 v Fs) (h0:Below w0.heap.size w0 w) (hV:Zaf w vv V) (hl:Fs.length=V.length) (h6:Fs.length<=6) (hr:m.fr.toList.isEmpty=true\/m.fr ∈ ZaA Fs) :
 Calls prog 299 #[.agg #[.string kind,v],.agg #[.string m.kind,.string m.field,.string m.wh,.string m.is,.string m.put,.string m.fr],vv] w fun e w'=>e=.returned (.string (Zcf Fs V m))/\Zw_ w w':=by
 have HV:=Zab hv;have H0:=Zab h0;have HVV:=Zab hV;obtain⟨a,cap,rfl⟩:=hv.form;obtain⟨va,vcap,rfl⟩:=hV.form';have HL:=Zab hl;clear hv h0 hV hl;have HW:∀ o o',Hd (Zw_ w ((w.alloc o).alloc o')):=fun o o'=>(Zb_.alloc Zl_ _).alloc (by simp) _
 cases hfe:m.fr.toList.isEmpty with
 | true=>
  have HQ:Hd (Zcf Fs V m=m.put):=by unfold Hd Zcf;rw [if_pos hfe]
  go_enter func299,ntmps299;go_wp2;go_ret;exact⟨by rw [HQ.o];rfl,(HW _ _).o⟩
 | false=>
  have hp:ZaN Fs m.fr < Fs.length:=Zb4.2 (by rcases hr with h | h;rw [h] at hfe;cases hfe;exact h)
  have hpv:ZaN Fs m.fr < V.length:=by have:=HL.o;omega
  have HQ:Hd (Zcf Fs V m=V[ZaN Fs m.fr]):=by unfold Hd Zcf ZbD;rw [if_neg (by rw [hfe];simp),List.getElem?_eq_getElem hpv];rfl
  have HP:Hd (ZbW Fs m.fr=ZaN Fs m.fr):=ZbB hp;obtain⟨b,off,rfl,hbw,hc⟩:=HVV.o.full' (by omega);have h6':V.length<=6:=by have:=HL.o;omega
  have ck:=hc _ hpv;clear hc;go_enter func299,ntmps299;go_wp2_with fail;refine (ZeR lo _ _ Fs m.fr _ (HV.o.below (H0.o.trans ((HW _ _).o.mono H0.o.size)))).mono ?_;rintro e w1 ⟨rfl,hb1⟩;have HB1:Hd (Zw_ w w1):=(HW _ _).o.trans (hb1.mono (by simp;omega));have ck1:w1.cell? ⟨b,off+ZaN Fs m.fr,none⟩=some (.string V[ZaN Fs m.fr]):=by rw [HB1.o.cell (p:=⟨b,_,none⟩) hbw];exact ck
  rw [HP.o];clear hb1 ck HP;generalize ZaN Fs m.fr=p at*;go_wp2;go_ret;exact⟨by rw [HQ.o];rfl,HB1.o⟩
def Zsn (Fs:List Fd) (kind:Zy_) (Ms:List Md) (V:List Zy_) (f:Zy_) (e:Ending):Prop:=
 (∃ v,ZcB Fs kind Ms V f=some v/\e=.returned (.tuple #[.string v,.bool true]))\/(ZcB Fs kind Ms V f=none/\e=.returned (.tuple #[.string ⟨#[]⟩,.bool false]))
def ZoY (Fs:List Fd) (kind:Zy_) (Ms:List Md):Prop:=∀ m ∈ Ms,m.kind=kind->(m.wh.toList.isEmpty=true\/m.wh ∈ ZaA Fs)/\(m.fr.toList.isEmpty=true\/m.fr ∈ ZaA Fs)
theorem Zj3 (lo lm:Nat) (kind f:Zy_) (v mv vv:Value) (Ss:List Sh) (Fs:List Fd) (Ms:List Md) (V:List Zy_) (w0 w:World) (hv:Zau lo w0 v Fs) (h0:Below w0.heap.size w0 w) (hM:Za7 lm w mv Ms) (hV:Zaf w vv V)
 (hfb:Zaz Ss Fs=true) (hl:Fs.length=V.length) (hn:ZoY Fs kind Ms) (h12:Ms.length<=12) :
 Calls prog 292 #[.agg #[.string kind,v],mv,vv,.string f] w fun e w'=>Zw_ w w'/\Zsn Fs kind Ms V f e:=by
 have HV:=Zab hv;have H0:=Zab h0;have HM:=Zab hM;have HVV:=Zab hV;have HFB:=Zab hfb;have HN:=Zab hn;have h6:Fs.length<=6:=ZcL hfb;obtain⟨a,cap,rfl⟩:=hv.form;obtain⟨ma,mcap,rfl⟩:=hM.form;obtain⟨va,vcap,rfl⟩:=hV.form';have HL:=Zab hl;have h6':V.length<=6:=by omega
 clear hv h0 hM hV hfb hn hl;go_enter func292,ntmps292;go_wp2
 go_step3
 go_wp2
 go_step3
 go_wp2;generalize hWa:w.alloc _=Wa;have hza:Wa.heap.size=w.heap.size+1:=by rw [<- hWa];simp
 have HBa:Hd (Zw_ w Wa):=by rw [<- hWa];exact Zac _ _
 have FS:Hd (Box Wa w.heap.size #[.string kind,.slice a Fs.length cap]):=by rw [<- hWa];exact Box.new _ _ _ _ rfl
 clear hWa
 go_loopw [16] (fun i wr=>∃ k:Nat,i=.int .i64 k/\k<=Ms.length/\Below Wa.heap.size Wa wr/\∀ i (h:i < Ms.length),i < k->(ZcQ kind f Ms[i]&&Zge Fs V Ms[i])=false) (fun i _=>Ms.length - (intOf i).toNat)
 case atStart=>exact⟨0,rfl,by omega,Below.refl _ _,fun i _ h=>by omega⟩
 case round=>
  obtain⟨k,rfl,hk,hb,hall⟩:=hrel;have HA:=Zab hall;have HB:=Zab hb;have HBw:Hd (Zw_ w wr):=HBa.o.trans (hb.mono (by omega));have FSr:=Zab (FS.o.on hb);clear hall hb
  by_cases hlt:k < Ms.length
  . obtain⟨b,off,rfl,hbw,hc⟩:=HM.o.full' (by omega)
    obtain⟨hsz,hcell⟩:=hc k hlt;obtain⟨c0,c1,c2,c3,c4,c5⟩:=hcell.below HBw.o hbw;have g1:=FSr.o.cell;have gl:=FSr.o.lt;clear hcell hc
    have HNX:Hd ((ZcQ kind f Ms[k]&&Zge Fs V Ms[k])=false->∀ i (h:i < Ms.length),i < k+1->(ZcQ kind f Ms[i]&&Zge Fs V Ms[i])=false):=fun h i hi hik=>by
     by_cases e:i=k
     . subst e;exact h
     . exact HA.o i hi (by omega)
    cases hk1:(Ms[k].kind.toList == kind.toList) with
    | false=>
     go_wp2;go_roundw
     . exact⟨k+1,by go_num,by omega,HB.o.alloc HB.o.size _,HNX.o (by unfold ZcQ;simp [hk1])⟩
     . simp [intOf];omega
    | true=>
     cases hf1:(Ms[k].field.toList == f.toList) with
     | false=>
      go_wp2;go_roundw
      . exact⟨k+1,by go_num,by omega,HB.o.alloc HB.o.size _,HNX.o (by unfold ZcQ;simp [hf1])⟩
      . simp [intOf];omega
     | true=>
      have HFOR:Hd (ZcQ kind f Ms[k]=true):=by unfold Hd ZcQ;simp [hk1,hf1]
      have HNM:=Zab (HN.o Ms[k] (List.getElem_mem hlt) (ZaF.1 hk1));go_wp2;clear c0 c1 c2 c3 c4 c5 g1 gl hk1 hf1;generalize hWm:wr.alloc _=Wm;have hbm:Below wr.heap.size wr Wm:=by rw [<- hWm];exact Zac _ _
      have hzm:Wm.heap.size=wr.heap.size+1:=by rw [<- hWm];simp
      have FM:Hd (Box Wm wr.heap.size #[.string Ms[k].kind,.string Ms[k].field,.string Ms[k].wh,.string Ms[k].is,.string Ms[k].put,.string Ms[k].fr]):=by rw [<- hWm];exact Box.new _ _ _ _ rfl
      have FSm:=Zab (FSr.o.on hbm);have HBm:Hd (Below Wa.heap.size Wa Wm):=HB.o.trans (hbm.mono HB.o.size);have HBmw:Hd (Zw_ w Wm):=HBw.o.trans (hbm.mono HBw.o.size);clear hWm hbm FSr HB HBw
      go_loopw [34] (fun i wr=>∃ p:Nat,i=.int .i64 p/\p<=Fs.length/\Below Wm.heap.size Wm wr/\∀ j (h:j < Fs.length) (h':j < V.length),j < p->ZeY Fs[j].nm V[j] Ms[k]=false) (fun i _=>Fs.length - (intOf i).toNat)
      case atStart=>exact⟨0,rfl,by omega,Below.refl _ _,fun i _ _ h=>by omega⟩
      case round=>
       obtain⟨p,rfl,hp,hbp,hallp⟩:=hrel;have HAP:=Zab hallp;have HBP:=Zab hbp;have FMp:=Zab (FM.o.on hbp);have FSp:=Zab (FSm.o.on hbp);have HBPa:Hd (Below Wa.heap.size Wa wr):=HBm.o.trans (hbp.mono HBm.o.size);have HBPw:Hd (Zw_ w wr):=HBmw.o.trans (hbp.mono HBmw.o.size);clear hallp hbp FM FSm HBm HBmw;have g1:=FSp.o.cell;have gl:=FSp.o.lt;have g2:=FMp.o.cell;have gl2:=FMp.o.lt
       by_cases hpl:p < Fs.length
       . have hpv:p < V.length:=by have:=HL.o;omega
         obtain⟨fb,fo,rfl,hfb,hfc⟩:=HV.o.full' (by omega);obtain⟨_,wv,hfcell,hwd⟩:=hfc p hpl;obtain⟨wa,wn,wcap,rfl⟩:=hwd.form;obtain⟨d0,d1,d2,d3,d4,d5,d6,d7,d8,d9,d10⟩:=hfcell.below (H0.o.trans (HBPw.o.mono H0.o.size)) hfb;have hfr:fb < wr.heap.size:=Zk_ hfb (Nat.le_trans H0.o.size HBPw.o.size)
         obtain⟨vb,vo,rfl,hvb,hvc⟩:=HVV.o.full' (by omega);have ck:wr.cell? ⟨vb,vo+p,none⟩=some (.string V[p]):=by rw [HBPw.o.cell (p:=⟨vb,_,none⟩) hvb];exact hvc p hpv
         have hvr:vb < wr.heap.size:=Zk_ hvb HBPw.o.size
         have HNP:Hd (ZeY Fs[p].nm V[p] Ms[k]=false->∀ j (h:j < Fs.length) (h':j < V.length),j < p+1->ZeY Fs[j].nm V[j] Ms[k]=false):=fun h j hj hj' hjp=>by
          by_cases e:j=p
          . subst e;exact h
          . exact HAP.o j hj hj' (by omega)
         clear hfcell hfc hwd hvc
         cases h1:(Fs[p].nm.toList == Ms[k].wh.toList) with
         | false=>
          cases h3:(Fs[p].nm.toList == Ms[k].fr.toList) with
          | false=>
           go_wp2
           go_quiet (fail)
           go_wp2;go_roundw
           . exact⟨p+1,by go_num,by omega,below_drewN (HBP.o.alloc HBP.o.size _) _,HNP.o (by unfold ZeY;simp [h1,h3])⟩
           . simp [intOf];omega
          | true=>
           cases h4:V[p].toList.isEmpty with
           | true=>
            go_wp2
            go_quiet (fail)
            go_wp2;exact⟨⟨k+1,by go_num,by omega,below_drewN (HBPa.o.alloc HBPa.o.size _) _,HNX.o (by rw [Znm HFB.o hpl hpv (by unfold ZeY;simp [h1,h3,h4])];simp)⟩,by simp [intOf];omega⟩
           | false=>
            go_wp2
            go_quiet (fail)
            go_wp2;go_roundw
            . exact⟨p+1,by go_num,by omega,below_drewN (HBP.o.alloc HBP.o.size _) _,HNP.o (by unfold ZeY;simp [h1,h3,h4])⟩
            . simp [intOf];omega
         | true=>
          cases h2:(V[p].toList == Ms[k].is.toList) with
          | false=>
           go_wp2
           go_quiet (fail)
           go_wp2;exact⟨⟨k+1,by go_num,by omega,below_drewN (HBPa.o.alloc HBPa.o.size _) _,HNX.o (by rw [Znm HFB.o hpl hpv (by unfold ZeY;simp [h1,h2])];simp)⟩,by simp [intOf];omega⟩
          | true=>
           cases h3:(Fs[p].nm.toList == Ms[k].fr.toList) with
           | false=>
            go_wp2
            go_quiet (fail)
            go_wp2;go_roundw
            . exact⟨p+1,by go_num,by omega,below_drewN (HBP.o.alloc HBP.o.size _) _,HNP.o (by unfold ZeY;simp [h1,h2,h3])⟩
            . simp [intOf];omega
           | true=>
            cases h4:V[p].toList.isEmpty with
            | true=>
             go_wp2
             go_quiet (fail)
             go_wp2;exact⟨⟨k+1,by go_num,by omega,below_drewN (HBPa.o.alloc HBPa.o.size _) _,HNX.o (by rw [Znm HFB.o hpl hpv (by unfold ZeY;simp [h1,h2,h3,h4])];simp)⟩,by simp [intOf];omega⟩
            | false=>
             go_wp2
             go_quiet (fail)
             go_wp2;go_roundw
             . exact⟨p+1,by go_num,by omega,below_drewN (HBP.o.alloc HBP.o.size _) _,HNP.o (by unfold ZeY;simp [h1,h2,h3,h4])⟩
             . simp [intOf];omega
       . have HAPP:Hd (Zge Fs V Ms[k]=true):=Zqk HL.o HNM.o.1 HNM.o.2 fun j hj hj'=>HAP.o j hj hj' (by omega)
         have HD:Hd (ZcB Fs kind Ms V f=some (Zcf Fs V Ms[k])):=Zd7 hlt (by rw [HFOR.o,HAPP.o];rfl) HA.o;go_wp2_with fail;clear g1 g2 gl gl2;refine (ZnG lo _ _ _ Fs Ms[k] V w0 _ HV.o (H0.o.trans (HBPw.o.mono H0.o.size)) (HVV.o.below HBPw.o) HL.o h6 HNM.o.2).mono ?_;rintro e w2 ⟨rfl,hb2⟩;have HB2:Hd (Zw_ w w2):=HBPw.o.trans (hb2.mono HBPw.o.size);clear hb2;go_wp2
         try rw [Exit.noGoto_ret]
         refine bodyPost_ret (v:=.tuple #[.string (Zcf Fs V Ms[k]),.bool true]) (by simp [results,results292,go_sem]) rfl ⟨HB2.o,Or.inl ⟨_,HD.o,rfl⟩⟩
  . have HQ:Hd (ZcB Fs kind Ms V f=none):=Zi4 fun i h=>HA.o i h (by omega)
    go_wp2
    try rw [Exit.noGoto_ret]
    refine bodyPost_ret (v:=.tuple #[.string ⟨#[]⟩,.bool false]) (by simp [results,results292,go_sem]) rfl ⟨HBw.o,Or.inr ⟨HQ.o,rfl⟩⟩
end Go.Proofs.YtmappejlmapboaaGreat
