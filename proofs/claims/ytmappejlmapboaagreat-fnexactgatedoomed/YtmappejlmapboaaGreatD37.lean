import Derived.Test.YtmappejlmapboaaGreatD26
import Derived.Test.YtmappejlmapboaaGreatD33
import Derived.WalkMore
set_option maxHeartbeats 16000000
set_option maxRecDepth 100000
open Go.Proofs.Tryz
namespace Go.Proofs.YtmappejlmapboaaGreat
section
open Go.RowKit Go.Deep
theorem Zaf.full' {w:World}{a:Option Addr}{n cap:Nat}{L:List Zy_} (h:Zaf w (.slice a n cap) L) (hL:0 < L.length) :
 ∃ b off,a=some ⟨b,off,none⟩/\b < w.heap.size/\∀ i (h:i < L.length),w.cell? ⟨b,off+i,none⟩=some (.string L[i]):=by
 rcases h with ⟨a',cap',h,rfl⟩ | ⟨b',off',cap',h1,h2,h3,h4,h5,h6⟩
 . simp at hL
 . injection h1 with e1 e2 e3
   exact⟨b',off',e1,h4,h5⟩
theorem Zqi (lo:Nat) (kind:Zy_) (v vv:Value) (Fs:List Fd) (m:Md) (V:List Zy_) (w0 w:World) (hv:Zau lo w0 v Fs) (h0:Below w0.heap.size w0 w) (hV:Zaf w vv V) (hl:Fs.length=V.length) (h6:Fs.length<=6) (hr:m.fr.toList.isEmpty=true\/m.fr ∈ ZaD Fs) :
 Calls prog 299 #[.agg #[.string kind,v],.agg #[.string m.kind,.string m.field,.string m.wh,.string m.is,.string m.put,.string m.fr],vv] w fun e w'=>e=.returned (.string (Zcy Fs V m))/\Zw_ w w':=by
 have HV:=Zab hv;have H0:=Zab h0;have HVV:=Zab hV;obtain⟨a,cap,rfl⟩:=hv.form;obtain⟨va,vcap,rfl⟩:=hV.form';have HL:=Zab hl;clear hv h0 hV hl;have HW:∀ o o',Hd (Zw_ w ((w.alloc o).alloc o')):=fun o o'=>(Zb_.alloc Zl_ _).alloc (by simp) _
 cases hfe:m.fr.toList.isEmpty with
 | true=>
  have HQ:Hd (Zcy Fs V m=m.put):=by unfold Hd Zcy;rw [if_pos hfe]
  go_enter func299,ntmps299;go_wp2;go_ret;exact⟨by rw [HQ.o];rfl,(HW _ _).o⟩
 | false=>
  have hp:ZaP Fs m.fr < Fs.length:=Zcm.2 (by rcases hr with h | h;rw [h] at hfe;cases hfe;exact h)
  have hpv:ZaP Fs m.fr < V.length:=by have:=HL.o;omega
  have HQ:Hd (Zcy Fs V m=V[ZaP Fs m.fr]):=by unfold Hd Zcy ZbQ;rw [if_neg (by rw [hfe];simp),List.getElem?_eq_getElem hpv];rfl
  have HP:Hd (Zcc Fs m.fr=ZaP Fs m.fr):=ZbO hp;obtain⟨b,off,rfl,hbw,hc⟩:=HVV.o.full' (by omega);have h6':V.length<=6:=by have:=HL.o;omega
  have ck:=hc _ hpv;clear hc;go_enter func299,ntmps299;go_wp2_with fail;refine (ZfI lo _ _ Fs m.fr _ (HV.o.below (H0.o.trans ((HW _ _).o.mono H0.o.size)))).mono ?_;rintro e w1 ⟨rfl,hb1⟩;have HB1:Hd (Zw_ w w1):=(HW _ _).o.trans (hb1.mono (by simp;omega));have ck1:w1.cell? ⟨b,off+ZaP Fs m.fr,none⟩=some (.string V[ZaP Fs m.fr]):=by rw [HB1.o.cell (p:=⟨b,_,none⟩) hbw];exact ck
  rw [HP.o];clear hb1 ck HP;generalize ZaP Fs m.fr=p at*;go_wp2;go_ret;exact⟨by rw [HQ.o];rfl,HB1.o⟩
def ZuA (Fs:List Fd) (kind:Zy_) (Ms:List Md) (V:List Zy_) (f:Zy_) (e:Ending):Prop:=
 (∃ v,ZcX Fs kind Ms V f=some v/\e=.returned (.tuple #[.string v,.bool true]))\/(ZcX Fs kind Ms V f=none/\e=.returned (.tuple #[.string ⟨#[]⟩,.bool false]))
def ZrD (Fs:List Fd) (kind:Zy_) (Ms:List Md):Prop:=∀ m ∈ Ms,m.kind=kind->(m.wh.toList.isEmpty=true\/m.wh ∈ ZaD Fs)/\(m.fr.toList.isEmpty=true\/m.fr ∈ ZaD Fs)
theorem ZlK (lo lm:Nat) (kind f:Zy_) (v mv vv:Value) (Ss:List Sh) (Fs:List Fd) (Ms:List Md) (V:List Zy_) (w0 w:World) (hv:Zau lo w0 v Fs) (h0:Below w0.heap.size w0 w) (hM:Zbe lm w mv Ms) (hV:Zaf w vv V)
 (hfb:ZaA Ss Fs=true) (hl:Fs.length=V.length) (hn:ZrD Fs kind Ms) (h12:Ms.length<=12) :
 Calls prog 292 #[.agg #[.string kind,v],mv,vv,.string f] w fun e w'=>Zw_ w w'/\ZuA Fs kind Ms V f e:=by
 have HV:=Zab hv;have H0:=Zab h0;have HM:=Zab hM;have HVV:=Zab hV;have HFB:=Zab hfb;have HN:=Zab hn;have h6:Fs.length<=6:=Zdb hfb;obtain⟨a,cap,rfl⟩:=hv.form;obtain⟨ma,mcap,rfl⟩:=hM.form;obtain⟨va,vcap,rfl⟩:=hV.form';have HL:=Zab hl;have h6':V.length<=6:=by omega
 clear hv h0 hM hV hfb hn hl;go_enter func292,ntmps292;go_wp2
 go_step3
 go_wp2
 go_step3
 go_wp2;generalize hWa:w.alloc _=Wa;have hza:Wa.heap.size=w.heap.size+1:=by rw [<- hWa];simp
 have HBa:Hd (Zw_ w Wa):=by rw [<- hWa];exact Zac _ _
 have FS:Hd (Box Wa w.heap.size #[.string kind,.slice a Fs.length cap]):=by rw [<- hWa];exact Box.new _ _ _ _ rfl
 clear hWa
 go_loopw [16] (fun i wr=>∃ k:Nat,i=.int .i64 k/\k<=Ms.length/\Below Wa.heap.size Wa wr/\∀ i (h:i < Ms.length),i < k->(Zdk kind f Ms[i]&&Zhg Fs V Ms[i])=false) (fun i _=>Ms.length - (intOf i).toNat)
 case atStart=>exact⟨0,rfl,by omega,Below.refl _ _,fun i _ h=>by omega⟩
 case round=>
  obtain⟨k,rfl,hk,hb,hall⟩:=hrel;have HA:=Zab hall;have HB:=Zab hb;have HBw:Hd (Zw_ w wr):=HBa.o.trans (hb.mono (by omega));have FSr:=Zab (FS.o.on hb);clear hall hb
  by_cases hlt:k < Ms.length
  . obtain⟨b,off,rfl,hbw,hc⟩:=HM.o.full' (by omega)
    obtain⟨hsz,hcell⟩:=hc k hlt;obtain⟨c0,c1,c2,c3,c4,c5⟩:=hcell.below HBw.o hbw;have g1:=FSr.o.cell;have gl:=FSr.o.lt;clear hcell hc
    have HNX:Hd ((Zdk kind f Ms[k]&&Zhg Fs V Ms[k])=false->∀ i (h:i < Ms.length),i < k+1->(Zdk kind f Ms[i]&&Zhg Fs V Ms[i])=false):=fun h i hi hik=>by
     by_cases e:i=k
     . subst e;exact h
     . exact HA.o i hi (by omega)
    cases hk1:(Ms[k].kind.toList == kind.toList) with
    | false=>
     go_wp2;go_roundw
     . exact⟨k+1,by go_num,by omega,HB.o.alloc HB.o.size _,HNX.o (by unfold Zdk;simp [hk1])⟩
     . simp [intOf];omega
    | true=>
     cases hf1:(Ms[k].field.toList == f.toList) with
     | false=>
      go_wp2;go_roundw
      . exact⟨k+1,by go_num,by omega,HB.o.alloc HB.o.size _,HNX.o (by unfold Zdk;simp [hf1])⟩
      . simp [intOf];omega
     | true=>
      have HFOR:Hd (Zdk kind f Ms[k]=true):=by unfold Hd Zdk;simp [hk1,hf1]
      have HNM:=Zab (HN.o Ms[k] (List.getElem_mem hlt) (Zaz.1 hk1));go_wp2;clear c0 c1 c2 c3 c4 c5 g1 gl hk1 hf1;generalize hWm:wr.alloc _=Wm;have hbm:Below wr.heap.size wr Wm:=by rw [<- hWm];exact Zac _ _
      have hzm:Wm.heap.size=wr.heap.size+1:=by rw [<- hWm];simp
      have FM:Hd (Box Wm wr.heap.size #[.string Ms[k].kind,.string Ms[k].field,.string Ms[k].wh,.string Ms[k].is,.string Ms[k].put,.string Ms[k].fr]):=by rw [<- hWm];exact Box.new _ _ _ _ rfl
      have FSm:=Zab (FSr.o.on hbm);have HBm:Hd (Below Wa.heap.size Wa Wm):=HB.o.trans (hbm.mono HB.o.size);have HBmw:Hd (Zw_ w Wm):=HBw.o.trans (hbm.mono HBw.o.size);clear hWm hbm FSr HB HBw
      go_loopw [34] (fun i wr=>∃ p:Nat,i=.int .i64 p/\p<=Fs.length/\Below Wm.heap.size Wm wr/\∀ j (h:j < Fs.length) (h':j < V.length),j < p->ZfM Fs[j].nm V[j] Ms[k]=false) (fun i _=>Fs.length - (intOf i).toNat)
      case atStart=>exact⟨0,rfl,by omega,Below.refl _ _,fun i _ _ h=>by omega⟩
      case round=>
       obtain⟨p,rfl,hp,hbp,hallp⟩:=hrel;have HAP:=Zab hallp;have HBP:=Zab hbp;have FMp:=Zab (FM.o.on hbp);have FSp:=Zab (FSm.o.on hbp);have HBPa:Hd (Below Wa.heap.size Wa wr):=HBm.o.trans (hbp.mono HBm.o.size);have HBPw:Hd (Zw_ w wr):=HBmw.o.trans (hbp.mono HBmw.o.size);clear hallp hbp FM FSm HBm HBmw;have g1:=FSp.o.cell;have gl:=FSp.o.lt;have g2:=FMp.o.cell;have gl2:=FMp.o.lt
       by_cases hpl:p < Fs.length
       . have hpv:p < V.length:=by have:=HL.o;omega
         obtain⟨fb,fo,rfl,hfb,hfc⟩:=HV.o.full' (by omega);obtain⟨_,wv,hfcell,hwd⟩:=hfc p hpl;obtain⟨wa,wn,wcap,rfl⟩:=hwd.form;obtain⟨d0,d1,d2,d3,d4,d5,d6,d7,d8,d9,d10⟩:=hfcell.below (H0.o.trans (HBPw.o.mono H0.o.size)) hfb;have hfr:fb < wr.heap.size:=Zk_ hfb (Nat.le_trans H0.o.size HBPw.o.size)
         obtain⟨vb,vo,rfl,hvb,hvc⟩:=HVV.o.full' (by omega);have ck:wr.cell? ⟨vb,vo+p,none⟩=some (.string V[p]):=by rw [HBPw.o.cell (p:=⟨vb,_,none⟩) hvb];exact hvc p hpv
         have hvr:vb < wr.heap.size:=Zk_ hvb HBPw.o.size
         have HNP:Hd (ZfM Fs[p].nm V[p] Ms[k]=false->∀ j (h:j < Fs.length) (h':j < V.length),j < p+1->ZfM Fs[j].nm V[j] Ms[k]=false):=fun h j hj hj' hjp=>by
          by_cases e:j=p
          . subst e;exact h
          . exact HAP.o j hj hj' (by omega)
         clear hfcell hfc hwd hvc
         cases h1:(Fs[p].nm.toList == Ms[k].wh.toList) with
         | false=>
          cases h3:(Fs[p].nm.toList == Ms[k].fr.toList) with
          | false=>
           go_wp2
           go_quiet (fail)
           go_wp2;go_roundw
           . exact⟨p+1,by go_num,by omega,below_drewN (HBP.o.alloc HBP.o.size _) _,HNP.o (by unfold ZfM;simp [h1,h3])⟩
           . simp [intOf];omega
          | true=>
           cases h4:V[p].toList.isEmpty with
           | true=>
            go_wp2
            go_quiet (fail)
            go_wp2;exact⟨⟨k+1,by go_num,by omega,below_drewN (HBPa.o.alloc HBPa.o.size _) _,HNX.o (by rw [ZpK HFB.o hpl hpv (by unfold ZfM;simp [h1,h3,h4])];simp)⟩,by simp [intOf];omega⟩
           | false=>
            go_wp2
            go_quiet (fail)
            go_wp2;go_roundw
            . exact⟨p+1,by go_num,by omega,below_drewN (HBP.o.alloc HBP.o.size _) _,HNP.o (by unfold ZfM;simp [h1,h3,h4])⟩
            . simp [intOf];omega
         | true=>
          cases h2:(V[p].toList == Ms[k].is.toList) with
          | false=>
           go_wp2
           go_quiet (fail)
           go_wp2;exact⟨⟨k+1,by go_num,by omega,below_drewN (HBPa.o.alloc HBPa.o.size _) _,HNX.o (by rw [ZpK HFB.o hpl hpv (by unfold ZfM;simp [h1,h2])];simp)⟩,by simp [intOf];omega⟩
          | true=>
           cases h3:(Fs[p].nm.toList == Ms[k].fr.toList) with
           | false=>
            go_wp2
            go_quiet (fail)
            go_wp2;go_roundw
            . exact⟨p+1,by go_num,by omega,below_drewN (HBP.o.alloc HBP.o.size _) _,HNP.o (by unfold ZfM;simp [h1,h2,h3])⟩
            . simp [intOf];omega
           | true=>
            cases h4:V[p].toList.isEmpty with
            | true=>
             go_wp2
             go_quiet (fail)
             go_wp2;exact⟨⟨k+1,by go_num,by omega,below_drewN (HBPa.o.alloc HBPa.o.size _) _,HNX.o (by rw [ZpK HFB.o hpl hpv (by unfold ZfM;simp [h1,h2,h3,h4])];simp)⟩,by simp [intOf];omega⟩
            | false=>
             go_wp2
             go_quiet (fail)
             go_wp2;go_roundw
             . exact⟨p+1,by go_num,by omega,below_drewN (HBP.o.alloc HBP.o.size _) _,HNP.o (by unfold ZfM;simp [h1,h2,h3,h4])⟩
             . simp [intOf];omega
       . have HAPP:Hd (Zhg Fs V Ms[k]=true):=ZsE HL.o HNM.o.1 HNM.o.2 fun j hj hj'=>HAP.o j hj hj' (by omega)
         have HD:Hd (ZcX Fs kind Ms V f=some (Zcy Fs V Ms[k])):=ZeQ hlt (by rw [HFOR.o,HAPP.o];rfl) HA.o;go_wp2_with fail;clear g1 g2 gl gl2;refine (Zqi lo _ _ _ Fs Ms[k] V w0 _ HV.o (H0.o.trans (HBPw.o.mono H0.o.size)) (HVV.o.below HBPw.o) HL.o h6 HNM.o.2).mono ?_;rintro e w2 ⟨rfl,hb2⟩;have HB2:Hd (Zw_ w w2):=HBPw.o.trans (hb2.mono HBPw.o.size);clear hb2;go_wp2
         try rw [Exit.noGoto_ret]
         refine bodyPost_ret (v:=.tuple #[.string (Zcy Fs V Ms[k]),.bool true]) (by simp [results,results292,go_sem]) rfl ⟨HB2.o,Or.inl ⟨_,HD.o,rfl⟩⟩
  . have HQ:Hd (ZcX Fs kind Ms V f=none):=Zkx fun i h=>HA.o i h (by omega)
    go_wp2
    try rw [Exit.noGoto_ret]
    refine bodyPost_ret (v:=.tuple #[.string ⟨#[]⟩,.bool false]) (by simp [results,results292,go_sem]) rfl ⟨HBw.o,Or.inr ⟨HQ.o,rfl⟩⟩
end
section
open Go.RowKit Go.Deep
variable {v:Value}
theorem Zd7.touch {base lo hi:Nat}{W W':World}{R:List Zy_} (h:Zd7 base W v R) (ht:Zag lo hi W W') (hh:hi<=base):Zd7 base W' v R:=by
 refine⟨⟨h.row.1,?_⟩,h.sz⟩
 rcases h.row.2 with hv | ⟨g,cap,cur,hv,h1,h2,h3⟩
 . exact Or.inl hv
 . have hg:g < W.heap.size:=by
    rcases Nat.lt_or_ge g W.heap.size with h | h
    . exact h
    . rw [Array.getElem?_eq_none h] at h2;cases h2
   exact Or.inr ⟨g,cap,cur,hv,h1,by rw [ht.block g hg (Or.inr (by omega))];exact h2,h3⟩
theorem Zbe.sizes {lo:Nat}{w:World}{Ms:List Md} (h:Zbe lo w v Ms):∀ m ∈ Ms,Zeq m:=by
 intro m hm;obtain⟨i,hi,rfl⟩:=List.getElem_of_mem hm
 rcases h with ⟨_,_,_,h⟩ | ⟨b,off,cap,h1,h2,h3,h4,h5,h6,h7⟩
 . subst h;simp at hi
 . exact (h7 i hi).1
theorem Zaf.sizes {w:World}{L:List Zy_} (h:Zaf w v L):∀ s ∈ L,s.size<=maxLen:=by
 rcases h with ⟨_,_,_,h⟩ | ⟨b,off,cap,h1,h2,h3,h4,h5,h6⟩
 . subst h;intro s hs;simp at hs
 . exact h6
theorem Zky {Fs:List Fd}{kind:Zy_}{Ms:List Md}{V:List Zy_}{f v:Zy_} (hm:∀ m ∈ Ms,Zeq m) (hv:∀ s ∈ V,s.size<=maxLen) (h:ZcX Fs kind Ms V f=some v):v.size<=maxLen:=by
 unfold ZcX at h;obtain⟨m,hf,rfl⟩:=Option.map_eq_some_iff.1 h;have hmem:=List.mem_of_find?_eq_some hf;unfold Zcy
 by_cases he:m.fr.toList.isEmpty=true
 . rw [if_pos he];exact (hm m hmem).s4
 . rw [if_neg he]
   unfold ZbQ
   by_cases hp:ZaP Fs m.fr < V.length
   . rw [List.getElem?_eq_getElem hp];exact hv _ (List.getElem_mem hp)
   . rw [List.getElem?_eq_none (by omega)];exact Nat.zero_le _
theorem Zm3 {Ss:List Sh}{Ms:List Md}{k0:Zy_}{x:Sh} (h:Zax Ss Ms=true) (hx:Zcn Ss k0=some x):ZrD x.fields x.kind Ms:=fun _ hm hk=>(Zoy h hx hm hk).2
section
variable (kind nm team:Zy_) (vv hv sv mv fv:Value) (en:Bool) (ver:Int) (V Ho:List Zy_) (Ss:List Sh) (Ms:List Md) (x:Sh) (k0:Zy_) (w:World) (lo lm:Nat)
theorem Zmo (hV:Zaf w vv V) (hH:Zaf w hv Ho) (hF:Zau lo w fv x.fields) (hM:Zbe lm w mv Ms) (hmb:Zax Ss Ms=true) (hx:Zcn Ss k0=some x) (hl:x.fields.length=V.length) (n2:Ho.length<=1048576) :
 Calls prog 272 #[.agg #[.string x.kind,fv],mv,.agg #[.string kind,.string nm,.string team,vv,.bool en,hv,.int .i64 ver]] w
  fun e w'=>∃ v' h' F,e=.returned (.agg #[.string kind,.string nm,.string team,v',.bool en,h',.int .i64 ver])/\Zw_ w w'/\ZfW w.heap.size w' v' h' F Ho/\ZpA x Ms V F:=by
 have HV:=Zab hV;have HH:=Zab hH;have HF:=Zab hF;have HM:=Zab hM;have HMB:=Zab hmb;have HX:=Zab hx;have hfb:ZaA Ss x.fields=true:=Zbz (Zc9 hmb) (Zcg hx).1;have HFB:=Zab hfb;have h6:x.fields.length<=6:=Zdb hfb;have n1:V.length<=6:=by omega
 have h12:Ms.length<=12:=Zga hmb;have HROW:Hd (Zpy (ZaD x.fields) (Zam x.kind Ms)=true):=Zfa hmb (Zcg hx).1;have HNA:=Zab (Zm3 hmb hx);obtain⟨a,cap,rfl⟩:=hV.form';obtain⟨a',cap',rfl⟩:=hH.form';obtain⟨a1,cap1,rfl⟩:=hF.form;obtain⟨ma,mcap,rfl⟩:=hM.form;have HL:=Zab hl;clear hV hH hF hM hl hmb hx hfb;go_enter func272,ntmps272;go_wp2_with fail;generalize hWa:w.alloc _=Wa;have hza:Wa.heap.size=w.heap.size+1:=by rw [<- hWa];simp
 have HBa:Hd (Zw_ w Wa):=by rw [<- hWa];exact Zac _ _
 have FS:Hd (Box Wa w.heap.size #[.string x.kind,.slice a1 x.fields.length cap1]):=by rw [<- hWa];exact Box.new _ _ _ _ rfl
 clear hWa;generalize hWb:Wa.alloc _=Wb;have hzb:Wb.heap.size=w.heap.size+1+1:=by rw [<- hWb];simp [hza]
 have hbb:Below Wa.heap.size Wa Wb:=by rw [<- hWb];exact Zac _ _
 have HBb:Hd (Zw_ w Wb):=HBa.o.trans (hbb.mono (by omega));have FS:=Zab (FS.o.on hbb);clear hWb hbb HBa;generalize hWc:Wb.alloc _=Wc;have hzc:Wc.heap.size=w.heap.size+3:=by rw [<- hWc];simp [hzb]
 have hbc:Below Wb.heap.size Wb Wc:=by rw [<- hWc];exact Zac _ _
 have HBc:Hd (Zw_ w Wc):=HBb.o.trans (hbc.mono (by omega));have FS:=Zab (FS.o.on hbc);have FR:Hd (Box Wc (w.heap.size+1+1) #[.string ⟨#[]⟩,.string ⟨#[]⟩,.string ⟨#[]⟩,.slice none 0 0,.bool false,.slice none 0 0,.int .i64 0]):=by rw [<- hWc];exact Box.new _ _ _ _ hzb
 clear hWc hbc HBb hza hzb;refine (ZhH _ _ _ _ _ _ _ V Ho _ (HV.o.below HBc.o) (HH.o.below HBc.o) (by omega) n2).mono ?_;rintro e w1 ⟨v1,h1,rfl,hb1,mid,hlo,hmid,hs1,hs2⟩;obtain⟨a2,cap2,rfl⟩:=hs1.form;obtain⟨a3,cap3,rfl⟩:=hs2.form;have hz1:=hb1.size;have FS:=Zab (FS.o.on hb1);have FR:=Zab (FR.o.on hb1);have HB1:Hd (Zw_ w w1):=HBc.o.trans (hb1.mono HBc.o.size);have HS1:Hd (Zad (w.heap.size+3) mid w1 (.slice a2 V.length cap2) V):=by rw [<- hzc];exact hs1
 have HS2:=Zab hs2;have hlo':w.heap.size+3<=mid:=by omega
 clear hb1 hs1 hs2 HBc hlo;have g1:=FS.o.cell;have gl:=FS.o.lt;go_wp2_with fail;clear g1 gl;generalize hWd:w1.alloc _=Wd;have hzd:Wd.heap.size=w1.heap.size+1:=by rw [<- hWd];simp
 have hbd:Below w1.heap.size w1 Wd:=by rw [<- hWd];exact Zac _ _
 have HBd:Hd (Zw_ w Wd):=HB1.o.trans (hbd.mono HB1.o.size);have FS:=Zab (FS.o.on hbd);have FR:=Zab (FR.o.on hbd);have FO:Hd (Box Wd w1.heap.size #[.string kind,.string nm,.string team,.slice a2 V.length cap2,.bool en,.slice a3 Ho.length cap3,.int .i64 ver]):=by rw [<- hWd];exact Box.new _ _ _ _ rfl
 have HS1:=Zab (HS1.o.below hbd);have HS2:=Zab (HS2.o.below hbd);clear hWd hbd HB1;refine (ZgU lo lm _ _ x Ms w _ HF.o HBd.o (HM.o.below HBd.o) (by omega) (by omega)).mono ?_;rintro e w2 ⟨hb2,hgr⟩;have hz2:=hb2.size;have HB2:Hd (Zw_ w w2):=HBd.o.trans (hb2.mono HBd.o.size);have FS:=Zab (FS.o.on hb2);have FR:=Zab (FR.o.on hb2);have FO:=Zab (FO.o.on hb2);have HS1:=Zab (HS1.o.below hb2);have HS2:=Zab (HS2.o.below hb2);clear hb2 HBd
 rcases hgr with ⟨rv,R,rfl,ho,hg,hlen⟩ | ⟨hno,_⟩
 . have HO:=Zab ho
   have HG:=Zab hg;obtain⟨ra,rcap,rfl⟩:=ho.form;have HFIX:Hd (ZpA x Ms V (Zc8 (ZaP x.fields) (ZcX x.fields x.kind Ms) R V)):=Zj2 hg hlen HL.o;have hRl:R.length<=6:=Nat.le_trans (ZjQ hg) h6;clear ho hg hlen;go_wp2
   go_loopw [24] (fun i wr=>∃ k:Nat,i=.int .i64 k/\k<=R.length/\Zad (w.heap.size+3) mid wr (.slice a2 V.length cap2) (Zc8 (ZaP x.fields) (ZcX x.fields x.kind Ms) (R.take k) V)/\Zag (w.heap.size+3) mid w2 wr) (fun i _=>R.length - (intOf i).toNat)
   case atStart=>exact⟨0,rfl,by omega,HS1.o,Zag.refl _ _ _⟩
   case round=>
    obtain⟨k,rfl,hk,hso,ht⟩:=hrel;have HSO:=Zab hso;have HT:=Zab ht;have hzr:=ht.size;have HBr:Hd (Zw_ w wr):=HB2.o.trans ((ht.under (by omega)).mono (by omega));have FSr:=Zab (FS.o.touch ht (by omega));have FRr:=Zab (FR.o.touch ht (by omega));have FOr:=Zab (FO.o.touch ht (by omega));have HOr:=Zab (HO.o.touch ht (by omega));clear hso ht HS1
    by_cases hlt:k < R.length
    . obtain⟨rb,ro,rfl,hrb,hrc⟩:=HOr.o.strs.full' (by omega)
      have ck:=hrc k hlt;clear hrc;have g1:=FSr.o.cell;have gl:=FSr.o.lt;have g2:=FOr.o.cell;have gl2:=FOr.o.lt;have HLv:Hd ((Zc8 (ZaP x.fields) (ZcX x.fields x.kind Ms) (R.take k) V).length=V.length):=Zh1 _ _ _ _;have HNEXT:=Zab (Zi7 (ZaP x.fields) (ZcX x.fields x.kind Ms) hlt V);have HIN:Hd (R[k] ∈ ZaD x.fields):=HG.o.sub (List.getElem_mem hlt);generalize hcur:Zc8 (ZaP x.fields) (ZcX x.fields x.kind Ms) (R.take k) V=L at*;go_wp2_with fail;refine (ZlK lo lm _ R[k] _ _ _ Ss x.fields Ms L w _ HF.o HBr.o (HM.o.below HBr.o) HSO.o.at HFB.o (HL.o.trans HLv.o.symm) HNA.o h12).mono ?_;rintro e w3 ⟨hb3,hdr⟩;have hz3:=hb3.size;have FS3:=Zab (FSr.o.on hb3);have FO3:=Zab (FOr.o.on hb3);have HS3:=Zab (HSO.o.below hb3);have HT3:Hd (Zag (w.heap.size+3) mid w2 w3):=HT.o.trans (Zag.below hb3)
      have HB3:Hd (Zw_ w w3):=HBr.o.trans (hb3.mono HBr.o.size);clear hb3 g1 gl g2 gl2 ck FSr FRr FOr HOr
      rcases hdr with ⟨nv,hd,rfl⟩ | ⟨hd,rfl⟩
      . have hp:ZaP x.fields R[k] < x.fields.length:=Zcm.2 HIN.o
        have hpL:ZaP x.fields R[k] < L.length:=by have:=HLv.o;have:=HL.o;omega
        have hpV:ZaP x.fields R[k] < V.length:=by have:=HL.o;omega
        have HPI:Hd (Zcc x.fields R[k]=ZaP x.fields R[k]):=ZbO hp;have HNX:Hd (Zc8 (ZaP x.fields) (ZcX x.fields x.kind Ms) (R.take (k+1)) V=L.set (ZaP x.fields R[k]) nv):=by unfold Hd;rw [HNEXT.o];exact ZqW hd
        have HNS:Hd (nv.size<=maxLen):=Zky HM.o.sizes HS3.o.at.sizes hd;have hLl:L.length<=6:=by have:=HLv.o;omega
        clear hd HNEXT;obtain⟨vb,vo,rfl,hVL,hvb,hv1,hv2,hvc,hvf⟩:=HS3.o.full (by omega);clear hVL;have ck3:=hvc _ hpL;have fz3:=hvf (ZaP x.fields R[k]);have g1:=FS3.o.cell;have gl:=FS3.o.lt;have g2:=FO3.o.cell;have gl2:=FO3.o.lt;clear hvc hvf;generalize hpp:ZaP x.fields R[k]=p at*;go_wp2
        go_region_with (go_at_call 283
                        refine (ZfI lo _ _ x.fields R[k] _ (HF.o.below (HB3.o.drew))).mono ?_;rintro e w4 ⟨rfl,hb4⟩;rw [HPI.o];have hb4':=ZlP hb4;have g3:∀ i,w4.cell? ⟨w1.heap.size,i,none⟩=(#[.string kind,.string nm,.string team,.slice (some ⟨vb,vo,none⟩) V.length cap2,.bool en,.slice a3 Ho.length cap3,.int .i64 ver]:Array Value)[i]?:=(FO3.o.on hb4').cell
                        have ck4:w4.cell? ⟨vb,vo+p,none⟩=some (.string L[p]):=(hb4'.cell (p:=⟨vb,vo+p,none⟩) hvb).trans ck3;have fz4:w4.frozen? ⟨vb,vo+p,none⟩=false:=(hb4'.frozen (p:=⟨vb,vo+p,none⟩) hvb).trans fz3;have HS4:=Zab (HS3.o.below hb4');have HT4:Hd (Zag (w.heap.size+3) mid w2 w4):=HT3.o.trans (Zag.below hb4');clear hb4 hb4')
        all_goals
         go_wp2;go_roundw
         . exact⟨k+1,by go_num,by omega,by rw [HNX.o];exact HS4.o.put hpL HNS.o,HT4.o.trans (Zag.setCell _ _ _ _ _ ⟨hv1,hv2⟩)⟩
         . simp [intOf];omega
      . have HNX:Hd (Zc8 (ZaP x.fields) (ZcX x.fields x.kind Ms) (R.take (k+1)) V=L):=by unfold Hd;rw [HNEXT.o];exact ZqV hd
        clear hd;go_wp2;go_roundw
        . exact⟨k+1,by go_num,by omega,by rw [HNX.o];exact HS3.o,HT3.o⟩
        . simp [intOf];omega
    . have e:k=R.length:=by omega
      subst e;have HE:Hd (R.take R.length=R):=List.take_length;have g2:=FOr.o.cell;have gl2:=FOr.o.lt;have HS2r:=Zab (HS2.o.touch HT.o (Or.inr Zl_));have rr:=FRr.o.cell;have rf:=FRr.o.free;have rl:=FRr.o.lt;have r0:wr.cell? ⟨w.heap.size+1+1,0,none⟩=some (.string ⟨#[]⟩):=rr 0;have r1:wr.cell? ⟨w.heap.size+1+1,1,none⟩=some (.string ⟨#[]⟩):=rr 1;have r2:wr.cell? ⟨w.heap.size+1+1,2,none⟩=some (.string ⟨#[]⟩):=rr 2;have r3:wr.cell? ⟨w.heap.size+1+1,3,none⟩=some (.slice none 0 0):=rr 3;have r4:wr.cell? ⟨w.heap.size+1+1,4,none⟩=some (.bool false):=rr 4;have r5:wr.cell? ⟨w.heap.size+1+1,5,none⟩=some (.slice none 0 0):=rr 5;have r6:wr.cell? ⟨w.heap.size+1+1,6,none⟩=some (.int .i64 0):=rr 6;clear rr;go_wp2
      refine bodyPost_ret (v:=.agg #[.string kind,.string nm,.string team,.slice a2 V.length cap2,.bool en,.slice a3 Ho.length cap3,.int .i64 ver]) (by simp [results,results272,go_sem,r0,r1,r2,r3,r4,r5,r6]) rfl ⟨_,_,_,rfl,?_,⟨mid,?_,?_,?_,?_⟩,by rw [<- HE.o] at HFIX;exact HFIX.o⟩
      . repeat (refine Below.setCell ?_ (by simp only [];omega) _)
        exact HBr.o
      . omega
      . simp only [World.setCell,Array.size_modify];omega
      . refine Zad.wide (lo:=w.heap.size+3) (hi:=mid) ?_ (by omega) Zl_
        repeat (refine Zad.setCell ?_ (by simp only [];omega) _)
        exact HSO.o
      . refine Zad.wide (lo:=mid) (hi:=w1.heap.size) ?_ Zl_ (by simp only [World.setCell,Array.size_modify];omega)
        repeat (refine Zad.setCell ?_ (by simp only [];omega) _)
        exact HS2r.o
 . rw [HROW.o] at hno;cases hno
end
end
section
open Go.RowKit Go.Deep
variable {Fs:List Fd} {wr W:World} {β rb ro vb:Nat} {cs:Array Value}
def ZcF (Ss:List Sh) (Ms:List Md) (kind:Zy_) (V F:List Zy_):Prop:=
 (∃ x,Zax Ss Ms=true/\Zcn Ss kind=some x/\x.fields.length=V.length/\ZpA x Ms (Zfl V x.fields) F)\/
 ((Zax Ss Ms=false\/∀ x,Zcn Ss kind=some x->x.fields.length≠V.length)/\F=V)
theorem ZcF.unique {Ss:List Sh}{Ms:List Md}{kind:Zy_}{V F G:List Zy_} (h1:ZcF Ss Ms kind V F) (h2:ZcF Ss Ms kind V G):F=G:=by
 rcases h1 with ⟨x,a1,a2,a3,a4⟩ | ⟨a1,a2⟩
 . rcases h2 with ⟨y,b1,b2,b3,b4⟩ | ⟨b1,b2⟩
   . rw [a2] at b2;cases b2
     exact ZpA.unique a1 (Zcg a2).1 a4 b4
   . rcases b1 with b1 | b1
     . rw [a1] at b1;cases b1
     . exact absurd a3 (b1 x a2)
 . rcases h2 with ⟨y,b1,b2,b3,b4⟩ | ⟨b1,b2⟩
   . rcases a1 with a1 | a1
     . rw [b1] at a1;cases a1
     . exact absurd b3 (a1 y b2)
   . rw [a2,b2]
section
variable (kind nm team:Zy_) (vv hv sv mv fv:Value) (en:Bool) (ver:Int) (V Ho:List Zy_) (Ss:List Sh) (Ms:List Md) (x:Sh) (k0:Zy_) (w:World) (lo lm:Nat)
theorem Zln (hV:Zaf w vv V) (hH:Zaf w hv Ho) (hF:Zau lo w fv x.fields) (hM:Zbe lm w mv Ms) (hmb:Zax Ss Ms=true) (hx:Zcn Ss k0=some x) (hl:x.fields.length=V.length) (n2:Ho.length<=1048576) :
 Calls prog 243 #[.agg #[.string x.kind,fv],mv,.agg #[.string kind,.string nm,.string team,vv,.bool en,hv,.int .i64 ver]] w
  fun e w'=>∃ v' h' F,e=.returned (.agg #[.string kind,.string nm,.string team,v',.bool en,h',.int .i64 ver])/\Zw_ w w'/\ZfW w.heap.size w' v' h' F Ho/\ZpA x Ms (Zfl V x.fields) F:=by
 have HV:=Zab hV;have HH:=Zab hH;have HF:=Zab hF;have HM:=Zab hM;have HMB:=Zab hmb;have HX:=Zab hx;have h6:x.fields.length<=6:=Zdb (Zbz (Zc9 hmb) (Zcg hx).1);have n1:V.length<=6:=by omega
 obtain⟨a,cap,rfl⟩:=hV.form';obtain⟨a',cap',rfl⟩:=hH.form';obtain⟨a1,cap1,rfl⟩:=hF.form;obtain⟨ma,mcap,rfl⟩:=hM.form;have HL:=Zab hl;have HFL:Hd (x.fields.length=(Zfl V x.fields).length):=by unfold Hd;rw [ZeU hl];exact hl
 clear hV hH hF hM hl hmb hx;go_enter func243,ntmps243;go_wp2;generalize hWa:w.alloc _=Wa;have hza:Wa.heap.size=w.heap.size+1:=by rw [<- hWa];simp
 have HBa:Hd (Zw_ w Wa):=by rw [<- hWa];exact Zac _ _
 have FS:Hd (Box Wa w.heap.size #[.string x.kind,.slice a1 x.fields.length cap1]):=by rw [<- hWa];exact Box.new _ _ _ _ rfl
 clear hWa;generalize hWb:Wa.alloc _=Wb;have hzb:Wb.heap.size=w.heap.size+1+1:=by rw [<- hWb];simp [hza]
 have hbb:Below Wa.heap.size Wa Wb:=by rw [<- hWb];exact Zac _ _
 have HBb:Hd (Zw_ w Wb):=HBa.o.trans (hbb.mono (by omega));have FS:=Zab (FS.o.on hbb);have FO:Hd (Box Wb (w.heap.size+1) #[.string kind,.string nm,.string team,.slice a V.length cap,.bool en,.slice a' Ho.length cap',.int .i64 ver]):=by rw [<- hWb];exact Box.new _ _ _ _ hza
 clear hWb hbb HBa;generalize hWc:Wb.alloc _=Wc;have hzc:Wc.heap.size=w.heap.size+3:=by rw [<- hWc];simp [hzb]
 have hbc:Below Wb.heap.size Wb Wc:=by rw [<- hWc];exact Zac _ _
 have HBc:Hd (Zw_ w Wc):=HBb.o.trans (hbc.mono (by omega));have FS:=Zab (FS.o.on hbc);have FO:=Zab (FO.o.on hbc);have FR:Hd (Box Wc (w.heap.size+1+1) #[.string ⟨#[]⟩,.string ⟨#[]⟩,.string ⟨#[]⟩,.slice none 0 0,.bool false,.slice none 0 0,.int .i64 0]):=by rw [<- hWc];exact Box.new _ _ _ _ hzb
 clear hWc hbc HBb hza hzb;have g1:=FS.o.cell;have gl:=FS.o.lt;have g2:=FO.o.cell;have gl2:=FO.o.lt
 go_region_with (first
  | (go_at_call 273
     refine (ZlV _ _ _ _ _ _ _ _ _ V Ho x.fields _ lo (HV.o.below (HBc.o.drew)) (HH.o.below (HBc.o.drew)) (HF.o.below (HBc.o.drew)) (by omega) n2 HL.o).mono ?_;rintro e w1 ⟨v1,h1,rfl,hb1,mid1,hlo1,hmi1,hs1,hs2⟩;obtain⟨a2,cap2,rfl⟩:=hs1.form;obtain⟨a3,cap3,rfl⟩:=hs2.form;have hb1':=ZlP hb1;have HB1:Hd (Zw_ w w1):=HBc.o.trans (hb1'.mono HBc.o.size);have g3:∀ i,w1.cell? ⟨w.heap.size,i,none⟩=(#[.string x.kind,.slice a1 x.fields.length cap1]:Array Value)[i]?:=(FS.o.on hb1').cell
     have gl3:w.heap.size < w1.heap.size:=(FS.o.on hb1').lt
     have FR1:=Zab (FR.o.on hb1');have HV1:=Zab hs1.at;have HH1:=Zab hs2.at;clear hb1 hb1' hs1 hs2 hlo1 hmi1)
  | (go_at_call 272
     refine (Zmo _ _ _ _ _ _ _ _ _ (Zfl V x.fields) Ho Ss Ms x k0 _ lo lm HV1.o HH1.o (HF.o.below HB1.o) (HM.o.below HB1.o) HMB.o HX.o HFL.o n2).mono ?_;rintro e w2 ⟨v2,h2,F,rfl,hb2,⟨mid2,hlo2,hmi2,hs3,hs4⟩,hfix⟩;obtain⟨a4,cap4,rfl⟩:=hs3.form;obtain⟨a5,cap5,rfl⟩:=hs4.form;have HB2:Hd (Zw_ w w2):=HB1.o.trans (hb2.mono HB1.o.size);have hz2:=hb2.size;have FR2:=Zab (FR1.o.on hb2);have hb12:w.heap.size+3<=w1.heap.size:=by have:=FR1.o.lt;omega
     have HV2:=Zab hs3;have HH2:=Zab hs4;have HFIX:=Zab hfix;have rr:=FR2.o.cell;have rf:=FR2.o.free;have rl:=FR2.o.lt;have r0:w2.cell? ⟨w.heap.size+1+1,0,none⟩=some (.string ⟨#[]⟩):=rr 0;have r1:w2.cell? ⟨w.heap.size+1+1,1,none⟩=some (.string ⟨#[]⟩):=rr 1;have r2:w2.cell? ⟨w.heap.size+1+1,2,none⟩=some (.string ⟨#[]⟩):=rr 2;have r3:w2.cell? ⟨w.heap.size+1+1,3,none⟩=some (.slice none 0 0):=rr 3;have r4:w2.cell? ⟨w.heap.size+1+1,4,none⟩=some (.bool false):=rr 4;have r5:w2.cell? ⟨w.heap.size+1+1,5,none⟩=some (.slice none 0 0):=rr 5;have r6:w2.cell? ⟨w.heap.size+1+1,6,none⟩=some (.int .i64 0):=rr 6;clear rr;clear hb2 hs3 hs4 hfix))
 all_goals
  go_wp2;refine bodyPost_ret (v:=.agg #[.string kind,.string nm,.string team,.slice a4 F.length cap4,.bool en,.slice a5 Ho.length cap5,.int .i64 ver]) (by simp [results,results243,go_sem,r0,r1,r2,r3,r4,r5,r6]) rfl ⟨_,_,F,rfl,?_,⟨mid2,?_,?_,?_,?_⟩,HFIX.o⟩
  . repeat (refine Below.setCell ?_ (by simp only [];omega) _)
    exact HB2.o
  . omega
  . simp only [World.setCell,Array.size_modify];omega
  . refine Zad.wide (lo:=w1.heap.size) (hi:=mid2) ?_ (by omega) Zl_
    repeat (refine Zad.setCell ?_ (by simp only [];omega) _)
    exact HV2.o
  . refine Zad.wide (lo:=mid2) (hi:=w2.heap.size) ?_ Zl_ (by simp only [World.setCell,Array.size_modify];omega)
    repeat (refine Zad.setCell ?_ (by simp only [];omega) _)
    exact HH2.o
end
theorem ZjY (lo lm:Nat) (kind nm team f:Zy_) (v mv vv hv:Value) (en:Bool) (ver:Int) (Fs:List Fd) (Ms:List Md) (V Ho:List Zy_) (w:World) (hF:Zau lo w v Fs) (hM:Zbe lm w mv Ms) (hV:Zaf w vv V) (hH:Zaf w hv Ho)
 (h6:Fs.length<=6) (hl:Fs.length=V.length) (hn:ZrD Fs kind Ms) (h12:Ms.length<=12) (hf:f ∈ ZaD Fs) :
 Calls prog 203 #[v,mv,.agg #[.string kind,.string nm,.string team,vv,.bool en,hv,.int .i64 ver],.string f] w fun e w'=>e=.returned (.string ((ZcX Fs kind Ms V f).getD (ZbQ Fs V f)))/\Zw_ w w':=by
 have HF:=Zab hF;have HM:=Zab hM;have HVV:=Zab hV;have HN:=Zab hn;have HIN:=Zab hf;obtain⟨fa,fcap,rfl⟩:=hF.form;obtain⟨ma,mcap,rfl⟩:=hM.form;obtain⟨a,cap,rfl⟩:=hV.form';obtain⟨a',cap',rfl⟩:=hH.form';have HL:=Zab hl;have n1:V.length<=6:=by omega
 clear hF hM hV hH hn hf hl;have hpf:ZaP Fs f < Fs.length:=Zcm.2 HIN.o
 have hpfv:ZaP Fs f < V.length:=by have:=HL.o;omega
 obtain⟨vb,vo,rfl,hvb,hvc0⟩:=HVV.o.full' (by omega);go_enter func203,ntmps203;go_wp2;generalize hWa:w.alloc _=Wa;have hza:Wa.heap.size=w.heap.size+1:=by rw [<- hWa];simp
 have HBa:Hd (Zw_ w Wa):=by rw [<- hWa];exact Zac _ _
 have FO:Hd (Box Wa w.heap.size #[.string kind,.string nm,.string team,.slice (some ⟨vb,vo,none⟩) V.length cap,.bool en,.slice a' Ho.length cap',.int .i64 ver]):=by rw [<- hWa];exact Box.new _ _ _ _ rfl
 clear hWa
 go_loopw [9] (fun i wr=>∃ k:Nat,i=.int .i64 k/\k<=Ms.length/\Below Wa.heap.size Wa wr/\∀ i (h:i < Ms.length),i < k->(Zdk kind f Ms[i]&&Zhg Fs V Ms[i])=false) (fun i _=>Ms.length - (intOf i).toNat)
 case atStart=>exact⟨0,rfl,by omega,Below.refl _ _,fun i _ h=>by omega⟩
 case round=>
  obtain⟨k,rfl,hk,hb,hall⟩:=hrel;have HA:=Zab hall;have HB:=Zab hb;have HBw:Hd (Zw_ w wr):=HBa.o.trans (hb.mono (by omega));have FOr:=Zab (FO.o.on hb);clear hall hb;have g1:=FOr.o.cell;have gl:=FOr.o.lt;have hvr:vb < wr.heap.size:=Zk_ hvb HBw.o.size
  have hvc:∀ i (h:i < V.length),wr.cell? ⟨vb,vo+i,none⟩=some (.string V[i]):=fun i h=>by rw [HBw.o.cell (p:=⟨vb,_,none⟩) hvb];exact hvc0 i h
  by_cases hlt:k < Ms.length
  . obtain⟨b,off,rfl,hbw,hc⟩:=HM.o.full' (by omega)
    obtain⟨hsz,hcell⟩:=hc k hlt;obtain⟨c0,c1,c2,c3,c4,c5⟩:=hcell.below HBw.o hbw;clear hcell hc
    have HNX:Hd ((Zdk kind f Ms[k]&&Zhg Fs V Ms[k])=false->∀ i (h:i < Ms.length),i < k+1->(Zdk kind f Ms[i]&&Zhg Fs V Ms[i])=false):=fun h i hi hik=>by
     by_cases e:i=k
     . subst e;exact h
     . exact HA.o i hi (by omega)
    have HFr:∀ o n,Hd (Zau lo ((wr.alloc o).drewN n) (.slice fa Fs.length fcap) Fs):=fun o n=>HF.o.below (below_drewN (HBw.o.alloc HBw.o.size _) _)
    cases hk1:(Ms[k].kind.toList == kind.toList) with
    | false=>
     go_wp2
     go_quiet (fail)
     go_wp2;go_roundw
     . exact⟨k+1,by go_num,by omega,below_drewN (HB.o.alloc HB.o.size _) _,HNX.o (by unfold Zdk;simp [hk1])⟩
     . simp [intOf];omega
    | true=>
     cases hf1:(Ms[k].field.toList == f.toList) with
     | false=>
      go_wp2
      go_quiet (fail)
      go_wp2;go_roundw
      . exact⟨k+1,by go_num,by omega,below_drewN (HB.o.alloc HB.o.size _) _,HNX.o (by unfold Zdk;simp [hf1])⟩
      . simp [intOf];omega
     | true=>
      have HFOR:Hd (Zdk kind f Ms[k]=true):=by unfold Hd Zdk;simp [hk1,hf1]
      have HNM:=Zab (HN.o Ms[k] (List.getElem_mem hlt) (Zaz.1 hk1))
      cases hwe:Ms[k].wh.toList.isEmpty with
      | true=>
       go_wp2
       go_quiet (fail)
       cases hfe:Ms[k].fr.toList.isEmpty with
       | true=>
        have HD:Hd (ZcX Fs kind Ms V f=some (Zcy Fs V Ms[k])):=ZeQ hlt (by rw [HFOR.o];unfold Zhg;simp [hwe,hfe]) HA.o;have HV2:Hd ((ZcX Fs kind Ms V f).getD (ZbQ Fs V f)=Ms[k].put):=by unfold Hd;rw [HD.o];unfold Zcy;rw [if_pos hfe];rfl
        go_wp2;go_ret;exact⟨by rw [HV2.o];rfl,below_drewN (HBw.o.alloc HBw.o.size _) _⟩
       | false=>
        have hp2:ZaP Fs Ms[k].fr < Fs.length:=Zcm.2 (by rcases HNM.o.2 with h | h;rw [h] at hfe;cases hfe;exact h)
        have hp2v:ZaP Fs Ms[k].fr < V.length:=by have:=HL.o;omega
        have hpi2:Zcc Fs Ms[k].fr=(ZaP Fs Ms[k].fr:Int):=ZbO hp2;have ck2:=hvc _ hp2v;have HVA2:Hd (ZbQ Fs V Ms[k].fr=V[ZaP Fs Ms[k].fr]):=by unfold Hd ZbQ;rw [List.getElem?_eq_getElem hp2v];rfl
        generalize hpp2:ZaP Fs Ms[k].fr=p2 at*;go_wp2
        go_quiet ((go_at_call 200;exact (Zbm lo _ Fs Ms[k].fr _ (HFr _ _).o).mono fun _ _ h=>⟨h.1,_,h.2⟩))
        cases hve:V[p2].toList.isEmpty with
        | true=>
         go_wp2;go_roundw
         . exact⟨k+1,by go_num,by omega,(by first | exact below_drewN (HB.o.alloc HB.o.size _) _ | exact below_drewN (below_drewN (HB.o.alloc HB.o.size _) _) _),HNX.o (by unfold Zhg;simp [hfe,HVA2.o,hve])⟩
         . simp [intOf];omega
        | false=>
         have HD:Hd (ZcX Fs kind Ms V f=some (Zcy Fs V Ms[k])):=ZeQ hlt (by rw [HFOR.o];unfold Zhg;simp [hwe,hfe,HVA2.o,hve]) HA.o;have HV2:Hd ((ZcX Fs kind Ms V f).getD (ZbQ Fs V f)=V[p2]):=by unfold Hd;rw [HD.o];unfold Zcy;rw [if_neg (by rw [hfe];simp),HVA2.o];rfl
         go_wp2;go_ret;exact⟨by rw [HV2.o];rfl,by first | exact below_drewN (HBw.o.alloc HBw.o.size _) _ | exact below_drewN (below_drewN (HBw.o.alloc HBw.o.size _) _) _⟩
      | false=>
       have hp1:ZaP Fs Ms[k].wh < Fs.length:=Zcm.2 (by rcases HNM.o.1 with h | h;rw [h] at hwe;cases hwe;exact h)
       have hp1v:ZaP Fs Ms[k].wh < V.length:=by have:=HL.o;omega
       have hpi1:Zcc Fs Ms[k].wh=(ZaP Fs Ms[k].wh:Int):=ZbO hp1;have ck1:=hvc _ hp1v;have HVA1:Hd (ZbQ Fs V Ms[k].wh=V[ZaP Fs Ms[k].wh]):=by unfold Hd ZbQ;rw [List.getElem?_eq_getElem hp1v];rfl
       generalize hpp1:ZaP Fs Ms[k].wh=p1 at*
       cases hvi:(V[p1].toList == Ms[k].is.toList) with
       | false=>
        go_wp2
        go_quiet ((go_at_call 200;exact (Zbm lo _ Fs Ms[k].wh _ (HFr _ _).o).mono fun _ _ h=>⟨h.1,_,h.2⟩))
        go_wp2;go_roundw
        . exact⟨k+1,by go_num,by omega,below_drewN (HB.o.alloc HB.o.size _) _,HNX.o (by unfold Zhg;simp [hwe,HVA1.o,hvi])⟩
        . simp [intOf];omega
       | true=>
        go_wp2
        go_quiet ((go_at_call 200;exact (Zbm lo _ Fs Ms[k].wh _ (HFr _ _).o).mono fun _ _ h=>⟨h.1,_,h.2⟩))
        cases hfe:Ms[k].fr.toList.isEmpty with
        | true=>
         have HD:Hd (ZcX Fs kind Ms V f=some (Zcy Fs V Ms[k])):=ZeQ hlt (by rw [HFOR.o];unfold Zhg;simp [hwe,HVA1.o,hvi,hfe]) HA.o;have HV2:Hd ((ZcX Fs kind Ms V f).getD (ZbQ Fs V f)=Ms[k].put):=by unfold Hd;rw [HD.o];unfold Zcy;rw [if_pos hfe];rfl
         go_wp2;go_ret;exact⟨by rw [HV2.o];rfl,below_drewN (HBw.o.alloc HBw.o.size _) _⟩
        | false=>
         have hp2:ZaP Fs Ms[k].fr < Fs.length:=Zcm.2 (by rcases HNM.o.2 with h | h;rw [h] at hfe;cases hfe;exact h)
         have hp2v:ZaP Fs Ms[k].fr < V.length:=by have:=HL.o;omega
         have hpi2:Zcc Fs Ms[k].fr=(ZaP Fs Ms[k].fr:Int):=ZbO hp2;have ck2:=hvc _ hp2v;have HVA2:Hd (ZbQ Fs V Ms[k].fr=V[ZaP Fs Ms[k].fr]):=by unfold Hd ZbQ;rw [List.getElem?_eq_getElem hp2v];rfl
         generalize hpp2:ZaP Fs Ms[k].fr=p2 at*;go_wp2
         go_quiet ((go_at_call 200;exact (Zbm lo _ Fs Ms[k].fr _ (HFr _ _).o).mono fun _ _ h=>⟨h.1,_,h.2⟩))
         cases hve:V[p2].toList.isEmpty with
         | true=>
          go_wp2;go_roundw
          . exact⟨k+1,by go_num,by omega,(by first | exact below_drewN (HB.o.alloc HB.o.size _) _ | exact below_drewN (below_drewN (HB.o.alloc HB.o.size _) _) _),HNX.o (by unfold Zhg;simp [hfe,HVA2.o,hve])⟩
          . simp [intOf];omega
         | false=>
          have HD:Hd (ZcX Fs kind Ms V f=some (Zcy Fs V Ms[k])):=ZeQ hlt (by rw [HFOR.o];unfold Zhg;simp [hwe,HVA1.o,hvi,hfe,HVA2.o,hve]) HA.o;have HV2:Hd ((ZcX Fs kind Ms V f).getD (ZbQ Fs V f)=V[p2]):=by unfold Hd;rw [HD.o];unfold Zcy;rw [if_neg (by rw [hfe];simp),HVA2.o];rfl
          go_wp2;go_ret;exact⟨by rw [HV2.o];rfl,by first | exact below_drewN (HBw.o.alloc HBw.o.size _) _ | exact below_drewN (below_drewN (HBw.o.alloc HBw.o.size _) _) _⟩
  . have HD:Hd (ZcX Fs kind Ms V f=none):=Zkx fun i h=>HA.o i h (by omega)
    have HV2:Hd ((ZcX Fs kind Ms V f).getD (ZbQ Fs V f)=V[ZaP Fs f]):=by unfold Hd;rw [HD.o];unfold ZbQ;rw [List.getElem?_eq_getElem hpfv];rfl
    have hpi:Zcc Fs f=(ZaP Fs f:Int):=ZbO hpf;have ckf:=hvc _ hpfv;have HFr:∀ n,Hd (Zau lo (wr.drewN n) (.slice fa Fs.length fcap) Fs):=fun n=>HF.o.below (below_drewN HBw.o _)
    generalize hppf:ZaP Fs f=pf at*;go_wp2
    go_quiet ((go_at_call 200;exact Calls.quiet_of_same (Zbm lo _ Fs f _ (HFr _).o)))
    go_wp2;go_ret;exact⟨by rw [HV2.o];rfl,below_drewN HBw.o _⟩
theorem ZqT {kind:Zy_}{Ms:List Md}{V:List Zy_}{f:Zy_} (hp:ZaP Fs f < V.length):setp (ZaP Fs) (ZcX Fs kind Ms) V f=V.set (ZaP Fs f) ((ZcX Fs kind Ms V f).getD (ZbQ Fs V f)):=by
 unfold setp
 cases h:ZcX Fs kind Ms V f with
 | some v=>rfl
 | none=>
  unfold ZbQ;rw [List.getElem?_eq_getElem hp];simp
theorem Zqh {kind:Zy_}{Ms:List Md}{V:List Zy_}{f:Zy_} (hm:∀ m ∈ Ms,Zeq m) (hv:∀ s ∈ V,s.size<=maxLen) (hp:ZaP Fs f < V.length):((ZcX Fs kind Ms V f).getD (ZbQ Fs V f)).size<=maxLen:=by
 cases h:ZcX Fs kind Ms V f with
 | some v=>exact Zky hm hv h
 | none=>unfold ZbQ;rw [List.getElem?_eq_getElem hp];exact hv _ (List.getElem_mem hp)
theorem ZkV (lo:Nat) (v:Value) (Fs:List Fd) (s:Zy_) (w:World) (hv:Zau lo w v Fs) :
 Calls prog 200 #[v,.string s] w fun e w'=>e=.returned (.int .i64 (Zcc Fs s))/\Zw_ w w':=
 (Zbm lo v Fs s w hv).mono fun _ _ h=>⟨h.1,by rw [h.2];exact Below.refl _ _⟩
abbrev Zhf (wr:World) (β:Nat) (cs:Array Value) (rb ro:Nat) (s:Zy_) (vb:Nat) (W:World):Prop:=
 (∀ i,W.cell? ⟨β,i,none⟩=cs[i]?)/\W.cell? ⟨rb,ro,none⟩=some (.string s)/\Hd (Below vb wr W/\β < W.heap.size/\rb < W.heap.size/\vb≠β/\vb≠rb)
theorem Zhf.start {s:Zy_} (h:Hd (Box wr β cs)) (h1:Hd (wr.cell? ⟨rb,ro,none⟩=some (.string s))) (hr:rb < wr.heap.size) (e1:Hd (vb≠β)) (e2:Hd (vb≠rb)):Zhf wr β cs rb ro s vb wr.drew:=
 ⟨h.o.cell,h1.o,Zb_.drew,h.o.lt,hr,e1.o,e2.o⟩
theorem Zhf.on {W':World}{s:Zy_} (h:Zhf wr β cs rb ro s vb W) (hb:Below W.heap.size W W') (hv:vb<=W.heap.size):Zhf wr β cs rb ro s vb W':=by
 obtain⟨h1,h2,h5,h6,h7,h8,h9⟩:=h;exact⟨fun i=>(hb.cell (p:=⟨β,i,none⟩) h6).trans (h1 i),(hb.cell (p:=⟨rb,ro,none⟩) h7).trans h2,h5.trans (hb.mono hv),Zk_ h6 hb.size,Zk_ h7 hb.size,h8,h9⟩
theorem Zhf.set {s:Zy_}{vo:Nat} (h:Zhf wr β cs rb ro s vb W) (u:Value):Zhf wr β cs rb ro s vb (W.setCell ⟨vb,vo,none⟩ u):=by
 obtain⟨h1,h2,h5,h6,h7,h8,h9⟩:=h;exact⟨fun i=>(World.cell?_setCell_far _ _ _ _ h8).trans (h1 i),(World.cell?_setCell_far _ _ _ _ h9).trans h2,h5.setCell Zl_ _,by simpa [World.setCell] using h6,by simpa [World.setCell] using h7,h8,h9⟩
section
variable (kind nm team:Zy_) (vv hv sv mv:Value) (en:Bool) (ver:Int) (V Ho:List Zy_) (Ss:List Sh) (Ms:List Md) (w:World) (lo lm:Nat)
theorem ZkX (hS:ZaI lo w sv Ss) (hM:Zbe lm w mv Ms) (hV:Zaf w vv V) (hH:Zaf w hv Ho) (n1:V.length<=1048576) (n2:Ho.length<=1048576) (hmb:Zax Ss Ms=true) :
 Calls prog 173 #[sv,mv,.agg #[.string kind,.string nm,.string team,vv,.bool en,hv,.int .i64 ver]] w
  fun e w'=>∃ v' h' F,e=.returned (.agg #[.string kind,.string nm,.string team,v',.bool en,h',.int .i64 ver])/\Zw_ w w'/\ZfW w.heap.size w' v' h' F Ho/\ZmS Ss Ms kind V F:=by
 have HV:=Zab hV;have HH:=Zab hH;have HS:=Zab hS;have HM:=Zab hM;have HMB:=Zab hmb;have h12:Ms.length<=12:=Zga hmb;obtain⟨a,cap,rfl⟩:=hV.form';obtain⟨a',cap',rfl⟩:=hH.form';obtain⟨a1,cap1,rfl⟩:=hS.form;obtain⟨ma,mcap,rfl⟩:=hM.form;clear hV hH hS hM hmb;go_enter func173,ntmps173;go_wp2_with fail;generalize hWa:w.alloc _=Wa;have hza:Wa.heap.size=w.heap.size+1:=by rw [<- hWa];simp
 have HBa:Hd (Zw_ w Wa):=by rw [<- hWa];exact Zac _ _
 have FI:Hd (Box Wa w.heap.size #[.string kind,.string nm,.string team,.slice a V.length cap,.bool en,.slice a' Ho.length cap',.int .i64 ver]):=by rw [<- hWa];exact Box.new _ _ _ _ rfl
 clear hWa;generalize hWb:Wa.alloc _=Wb;have hzb:Wb.heap.size=w.heap.size+2:=by rw [<- hWb];simp [hza]
 have hbb:Below Wa.heap.size Wa Wb:=by rw [<- hWb];exact Zac _ _
 have HBb:Hd (Zw_ w Wb):=HBa.o.trans (hbb.mono (by omega));have FI:=Zab (FI.o.on hbb);have FR:Hd (Box Wb (w.heap.size+1) #[.string ⟨#[]⟩,.string ⟨#[]⟩,.string ⟨#[]⟩,.slice none 0 0,.bool false,.slice none 0 0,.int .i64 0]):=by rw [<- hWb];exact Box.new _ _ _ _ hza
 clear hWb hbb HBa hza;refine (Zi5 _ _ _ _ _ _ _ V Ho _ (HV.o.below HBb.o) (HH.o.below HBb.o) n1 n2).mono ?_;rintro e w1 ⟨v1,h1,rfl,hb1,mid,hlo,hmid,hs1,hs2⟩;obtain⟨a2,cap2,rfl⟩:=hs1.form;obtain⟨a3,cap3,rfl⟩:=hs2.form;have hz1:=hb1.size;have FI:=Zab (FI.o.on hb1);have FR:=Zab (FR.o.on hb1);have HB1:Hd (Zw_ w w1):=HBb.o.trans (hb1.mono HBb.o.size);have HS1:Hd (Zad (w.heap.size+2) mid w1 (.slice a2 V.length cap2) V):=by rw [<- hzb];exact hs1
 have HS2:=Zab hs2;have hlo':w.heap.size+2<=mid:=by omega
 clear hb1 hs1 hs2 HBb hlo;have g1:=FI.o.cell;have gl:=FI.o.lt;go_wp2_with fail;clear g1 gl;generalize hWd:w1.alloc _=Wd;have hzd:Wd.heap.size=w1.heap.size+1:=by rw [<- hWd];simp
 have hbd:Below w1.heap.size w1 Wd:=by rw [<- hWd];exact Zac _ _
 have HBd:Hd (Zw_ w Wd):=HB1.o.trans (hbd.mono HB1.o.size);have FI:=Zab (FI.o.on hbd);have FR:=Zab (FR.o.on hbd);have FO:Hd (Box Wd w1.heap.size #[.string kind,.string nm,.string team,.slice a2 V.length cap2,.bool en,.slice a3 Ho.length cap3,.int .i64 ver]):=by rw [<- hWd];exact Box.new _ _ _ _ rfl
 have HS1:=Zab (HS1.o.below hbd);have HS2:=Zab (HS2.o.below hbd);clear hWd hbd HB1;refine (Zcr _ _ _ _ _ _ _ _ V Ho Ss _ lo w HS.o HBd.o (HV.o.below HBd.o) (HH.o.below HBd.o)).mono ?_;rintro e w2 ⟨hb2,hlf⟩;have hz2:=hb2.size;have HB2:Hd (Zw_ w w2):=HBd.o.trans (hb2.mono HBd.o.size);have FI:=Zab (FI.o.on hb2);have FR:=Zab (FR.o.on hb2);have FO:=Zab (FO.o.on hb2);have HS1:=Zab (HS1.o.below hb2);have HS2:=Zab (HS2.o.below hb2);clear hb2 HBd
 rcases hlf with ⟨x,fv,hx,hlx,rfl,hfd⟩ | ⟨hno,fa0,fcap0,rfl⟩
 . obtain⟨fa,fcap,rfl⟩:=hfd.form
   have HFD:=Zab hfd;have HX:=Zab hx;have HL:=Zab hlx;have hfb:ZaA Ss x.fields=true:=Zbz (Zc9 HMB.o) (Zcg hx).1;have h6:x.fields.length<=6:=Zdb hfb;have n6:V.length<=6:=by omega
   have HNA:Hd (ZrD x.fields kind Ms):=by unfold Hd;have:=Zm3 HMB.o hx;rw [(Zcg hx).2] at this;exact this
   have HKX:Hd (x.kind=kind):=(Zcg hx).2;have HRB:Hd (Zbr Ms x=true):=Zfa HMB.o (Zcg hx).1;have hs6:Ss.length<=6:=Zjl (Zc9 HMB.o);clear hfd hx hlx hfb;have g1:=FI.o.cell;have gl:=FI.o.lt;go_wp2_with fail;refine (ZeY lo _ Ss kind _ (HS.o.below HB2.o)).mono ?_;rintro e w2' ⟨rfl,⟨k,hk,rfl,hsh⟩ | ⟨rfl,hsh⟩⟩
   . have HXK:Hd (Ss[k]=x):=by
      have:=HX.o;rw [hsh,List.getElem?_eq_getElem hk] at this;exact Option.some.inj this
     clear hsh;obtain⟨b,off,rfl,hbw,hc⟩:=HS.o.full' (by omega);obtain⟨_,fv',d0,d1,hst⟩:=hc k hk;rw [HXK.o] at d0 hst;obtain⟨fa',fcap',rfl⟩:=hst.form;have HST:=Zab hst;have c0:w2'.cell? ⟨b,off+k*2,none⟩=some (.string x.kind):=by rw [HB2.o.cell (p:=⟨b,_,none⟩) hbw];exact d0
     have c1:w2'.cell? ⟨b,off+k*2+1,none⟩=some (.slice fa' x.fields.length fcap'):=by rw [HB2.o.cell (p:=⟨b,_,none⟩) hbw];exact d1
     clear d0 d1 hst hc;go_wp2_with fail;clear g1 gl c0 c1;refine (ZkY lo lm _ _ x Ms _ (HST.o.below HB2.o) (HM.o.below HB2.o) (by omega)).mono ?_;rintro e w3 ⟨rv,R,rfl,hb3,ho,hro⟩;have hz3:=hb3.size;have HB3:Hd (Zw_ w w3):=HB2.o.trans (hb3.mono HB2.o.size);have FR:=Zab (FR.o.on hb3);have FO:=Zab (FO.o.on hb3);have HS1:=Zab (HS1.o.below hb3);have HS2:=Zab (HS2.o.below hb3);have HO:=Zab ho;obtain⟨ra,rcap,rfl⟩:=ho.form;have HG:Hd (Zc4 (ZaD x.fields) (Zam x.kind Ms) R):=hro.1;have HFIX:Hd (ZpA x Ms V (Zc8 (ZaP x.fields) (ZcX x.fields x.kind Ms) R V)):=Zj2 hro.1 (by rw [ZeZ];have:=hro.2.2.2 HRB.o;omega) HL.o;have hRl:R.length<=6:=Nat.le_trans hro.2.1 h6;clear hb3 ho hro HB2;rw [HKX.o] at HG HFIX;go_wp2
     go_loopw [11] (fun i wr=>∃ j:Nat,i=.int .i64 j/\j<=R.length/\Zad (w.heap.size+2) mid wr (.slice a2 V.length cap2) (Zc8 (ZaP x.fields) (ZcX x.fields kind Ms) (R.take j) V)/\Zag (w.heap.size+2) mid w3 wr) (fun i _=>R.length - (intOf i).toNat)
     case atStart=>exact⟨0,rfl,by omega,HS1.o,Zag.refl _ _ _⟩
     case round=>
      obtain⟨j,rfl,hj,hso,ht⟩:=hrel;have HSO:=Zab hso;have HT:=Zab ht;have hzr:=ht.size;have HBr:Hd (Zw_ w wr):=HB3.o.trans ((ht.under (by omega)).mono (by omega));have FRr:=Zab (FR.o.touch ht (by omega));have FOr:=Zab (FO.o.touch ht (by omega));have HOr:=Zab (HO.o.touch ht (by omega));clear hso ht HS1
      by_cases hlt:j < R.length
      . obtain⟨rb,ro,rfl,hrb,hrc⟩:=HOr.o.strs.full' (by omega)
        have ck:=hrc j hlt;clear hrc;have HLv:Hd ((Zc8 (ZaP x.fields) (ZcX x.fields kind Ms) (R.take j) V).length=V.length):=Zh1 _ _ _ _;have HNEXT:=Zab (Zi7 (ZaP x.fields) (ZcX x.fields kind Ms) hlt V);have HIN:Hd (R[j] ∈ ZaD x.fields):=HG.o.sub (List.getElem_mem hlt);generalize hcur:Zc8 (ZaP x.fields) (ZcX x.fields kind Ms) (R.take j) V=L at*;have hp:ZaP x.fields R[j] < x.fields.length:=Zcm.2 HIN.o
        have hpL:ZaP x.fields R[j] < L.length:=by have:=HLv.o;have:=HL.o;omega
        have hpV:ZaP x.fields R[j] < V.length:=by have:=HL.o;omega
        have hpi:Zcc x.fields R[j]=(ZaP x.fields R[j]:Int):=ZbO hp;have HNX:Hd (Zc8 (ZaP x.fields) (ZcX x.fields kind Ms) (R.take (j+1)) V=L.set (ZaP x.fields R[j]) ((ZcX x.fields kind Ms L R[j]).getD (ZbQ x.fields L R[j]))):=by unfold Hd;rw [HNEXT.o];exact ZqT hpL
        have HNS:Hd (((ZcX x.fields kind Ms L R[j]).getD (ZbQ x.fields L R[j])).size<=maxLen):=Zqh HM.o.sizes HSO.o.at.sizes hpL;have hLl:L.length<=6:=by have:=HLv.o;omega
        have HSH:=Zab (HS2.o.touch HT.o (Or.inr Zl_));clear HNEXT;obtain⟨vb,vo,rfl,hVL,hvb,hv1,hv2,hvc,hvf⟩:=HSO.o.full (by omega);clear hVL;have ck3:=hvc _ hpL;have fz3:=hvf (ZaP x.fields R[j]);have g1:=FOr.o.cell;have gl:=FOr.o.lt;clear hvc hvf;generalize hpp:ZaP x.fields R[j]=p at*;generalize hdv:(ZcX x.fields kind Ms L R[j]).getD (ZbQ x.fields L R[j])=dv at*;have HCK:=Zab ck;have HCK3:=Zab ck3;have HFZ3:=Zab fz3;clear ck ck3 fz3 g1 gl;have HFDr:=Zab (HFD.o.below HBr.o);have HMr:=Zab (HM.o.below HBr.o);have HE1:Hd (vb≠w1.heap.size):=by unfold Hd;omega
        have HE2:Hd (vb≠rb):=by
         have:=HOr.o.row.form (by omega);obtain⟨g,cp,e1,e2,_⟩:=this;injection e1 with e1
         injection e1 with e1
         injection e1 with e1
         unfold Hd;omega
        have hvl:vb<=wr.drew.heap.size:=Nat.le_of_lt hvb;go_wp2
        go_region_held3 (Zhf wr w1.heap.size #[.string kind,.string nm,.string team,.slice (some ⟨vb,vo,none⟩) V.length cap2,.bool en,.slice a3 Ho.length cap3,.int .i64 ver] rb (ro+j) R[j] vb)
         (first
           | (with_reducible exact Zhf.start FOr HCK hrb HE1 HE2)
           | (with_reducible exact Zhf.set (by assumption) _)
           | (with_reducible exact Zhf.on (by assumption) (by assumption) (by assumption)))
         (first
           | (go_at_call 200
              refine (ZkV lo _ x.fields R[j] _ (HFDr.o.below (Zb_.drew))).mono ?_;rintro e w4 ⟨rfl,hb4⟩;rw [hpi];have hq4:Below wr.heap.size wr w4:=ZlP hb4;have HQ4:=Zab hq4;have hvl4:vb<=w4.heap.size:=Nat.le_trans (Nat.le_of_lt hvb) hq4.size;clear hq4)
           | (go_at_call 203
              refine (ZjY lo lm _ _ _ R[j] _ _ _ _ _ _ x.fields Ms L Ho _ (HFDr.o.below HQ4.o) (HMr.o.below HQ4.o) (HSO.o.at.below HQ4.o) (HSH.o.at.below HQ4.o) h6 (HL.o.trans HLv.o.symm) HNA.o h12 HIN.o).mono ?_;rintro e w5 ⟨rfl,hb5⟩;rw [hdv];have HB5:Hd (Below wr.heap.size wr w5):=HQ4.o.trans (hb5.mono HQ4.o.size);have ck5:w5.cell? ⟨vb,vo+p,none⟩=some (.string L[p]):=(HB5.o.cell (p:=⟨vb,vo+p,none⟩) hvb).trans HCK3.o;have fz5:w5.frozen? ⟨vb,vo+p,none⟩=false:=(HB5.o.frozen (p:=⟨vb,vo+p,none⟩) hvb).trans HFZ3.o))
        all_goals
         go_wp2;go_roundw
         . exact⟨j+1,by go_num,by omega,by rw [HNX.o];exact (HSO.o.below HB5.o).put hpL HNS.o,(HT.o.trans (Zag.below HB5.o)).trans (Zag.setCell _ _ _ _ _ ⟨hv1,hv2⟩)⟩
         . simp [intOf];omega
      . have e:j=R.length:=by omega
        subst e;have HE:Hd (R.take R.length=R):=List.take_length;have g2:=FOr.o.cell;have gl2:=FOr.o.lt;have HS2r:=Zab (HS2.o.touch HT.o (Or.inr Zl_));have HR:Hd (ZmS Ss Ms kind V (Zc8 (ZaP x.fields) (ZcX x.fields kind Ms) (R.take R.length) V)):=Or.inl ⟨x,HMB.o,HX.o,HL.o,by rw [HE.o];exact HFIX.o⟩;have rr:=FRr.o.cell;have rf:=FRr.o.free;have rl:=FRr.o.lt;have r0:wr.cell? ⟨w.heap.size+1,0,none⟩=some (.string ⟨#[]⟩):=rr 0;have r1:wr.cell? ⟨w.heap.size+1,1,none⟩=some (.string ⟨#[]⟩):=rr 1;have r2:wr.cell? ⟨w.heap.size+1,2,none⟩=some (.string ⟨#[]⟩):=rr 2;have r3:wr.cell? ⟨w.heap.size+1,3,none⟩=some (.slice none 0 0):=rr 3;have r4:wr.cell? ⟨w.heap.size+1,4,none⟩=some (.bool false):=rr 4;have r5:wr.cell? ⟨w.heap.size+1,5,none⟩=some (.slice none 0 0):=rr 5;have r6:wr.cell? ⟨w.heap.size+1,6,none⟩=some (.int .i64 0):=rr 6;clear rr;go_wp2
        refine bodyPost_ret (v:=.agg #[.string kind,.string nm,.string team,.slice a2 V.length cap2,.bool en,.slice a3 Ho.length cap3,.int .i64 ver]) (by simp [results,results173,go_sem,r0,r1,r2,r3,r4,r5,r6]) rfl ⟨_,_,_,rfl,?_,⟨mid,?_,?_,?_,?_⟩,HR.o⟩
        . repeat (refine Below.setCell ?_ (by simp only [];omega) _)
          exact HBr.o
        . omega
        . simp only [World.setCell,Array.size_modify];omega
        . refine Zad.wide (lo:=w.heap.size+2) (hi:=mid) ?_ (by omega) Zl_
          repeat (refine Zad.setCell ?_ (by simp only [];omega) _)
          exact HSO.o
        . refine Zad.wide (lo:=mid) (hi:=w1.heap.size) ?_ Zl_ (by simp only [World.setCell,Array.size_modify];omega)
          repeat (refine Zad.setCell ?_ (by simp only [];omega) _)
          exact HS2r.o
   . rw [hsh] at HX;cases HX.o
 . have HR:Hd (ZmS Ss Ms kind V V):=Or.inr ⟨Or.inr hno,rfl⟩
   clear hno;have g2:=FO.o.cell;have gl2:=FO.o.lt;have rr:=FR.o.cell;have rf:=FR.o.free;have rl:=FR.o.lt;have r0:w2.cell? ⟨w.heap.size+1,0,none⟩=some (.string ⟨#[]⟩):=rr 0;have r1:w2.cell? ⟨w.heap.size+1,1,none⟩=some (.string ⟨#[]⟩):=rr 1;have r2:w2.cell? ⟨w.heap.size+1,2,none⟩=some (.string ⟨#[]⟩):=rr 2;have r3:w2.cell? ⟨w.heap.size+1,3,none⟩=some (.slice none 0 0):=rr 3;have r4:w2.cell? ⟨w.heap.size+1,4,none⟩=some (.bool false):=rr 4;have r5:w2.cell? ⟨w.heap.size+1,5,none⟩=some (.slice none 0 0):=rr 5;have r6:w2.cell? ⟨w.heap.size+1,6,none⟩=some (.int .i64 0):=rr 6;clear rr;go_wp2;refine bodyPost_ret (v:=.agg #[.string kind,.string nm,.string team,.slice a2 V.length cap2,.bool en,.slice a3 Ho.length cap3,.int .i64 ver]) (by simp [results,results173,go_sem,r0,r1,r2,r3,r4,r5,r6]) rfl ⟨_,_,V,rfl,?_,⟨mid,?_,?_,?_,?_⟩,HR.o⟩
   . repeat (refine Below.setCell ?_ (by simp only [];omega) _)
     exact HB2.o
   . omega
   . simp only [World.setCell,Array.size_modify];omega
   . refine Zad.wide (lo:=w.heap.size+2) (hi:=mid) ?_ (by omega) Zl_
     repeat (refine Zad.setCell ?_ (by simp only [];omega) _)
     exact HS1.o
   . refine Zad.wide (lo:=mid) (hi:=w1.heap.size) ?_ Zl_ (by simp only [World.setCell,Array.size_modify];omega)
     repeat (refine Zad.setCell ?_ (by simp only [];omega) _)
     exact HS2.o
end
theorem ZoR {Ss:List Sh}{Ms:List Md}{kind:Zy_}{V F:List Zy_} (hm:Zax Ss Ms=true) (h:ZmS Ss Ms kind (ZhM Ss kind V) F):ZcF Ss Ms kind V F:=by
 by_cases hx:∃ x,Zcn Ss kind=some x/\x.fields.length=V.length
 . obtain⟨x,h1,h2⟩:=hx
   rw [ZhN h1 h2] at h
   rcases h with ⟨y,a1,a2,a3,a4⟩ | ⟨a1,a2⟩
   . rw [h1] at a2;cases a2
     exact Or.inl ⟨x,a1,h1,h2,a4⟩
   . rcases a1 with a1 | a1
     . rw [hm] at a1;cases a1
     . exact absurd (by rw [ZeU h2];exact h2) (a1 x h1)
 . have hno:∀ x,Zcn Ss kind=some x->x.fields.length≠V.length:=fun x h1 h2=>hx ⟨x,h1,h2⟩
   rw [ZjM hno] at h
   rcases h with ⟨y,a1,a2,a3,a4⟩ | ⟨a1,a2⟩
   . exact absurd a3 (hno y a2)
   . exact Or.inr ⟨a1,a2⟩
theorem Zqe (Ss:List Sh) (kind:Zy_) (V:List Zy_):(ZhM Ss kind V).length=V.length:=by
 by_cases hx:∃ x,Zcn Ss kind=some x/\x.fields.length=V.length
 . obtain⟨x,h1,h2⟩:=hx
   rw [ZhN h1 h2,ZeU h2]
 . rw [ZjM fun x h1 h2=>hx ⟨x,h1,h2⟩]
section
variable (kind nm team:Zy_) (vv hv sv mv:Value) (en:Bool) (ver:Int) (V Ho:List Zy_) (Ss:List Sh) (Ms:List Md) (w:World) (lo lm:Nat)
theorem ZkZ (hS:ZaI lo w sv Ss) (hM:Zbe lm w mv Ms) (hV:Zaf w vv V) (hH:Zaf w hv Ho) (n1:V.length<=1048576) (n2:Ho.length<=1048576) (hmb:Zax Ss Ms=true) :
 Calls prog 130 #[sv,mv,.agg #[.string kind,.string nm,.string team,vv,.bool en,hv,.int .i64 ver]] w
  fun e w'=>∃ v' h' F,e=.returned (.agg #[.string kind,.string nm,.string team,v',.bool en,h',.int .i64 ver])/\Zw_ w w'/\ZfW w.heap.size w' v' h' F Ho/\ZcF Ss Ms kind V F:=by
 have HV:=Zab hV;have HH:=Zab hH;have HS:=Zab hS;have HM:=Zab hM;obtain⟨a,cap,rfl⟩:=hV.form';obtain⟨a',cap',rfl⟩:=hH.form';obtain⟨a1,cap1,rfl⟩:=hS.form;obtain⟨ma,mcap,rfl⟩:=hM.form;clear hV hH hS hM;go_enter func130,ntmps130;go_wp2_with fail;generalize hWa:w.alloc _=Wa;have hza:Wa.heap.size=w.heap.size+1:=by rw [<- hWa];simp
 have HBa:Hd (Zw_ w Wa):=by rw [<- hWa];exact Zac _ _
 have FO:Hd (Box Wa w.heap.size #[.string kind,.string nm,.string team,.slice a V.length cap,.bool en,.slice a' Ho.length cap',.int .i64 ver]):=by rw [<- hWa];exact Box.new _ _ _ _ rfl
 clear hWa;generalize hWb:Wa.alloc _=Wb;have hzb:Wb.heap.size=w.heap.size+2:=by rw [<- hWb];simp [hza]
 have hbb:Below Wa.heap.size Wa Wb:=by rw [<- hWb];exact Zac _ _
 have HBb:Hd (Zw_ w Wb):=HBa.o.trans (hbb.mono (by omega));have FO:=Zab (FO.o.on hbb);have FR:Hd (Box Wb (w.heap.size+1) #[.string ⟨#[]⟩,.string ⟨#[]⟩,.string ⟨#[]⟩,.slice none 0 0,.bool false,.slice none 0 0,.int .i64 0]):=by rw [<- hWb];exact Box.new _ _ _ _ hza
 clear hWb hbb HBa hza;refine (Zot _ _ _ _ _ _ _ _ V Ho Ss _ lo (HS.o.below HBb.o) (HV.o.below HBb.o) (HH.o.below HBb.o) n1 n2).mono ?_;rintro e w1 ⟨v1,h1,rfl,hb1,mid1,hlo1,hmi1,hs1,hs2⟩;obtain⟨a2,cap2,rfl⟩:=hs1.form;obtain⟨a3,cap3,rfl⟩:=hs2.form;have FR:=Zab (FR.o.on hb1);have HB1:Hd (Zw_ w w1):=HBb.o.trans (hb1.mono HBb.o.size);have hz1:=hb1.size;have HV1:=Zab hs1.at;have HH1:=Zab hs2.at;have HMB:=Zab hmb;have nf:(ZhM Ss kind V).length<=1048576:=by rw [Zqe];exact n1
 clear hb1 HBb hs1 hs2 hlo1 hmi1 FO hmb;go_wp2_with fail;refine (ZkX _ _ _ _ _ _ _ _ _ (ZhM Ss kind V) Ho Ss Ms _ lo lm (HS.o.below HB1.o) (HM.o.below HB1.o) HV1.o HH1.o nf n2 HMB.o).mono ?_;rintro e w2 ⟨v2,h2,F,rfl,hb2,⟨mid2,hlo2,hmi2,hs3,hs4⟩,hfix⟩;have HR:=Zab (ZoR HMB.o hfix);clear hfix;have HB2:Hd (Zw_ w w2):=HB1.o.trans (hb2.mono HB1.o.size);have hz2:=hb2.size;have FR2:=Zab (FR.o.on hb2);obtain⟨a4,cap4,rfl⟩:=hs3.form;obtain⟨a5,cap5,rfl⟩:=hs4.form;have HV2:=Zab hs3;have HH2:=Zab hs4;clear hb2 hs3 hs4;have rr:=FR2.o.cell;have rf:=FR2.o.free;have rl:=FR2.o.lt;have r0:w2.cell? ⟨w.heap.size+1,0,none⟩=some (.string ⟨#[]⟩):=rr 0;have r1:w2.cell? ⟨w.heap.size+1,1,none⟩=some (.string ⟨#[]⟩):=rr 1;have r2:w2.cell? ⟨w.heap.size+1,2,none⟩=some (.string ⟨#[]⟩):=rr 2
 have r3:w2.cell? ⟨w.heap.size+1,3,none⟩=some (.slice none 0 0):=rr 3;have r4:w2.cell? ⟨w.heap.size+1,4,none⟩=some (.bool false):=rr 4;have r5:w2.cell? ⟨w.heap.size+1,5,none⟩=some (.slice none 0 0):=rr 5;have r6:w2.cell? ⟨w.heap.size+1,6,none⟩=some (.int .i64 0):=rr 6;clear rr;go_wp2;refine bodyPost_ret (v:=.agg #[.string kind,.string nm,.string team,.slice a4 F.length cap4,.bool en,.slice a5 Ho.length cap5,.int .i64 ver]) (by simp [results,results130,go_sem,r0,r1,r2,r3,r4,r5,r6]) rfl ⟨_,_,F,rfl,?_,⟨mid2,?_,?_,?_,?_⟩,HR.o⟩
 . repeat (refine Below.setCell ?_ (by simp only [];omega) _)
   exact HB2.o
 . omega
 . simp only [World.setCell,Array.size_modify];omega
 . refine Zad.wide (lo:=w1.heap.size) (hi:=mid2) ?_ (by omega) Zl_
   repeat (refine Zad.setCell ?_ (by simp only [];omega) _)
   exact HV2.o
 . refine Zad.wide (lo:=mid2) (hi:=w2.heap.size) ?_ Zl_ (by simp only [World.setCell,Array.size_modify];omega)
   repeat (refine Zad.setCell ?_ (by simp only [];omega) _)
   exact HH2.o
end
theorem ZcF.exists (Ss:List Sh) (Ms:List Md) (kind:Zy_) (V:List Zy_):∃ F,ZcF Ss Ms kind V F:=by
 by_cases hm:Zax Ss Ms=true
 . by_cases hx:∃ x,Zcn Ss kind=some x/\x.fields.length=V.length
   . obtain⟨x,h1,h2⟩:=hx
     obtain⟨R,hg,hl⟩:=Zll (Zfa hm (Zcg h1).1);exact⟨_,Or.inl ⟨x,hm,h1,h2,Zj2 hg hl (by rw [ZeU h2];exact h2)⟩⟩
   . exact⟨V,Or.inr ⟨Or.inr fun x h1 h2=>hx ⟨x,h1,h2⟩,rfl⟩⟩
 . exact⟨V,Or.inr ⟨Or.inl (by simpa using hm),rfl⟩⟩
end
open Go.RowKit Go.Deep Go.Maps
variable {W0:World} {b1 b2 b3:Nat} {cs1 cs2 cs3:Array Value}
abbrev Zks (W0:World) (b1:Nat) (cs1:Array Value) (b2:Nat) (cs2:Array Value) (b3:Nat) (cs3:Array Value) (W:World):Prop:=
 (∀ i,W.cell? ⟨b1,i,none⟩=cs1[i]?)/\(∀ i,W.cell? ⟨b2,i,none⟩=cs2[i]?)/\(∀ i,W.cell? ⟨b3,i,none⟩=cs3[i]?)/\Hd (Below W0.heap.size W0 W/\b1 < W0.heap.size/\b2 < W0.heap.size/\b3 < W0.heap.size)
theorem Zks.drew (h1:Box W0 b1 cs1) (h2:Box W0 b2 cs2) (h3:Box W0 b3 cs3):Zks W0 b1 cs1 b2 cs2 b3 cs3 W0.drew:=⟨h1.cell,h2.cell,h3.cell,Zb_.drew,h1.lt,h2.lt,h3.lt⟩
theorem Zks.on {W W':World} (h:Zks W0 b1 cs1 b2 cs2 b3 cs3 W) (hb:Below W.heap.size W W'):Zks W0 b1 cs1 b2 cs2 b3 cs3 W':=by
 obtain⟨h1,h2,h3,h4,h5,h6,h7⟩:=h;have:=h4.size;exact⟨fun i=>(hb.cell (p:=⟨b1,i,none⟩) (by simp only [];omega)).trans (h1 i),fun i=>(hb.cell (p:=⟨b2,i,none⟩) (by simp only [];omega)).trans (h2 i),fun i=>(hb.cell (p:=⟨b3,i,none⟩) (by simp only [];omega)).trans (h3 i),h4.trans (hb.mono h4.size),h5,h6,h7⟩
theorem ZgV (k n t v e h r:Value) (W:World):(Instr.field 128 (.agg #[k,n,t,v,e,h,r]) 3).run prog W=.ok v W:=by
 simp [Instr.field,go_sem,run_underlying underlying128,Result.andThen,asAgg]
def Zcx (Ts:List Tm) (Fs:List Fd) (o:Ob) (F:List Zy_):Bool:=decide ((ZaQ Fs o.nm o.tm o.vs o.hs o.ver).1=0)&&(ZgB Ts o.tm&&decide (F=o.vs))
section
variable (lo:Nat) (sv mv tv fv vv hv:Value) (Ss:List Sh) (Ms:List Md) (Ts:List Tm) (x:Sh) (o:Ob) (F:List Zy_) (w:World)
theorem Zld (hl:ZbH lo w sv mv tv Ss Ms Ts) (hmb:Zax Ss Ms=true) (hx:Zcn Ss o.kd=some x) (hF:Zau lo w fv x.fields) (hV:Zaf w vv o.vs) (hH:Zaf w hv o.hs) (hz:Zdg o) (n2:o.hs.length<=1048576) (hsh:ZcF Ss Ms o.kd o.vs F) :
 Calls prog 212 #[.agg #[sv,mv,tv],.agg #[.string x.kind,fv],.agg #[.string o.kd,.string o.nm,.string o.tm,vv,.bool o.en,hv,.int .i64 o.ver]] w
  fun e w'=>e=.returned (.bool (Zcx Ts x.fields o F))/\Zw_ w w':=by
 have HL:=Zab hl;have HMB:=Zab hmb;have HX:=Zab hx;have HF:=Zab hF;have HV:=Zab hV;have HH:=Zab hH;have HSH:=Zab hsh;have s1:=hz.s1;have s2:=hz.s2;obtain⟨sa,sc,rfl⟩:=hl.shs.form;obtain⟨ma,mc,rfl⟩:=hl.mds.form;obtain⟨ta,tc,rfl⟩:=hl.tms.form;obtain⟨fa,fcap,rfl⟩:=hF.form;obtain⟨va,vcap,rfl⟩:=hV.form';obtain⟨ha,hcap,rfl⟩:=hH.form';have HQ:Hd (Zcx Ts x.fields o F=(decide ((ZaQ x.fields o.nm o.tm o.vs o.hs o.ver).1=0)&&(ZgB Ts o.tm&&decide (F=o.vs)))):=rfl;have HP:=Zab (Zje Ts o.tm);clear hl hmb hx hF hV hH hz hsh;go_enter func212,ntmps212;go_wp2_with fail;generalize hWa:(World.alloc (World.alloc (w.alloc _) _) _)=Wa;have HB:Hd (Zw_ w Wa):=by rw [<- hWa];exact ((Zac w _).alloc (by simp) _).alloc (by simp;omega) _
 have HX1:Hd (Box Wa w.heap.size #[.slice sa Ss.length sc,.slice ma Ms.length mc,.slice ta Ts.length tc]):=by rw [<- hWa];exact ((Box.new _ _ _ _ rfl).on (Zac _ _)).on (Zac _ _)
 have HX2:Hd (Box Wa (w.heap.size+1) #[.string x.kind,.slice fa x.fields.length fcap]):=by rw [<- hWa];exact (Box.new _ _ _ _ (by simp)).on (Zac _ _)
 have HX3:Hd (Box Wa (w.heap.size+1+1) #[.string o.kd,.string o.nm,.string o.tm,.slice va o.vs.length vcap,.bool o.en,.slice ha o.hs.length hcap,.int .i64 o.ver]):=by rw [<- hWa];exact Box.new _ _ _ _ (by simp)
 clear hWa;refine (ZhC x.kind o.kd o.nm o.tm _ _ _ o.en o.ver o.vs o.hs x.fields Wa lo (HV.o.below HB.o) (HH.o.below HB.o) (HF.o.below HB.o) s1 s2).mono ?_;rintro e w1 ⟨rfl,hb1⟩;have HB1:Hd (Zw_ w w1):=HB.o.trans (hb1.mono HB.o.size);have HY1:=Zab (HX1.o.on hb1);have HY2:=Zab (HX2.o.on hb1);have HY3:=Zab (HX3.o.on hb1);clear hb1 HX1 HX2 HX3 HB;have y2:=HY1.o.cell 2;have y3:=HY3.o.cell 2;simp at y2 y3
 by_cases hck:(ZaQ x.fields o.nm o.tm o.vs o.hs o.ver).1=0
 case neg=>
  have HE:Hd (Zcx Ts x.fields o F=false):=by unfold Hd;rw [HQ.o,decide_eq_false hck];rfl
  rw [Zoc hck];go_wp2;go_ret;exact⟨Zaa HE.o.symm,HB1.o⟩
 have HLEN:=Zab (Ze6 hck);rw [Zob hck];go_wp2_with fail;refine (ZcB lo _ Ts _ _ (HL.o.below HB1.o).tms).mono ?_;rintro e w2 ⟨rfl,hb2⟩;have HB2:Hd (Zw_ w w2):=HB1.o.trans (hb2.mono HB1.o.size);have HZ1:=Zab (HY1.o.on hb2);have HZ2:=Zab (HY2.o.on hb2);have HZ3:=Zab (HY3.o.on hb2);clear hb2 HY1 HY2 HY3 y2 y3 HB1
 cases h1:ZgB Ts o.tm with
 | false=>
  have HE:Hd (Zcx Ts x.fields o F=false):=by unfold Hd;rw [HQ.o,h1,Bool.false_and,Bool.and_false]
  have hd:decide (ZdB Ts o.tm < 0)=true:=by rw [HP.o,h1];rfl
  go_wp2;go_ret;exact⟨Zaa HE.o.symm,HB2.o⟩
 | true=>
  have HE:Hd (Zcx Ts x.fields o F=decide (F=o.vs)):=by unfold Hd;rw [HQ.o,h1,decide_eq_true hck];rfl
  have hd:decide (ZdB Ts o.tm < 0)=false:=by rw [HP.o,h1];rfl
  go_wp2;clear hd;have HD:Hd (Zw_ w w2.drew):=HB2.o.drew;have hfd:=ZgV
  go_region_held3 (Zks w2 w.heap.size #[.slice sa Ss.length sc,.slice ma Ms.length mc,.slice ta Ts.length tc] (w.heap.size+1) #[.string x.kind,.slice fa x.fields.length fcap] (w.heap.size+1+1) #[.string o.kd,.string o.nm,.string o.tm,.slice va o.vs.length vcap,.bool o.en,.slice ha o.hs.length hcap,.int .i64 o.ver])
   (first
     | (with_reducible exact Zks.drew HZ1.o HZ2.o HZ3.o)
     | (with_reducible exact Zks.on (by assumption) (by assumption)))
   (first
     | (go_at_call 243
        refine (Zln o.kd o.nm o.tm _ _ _ _ o.en o.ver o.vs o.hs Ss Ms x o.kd _ lo lo (HV.o.below HD.o) (HH.o.below HD.o) (HF.o.below HD.o) (HL.o.below HD.o).mds HMB.o HX.o HLEN.o.symm n2).mono ?_;rintro e w3 ⟨v',h',F',rfl,hb3,⟨mid,hlo,hmi,hs3,hs4⟩,hfix⟩;have HFF:Hd (F'=F):=ZcF.unique (Or.inl ⟨x,HMB.o,HX.o,HLEN.o.symm,hfix⟩) HSH.o;have HC3:Hd (Zw_ w w3):=HD.o.trans (hb3.mono HD.o.size);have HS3:=Zab hs3.at;obtain⟨va',vcap',rfl⟩:=hs3.form;obtain⟨ha',hcap',rfl⟩:=hs4.form;clear hfix hs3 hs4 hlo hmi)
     | (go_at_call 242
        refine (ZmC _ _ F' o.vs _ HS3.o (HV.o.below HC3.o)).mono ?_;rintro e w4 ⟨rfl,hb4⟩;have HC4:Hd (Zw_ w w4):=HC3.o.trans (hb4.mono HC3.o.size)))
  clear hfd;go_wp2;go_ret;exact⟨Zaa (by rw [HE.o,HFF.o]),HC4.o⟩
end
end Go.Proofs.YtmappejlmapboaaGreat
