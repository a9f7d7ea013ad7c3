import Derived.Test.YtcfjmagkinpaeaaGreatGN9
import Derived.WalkMore
set_option maxHeartbeats 16000000
set_option maxRecDepth 100000
open Go.Proofs.Tryz
namespace Go.Proofs.YtcfjmagkinpaeaaGreat
open Go.RowKit Go.Deep
theorem Zaf.full' {w:World} {a:Option Addr} {n cap:Nat} {L:List Zy_} (h:Zaf w (.slice a n cap) L) (hL:0 < L.length) :
 ∃ b off,a=some ⟨b,off,none⟩∧b < w.heap.size∧∀ i (h:i < L.length),w.cell? ⟨b,off+i,none⟩=some (.string L[i]):=by
 rcases h with ⟨a',cap',h,rfl⟩ | ⟨b',off',cap',h1,h2,h3,h4,h5,h6⟩
 · simp at hL
 · injection h1 with e1 e2 e3
   exact⟨b',off',e1,h4,h5⟩
theorem Znu (lo:Nat) (kind:Zy_) (v vv:Value) (Fs:List Fd) (m:Md) (V:List Zy_) (w0 w:World) (hv:Zav lo w0 v Fs) (h0:Below w0.heap.size w0 w) (hV:Zaf w vv V) (hl:Fs.length=V.length) (h6:Fs.length≤6) (hr:m.fr.toList.isEmpty=true∨m.fr ∈ ZaD Fs) :
 Calls prog 259 #[.agg #[.string kind,v],.agg #[.string m.kind,.string m.field,.string m.wh,.string m.is,.string m.put,.string m.fr],vv] w fun e w'=>e=.returned (.string (Zcf Fs V m))∧Zw_ w w':=by
 have HV:=Zab hv;have H0:=Zab h0;have HVV:=Zab hV;obtain⟨a,cap,rfl⟩:=hv.form;obtain⟨va,vcap,rfl⟩:=hV.form';have HL:=Zab hl;clear hv h0 hV hl;have HW:∀ o o',Hid (Zw_ w ((w.alloc o).alloc o')):=fun o o'=>(Zb_.alloc Zl_ _).alloc (by simp) _
 cases hfe:m.fr.toList.isEmpty with
 | true=>
  have HQ:Hid (Zcf Fs V m=m.put):=by unfold Hid Zcf;rw [if_pos hfe]
  go_enter func259,ntmps259;go_wp2;go_ret;exact⟨by rw [HQ.out];rfl,(HW _ _).out⟩
 | false=>
  have hp:ZaR Fs m.fr < Fs.length:=Zcb.2 (by rcases hr with h | h;rw [h] at hfe;cases hfe;exact h)
  have hpv:ZaR Fs m.fr < V.length:=by have:=HL.out;omega
  have HQ:Hid (Zcf Fs V m=V[ZaR Fs m.fr]):=by unfold Hid Zcf ZbL;rw [if_neg (by rw [hfe];simp),List.getElem?_eq_getElem hpv];rfl
  have HP:Hid (Zb4 Fs m.fr=ZaR Fs m.fr):=ZbJ hp;obtain⟨b,off,rfl,hbw,hc⟩:=HVV.out.full' (by omega);have h6':V.length≤6:=by have:=HL.out;omega
  have ck:=hc _ hpv;clear hc;go_enter func259,ntmps259;go_wp2_with fail;refine (ZeY lo _ _ Fs m.fr _ (HV.out.below (H0.out.trans ((HW _ _).out.mono H0.out.size)))).mono ?_;rintro e w1 ⟨rfl,hb1⟩;have HB1:Hid (Zw_ w w1):=(HW _ _).out.trans (hb1.mono (by simp;omega));have ck1:w1.cell? ⟨b,off+ZaR Fs m.fr,none⟩=some (.string V[ZaR Fs m.fr]):=by rw [HB1.out.cell (p:=⟨b,_,none⟩) hbw];exact ck
  rw [HP.out];clear hb1 ck HP;generalize ZaR Fs m.fr=p at*;go_wp2;go_ret;exact⟨by rw [HQ.out];rfl,HB1.out⟩
def ZtB (Fs:List Fd) (kind:Zy_) (Ms:List Md) (V:List Zy_) (f:Zy_) (e:Ending):Prop:=
 (∃ v,ZcG Fs kind Ms V f=some v∧e=.returned (.tuple #[.string v,.bool true]))∨(ZcG Fs kind Ms V f=none∧e=.returned (.tuple #[.string ⟨#[]⟩,.bool false]))
def Zpr (Fs:List Fd) (kind:Zy_) (Ms:List Md):Prop:=∀ m ∈ Ms,m.kind=kind→(m.wh.toList.isEmpty=true∨m.wh ∈ ZaD Fs)∧(m.fr.toList.isEmpty=true∨m.fr ∈ ZaD Fs)
theorem Zj4 (lo lm:Nat) (kind f:Zy_) (v mv vv:Value) (Ss:List Sh) (Fs:List Fd) (Ms:List Md) (V:List Zy_) (w0 w:World) (hv:Zav lo w0 v Fs) (h0:Below w0.heap.size w0 w) (hM:Zbc lm w mv Ms) (hV:Zaf w vv V)
 (hfb:ZaC Ss Fs=true) (hl:Fs.length=V.length) (hn:Zpr Fs kind Ms) (h12:Ms.length≤12) :
 Calls prog 251 #[.agg #[.string kind,v],mv,vv,.string f] w fun e w'=>Zw_ w w'∧ZtB Fs kind Ms V f e:=by
 have HV:=Zab hv;have H0:=Zab h0;have HM:=Zab hM;have HVV:=Zab hV;have HFB:=Zab hfb;have HN:=Zab hn;have h6:Fs.length≤6:=ZcY hfb;obtain⟨a,cap,rfl⟩:=hv.form;obtain⟨ma,mcap,rfl⟩:=hM.form;obtain⟨va,vcap,rfl⟩:=hV.form';have HL:=Zab hl;have h6':V.length≤6:=by omega
 clear hv h0 hM hV hfb hn hl;go_enter func251,ntmps251;go_wp2
 go_step3
 go_wp2
 go_step3
 go_wp2;generalize hWa:w.alloc _=Wa;have hza:Wa.heap.size=w.heap.size+1:=by rw [← hWa];simp
 have HBa:Hid (Zw_ w Wa):=by rw [← hWa];exact Zac _ _
 have FS:Hid (Box Wa w.heap.size #[.string kind,.slice a Fs.length cap]):=by rw [← hWa];exact Box.new _ _ _ _ rfl
 clear hWa
 go_loopw [16] (fun i wr=>∃ k:Nat,i=.int .i64 k∧k≤Ms.length∧Below Wa.heap.size Wa wr∧∀ i (h:i < Ms.length),i < k→(Zc3 kind f Ms[i]&&ZfX Fs V Ms[i])=false) (fun i _=>Ms.length - (intOf i).toNat)
 case atStart=>exact⟨0,rfl,by omega,Below.refl _ _,fun i _ h=>by omega⟩
 case round=>
  obtain⟨k,rfl,hk,hb,hall⟩:=hrel;have HA:=Zab hall;have HB:=Zab hb;have HBw:Hid (Zw_ w wr):=HBa.out.trans (hb.mono (by omega));have FSr:=Zab (FS.out.on hb);clear hall hb
  by_cases hlt:k < Ms.length
  · obtain⟨b,off,rfl,hbw,hc⟩:=HM.out.full' (by omega)
    obtain⟨hsz,hcell⟩:=hc k hlt;obtain⟨c0,c1,c2,c3,c4,c5⟩:=hcell.below HBw.out hbw;have g1:=FSr.out.cell;have gl:=FSr.out.lt;clear hcell hc
    have HNX:Hid ((Zc3 kind f Ms[k]&&ZfX Fs V Ms[k])=false→∀ i (h:i < Ms.length),i < k+1→(Zc3 kind f Ms[i]&&ZfX Fs V Ms[i])=false):=fun h i hi hik=>by
     by_cases e:i=k
     · subst e;exact h
     · exact HA.out i hi (by omega)
    cases hk1:(Ms[k].kind.toList == kind.toList) with
    | false=>
     go_wp2;go_roundw
     case rel=>exact⟨k+1,by go_num,by omega,HB.out.alloc HB.out.size _,HNX.out (by unfold Zc3;simp [hk1])⟩
     case measure=>simp [intOf];omega
    | true=>
     cases hf1:(Ms[k].field.toList == f.toList) with
     | false=>
      go_wp2;go_roundw
      case rel=>exact⟨k+1,by go_num,by omega,HB.out.alloc HB.out.size _,HNX.out (by unfold Zc3;simp [hf1])⟩
      case measure=>simp [intOf];omega
     | true=>
      have HFOR:Hid (Zc3 kind f Ms[k]=true):=by unfold Hid Zc3;simp [hk1,hf1]
      have HNM:=Zab (HN.out Ms[k] (List.getElem_mem hlt) (ZaY.1 hk1));go_wp2;clear c0 c1 c2 c3 c4 c5 g1 gl hk1 hf1;generalize hWm:wr.alloc _=Wm;have hbm:Below wr.heap.size wr Wm:=by rw [← hWm];exact Zac _ _
      have hzm:Wm.heap.size=wr.heap.size+1:=by rw [← hWm];simp
      have FM:Hid (Box Wm wr.heap.size #[.string Ms[k].kind,.string Ms[k].field,.string Ms[k].wh,.string Ms[k].is,.string Ms[k].put,.string Ms[k].fr]):=by rw [← hWm];exact Box.new _ _ _ _ rfl
      have FSm:=Zab (FSr.out.on hbm);have HBm:Hid (Below Wa.heap.size Wa Wm):=HB.out.trans (hbm.mono HB.out.size);have HBmw:Hid (Zw_ w Wm):=HBw.out.trans (hbm.mono HBw.out.size);clear hWm hbm FSr HB HBw
      go_loopw [34] (fun i wr=>∃ p:Nat,i=.int .i64 p∧p≤Fs.length∧Below Wm.heap.size Wm wr∧∀ j (h:j < Fs.length) (h':j < V.length),j < p→Ze3 Fs[j].nm V[j] Ms[k]=false) (fun i _=>Fs.length - (intOf i).toNat)
      case atStart=>exact⟨0,rfl,by omega,Below.refl _ _,fun i _ _ h=>by omega⟩
      case round=>
       obtain⟨p,rfl,hp,hbp,hallp⟩:=hrel;have HAP:=Zab hallp;have HBP:=Zab hbp;have FMp:=Zab (FM.out.on hbp);have FSp:=Zab (FSm.out.on hbp);have HBPa:Hid (Below Wa.heap.size Wa wr):=HBm.out.trans (hbp.mono HBm.out.size);have HBPw:Hid (Zw_ w wr):=HBmw.out.trans (hbp.mono HBmw.out.size);clear hallp hbp FM FSm HBm HBmw;have g1:=FSp.out.cell;have gl:=FSp.out.lt;have g2:=FMp.out.cell;have gl2:=FMp.out.lt
       by_cases hpl:p < Fs.length
       · have hpv:p < V.length:=by have:=HL.out;omega
         obtain⟨fb,fo,rfl,hfb,hfc⟩:=HV.out.full' (by omega);obtain⟨_,wv,hfcell,hwd⟩:=hfc p hpl;obtain⟨wa,wn,wcap,rfl⟩:=hwd.form;obtain⟨d0,d1,d2,d3,d4,d5,d6,d7,d8,d9,d10⟩:=hfcell.below (H0.out.trans (HBPw.out.mono H0.out.size)) hfb;have hfr:fb < wr.heap.size:=Zk_ hfb (Nat.le_trans H0.out.size HBPw.out.size)
         obtain⟨vb,vo,rfl,hvb,hvc⟩:=HVV.out.full' (by omega);have ck:wr.cell? ⟨vb,vo+p,none⟩=some (.string V[p]):=by rw [HBPw.out.cell (p:=⟨vb,_,none⟩) hvb];exact hvc p hpv
         have hvr:vb < wr.heap.size:=Zk_ hvb HBPw.out.size
         have HNP:Hid (Ze3 Fs[p].nm V[p] Ms[k]=false→∀ j (h:j < Fs.length) (h':j < V.length),j < p+1→Ze3 Fs[j].nm V[j] Ms[k]=false):=fun h j hj hj' hjp=>by
          by_cases e:j=p
          · subst e;exact h
          · exact HAP.out j hj hj' (by omega)
         clear hfcell hfc hwd hvc
         cases h1:(Fs[p].nm.toList == Ms[k].wh.toList) with
         | false=>
          cases h3:(Fs[p].nm.toList == Ms[k].fr.toList) with
          | false=>
           go_wp2
           go_quiet (fail)
           go_wp2;go_roundw
           case rel=>exact⟨p+1,by go_num,by omega,below_drewN (HBP.out.alloc HBP.out.size _) _,HNP.out (by unfold Ze3;simp [h1,h3])⟩
           case measure=>simp [intOf];omega
          | true=>
           cases h4:V[p].toList.isEmpty with
           | true=>
            go_wp2
            go_quiet (fail)
            go_wp2;exact⟨⟨k+1,by go_num,by omega,below_drewN (HBPa.out.alloc HBPa.out.size _) _,HNX.out (by rw [Zm9 HFB.out hpl hpv (by unfold Ze3;simp [h1,h3,h4])];simp)⟩,by simp [intOf];omega⟩
           | false=>
            go_wp2
            go_quiet (fail)
            go_wp2;go_roundw
            case rel=>exact⟨p+1,by go_num,by omega,below_drewN (HBP.out.alloc HBP.out.size _) _,HNP.out (by unfold Ze3;simp [h1,h3,h4])⟩
            case measure=>simp [intOf];omega
         | true=>
          cases h2:(V[p].toList == Ms[k].is.toList) with
          | false=>
           go_wp2
           go_quiet (fail)
           go_wp2;exact⟨⟨k+1,by go_num,by omega,below_drewN (HBPa.out.alloc HBPa.out.size _) _,HNX.out (by rw [Zm9 HFB.out hpl hpv (by unfold Ze3;simp [h1,h2])];simp)⟩,by simp [intOf];omega⟩
          | true=>
           cases h3:(Fs[p].nm.toList == Ms[k].fr.toList) with
           | false=>
            go_wp2
            go_quiet (fail)
            go_wp2;go_roundw
            case rel=>exact⟨p+1,by go_num,by omega,below_drewN (HBP.out.alloc HBP.out.size _) _,HNP.out (by unfold Ze3;simp [h1,h2,h3])⟩
            case measure=>simp [intOf];omega
           | true=>
            cases h4:V[p].toList.isEmpty with
            | true=>
             go_wp2
             go_quiet (fail)
             go_wp2;exact⟨⟨k+1,by go_num,by omega,below_drewN (HBPa.out.alloc HBPa.out.size _) _,HNX.out (by rw [Zm9 HFB.out hpl hpv (by unfold Ze3;simp [h1,h2,h3,h4])];simp)⟩,by simp [intOf];omega⟩
            | false=>
             go_wp2
             go_quiet (fail)
             go_wp2;go_roundw
             case rel=>exact⟨p+1,by go_num,by omega,below_drewN (HBP.out.alloc HBP.out.size _) _,HNP.out (by unfold Ze3;simp [h1,h2,h3,h4])⟩
             case measure=>simp [intOf];omega
       · have HAPP:Hid (ZfX Fs V Ms[k]=true):=Zq3 HL.out HNM.out.1 HNM.out.2 fun j hj hj'=>HAP.out j hj hj' (by omega)
         have HD:Hid (ZcG Fs kind Ms V f=some (Zcf Fs V Ms[k])):=Zeb hlt (by rw [HFOR.out,HAPP.out];rfl) HA.out;go_wp2_with fail;clear g1 g2 gl gl2;refine (Znu lo _ _ _ Fs Ms[k] V w0 _ HV.out (H0.out.trans (HBPw.out.mono H0.out.size)) (HVV.out.below HBPw.out) HL.out h6 HNM.out.2).mono ?_;rintro e w2 ⟨rfl,hb2⟩;have HB2:Hid (Zw_ w w2):=HBPw.out.trans (hb2.mono HBPw.out.size);clear hb2;go_wp2
         try rw [Exit.noGoto_ret]
         refine bodyPost_ret (v:=.tuple #[.string (Zcf Fs V Ms[k]),.bool true]) (by simp [results,results251,go_sem]) rfl ⟨HB2.out,Or.inl ⟨_,HD.out,rfl⟩⟩
  · have HQ:Hid (ZcG Fs kind Ms V f=none):=Zi0 fun i h=>HA.out i h (by omega)
    go_wp2
    try rw [Exit.noGoto_ret]
    refine bodyPost_ret (v:=.tuple #[.string ⟨#[]⟩,.bool false]) (by simp [results,results251,go_sem]) rfl ⟨HBw.out,Or.inr ⟨HQ.out,rfl⟩⟩
theorem ZdL.touch {base lo hi:Nat} {W W':World} {v:Value} {R:List Zy_} (h:ZdL base W v R) (ht:Zbp lo hi W W') (hh:hi≤base):ZdL base W' v R:=by
 refine⟨⟨h.row.1,?_⟩,h.sz⟩
 rcases h.row.2 with hv | ⟨g,cap,cur,hv,h1,h2,h3⟩
 · exact Or.inl hv
 · have hg:g < W.heap.size:=by
    rcases Nat.lt_or_ge g W.heap.size with h | h
    · exact h
    · rw [Array.getElem?_eq_none h] at h2;cases h2
   exact Or.inr ⟨g,cap,cur,hv,h1,by rw [ht.block g hg (Or.inr (by omega))];exact h2,h3⟩
theorem Zbc.sizes {lo:Nat} {w:World} {v:Value} {Ms:List Md} (h:Zbc lo w v Ms):∀ m ∈ Ms,ZdX m:=by
 intro m hm;obtain⟨i,hi,rfl⟩:=List.getElem_of_mem hm
 rcases h with ⟨_,_,_,h⟩ | ⟨b,off,cap,h1,h2,h3,h4,h5,h6,h7⟩
 · subst h;simp at hi
 · exact (h7 i hi).1
theorem Zaf.sizes {w:World} {v:Value} {L:List Zy_} (h:Zaf w v L):∀ s ∈ L,s.size≤maxLen:=by
 rcases h with ⟨_,_,_,h⟩ | ⟨b,off,cap,h1,h2,h3,h4,h5,h6⟩
 · subst h;intro s hs;simp at hs
 · exact h6
theorem Zi1 {Fs:List Fd} {kind:Zy_} {Ms:List Md} {V:List Zy_} {f v:Zy_} (hm:∀ m ∈ Ms,ZdX m) (hv:∀ s ∈ V,s.size≤maxLen) (h:ZcG Fs kind Ms V f=some v):v.size≤maxLen:=by
 unfold ZcG at h;obtain⟨m,hf,rfl⟩:=Option.map_eq_some_iff.1 h;have hmem:=List.mem_of_find?_eq_some hf;unfold Zcf
 by_cases he:m.fr.toList.isEmpty=true
 · rw [if_pos he];exact (hm m hmem).s4
 · rw [if_neg he]
   unfold ZbL
   by_cases hp:ZaR Fs m.fr < V.length
   · rw [List.getElem?_eq_getElem hp];exact hv _ (List.getElem_mem hp)
   · rw [List.getElem?_eq_none (by omega)];exact Nat.zero_le _
theorem Zk8 {Ss:List Sh} {Ms:List Md} {k0:Zy_} {x:Sh} (h:Zau Ss Ms=true) (hx:Zb3 Ss k0=some x):Zpr x.fields x.kind Ms:=fun _ hm hk=>(Zmd h hx hm hk).2
section
variable (kind nm team:Zy_) (vv hv sv mv fv:Value) (en:Bool) (ver:Int) (V Ho:List Zy_) (Ss:List Sh) (Ms:List Md) (x:Sh) (k0:Zy_) (w:World) (lo lm:Nat)
theorem Zkp (hV:Zaf w vv V) (hH:Zaf w hv Ho) (hF:Zav lo w fv x.fields) (hM:Zbc lm w mv Ms) (hmb:Zau Ss Ms=true) (hx:Zb3 Ss k0=some x) (hl:x.fields.length=V.length) (n2:Ho.length≤1048576) :
 Calls prog 225 #[.agg #[.string x.kind,fv],mv,.agg #[.string kind,.string nm,.string team,vv,.bool en,hv,.int .i64 ver]] w
  fun e w'=>∃ v' h' F,e=.returned (.agg #[.string kind,.string nm,.string team,v',.bool en,h',.int .i64 ver])∧Zw_ w w'∧ZfE w.heap.size w' v' h' F Ho∧ZmZ x Ms V F:=by
 have HV:=Zab hV;have HH:=Zab hH;have HF:=Zab hF;have HM:=Zab hM;have HMB:=Zab hmb;have HX:=Zab hx;have hfb:ZaC Ss x.fields=true:=ZbP (ZcT hmb) (Zch hx).1;have HFB:=Zab hfb;have h6:x.fields.length≤6:=ZcY hfb;have n1:V.length≤6:=by omega
 have h12:Ms.length≤12:=Zfj hmb;have HROW:Hid (ZmW (ZaD x.fields) (Zao x.kind Ms)=true):=Zeu hmb (Zch hx).1;have HNA:=Zab (Zk8 hmb hx);obtain⟨a,cap,rfl⟩:=hV.form';obtain⟨a',cap',rfl⟩:=hH.form';obtain⟨a1,cap1,rfl⟩:=hF.form;obtain⟨ma,mcap,rfl⟩:=hM.form;have HL:=Zab hl;clear hV hH hF hM hl hmb hx hfb;go_enter func225,ntmps225;go_wp2_with fail;generalize hWa:w.alloc _=Wa;have hza:Wa.heap.size=w.heap.size+1:=by rw [← hWa];simp
 have HBa:Hid (Zw_ w Wa):=by rw [← hWa];exact Zac _ _
 have FS:Hid (Box Wa w.heap.size #[.string x.kind,.slice a1 x.fields.length cap1]):=by rw [← hWa];exact Box.new _ _ _ _ rfl
 clear hWa;generalize hWb:Wa.alloc _=Wb;have hzb:Wb.heap.size=w.heap.size+1+1:=by rw [← hWb];simp [hza]
 have hbb:Below Wa.heap.size Wa Wb:=by rw [← hWb];exact Zac _ _
 have HBb:Hid (Zw_ w Wb):=HBa.out.trans (hbb.mono (by omega));have FS:=Zab (FS.out.on hbb);clear hWb hbb HBa;generalize hWc:Wb.alloc _=Wc;have hzc:Wc.heap.size=w.heap.size+3:=by rw [← hWc];simp [hzb]
 have hbc:Below Wb.heap.size Wb Wc:=by rw [← hWc];exact Zac _ _
 have HBc:Hid (Zw_ w Wc):=HBb.out.trans (hbc.mono (by omega));have FS:=Zab (FS.out.on hbc);have FR:Hid (Box Wc (w.heap.size+1+1) #[.string ⟨#[]⟩,.string ⟨#[]⟩,.string ⟨#[]⟩,.slice none 0 0,.bool false,.slice none 0 0,.int .i64 0]):=by rw [← hWc];exact Box.new _ _ _ _ hzb
 clear hWc hbc HBb hza hzb;refine (Zgr _ _ _ _ _ _ _ V Ho _ (HV.out.below HBc.out) (HH.out.below HBc.out) (by omega) n2).mono ?_;rintro e w1 ⟨v1,h1,rfl,hb1,mid,hlo,hmid,hs1,hs2⟩;obtain⟨a2,cap2,rfl⟩:=hs1.form;obtain⟨a3,cap3,rfl⟩:=hs2.form;have hz1:=hb1.size;have FS:=Zab (FS.out.on hb1);have FR:=Zab (FR.out.on hb1);have HB1:Hid (Zw_ w w1):=HBc.out.trans (hb1.mono HBc.out.size);have HS1:Hid (Zai (w.heap.size+3) mid w1 (.slice a2 V.length cap2) V):=by rw [← hzc];exact hs1
 have HS2:=Zab hs2;have hlo':w.heap.size+3≤mid:=by omega
 clear hb1 hs1 hs2 HBc hlo;have g1:=FS.out.cell;have gl:=FS.out.lt;go_wp2_with fail;clear g1 gl;generalize hWd:w1.alloc _=Wd;have hzd:Wd.heap.size=w1.heap.size+1:=by rw [← hWd];simp
 have hbd:Below w1.heap.size w1 Wd:=by rw [← hWd];exact Zac _ _
 have HBd:Hid (Zw_ w Wd):=HB1.out.trans (hbd.mono HB1.out.size);have FS:=Zab (FS.out.on hbd);have FR:=Zab (FR.out.on hbd);have FO:Hid (Box Wd w1.heap.size #[.string kind,.string nm,.string team,.slice a2 V.length cap2,.bool en,.slice a3 Ho.length cap3,.int .i64 ver]):=by rw [← hWd];exact Box.new _ _ _ _ rfl
 have HS1:=Zab (HS1.out.below hbd);have HS2:=Zab (HS2.out.below hbd);clear hWd hbd HB1;refine (ZfI lo lm _ _ x Ms w _ HF.out HBd.out (HM.out.below HBd.out) (by omega) (by omega)).mono ?_;rintro e w2 ⟨hb2,hgr⟩;have hz2:=hb2.size;have HB2:Hid (Zw_ w w2):=HBd.out.trans (hb2.mono HBd.out.size);have FS:=Zab (FS.out.on hb2);have FR:=Zab (FR.out.on hb2);have FO:=Zab (FO.out.on hb2);have HS1:=Zab (HS1.out.below hb2);have HS2:=Zab (HS2.out.below hb2);clear hb2 HBd
 rcases hgr with ⟨rv,R,rfl,ho,hg,hlen⟩ | ⟨hno,_⟩
 · have HO:=Zab ho
   have HG:=Zab hg;obtain⟨ra,rcap,rfl⟩:=ho.form;have HFIX:Hid (ZmZ x Ms V (ZcS (ZaR x.fields) (ZcG x.fields x.kind Ms) R V)):=Ziv hg hlen HL.out;have hRl:R.length≤6:=Nat.le_trans (Zil hg) h6;clear ho hg hlen;go_wp2
   go_loopw [24] (fun i wr=>∃ k:Nat,i=.int .i64 k∧k≤R.length∧Zai (w.heap.size+3) mid wr (.slice a2 V.length cap2) (ZcS (ZaR x.fields) (ZcG x.fields x.kind Ms) (R.take k) V)∧Zbp (w.heap.size+3) mid w2 wr) (fun i _=>R.length - (intOf i).toNat)
   case atStart=>exact⟨0,rfl,by omega,HS1.out,Zbp.refl _ _ _⟩
   case round=>
    obtain⟨k,rfl,hk,hso,ht⟩:=hrel;have HSO:=Zab hso;have HT:=Zab ht;have hzr:=ht.size;have HBr:Hid (Zw_ w wr):=HB2.out.trans ((ht.under (by omega)).mono (by omega));have FSr:=Zab (FS.out.touch ht (by omega));have FRr:=Zab (FR.out.touch ht (by omega));have FOr:=Zab (FO.out.touch ht (by omega));have HOr:=Zab (HO.out.touch ht (by omega));clear hso ht HS1
    by_cases hlt:k < R.length
    · obtain⟨rb,ro,rfl,hrb,hrc⟩:=HOr.out.strs.full' (by omega)
      have ck:=hrc k hlt;clear hrc;have g1:=FSr.out.cell;have gl:=FSr.out.lt;have g2:=FOr.out.cell;have gl2:=FOr.out.lt;have HLv:Hid ((ZcS (ZaR x.fields) (ZcG x.fields x.kind Ms) (R.take k) V).length=V.length):=ZgJ _ _ _ _;have HNEXT:=Zab (ZhE (ZaR x.fields) (ZcG x.fields x.kind Ms) hlt V);have HIN:Hid (R[k] ∈ ZaD x.fields):=HG.out.sub (List.getElem_mem hlt);generalize hcur:ZcS (ZaR x.fields) (ZcG x.fields x.kind Ms) (R.take k) V=L at*;go_wp2_with fail;refine (Zj4 lo lm _ R[k] _ _ _ Ss x.fields Ms L w _ HF.out HBr.out (HM.out.below HBr.out) HSO.out.at HFB.out (HL.out.trans HLv.out.symm) HNA.out h12).mono ?_;rintro e w3 ⟨hb3,hdr⟩;have hz3:=hb3.size;have FS3:=Zab (FSr.out.on hb3);have FO3:=Zab (FOr.out.on hb3);have HS3:=Zab (HSO.out.below hb3);have HT3:Hid (Zbp (w.heap.size+3) mid w2 w3):=HT.out.trans (Zbp.below hb3)
      have HB3:Hid (Zw_ w w3):=HBr.out.trans (hb3.mono HBr.out.size);clear hb3 g1 gl g2 gl2 ck FSr FRr FOr HOr
      rcases hdr with ⟨nv,hd,rfl⟩ | ⟨hd,rfl⟩
      · have hp:ZaR x.fields R[k] < x.fields.length:=Zcb.2 HIN.out
        have hpL:ZaR x.fields R[k] < L.length:=by have:=HLv.out;have:=HL.out;omega
        have hpV:ZaR x.fields R[k] < V.length:=by have:=HL.out;omega
        have HPI:Hid (Zb4 x.fields R[k]=ZaR x.fields R[k]):=ZbJ hp;have HNX:Hid (ZcS (ZaR x.fields) (ZcG x.fields x.kind Ms) (R.take (k+1)) V=L.set (ZaR x.fields R[k]) nv):=by unfold Hid;rw [HNEXT.out];exact Zod hd
        have HNS:Hid (nv.size≤maxLen):=Zi1 HM.out.sizes HS3.out.at.sizes hd;have hLl:L.length≤6:=by have:=HLv.out;omega
        clear hd HNEXT;obtain⟨vb,vo,rfl,hVL,hvb,hv1,hv2,hvc,hvf⟩:=HS3.out.full (by omega);clear hVL;have ck3:=hvc _ hpL;have fz3:=hvf (ZaR x.fields R[k]);have g1:=FS3.out.cell;have gl:=FS3.out.lt;have g2:=FO3.out.cell;have gl2:=FO3.out.lt;clear hvc hvf;generalize hpp:ZaR x.fields R[k]=p at*;go_wp2
        go_region_with (go_at_call 238
                        refine (ZeY lo _ _ x.fields R[k] _ (HF.out.below (HB3.out.drew))).mono ?_;rintro e w4 ⟨rfl,hb4⟩;rw [HPI.out];have hb4':=Zj5 hb4;have g3:∀ i,w4.cell? ⟨w1.heap.size,i,none⟩=(#[.string kind,.string nm,.string team,.slice (some ⟨vb,vo,none⟩) V.length cap2,.bool en,.slice a3 Ho.length cap3,.int .i64 ver]:Array Value)[i]?:=(FO3.out.on hb4').cell
                        have ck4:w4.cell? ⟨vb,vo+p,none⟩=some (.string L[p]):=(hb4'.cell (p:=⟨vb,vo+p,none⟩) hvb).trans ck3;have fz4:w4.frozen? ⟨vb,vo+p,none⟩=false:=(hb4'.frozen (p:=⟨vb,vo+p,none⟩) hvb).trans fz3;have HS4:=Zab (HS3.out.below hb4');have HT4:Hid (Zbp (w.heap.size+3) mid w2 w4):=HT3.out.trans (Zbp.below hb4');clear hb4 hb4')
        all_goals
         go_wp2;go_roundw
         case rel=>exact⟨k+1,by go_num,by omega,by rw [HNX.out];exact HS4.out.put hpL HNS.out,HT4.out.trans (Zbp.setCell _ _ _ _ _ ⟨hv1,hv2⟩)⟩
         case measure=>simp [intOf];omega
      · have HNX:Hid (ZcS (ZaR x.fields) (ZcG x.fields x.kind Ms) (R.take (k+1)) V=L):=by unfold Hid;rw [HNEXT.out];exact Zoc hd
        clear hd;go_wp2;go_roundw
        case rel=>exact⟨k+1,by go_num,by omega,by rw [HNX.out];exact HS3.out,HT3.out⟩
        case measure=>simp [intOf];omega
    · have e:k=R.length:=by omega
      subst e;have HE:Hid (R.take R.length=R):=List.take_length;have g2:=FOr.out.cell;have gl2:=FOr.out.lt;have HS2r:=Zab (HS2.out.touch HT.out (Or.inr Zl_));have rr:=FRr.out.cell;have rf:=FRr.out.free;have rl:=FRr.out.lt;have r0:wr.cell? ⟨w.heap.size+1+1,0,none⟩=some (.string ⟨#[]⟩):=rr 0;have r1:wr.cell? ⟨w.heap.size+1+1,1,none⟩=some (.string ⟨#[]⟩):=rr 1;have r2:wr.cell? ⟨w.heap.size+1+1,2,none⟩=some (.string ⟨#[]⟩):=rr 2;have r3:wr.cell? ⟨w.heap.size+1+1,3,none⟩=some (.slice none 0 0):=rr 3;have r4:wr.cell? ⟨w.heap.size+1+1,4,none⟩=some (.bool false):=rr 4;have r5:wr.cell? ⟨w.heap.size+1+1,5,none⟩=some (.slice none 0 0):=rr 5;have r6:wr.cell? ⟨w.heap.size+1+1,6,none⟩=some (.int .i64 0):=rr 6;clear rr;go_wp2
      refine bodyPost_ret (v:=.agg #[.string kind,.string nm,.string team,.slice a2 V.length cap2,.bool en,.slice a3 Ho.length cap3,.int .i64 ver]) (by simp [results,results225,go_sem,r0,r1,r2,r3,r4,r5,r6]) rfl ⟨_,_,_,rfl,?_,⟨mid,?_,?_,?_,?_⟩,by rw [← HE.out] at HFIX;exact HFIX.out⟩
      · repeat (refine Below.setCell ?_ (by simp only [];omega) _)
        exact HBr.out
      · omega
      · simp only [World.setCell,Array.size_modify];omega
      · refine Zai.wide (lo:=w.heap.size+3) (hi:=mid) ?_ (by omega) Zl_
        repeat (refine Zai.setCell ?_ (by simp only [];omega) _)
        exact HSO.out
      · refine Zai.wide (lo:=mid) (hi:=w1.heap.size) ?_ Zl_ (by simp only [World.setCell,Array.size_modify];omega)
        repeat (refine Zai.setCell ?_ (by simp only [];omega) _)
        exact HS2r.out
 · rw [HROW.out] at hno;cases hno
end
def Zco (Ss:List Sh) (Ms:List Md) (kind:Zy_) (V F:List Zy_):Prop:=
 (∃ x,Zau Ss Ms=true∧Zb3 Ss kind=some x∧x.fields.length=V.length∧ZmZ x Ms (ZeE V x.fields) F)∨
 ((Zau Ss Ms=false∨∀ x,Zb3 Ss kind=some x→x.fields.length≠V.length)∧F=V)
theorem Zco.unique {Ss:List Sh} {Ms:List Md} {kind:Zy_} {V F G:List Zy_} (h1:Zco Ss Ms kind V F) (h2:Zco Ss Ms kind V G):F=G:=by
 rcases h1 with ⟨x,a1,a2,a3,a4⟩ | ⟨a1,a2⟩
 · rcases h2 with ⟨y,b1,b2,b3,b4⟩ | ⟨b1,b2⟩
   · rw [a2] at b2;cases b2
     exact ZmZ.unique a1 (Zch a2).1 a4 b4
   · rcases b1 with b1 | b1
     · rw [a1] at b1;cases b1
     · exact absurd a3 (b1 x a2)
 · rcases h2 with ⟨y,b1,b2,b3,b4⟩ | ⟨b1,b2⟩
   · rcases a1 with a1 | a1
     · rw [b1] at a1;cases a1
     · exact absurd b3 (a1 y b2)
   · rw [a2,b2]
section
variable (kind nm team:Zy_) (vv hv sv mv fv:Value) (en:Bool) (ver:Int) (V Ho:List Zy_) (Ss:List Sh) (Ms:List Md) (x:Sh) (k0:Zy_) (w:World) (lo lm:Nat)
theorem ZjB (hV:Zaf w vv V) (hH:Zaf w hv Ho) (hF:Zav lo w fv x.fields) (hM:Zbc lm w mv Ms) (hmb:Zau Ss Ms=true) (hx:Zb3 Ss k0=some x) (hl:x.fields.length=V.length) (n2:Ho.length≤1048576) :
 Calls prog 187 #[.agg #[.string x.kind,fv],mv,.agg #[.string kind,.string nm,.string team,vv,.bool en,hv,.int .i64 ver]] w
  fun e w'=>∃ v' h' F,e=.returned (.agg #[.string kind,.string nm,.string team,v',.bool en,h',.int .i64 ver])∧Zw_ w w'∧ZfE w.heap.size w' v' h' F Ho∧ZmZ x Ms (ZeE V x.fields) F:=by
 have HV:=Zab hV;have HH:=Zab hH;have HF:=Zab hF;have HM:=Zab hM;have HMB:=Zab hmb;have HX:=Zab hx;have h6:x.fields.length≤6:=ZcY (ZbP (ZcT hmb) (Zch hx).1);have n1:V.length≤6:=by omega
 obtain⟨a,cap,rfl⟩:=hV.form';obtain⟨a',cap',rfl⟩:=hH.form';obtain⟨a1,cap1,rfl⟩:=hF.form;obtain⟨ma,mcap,rfl⟩:=hM.form;have HL:=Zab hl;have HFL:Hid (x.fields.length=(ZeE V x.fields).length):=by unfold Hid;rw [Zed hl];exact hl
 clear hV hH hF hM hl hmb hx;go_enter func187,ntmps187;go_wp2;generalize hWa:w.alloc _=Wa;have hza:Wa.heap.size=w.heap.size+1:=by rw [← hWa];simp
 have HBa:Hid (Zw_ w Wa):=by rw [← hWa];exact Zac _ _
 have FS:Hid (Box Wa w.heap.size #[.string x.kind,.slice a1 x.fields.length cap1]):=by rw [← hWa];exact Box.new _ _ _ _ rfl
 clear hWa;generalize hWb:Wa.alloc _=Wb;have hzb:Wb.heap.size=w.heap.size+1+1:=by rw [← hWb];simp [hza]
 have hbb:Below Wa.heap.size Wa Wb:=by rw [← hWb];exact Zac _ _
 have HBb:Hid (Zw_ w Wb):=HBa.out.trans (hbb.mono (by omega));have FS:=Zab (FS.out.on hbb);have FO:Hid (Box Wb (w.heap.size+1) #[.string kind,.string nm,.string team,.slice a V.length cap,.bool en,.slice a' Ho.length cap',.int .i64 ver]):=by rw [← hWb];exact Box.new _ _ _ _ hza
 clear hWb hbb HBa;generalize hWc:Wb.alloc _=Wc;have hzc:Wc.heap.size=w.heap.size+3:=by rw [← hWc];simp [hzb]
 have hbc:Below Wb.heap.size Wb Wc:=by rw [← hWc];exact Zac _ _
 have HBc:Hid (Zw_ w Wc):=HBb.out.trans (hbc.mono (by omega));have FS:=Zab (FS.out.on hbc);have FO:=Zab (FO.out.on hbc);have FR:Hid (Box Wc (w.heap.size+1+1) #[.string ⟨#[]⟩,.string ⟨#[]⟩,.string ⟨#[]⟩,.slice none 0 0,.bool false,.slice none 0 0,.int .i64 0]):=by rw [← hWc];exact Box.new _ _ _ _ hzb
 clear hWc hbc HBb hza hzb;have g1:=FS.out.cell;have gl:=FS.out.lt;have g2:=FO.out.cell;have gl2:=FO.out.lt
 go_region_with (first
  | (go_at_call 226
     refine (Zkb _ _ _ _ _ _ _ _ _ V Ho x.fields _ lo (HV.out.below (HBc.out.drew)) (HH.out.below (HBc.out.drew)) (HF.out.below (HBc.out.drew)) (by omega) n2 HL.out).mono ?_;rintro e w1 ⟨v1,h1,rfl,hb1,mid1,hlo1,hmi1,hs1,hs2⟩;obtain⟨a2,cap2,rfl⟩:=hs1.form;obtain⟨a3,cap3,rfl⟩:=hs2.form;have hb1':=Zj5 hb1;have HB1:Hid (Zw_ w w1):=HBc.out.trans (hb1'.mono HBc.out.size);have g3:∀ i,w1.cell? ⟨w.heap.size,i,none⟩=(#[.string x.kind,.slice a1 x.fields.length cap1]:Array Value)[i]?:=(FS.out.on hb1').cell
     have gl3:w.heap.size < w1.heap.size:=(FS.out.on hb1').lt
     have FR1:=Zab (FR.out.on hb1');have HV1:=Zab hs1.at;have HH1:=Zab hs2.at;clear hb1 hb1' hs1 hs2 hlo1 hmi1)
  | (go_at_call 225
     refine (Zkp _ _ _ _ _ _ _ _ _ (ZeE V x.fields) Ho Ss Ms x k0 _ lo lm HV1.out HH1.out (HF.out.below HB1.out) (HM.out.below HB1.out) HMB.out HX.out HFL.out n2).mono ?_;rintro e w2 ⟨v2,h2,F,rfl,hb2,⟨mid2,hlo2,hmi2,hs3,hs4⟩,hfix⟩;obtain⟨a4,cap4,rfl⟩:=hs3.form;obtain⟨a5,cap5,rfl⟩:=hs4.form;have HB2:Hid (Zw_ w w2):=HB1.out.trans (hb2.mono HB1.out.size);have hz2:=hb2.size;have FR2:=Zab (FR1.out.on hb2);have hb12:w.heap.size+3≤w1.heap.size:=by have:=FR1.out.lt;omega
     have HV2:=Zab hs3;have HH2:=Zab hs4;have HFIX:=Zab hfix;have rr:=FR2.out.cell;have rf:=FR2.out.free;have rl:=FR2.out.lt;have r0:w2.cell? ⟨w.heap.size+1+1,0,none⟩=some (.string ⟨#[]⟩):=rr 0;have r1:w2.cell? ⟨w.heap.size+1+1,1,none⟩=some (.string ⟨#[]⟩):=rr 1;have r2:w2.cell? ⟨w.heap.size+1+1,2,none⟩=some (.string ⟨#[]⟩):=rr 2;have r3:w2.cell? ⟨w.heap.size+1+1,3,none⟩=some (.slice none 0 0):=rr 3;have r4:w2.cell? ⟨w.heap.size+1+1,4,none⟩=some (.bool false):=rr 4;have r5:w2.cell? ⟨w.heap.size+1+1,5,none⟩=some (.slice none 0 0):=rr 5;have r6:w2.cell? ⟨w.heap.size+1+1,6,none⟩=some (.int .i64 0):=rr 6;clear rr;clear hb2 hs3 hs4 hfix))
 all_goals
  go_wp2;refine bodyPost_ret (v:=.agg #[.string kind,.string nm,.string team,.slice a4 F.length cap4,.bool en,.slice a5 Ho.length cap5,.int .i64 ver]) (by simp [results,results187,go_sem,r0,r1,r2,r3,r4,r5,r6]) rfl ⟨_,_,F,rfl,?_,⟨mid2,?_,?_,?_,?_⟩,HFIX.out⟩
  · repeat (refine Below.setCell ?_ (by simp only [];omega) _)
    exact HB2.out
  · omega
  · simp only [World.setCell,Array.size_modify];omega
  · refine Zai.wide (lo:=w1.heap.size) (hi:=mid2) ?_ (by omega) Zl_
    repeat (refine Zai.setCell ?_ (by simp only [];omega) _)
    exact HV2.out
  · refine Zai.wide (lo:=mid2) (hi:=w2.heap.size) ?_ Zl_ (by simp only [World.setCell,Array.size_modify];omega)
    repeat (refine Zai.setCell ?_ (by simp only [];omega) _)
    exact HH2.out
end
theorem Ziu (lo lm:Nat) (kind nm team f:Zy_) (v mv vv hv:Value) (en:Bool) (ver:Int) (Fs:List Fd) (Ms:List Md) (V Ho:List Zy_) (w:World) (hF:Zav lo w v Fs) (hM:Zbc lm w mv Ms) (hV:Zaf w vv V) (hH:Zaf w hv Ho)
 (h6:Fs.length≤6) (hl:Fs.length=V.length) (hn:Zpr Fs kind Ms) (h12:Ms.length≤12) (hf:f ∈ ZaD Fs) :
 Calls prog 205 #[v,mv,.agg #[.string kind,.string nm,.string team,vv,.bool en,hv,.int .i64 ver],.string f] w fun e w'=>e=.returned (.string ((ZcG Fs kind Ms V f).getD (ZbL Fs V f)))∧Zw_ w w':=by
 have HF:=Zab hF;have HM:=Zab hM;have HVV:=Zab hV;have HN:=Zab hn;have HIN:=Zab hf;obtain⟨fa,fcap,rfl⟩:=hF.form;obtain⟨ma,mcap,rfl⟩:=hM.form;obtain⟨a,cap,rfl⟩:=hV.form';obtain⟨a',cap',rfl⟩:=hH.form';have HL:=Zab hl;have n1:V.length≤6:=by omega
 clear hF hM hV hH hn hf hl;have hpf:ZaR Fs f < Fs.length:=Zcb.2 HIN.out
 have hpfv:ZaR Fs f < V.length:=by have:=HL.out;omega
 obtain⟨vb,vo,rfl,hvb,hvc0⟩:=HVV.out.full' (by omega);go_enter func205,ntmps205;go_wp2;generalize hWa:w.alloc _=Wa;have hza:Wa.heap.size=w.heap.size+1:=by rw [← hWa];simp
 have HBa:Hid (Zw_ w Wa):=by rw [← hWa];exact Zac _ _
 have FO:Hid (Box Wa w.heap.size #[.string kind,.string nm,.string team,.slice (some ⟨vb,vo,none⟩) V.length cap,.bool en,.slice a' Ho.length cap',.int .i64 ver]):=by rw [← hWa];exact Box.new _ _ _ _ rfl
 clear hWa
 go_loopw [9] (fun i wr=>∃ k:Nat,i=.int .i64 k∧k≤Ms.length∧Below Wa.heap.size Wa wr∧∀ i (h:i < Ms.length),i < k→(Zc3 kind f Ms[i]&&ZfX Fs V Ms[i])=false) (fun i _=>Ms.length - (intOf i).toNat)
 case atStart=>exact⟨0,rfl,by omega,Below.refl _ _,fun i _ h=>by omega⟩
 case round=>
  obtain⟨k,rfl,hk,hb,hall⟩:=hrel;have HA:=Zab hall;have HB:=Zab hb;have HBw:Hid (Zw_ w wr):=HBa.out.trans (hb.mono (by omega));have FOr:=Zab (FO.out.on hb);clear hall hb;have g1:=FOr.out.cell;have gl:=FOr.out.lt;have hvr:vb < wr.heap.size:=Zk_ hvb HBw.out.size
  have hvc:∀ i (h:i < V.length),wr.cell? ⟨vb,vo+i,none⟩=some (.string V[i]):=fun i h=>by rw [HBw.out.cell (p:=⟨vb,_,none⟩) hvb];exact hvc0 i h
  by_cases hlt:k < Ms.length
  · obtain⟨b,off,rfl,hbw,hc⟩:=HM.out.full' (by omega)
    obtain⟨hsz,hcell⟩:=hc k hlt;obtain⟨c0,c1,c2,c3,c4,c5⟩:=hcell.below HBw.out hbw;clear hcell hc
    have HNX:Hid ((Zc3 kind f Ms[k]&&ZfX Fs V Ms[k])=false→∀ i (h:i < Ms.length),i < k+1→(Zc3 kind f Ms[i]&&ZfX Fs V Ms[i])=false):=fun h i hi hik=>by
     by_cases e:i=k
     · subst e;exact h
     · exact HA.out i hi (by omega)
    have HFr:∀ o n,Hid (Zav lo ((wr.alloc o).drewN n) (.slice fa Fs.length fcap) Fs):=fun o n=>HF.out.below (below_drewN (HBw.out.alloc HBw.out.size _) _)
    cases hk1:(Ms[k].kind.toList == kind.toList) with
    | false=>
     go_wp2
     go_quiet (fail)
     go_wp2;go_roundw
     case rel=>exact⟨k+1,by go_num,by omega,below_drewN (HB.out.alloc HB.out.size _) _,HNX.out (by unfold Zc3;simp [hk1])⟩
     case measure=>simp [intOf];omega
    | true=>
     cases hf1:(Ms[k].field.toList == f.toList) with
     | false=>
      go_wp2
      go_quiet (fail)
      go_wp2;go_roundw
      case rel=>exact⟨k+1,by go_num,by omega,below_drewN (HB.out.alloc HB.out.size _) _,HNX.out (by unfold Zc3;simp [hf1])⟩
      case measure=>simp [intOf];omega
     | true=>
      have HFOR:Hid (Zc3 kind f Ms[k]=true):=by unfold Hid Zc3;simp [hk1,hf1]
      have HNM:=Zab (HN.out Ms[k] (List.getElem_mem hlt) (ZaY.1 hk1))
      cases hwe:Ms[k].wh.toList.isEmpty with
      | true=>
       go_wp2
       go_quiet (fail)
       cases hfe:Ms[k].fr.toList.isEmpty with
       | true=>
        have HD:Hid (ZcG Fs kind Ms V f=some (Zcf Fs V Ms[k])):=Zeb hlt (by rw [HFOR.out];unfold ZfX;simp [hwe,hfe]) HA.out;have HV2:Hid ((ZcG Fs kind Ms V f).getD (ZbL Fs V f)=Ms[k].put):=by unfold Hid;rw [HD.out];unfold Zcf;rw [if_pos hfe];rfl
        go_wp2;go_ret;exact⟨by rw [HV2.out];rfl,below_drewN (HBw.out.alloc HBw.out.size _) _⟩
       | false=>
        have hp2:ZaR Fs Ms[k].fr < Fs.length:=Zcb.2 (by rcases HNM.out.2 with h | h;rw [h] at hfe;cases hfe;exact h)
        have hp2v:ZaR Fs Ms[k].fr < V.length:=by have:=HL.out;omega
        have hpi2:Zb4 Fs Ms[k].fr=(ZaR Fs Ms[k].fr:Int):=ZbJ hp2;have ck2:=hvc _ hp2v;have HVA2:Hid (ZbL Fs V Ms[k].fr=V[ZaR Fs Ms[k].fr]):=by unfold Hid ZbL;rw [List.getElem?_eq_getElem hp2v];rfl
        generalize hpp2:ZaR Fs Ms[k].fr=p2 at*;go_wp2
        go_quiet ((go_at_call 200;exact (Zbk lo _ Fs Ms[k].fr _ (HFr _ _).out).mono fun _ _ h=>⟨h.1,_,h.2⟩))
        cases hve:V[p2].toList.isEmpty with
        | true=>
         go_wp2;go_roundw
         case rel=>exact⟨k+1,by go_num,by omega,(by first | exact below_drewN (HB.out.alloc HB.out.size _) _ | exact below_drewN (below_drewN (HB.out.alloc HB.out.size _) _) _),HNX.out (by unfold ZfX;simp [hfe,HVA2.out,hve])⟩
         case measure=>simp [intOf];omega
        | false=>
         have HD:Hid (ZcG Fs kind Ms V f=some (Zcf Fs V Ms[k])):=Zeb hlt (by rw [HFOR.out];unfold ZfX;simp [hwe,hfe,HVA2.out,hve]) HA.out;have HV2:Hid ((ZcG Fs kind Ms V f).getD (ZbL Fs V f)=V[p2]):=by unfold Hid;rw [HD.out];unfold Zcf;rw [if_neg (by rw [hfe];simp),HVA2.out];rfl
         go_wp2;go_ret;exact⟨by rw [HV2.out];rfl,by first | exact below_drewN (HBw.out.alloc HBw.out.size _) _ | exact below_drewN (below_drewN (HBw.out.alloc HBw.out.size _) _) _⟩
      | false=>
       have hp1:ZaR Fs Ms[k].wh < Fs.length:=Zcb.2 (by rcases HNM.out.1 with h | h;rw [h] at hwe;cases hwe;exact h)
       have hp1v:ZaR Fs Ms[k].wh < V.length:=by have:=HL.out;omega
       have hpi1:Zb4 Fs Ms[k].wh=(ZaR Fs Ms[k].wh:Int):=ZbJ hp1;have ck1:=hvc _ hp1v;have HVA1:Hid (ZbL Fs V Ms[k].wh=V[ZaR Fs Ms[k].wh]):=by unfold Hid ZbL;rw [List.getElem?_eq_getElem hp1v];rfl
       generalize hpp1:ZaR Fs Ms[k].wh=p1 at*
       cases hvi:(V[p1].toList == Ms[k].is.toList) with
       | false=>
        go_wp2
        go_quiet ((go_at_call 200;exact (Zbk lo _ Fs Ms[k].wh _ (HFr _ _).out).mono fun _ _ h=>⟨h.1,_,h.2⟩))
        go_wp2;go_roundw
        case rel=>exact⟨k+1,by go_num,by omega,below_drewN (HB.out.alloc HB.out.size _) _,HNX.out (by unfold ZfX;simp [hwe,HVA1.out,hvi])⟩
        case measure=>simp [intOf];omega
       | true=>
        go_wp2
        go_quiet ((go_at_call 200;exact (Zbk lo _ Fs Ms[k].wh _ (HFr _ _).out).mono fun _ _ h=>⟨h.1,_,h.2⟩))
        cases hfe:Ms[k].fr.toList.isEmpty with
        | true=>
         have HD:Hid (ZcG Fs kind Ms V f=some (Zcf Fs V Ms[k])):=Zeb hlt (by rw [HFOR.out];unfold ZfX;simp [hwe,HVA1.out,hvi,hfe]) HA.out;have HV2:Hid ((ZcG Fs kind Ms V f).getD (ZbL Fs V f)=Ms[k].put):=by unfold Hid;rw [HD.out];unfold Zcf;rw [if_pos hfe];rfl
         go_wp2;go_ret;exact⟨by rw [HV2.out];rfl,below_drewN (HBw.out.alloc HBw.out.size _) _⟩
        | false=>
         have hp2:ZaR Fs Ms[k].fr < Fs.length:=Zcb.2 (by rcases HNM.out.2 with h | h;rw [h] at hfe;cases hfe;exact h)
         have hp2v:ZaR Fs Ms[k].fr < V.length:=by have:=HL.out;omega
         have hpi2:Zb4 Fs Ms[k].fr=(ZaR Fs Ms[k].fr:Int):=ZbJ hp2;have ck2:=hvc _ hp2v;have HVA2:Hid (ZbL Fs V Ms[k].fr=V[ZaR Fs Ms[k].fr]):=by unfold Hid ZbL;rw [List.getElem?_eq_getElem hp2v];rfl
         generalize hpp2:ZaR Fs Ms[k].fr=p2 at*;go_wp2
         go_quiet ((go_at_call 200;exact (Zbk lo _ Fs Ms[k].fr _ (HFr _ _).out).mono fun _ _ h=>⟨h.1,_,h.2⟩))
         cases hve:V[p2].toList.isEmpty with
         | true=>
          go_wp2;go_roundw
          case rel=>exact⟨k+1,by go_num,by omega,(by first | exact below_drewN (HB.out.alloc HB.out.size _) _ | exact below_drewN (below_drewN (HB.out.alloc HB.out.size _) _) _),HNX.out (by unfold ZfX;simp [hfe,HVA2.out,hve])⟩
          case measure=>simp [intOf];omega
         | false=>
          have HD:Hid (ZcG Fs kind Ms V f=some (Zcf Fs V Ms[k])):=Zeb hlt (by rw [HFOR.out];unfold ZfX;simp [hwe,HVA1.out,hvi,hfe,HVA2.out,hve]) HA.out;have HV2:Hid ((ZcG Fs kind Ms V f).getD (ZbL Fs V f)=V[p2]):=by unfold Hid;rw [HD.out];unfold Zcf;rw [if_neg (by rw [hfe];simp),HVA2.out];rfl
          go_wp2;go_ret;exact⟨by rw [HV2.out];rfl,by first | exact below_drewN (HBw.out.alloc HBw.out.size _) _ | exact below_drewN (below_drewN (HBw.out.alloc HBw.out.size _) _) _⟩
  · have HD:Hid (ZcG Fs kind Ms V f=none):=Zi0 fun i h=>HA.out i h (by omega)
    have HV2:Hid ((ZcG Fs kind Ms V f).getD (ZbL Fs V f)=V[ZaR Fs f]):=by unfold Hid;rw [HD.out];unfold ZbL;rw [List.getElem?_eq_getElem hpfv];rfl
    have hpi:Zb4 Fs f=(ZaR Fs f:Int):=ZbJ hpf;have ckf:=hvc _ hpfv;have HFr:∀ n,Hid (Zav lo (wr.drewN n) (.slice fa Fs.length fcap) Fs):=fun n=>HF.out.below (below_drewN HBw.out _)
    generalize hppf:ZaR Fs f=pf at*;go_wp2
    go_quiet ((go_at_call 200;exact Calls.quiet_of_same (Zbk lo _ Fs f _ (HFr _).out)))
    go_wp2;go_ret;exact⟨by rw [HV2.out];rfl,below_drewN HBw.out _⟩
theorem Zoa {Fs:List Fd} {kind:Zy_} {Ms:List Md} {V:List Zy_} {f:Zy_} (hp:ZaR Fs f < V.length):ZjA (ZaR Fs) (ZcG Fs kind Ms) V f=V.set (ZaR Fs f) ((ZcG Fs kind Ms V f).getD (ZbL Fs V f)):=by
 unfold ZjA
 cases h:ZcG Fs kind Ms V f with
 | some v=>rfl
 | none=>
  unfold ZbL;rw [List.getElem?_eq_getElem hp];simp
theorem Znt {Fs:List Fd} {kind:Zy_} {Ms:List Md} {V:List Zy_} {f:Zy_} (hm:∀ m ∈ Ms,ZdX m) (hv:∀ s ∈ V,s.size≤maxLen) (hp:ZaR Fs f < V.length):((ZcG Fs kind Ms V f).getD (ZbL Fs V f)).size≤maxLen:=by
 cases h:ZcG Fs kind Ms V f with
 | some v=>exact Zi1 hm hv h
 | none=>unfold ZbL;rw [List.getElem?_eq_getElem hp];exact hv _ (List.getElem_mem hp)
theorem Zjg (lo:Nat) (v:Value) (Fs:List Fd) (s:Zy_) (w:World) (hv:Zav lo w v Fs) :
 Calls prog 200 #[v,.string s] w fun e w'=>e=.returned (.int .i64 (Zb4 Fs s))∧Zw_ w w':=
 (Zbk lo v Fs s w hv).mono fun _ _ h=>⟨h.1,by rw [h.2];exact Below.refl _ _⟩
abbrev ZfW (wr:World) (β:Nat) (cs:Array Value) (rb ro:Nat) (s:Zy_) (vb:Nat) (W:World):Prop:=
 (∀ i,W.cell? ⟨β,i,none⟩=cs[i]?)∧W.cell? ⟨rb,ro,none⟩=some (.string s)∧Hid (Below vb wr W∧β < W.heap.size∧rb < W.heap.size∧vb≠β∧vb≠rb)
theorem ZfW.start {wr:World} {β:Nat} {cs:Array Value} {rb ro:Nat} {s:Zy_} {vb:Nat} (h:Hid (Box wr β cs)) (h1:Hid (wr.cell? ⟨rb,ro,none⟩=some (.string s))) (hr:rb < wr.heap.size) (e1:Hid (vb≠β)) (e2:Hid (vb≠rb)):ZfW wr β cs rb ro s vb wr.drew:=
 ⟨h.out.cell,h1.out,Zb_.drew,h.out.lt,hr,e1.out,e2.out⟩
theorem ZfW.on {wr W W':World} {β:Nat} {cs:Array Value} {rb ro:Nat} {s:Zy_} {vb:Nat} (h:ZfW wr β cs rb ro s vb W) (hb:Below W.heap.size W W') (hv:vb≤W.heap.size):ZfW wr β cs rb ro s vb W':=by
 obtain⟨h1,h2,h5,h6,h7,h8,h9⟩:=h;exact⟨fun i=>(hb.cell (p:=⟨β,i,none⟩) h6).trans (h1 i),(hb.cell (p:=⟨rb,ro,none⟩) h7).trans h2,h5.trans (hb.mono hv),Zk_ h6 hb.size,Zk_ h7 hb.size,h8,h9⟩
theorem ZfW.set {wr W:World} {β:Nat} {cs:Array Value} {rb ro:Nat} {s:Zy_} {vb vo:Nat} (h:ZfW wr β cs rb ro s vb W) (u:Value):ZfW wr β cs rb ro s vb (W.setCell ⟨vb,vo,none⟩ u):=by
 obtain⟨h1,h2,h5,h6,h7,h8,h9⟩:=h;exact⟨fun i=>(World.cell?_setCell_far _ _ _ _ h8).trans (h1 i),(World.cell?_setCell_far _ _ _ _ h9).trans h2,h5.setCell Zl_ _,by simpa [World.setCell] using h6,by simpa [World.setCell] using h7,h8,h9⟩
section
variable (kind nm team:Zy_) (vv hv sv mv:Value) (en:Bool) (ver:Int) (V Ho:List Zy_) (Ss:List Sh) (Ms:List Md) (w:World) (lo lm:Nat)
theorem Zji (hS:ZaU lo w sv Ss) (hM:Zbc lm w mv Ms) (hV:Zaf w vv V) (hH:Zaf w hv Ho) (n1:V.length≤1048576) (n2:Ho.length≤1048576) (hmb:Zau Ss Ms=true) :
 Calls prog 161 #[sv,mv,.agg #[.string kind,.string nm,.string team,vv,.bool en,hv,.int .i64 ver]] w
  fun e w'=>∃ v' h' F,e=.returned (.agg #[.string kind,.string nm,.string team,v',.bool en,h',.int .i64 ver])∧Zw_ w w'∧ZfE w.heap.size w' v' h' F Ho∧ZkV Ss Ms kind V F:=by
 have HV:=Zab hV;have HH:=Zab hH;have HS:=Zab hS;have HM:=Zab hM;have HMB:=Zab hmb;have h12:Ms.length≤12:=Zfj hmb;obtain⟨a,cap,rfl⟩:=hV.form';obtain⟨a',cap',rfl⟩:=hH.form';obtain⟨a1,cap1,rfl⟩:=hS.form;obtain⟨ma,mcap,rfl⟩:=hM.form;clear hV hH hS hM hmb;go_enter func161,ntmps161;go_wp2_with fail;generalize hWa:w.alloc _=Wa;have hza:Wa.heap.size=w.heap.size+1:=by rw [← hWa];simp
 have HBa:Hid (Zw_ w Wa):=by rw [← hWa];exact Zac _ _
 have FI:Hid (Box Wa w.heap.size #[.string kind,.string nm,.string team,.slice a V.length cap,.bool en,.slice a' Ho.length cap',.int .i64 ver]):=by rw [← hWa];exact Box.new _ _ _ _ rfl
 clear hWa;generalize hWb:Wa.alloc _=Wb;have hzb:Wb.heap.size=w.heap.size+2:=by rw [← hWb];simp [hza]
 have hbb:Below Wa.heap.size Wa Wb:=by rw [← hWb];exact Zac _ _
 have HBb:Hid (Zw_ w Wb):=HBa.out.trans (hbb.mono (by omega));have FI:=Zab (FI.out.on hbb);have FR:Hid (Box Wb (w.heap.size+1) #[.string ⟨#[]⟩,.string ⟨#[]⟩,.string ⟨#[]⟩,.slice none 0 0,.bool false,.slice none 0 0,.int .i64 0]):=by rw [← hWb];exact Box.new _ _ _ _ hza
 clear hWb hbb HBa hza;refine (ZhC _ _ _ _ _ _ _ V Ho _ (HV.out.below HBb.out) (HH.out.below HBb.out) n1 n2).mono ?_;rintro e w1 ⟨v1,h1,rfl,hb1,mid,hlo,hmid,hs1,hs2⟩;obtain⟨a2,cap2,rfl⟩:=hs1.form;obtain⟨a3,cap3,rfl⟩:=hs2.form;have hz1:=hb1.size;have FI:=Zab (FI.out.on hb1);have FR:=Zab (FR.out.on hb1);have HB1:Hid (Zw_ w w1):=HBb.out.trans (hb1.mono HBb.out.size);have HS1:Hid (Zai (w.heap.size+2) mid w1 (.slice a2 V.length cap2) V):=by rw [← hzb];exact hs1
 have HS2:=Zab hs2;have hlo':w.heap.size+2≤mid:=by omega
 clear hb1 hs1 hs2 HBb hlo;have g1:=FI.out.cell;have gl:=FI.out.lt;go_wp2_with fail;clear g1 gl;generalize hWd:w1.alloc _=Wd;have hzd:Wd.heap.size=w1.heap.size+1:=by rw [← hWd];simp
 have hbd:Below w1.heap.size w1 Wd:=by rw [← hWd];exact Zac _ _
 have HBd:Hid (Zw_ w Wd):=HB1.out.trans (hbd.mono HB1.out.size);have FI:=Zab (FI.out.on hbd);have FR:=Zab (FR.out.on hbd);have FO:Hid (Box Wd w1.heap.size #[.string kind,.string nm,.string team,.slice a2 V.length cap2,.bool en,.slice a3 Ho.length cap3,.int .i64 ver]):=by rw [← hWd];exact Box.new _ _ _ _ rfl
 have HS1:=Zab (HS1.out.below hbd);have HS2:=Zab (HS2.out.below hbd);clear hWd hbd HB1;refine (Zcx _ _ _ _ _ _ _ _ V Ho Ss _ lo w HS.out HBd.out (HV.out.below HBd.out) (HH.out.below HBd.out)).mono ?_;rintro e w2 ⟨hb2,hlf⟩;have hz2:=hb2.size;have HB2:Hid (Zw_ w w2):=HBd.out.trans (hb2.mono HBd.out.size);have FI:=Zab (FI.out.on hb2);have FR:=Zab (FR.out.on hb2);have FO:=Zab (FO.out.on hb2);have HS1:=Zab (HS1.out.below hb2);have HS2:=Zab (HS2.out.below hb2);clear hb2 HBd
 rcases hlf with ⟨x,fv,hx,hlx,rfl,hfd⟩ | ⟨hno,fa0,fcap0,rfl⟩
 · obtain⟨fa,fcap,rfl⟩:=hfd.form
   have HFD:=Zab hfd;have HX:=Zab hx;have HL:=Zab hlx;have hfb:ZaC Ss x.fields=true:=ZbP (ZcT HMB.out) (Zch hx).1;have h6:x.fields.length≤6:=ZcY hfb;have n6:V.length≤6:=by omega
   have HNA:Hid (Zpr x.fields kind Ms):=by unfold Hid;have:=Zk8 HMB.out hx;rw [(Zch hx).2] at this;exact this
   have HKX:Hid (x.kind=kind):=(Zch hx).2;have HRB:Hid (Zbr Ms x=true):=Zeu HMB.out (Zch hx).1;have hs6:Ss.length≤6:=ZhQ (ZcT HMB.out);clear hfd hx hlx hfb;have g1:=FI.out.cell;have gl:=FI.out.lt;go_wp2_with fail;refine (Zbh lo _ Ss kind _ (HS.out.below HB2.out)).mono ?_;rintro e w2' ⟨rfl,⟨k,hk,rfl,hsh⟩ | ⟨rfl,hsh⟩⟩
   · have HXK:Hid (Ss[k]=x):=by
      have:=HX.out;rw [hsh,List.getElem?_eq_getElem hk] at this;exact Option.some.inj this
     clear hsh;obtain⟨b,off,rfl,hbw,hc⟩:=HS.out.full' (by omega);obtain⟨_,fv',d0,d1,hst⟩:=hc k hk;rw [HXK.out] at d0 hst;obtain⟨fa',fcap',rfl⟩:=hst.form;have HST:=Zab hst;have c0:w2'.cell? ⟨b,off+k*2,none⟩=some (.string x.kind):=by rw [HB2.out.cell (p:=⟨b,_,none⟩) hbw];exact d0
     have c1:w2'.cell? ⟨b,off+k*2+1,none⟩=some (.slice fa' x.fields.length fcap'):=by rw [HB2.out.cell (p:=⟨b,_,none⟩) hbw];exact d1
     clear d0 d1 hst hc;go_wp2_with fail;clear g1 gl c0 c1;refine (Zjj lo lm _ _ x Ms _ (HST.out.below HB2.out) (HM.out.below HB2.out) (by omega)).mono ?_;rintro e w3 ⟨rv,R,rfl,hb3,ho,hro⟩;have hz3:=hb3.size;have HB3:Hid (Zw_ w w3):=HB2.out.trans (hb3.mono HB2.out.size);have FR:=Zab (FR.out.on hb3);have FO:=Zab (FO.out.on hb3);have HS1:=Zab (HS1.out.below hb3);have HS2:=Zab (HS2.out.below hb3);have HO:=Zab ho;obtain⟨ra,rcap,rfl⟩:=ho.form;have HG:Hid (ZcN (ZaD x.fields) (Zao x.kind Ms) R):=hro.1;have HFIX:Hid (ZmZ x Ms V (ZcS (ZaR x.fields) (ZcG x.fields x.kind Ms) R V)):=Ziv hro.1 (by rw [Zef];have:=hro.2.2.2 HRB.out;omega) HL.out;have hRl:R.length≤6:=Nat.le_trans hro.2.1 h6;clear hb3 ho hro HB2;rw [HKX.out] at HG HFIX;go_wp2
     go_loopw [11] (fun i wr=>∃ j:Nat,i=.int .i64 j∧j≤R.length∧Zai (w.heap.size+2) mid wr (.slice a2 V.length cap2) (ZcS (ZaR x.fields) (ZcG x.fields kind Ms) (R.take j) V)∧Zbp (w.heap.size+2) mid w3 wr) (fun i _=>R.length - (intOf i).toNat)
     case atStart=>exact⟨0,rfl,by omega,HS1.out,Zbp.refl _ _ _⟩
     case round=>
      obtain⟨j,rfl,hj,hso,ht⟩:=hrel;have HSO:=Zab hso;have HT:=Zab ht;have hzr:=ht.size;have HBr:Hid (Zw_ w wr):=HB3.out.trans ((ht.under (by omega)).mono (by omega));have FRr:=Zab (FR.out.touch ht (by omega));have FOr:=Zab (FO.out.touch ht (by omega));have HOr:=Zab (HO.out.touch ht (by omega));clear hso ht HS1
      by_cases hlt:j < R.length
      · obtain⟨rb,ro,rfl,hrb,hrc⟩:=HOr.out.strs.full' (by omega)
        have ck:=hrc j hlt;clear hrc;have HLv:Hid ((ZcS (ZaR x.fields) (ZcG x.fields kind Ms) (R.take j) V).length=V.length):=ZgJ _ _ _ _;have HNEXT:=Zab (ZhE (ZaR x.fields) (ZcG x.fields kind Ms) hlt V);have HIN:Hid (R[j] ∈ ZaD x.fields):=HG.out.sub (List.getElem_mem hlt);generalize hcur:ZcS (ZaR x.fields) (ZcG x.fields kind Ms) (R.take j) V=L at*;have hp:ZaR x.fields R[j] < x.fields.length:=Zcb.2 HIN.out
        have hpL:ZaR x.fields R[j] < L.length:=by have:=HLv.out;have:=HL.out;omega
        have hpV:ZaR x.fields R[j] < V.length:=by have:=HL.out;omega
        have hpi:Zb4 x.fields R[j]=(ZaR x.fields R[j]:Int):=ZbJ hp;have HNX:Hid (ZcS (ZaR x.fields) (ZcG x.fields kind Ms) (R.take (j+1)) V=L.set (ZaR x.fields R[j]) ((ZcG x.fields kind Ms L R[j]).getD (ZbL x.fields L R[j]))):=by unfold Hid;rw [HNEXT.out];exact Zoa hpL
        have HNS:Hid (((ZcG x.fields kind Ms L R[j]).getD (ZbL x.fields L R[j])).size≤maxLen):=Znt HM.out.sizes HSO.out.at.sizes hpL;have hLl:L.length≤6:=by have:=HLv.out;omega
        have HSH:=Zab (HS2.out.touch HT.out (Or.inr Zl_));clear HNEXT;obtain⟨vb,vo,rfl,hVL,hvb,hv1,hv2,hvc,hvf⟩:=HSO.out.full (by omega);clear hVL;have ck3:=hvc _ hpL;have fz3:=hvf (ZaR x.fields R[j]);have g1:=FOr.out.cell;have gl:=FOr.out.lt;clear hvc hvf;generalize hpp:ZaR x.fields R[j]=p at*;generalize hdv:(ZcG x.fields kind Ms L R[j]).getD (ZbL x.fields L R[j])=dv at*;have HCK:=Zab ck;have HCK3:=Zab ck3;have HFZ3:=Zab fz3;clear ck ck3 fz3 g1 gl;have HFDr:=Zab (HFD.out.below HBr.out);have HMr:=Zab (HM.out.below HBr.out);have HE1:Hid (vb≠w1.heap.size):=by unfold Hid;omega
        have HE2:Hid (vb≠rb):=by
         have:=HOr.out.row.form (by omega);obtain⟨g,cp,e1,e2,_⟩:=this;injection e1 with e1
         injection e1 with e1
         injection e1 with e1
         unfold Hid;omega
        have hvl:vb≤wr.drew.heap.size:=Nat.le_of_lt hvb;go_wp2
        go_region_held3 (ZfW wr w1.heap.size #[.string kind,.string nm,.string team,.slice (some ⟨vb,vo,none⟩) V.length cap2,.bool en,.slice a3 Ho.length cap3,.int .i64 ver] rb (ro+j) R[j] vb)
         (first
           | (with_reducible exact ZfW.start FOr HCK hrb HE1 HE2)
           | (with_reducible exact ZfW.set (by assumption) _)
           | (with_reducible exact ZfW.on (by assumption) (by assumption) (by assumption)))
         (first
           | (go_at_call 200
              refine (Zjg lo _ x.fields R[j] _ (HFDr.out.below (Zb_.drew))).mono ?_;rintro e w4 ⟨rfl,hb4⟩;rw [hpi];have hq4:Below wr.heap.size wr w4:=Zj5 hb4;have HQ4:=Zab hq4;have hvl4:vb≤w4.heap.size:=Nat.le_trans (Nat.le_of_lt hvb) hq4.size;clear hq4)
           | (go_at_call 205
              refine (Ziu lo lm _ _ _ R[j] _ _ _ _ _ _ x.fields Ms L Ho _ (HFDr.out.below HQ4.out) (HMr.out.below HQ4.out) (HSO.out.at.below HQ4.out) (HSH.out.at.below HQ4.out) h6 (HL.out.trans HLv.out.symm) HNA.out h12 HIN.out).mono ?_;rintro e w5 ⟨rfl,hb5⟩;rw [hdv];have HB5:Hid (Below wr.heap.size wr w5):=HQ4.out.trans (hb5.mono HQ4.out.size);have ck5:w5.cell? ⟨vb,vo+p,none⟩=some (.string L[p]):=(HB5.out.cell (p:=⟨vb,vo+p,none⟩) hvb).trans HCK3.out;have fz5:w5.frozen? ⟨vb,vo+p,none⟩=false:=(HB5.out.frozen (p:=⟨vb,vo+p,none⟩) hvb).trans HFZ3.out))
        all_goals
         go_wp2;go_roundw
         case rel=>exact⟨j+1,by go_num,by omega,by rw [HNX.out];exact (HSO.out.below HB5.out).put hpL HNS.out,(HT.out.trans (Zbp.below HB5.out)).trans (Zbp.setCell _ _ _ _ _ ⟨hv1,hv2⟩)⟩
         case measure=>simp [intOf];omega
      · have e:j=R.length:=by omega
        subst e;have HE:Hid (R.take R.length=R):=List.take_length;have g2:=FOr.out.cell;have gl2:=FOr.out.lt;have HS2r:=Zab (HS2.out.touch HT.out (Or.inr Zl_));have HR:Hid (ZkV Ss Ms kind V (ZcS (ZaR x.fields) (ZcG x.fields kind Ms) (R.take R.length) V)):=Or.inl ⟨x,HMB.out,HX.out,HL.out,by rw [HE.out];exact HFIX.out⟩;have rr:=FRr.out.cell;have rf:=FRr.out.free;have rl:=FRr.out.lt;have r0:wr.cell? ⟨w.heap.size+1,0,none⟩=some (.string ⟨#[]⟩):=rr 0;have r1:wr.cell? ⟨w.heap.size+1,1,none⟩=some (.string ⟨#[]⟩):=rr 1;have r2:wr.cell? ⟨w.heap.size+1,2,none⟩=some (.string ⟨#[]⟩):=rr 2;have r3:wr.cell? ⟨w.heap.size+1,3,none⟩=some (.slice none 0 0):=rr 3;have r4:wr.cell? ⟨w.heap.size+1,4,none⟩=some (.bool false):=rr 4;have r5:wr.cell? ⟨w.heap.size+1,5,none⟩=some (.slice none 0 0):=rr 5;have r6:wr.cell? ⟨w.heap.size+1,6,none⟩=some (.int .i64 0):=rr 6;clear rr;go_wp2
        refine bodyPost_ret (v:=.agg #[.string kind,.string nm,.string team,.slice a2 V.length cap2,.bool en,.slice a3 Ho.length cap3,.int .i64 ver]) (by simp [results,results161,go_sem,r0,r1,r2,r3,r4,r5,r6]) rfl ⟨_,_,_,rfl,?_,⟨mid,?_,?_,?_,?_⟩,HR.out⟩
        · repeat (refine Below.setCell ?_ (by simp only [];omega) _)
          exact HBr.out
        · omega
        · simp only [World.setCell,Array.size_modify];omega
        · refine Zai.wide (lo:=w.heap.size+2) (hi:=mid) ?_ (by omega) Zl_
          repeat (refine Zai.setCell ?_ (by simp only [];omega) _)
          exact HSO.out
        · refine Zai.wide (lo:=mid) (hi:=w1.heap.size) ?_ Zl_ (by simp only [World.setCell,Array.size_modify];omega)
          repeat (refine Zai.setCell ?_ (by simp only [];omega) _)
          exact HS2r.out
   · rw [hsh] at HX;cases HX.out
 · have HR:Hid (ZkV Ss Ms kind V V):=Or.inr ⟨Or.inr hno,rfl⟩
   clear hno;have g2:=FO.out.cell;have gl2:=FO.out.lt;have rr:=FR.out.cell;have rf:=FR.out.free;have rl:=FR.out.lt;have r0:w2.cell? ⟨w.heap.size+1,0,none⟩=some (.string ⟨#[]⟩):=rr 0;have r1:w2.cell? ⟨w.heap.size+1,1,none⟩=some (.string ⟨#[]⟩):=rr 1;have r2:w2.cell? ⟨w.heap.size+1,2,none⟩=some (.string ⟨#[]⟩):=rr 2;have r3:w2.cell? ⟨w.heap.size+1,3,none⟩=some (.slice none 0 0):=rr 3;have r4:w2.cell? ⟨w.heap.size+1,4,none⟩=some (.bool false):=rr 4;have r5:w2.cell? ⟨w.heap.size+1,5,none⟩=some (.slice none 0 0):=rr 5;have r6:w2.cell? ⟨w.heap.size+1,6,none⟩=some (.int .i64 0):=rr 6;clear rr;go_wp2;refine bodyPost_ret (v:=.agg #[.string kind,.string nm,.string team,.slice a2 V.length cap2,.bool en,.slice a3 Ho.length cap3,.int .i64 ver]) (by simp [results,results161,go_sem,r0,r1,r2,r3,r4,r5,r6]) rfl ⟨_,_,V,rfl,?_,⟨mid,?_,?_,?_,?_⟩,HR.out⟩
   · repeat (refine Below.setCell ?_ (by simp only [];omega) _)
     exact HB2.out
   · omega
   · simp only [World.setCell,Array.size_modify];omega
   · refine Zai.wide (lo:=w.heap.size+2) (hi:=mid) ?_ (by omega) Zl_
     repeat (refine Zai.setCell ?_ (by simp only [];omega) _)
     exact HS1.out
   · refine Zai.wide (lo:=mid) (hi:=w1.heap.size) ?_ Zl_ (by simp only [World.setCell,Array.size_modify];omega)
     repeat (refine Zai.setCell ?_ (by simp only [];omega) _)
     exact HS2.out
end
theorem Zmt {Ss:List Sh} {Ms:List Md} {kind:Zy_} {V F:List Zy_} (hm:Zau Ss Ms=true) (h:ZkV Ss Ms kind (Zgv Ss kind V) F):Zco Ss Ms kind V F:=by
 by_cases hx:∃ x,Zb3 Ss kind=some x∧x.fields.length=V.length
 · obtain⟨x,h1,h2⟩:=hx
   rw [Zgw h1 h2] at h
   rcases h with ⟨y,a1,a2,a3,a4⟩ | ⟨a1,a2⟩
   · rw [h1] at a2;cases a2
     exact Or.inl ⟨x,a1,h1,h2,a4⟩
   · rcases a1 with a1 | a1
     · rw [hm] at a1;cases a1
     · exact absurd (by rw [Zed h2];exact h2) (a1 x h1)
 · have hno:∀ x,Zb3 Ss kind=some x→x.fields.length≠V.length:=fun x h1 h2=>hx ⟨x,h1,h2⟩
   rw [Zii hno] at h
   rcases h with ⟨y,a1,a2,a3,a4⟩ | ⟨a1,a2⟩
   · exact absurd a3 (hno y a2)
   · exact Or.inr ⟨a1,a2⟩
theorem Znq (Ss:List Sh) (kind:Zy_) (V:List Zy_):(Zgv Ss kind V).length=V.length:=by
 by_cases hx:∃ x,Zb3 Ss kind=some x∧x.fields.length=V.length
 · obtain⟨x,h1,h2⟩:=hx
   rw [Zgw h1 h2,Zed h2]
 · rw [Zii fun x h1 h2=>hx ⟨x,h1,h2⟩]
section
variable (kind nm team:Zy_) (vv hv sv mv:Value) (en:Bool) (ver:Int) (V Ho:List Zy_) (Ss:List Sh) (Ms:List Md) (w:World) (lo lm:Nat)
theorem Zjk (hS:ZaU lo w sv Ss) (hM:Zbc lm w mv Ms) (hV:Zaf w vv V) (hH:Zaf w hv Ho) (n1:V.length≤1048576) (n2:Ho.length≤1048576) (hmb:Zau Ss Ms=true) :
 Calls prog 104 #[sv,mv,.agg #[.string kind,.string nm,.string team,vv,.bool en,hv,.int .i64 ver]] w
  fun e w'=>∃ v' h' F,e=.returned (.agg #[.string kind,.string nm,.string team,v',.bool en,h',.int .i64 ver])∧Zw_ w w'∧ZfE w.heap.size w' v' h' F Ho∧Zco Ss Ms kind V F:=by
 have HV:=Zab hV;have HH:=Zab hH;have HS:=Zab hS;have HM:=Zab hM;obtain⟨a,cap,rfl⟩:=hV.form';obtain⟨a',cap',rfl⟩:=hH.form';obtain⟨a1,cap1,rfl⟩:=hS.form;obtain⟨ma,mcap,rfl⟩:=hM.form;clear hV hH hS hM;go_enter func104,ntmps104;go_wp2_with fail;generalize hWa:w.alloc _=Wa;have hza:Wa.heap.size=w.heap.size+1:=by rw [← hWa];simp
 have HBa:Hid (Zw_ w Wa):=by rw [← hWa];exact Zac _ _
 have FO:Hid (Box Wa w.heap.size #[.string kind,.string nm,.string team,.slice a V.length cap,.bool en,.slice a' Ho.length cap',.int .i64 ver]):=by rw [← hWa];exact Box.new _ _ _ _ rfl
 clear hWa;generalize hWb:Wa.alloc _=Wb;have hzb:Wb.heap.size=w.heap.size+2:=by rw [← hWb];simp [hza]
 have hbb:Below Wa.heap.size Wa Wb:=by rw [← hWb];exact Zac _ _
 have HBb:Hid (Zw_ w Wb):=HBa.out.trans (hbb.mono (by omega));have FO:=Zab (FO.out.on hbb);have FR:Hid (Box Wb (w.heap.size+1) #[.string ⟨#[]⟩,.string ⟨#[]⟩,.string ⟨#[]⟩,.slice none 0 0,.bool false,.slice none 0 0,.int .i64 0]):=by rw [← hWb];exact Box.new _ _ _ _ hza
 clear hWb hbb HBa hza;refine (Zl9 _ _ _ _ _ _ _ _ V Ho Ss _ lo (HS.out.below HBb.out) (HV.out.below HBb.out) (HH.out.below HBb.out) n1 n2).mono ?_;rintro e w1 ⟨v1,h1,rfl,hb1,mid1,hlo1,hmi1,hs1,hs2⟩;obtain⟨a2,cap2,rfl⟩:=hs1.form;obtain⟨a3,cap3,rfl⟩:=hs2.form;have FR:=Zab (FR.out.on hb1);have HB1:Hid (Zw_ w w1):=HBb.out.trans (hb1.mono HBb.out.size);have hz1:=hb1.size;have HV1:=Zab hs1.at;have HH1:=Zab hs2.at;have HMB:=Zab hmb;have nf:(Zgv Ss kind V).length≤1048576:=by rw [Znq];exact n1
 clear hb1 HBb hs1 hs2 hlo1 hmi1 FO hmb;go_wp2_with fail;refine (Zji _ _ _ _ _ _ _ _ _ (Zgv Ss kind V) Ho Ss Ms _ lo lm (HS.out.below HB1.out) (HM.out.below HB1.out) HV1.out HH1.out nf n2 HMB.out).mono ?_;rintro e w2 ⟨v2,h2,F,rfl,hb2,⟨mid2,hlo2,hmi2,hs3,hs4⟩,hfix⟩;have HR:=Zab (Zmt HMB.out hfix);clear hfix;have HB2:Hid (Zw_ w w2):=HB1.out.trans (hb2.mono HB1.out.size);have hz2:=hb2.size;have FR2:=Zab (FR.out.on hb2);obtain⟨a4,cap4,rfl⟩:=hs3.form;obtain⟨a5,cap5,rfl⟩:=hs4.form;have HV2:=Zab hs3;have HH2:=Zab hs4;clear hb2 hs3 hs4;have rr:=FR2.out.cell;have rf:=FR2.out.free;have rl:=FR2.out.lt;have r0:w2.cell? ⟨w.heap.size+1,0,none⟩=some (.string ⟨#[]⟩):=rr 0;have r1:w2.cell? ⟨w.heap.size+1,1,none⟩=some (.string ⟨#[]⟩):=rr 1;have r2:w2.cell? ⟨w.heap.size+1,2,none⟩=some (.string ⟨#[]⟩):=rr 2
 have r3:w2.cell? ⟨w.heap.size+1,3,none⟩=some (.slice none 0 0):=rr 3;have r4:w2.cell? ⟨w.heap.size+1,4,none⟩=some (.bool false):=rr 4;have r5:w2.cell? ⟨w.heap.size+1,5,none⟩=some (.slice none 0 0):=rr 5;have r6:w2.cell? ⟨w.heap.size+1,6,none⟩=some (.int .i64 0):=rr 6;clear rr;go_wp2;refine bodyPost_ret (v:=.agg #[.string kind,.string nm,.string team,.slice a4 F.length cap4,.bool en,.slice a5 Ho.length cap5,.int .i64 ver]) (by simp [results,results104,go_sem,r0,r1,r2,r3,r4,r5,r6]) rfl ⟨_,_,F,rfl,?_,⟨mid2,?_,?_,?_,?_⟩,HR.out⟩
 · repeat (refine Below.setCell ?_ (by simp only [];omega) _)
   exact HB2.out
 · omega
 · simp only [World.setCell,Array.size_modify];omega
 · refine Zai.wide (lo:=w1.heap.size) (hi:=mid2) ?_ (by omega) Zl_
   repeat (refine Zai.setCell ?_ (by simp only [];omega) _)
   exact HV2.out
 · refine Zai.wide (lo:=mid2) (hi:=w2.heap.size) ?_ Zl_ (by simp only [World.setCell,Array.size_modify];omega)
   repeat (refine Zai.setCell ?_ (by simp only [];omega) _)
   exact HH2.out
end
theorem Zco.exists (Ss:List Sh) (Ms:List Md) (kind:Zy_) (V:List Zy_):∃ F,Zco Ss Ms kind V F:=by
 by_cases hm:Zau Ss Ms=true
 · by_cases hx:∃ x,Zb3 Ss kind=some x∧x.fields.length=V.length
   · obtain⟨x,h1,h2⟩:=hx
     obtain⟨R,hg,hl⟩:=Zjy (Zeu hm (Zch h1).1);exact⟨_,Or.inl ⟨x,hm,h1,h2,Ziv hg hl (by rw [Zed h2];exact h2)⟩⟩
   · exact⟨V,Or.inr ⟨Or.inr fun x h1 h2=>hx ⟨x,h1,h2⟩,rfl⟩⟩
 · exact⟨V,Or.inr ⟨Or.inl (by simpa using hm),rfl⟩⟩
end Go.Proofs.YtcfjmagkinpaeaaGreat
