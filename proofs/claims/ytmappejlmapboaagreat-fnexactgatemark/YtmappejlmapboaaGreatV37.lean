import Derived.Test.YtmappejlmapboaaGreatV36
set_option maxHeartbeats 16000000
set_option maxRecDepth 100000
open Go.Proofs.Tryz
namespace Go.Proofs.YtmappejlmapboaaGreat
open Go.RowKit Go.Deep
variable {v:Value}
theorem Zdv.touch {base lo hi:Nat}{W W':World}{R:List Zy_} (h:Zdv base W v R) (ht:Zag lo hi W W') (hh:hi<=base):Zdv base W' v R:=by
 refine⟨⟨h.row.1,?_⟩,h.sz⟩
 rcases h.row.2 with hv | ⟨g,cap,cur,hv,h1,h2,h3⟩
 . exact Or.inl hv
 . have hg:g < W.heap.size:=by
    rcases Nat.lt_or_ge g W.heap.size with h | h
    . exact h
    . rw [Array.getElem?_eq_none h] at h2;cases h2
   exact Or.inr ⟨g,cap,cur,hv,h1,by rw [ht.block g hg (Or.inr (by omega))];exact h2,h3⟩
theorem Za7.sizes {lo:Nat}{w:World}{Ms:List Md} (h:Za7 lo w v Ms):∀ m ∈ Ms,ZdK m:=by
 intro m hm;obtain⟨i,hi,rfl⟩:=List.getElem_of_mem hm
 rcases h with ⟨_,_,_,h⟩ | ⟨b,off,cap,h1,h2,h3,h4,h5,h6,h7⟩
 . subst h;simp at hi
 . exact (h7 i hi).1
theorem Zaf.sizes {w:World}{L:List Zy_} (h:Zaf w v L):∀ s ∈ L,s.size<=maxLen:=by
 rcases h with ⟨_,_,_,h⟩ | ⟨b,off,cap,h1,h2,h3,h4,h5,h6⟩
 . subst h;intro s hs;simp at hs
 . exact h6
theorem Zi5 {Fs:List Fd}{kind:Zy_}{Ms:List Md}{V:List Zy_}{f v:Zy_} (hm:∀ m ∈ Ms,ZdK m) (hv:∀ s ∈ V,s.size<=maxLen) (h:ZcB Fs kind Ms V f=some v):v.size<=maxLen:=by
 unfold ZcB at h;obtain⟨m,hf,rfl⟩:=Option.map_eq_some_iff.1 h;have hmem:=List.mem_of_find?_eq_some hf;unfold Zcf
 by_cases he:m.fr.toList.isEmpty=true
 . rw [if_pos he];exact (hm m hmem).s4
 . rw [if_neg he]
   unfold ZbD
   by_cases hp:ZaN Fs m.fr < V.length
   . rw [List.getElem?_eq_getElem hp];exact hv _ (List.getElem_mem hp)
   . rw [List.getElem?_eq_none (by omega)];exact Nat.zero_le _
theorem Zk7 {Ss:List Sh}{Ms:List Md}{k0:Zy_}{x:Sh} (h:Zax Ss Ms=true) (hx:Zca Ss k0=some x):ZoY x.fields x.kind Ms:=fun _ hm hk=>(Zmf h hx hm hk).2
section
variable (kind nm team:Zy_) (vv hv sv mv fv:Value) (en:Bool) (ver:Int) (V Ho:List Zy_) (Ss:List Sh) (Ms:List Md) (x:Sh) (k0:Zy_) (w:World) (lo lm:Nat)
theorem Zky (hV:Zaf w vv V) (hH:Zaf w hv Ho) (hF:Zau lo w fv x.fields) (hM:Za7 lm w mv Ms) (hmb:Zax Ss Ms=true) (hx:Zca Ss k0=some x) (hl:x.fields.length=V.length) (n2:Ho.length<=1048576) :
 Calls prog 272 #[.agg #[.string x.kind,fv],mv,.agg #[.string kind,.string nm,.string team,vv,.bool en,hv,.int .i64 ver]] w
  fun e w'=>∃ v' h' F,e=.returned (.agg #[.string kind,.string nm,.string team,v',.bool en,h',.int .i64 ver])/\Zw_ w w'/\Ze5 w.heap.size w' v' h' F Ho/\Znc x Ms V F:=by
 have HV:=Zab hV;have HH:=Zab hH;have HF:=Zab hF;have HM:=Zab hM;have HMB:=Zab hmb;have HX:=Zab hx;have hfb:Zaz Ss x.fields=true:=ZbG (ZcJ hmb) (Zcg hx).1;have HFB:=Zab hfb;have h6:x.fields.length<=6:=ZcL hfb;have n1:V.length<=6:=by omega
 have h12:Ms.length<=12:=Zfk hmb;have HROW:Hd (Zna (ZaA x.fields) (Zam x.kind Ms)=true):=Zeq hmb (Zcg hx).1;have HNA:=Zab (Zk7 hmb hx);obtain⟨a,cap,rfl⟩:=hV.form';obtain⟨a',cap',rfl⟩:=hH.form';obtain⟨a1,cap1,rfl⟩:=hF.form;obtain⟨ma,mcap,rfl⟩:=hM.form;have HL:=Zab hl;clear hV hH hF hM hl hmb hx hfb;go_enter func272,ntmps272;go_wp2_with fail;generalize hWa:w.alloc _=Wa;have hza:Wa.heap.size=w.heap.size+1:=by rw [<- hWa];simp
 have HBa:Hd (Zw_ w Wa):=by rw [<- hWa];exact Zac _ _
 have FS:Hd (Box Wa w.heap.size #[.string x.kind,.slice a1 x.fields.length cap1]):=by rw [<- hWa];exact Box.new _ _ _ _ rfl
 clear hWa;generalize hWb:Wa.alloc _=Wb;have hzb:Wb.heap.size=w.heap.size+1+1:=by rw [<- hWb];simp [hza]
 have hbb:Below Wa.heap.size Wa Wb:=by rw [<- hWb];exact Zac _ _
 have HBb:Hd (Zw_ w Wb):=HBa.o.trans (hbb.mono (by omega));have FS:=Zab (FS.o.on hbb);clear hWb hbb HBa;generalize hWc:Wb.alloc _=Wc;have hzc:Wc.heap.size=w.heap.size+3:=by rw [<- hWc];simp [hzb]
 have hbc:Below Wb.heap.size Wb Wc:=by rw [<- hWc];exact Zac _ _
 have HBc:Hd (Zw_ w Wc):=HBb.o.trans (hbc.mono (by omega));have FS:=Zab (FS.o.on hbc);have FR:Hd (Box Wc (w.heap.size+1+1) #[.string ⟨#[]⟩,.string ⟨#[]⟩,.string ⟨#[]⟩,.slice none 0 0,.bool false,.slice none 0 0,.int .i64 0]):=by rw [<- hWc];exact Box.new _ _ _ _ hzb
 clear hWc hbc HBb hza hzb;refine (ZgF _ _ _ _ _ _ _ V Ho _ (HV.o.below HBc.o) (HH.o.below HBc.o) (by omega) n2).mono ?_;rintro e w1 ⟨v1,h1,rfl,hb1,mid,hlo,hmid,hs1,hs2⟩;obtain⟨a2,cap2,rfl⟩:=hs1.form;obtain⟨a3,cap3,rfl⟩:=hs2.form;have hz1:=hb1.size;have FS:=Zab (FS.o.on hb1);have FR:=Zab (FR.o.on hb1);have HB1:Hd (Zw_ w w1):=HBc.o.trans (hb1.mono HBc.o.size);have HS1:Hd (Zad (w.heap.size+3) mid w1 (.slice a2 V.length cap2) V):=by rw [<- hzc];exact hs1
 have HS2:=Zab hs2;have hlo':w.heap.size+3<=mid:=by omega
 clear hb1 hs1 hs2 HBc hlo;have g1:=FS.o.cell;have gl:=FS.o.lt;go_wp2_with fail;clear g1 gl;generalize hWd:w1.alloc _=Wd;have hzd:Wd.heap.size=w1.heap.size+1:=by rw [<- hWd];simp
 have hbd:Below w1.heap.size w1 Wd:=by rw [<- hWd];exact Zac _ _
 have HBd:Hd (Zw_ w Wd):=HB1.o.trans (hbd.mono HB1.o.size);have FS:=Zab (FS.o.on hbd);have FR:=Zab (FR.o.on hbd);have FO:Hd (Box Wd w1.heap.size #[.string kind,.string nm,.string team,.slice a2 V.length cap2,.bool en,.slice a3 Ho.length cap3,.int .i64 ver]):=by rw [<- hWd];exact Box.new _ _ _ _ rfl
 have HS1:=Zab (HS1.o.below hbd);have HS2:=Zab (HS2.o.below hbd);clear hWd hbd HB1;refine (ZfV lo lm _ _ x Ms w _ HF.o HBd.o (HM.o.below HBd.o) (by omega) (by omega)).mono ?_;rintro e w2 ⟨hb2,hgr⟩;have hz2:=hb2.size;have HB2:Hd (Zw_ w w2):=HBd.o.trans (hb2.mono HBd.o.size);have FS:=Zab (FS.o.on hb2);have FR:=Zab (FR.o.on hb2);have FO:=Zab (FO.o.on hb2);have HS1:=Zab (HS1.o.below hb2);have HS2:=Zab (HS2.o.below hb2);clear hb2 HBd
 rcases hgr with ⟨rv,R,rfl,ho,hg,hlen⟩ | ⟨hno,_⟩
 . have HO:=Zab ho
   have HG:=Zab hg;obtain⟨ra,rcap,rfl⟩:=ho.form;have HFIX:Hd (Znc x Ms V (ZcI (ZaN x.fields) (ZcB x.fields x.kind Ms) R V)):=Ziu hg hlen HL.o;have hRl:R.length<=6:=Nat.le_trans (Zik hg) h6;clear ho hg hlen;go_wp2
   go_loopw [24] (fun i wr=>∃ k:Nat,i=.int .i64 k/\k<=R.length/\Zad (w.heap.size+3) mid wr (.slice a2 V.length cap2) (ZcI (ZaN x.fields) (ZcB x.fields x.kind Ms) (R.take k) V)/\Zag (w.heap.size+3) mid w2 wr) (fun i _=>R.length - (intOf i).toNat)
   case atStart=>exact⟨0,rfl,by omega,HS1.o,Zag.refl _ _ _⟩
   case round=>
    obtain⟨k,rfl,hk,hso,ht⟩:=hrel;have HSO:=Zab hso;have HT:=Zab ht;have hzr:=ht.size;have HBr:Hd (Zw_ w wr):=HB2.o.trans ((ht.under (by omega)).mono (by omega));have FSr:=Zab (FS.o.touch ht (by omega));have FRr:=Zab (FR.o.touch ht (by omega));have FOr:=Zab (FO.o.touch ht (by omega));have HOr:=Zab (HO.o.touch ht (by omega));clear hso ht HS1
    by_cases hlt:k < R.length
    . obtain⟨rb,ro,rfl,hrb,hrc⟩:=HOr.o.strs.full' (by omega)
      have ck:=hrc k hlt;clear hrc;have g1:=FSr.o.cell;have gl:=FSr.o.lt;have g2:=FOr.o.cell;have gl2:=FOr.o.lt;have HLv:Hd ((ZcI (ZaN x.fields) (ZcB x.fields x.kind Ms) (R.take k) V).length=V.length):=ZgV _ _ _ _;have HNEXT:=Zab (ZhJ (ZaN x.fields) (ZcB x.fields x.kind Ms) hlt V);have HIN:Hd (R[k] ∈ ZaA x.fields):=HG.o.sub (List.getElem_mem hlt);generalize hcur:ZcI (ZaN x.fields) (ZcB x.fields x.kind Ms) (R.take k) V=L at*;go_wp2_with fail;refine (Zj3 lo lm _ R[k] _ _ _ Ss x.fields Ms L w _ HF.o HBr.o (HM.o.below HBr.o) HSO.o.at HFB.o (HL.o.trans HLv.o.symm) HNA.o h12).mono ?_;rintro e w3 ⟨hb3,hdr⟩;have hz3:=hb3.size;have FS3:=Zab (FSr.o.on hb3);have FO3:=Zab (FOr.o.on hb3);have HS3:=Zab (HSO.o.below hb3);have HT3:Hd (Zag (w.heap.size+3) mid w2 w3):=HT.o.trans (Zag.below hb3)
      have HB3:Hd (Zw_ w w3):=HBr.o.trans (hb3.mono HBr.o.size);clear hb3 g1 gl g2 gl2 ck FSr FRr FOr HOr
      rcases hdr with ⟨nv,hd,rfl⟩ | ⟨hd,rfl⟩
      . have hp:ZaN x.fields R[k] < x.fields.length:=Zb4.2 HIN.o
        have hpL:ZaN x.fields R[k] < L.length:=by have:=HLv.o;have:=HL.o;omega
        have hpV:ZaN x.fields R[k] < V.length:=by have:=HL.o;omega
        have HPI:Hd (ZbW x.fields R[k]=ZaN x.fields R[k]):=ZbB hp;have HNX:Hd (ZcI (ZaN x.fields) (ZcB x.fields x.kind Ms) (R.take (k+1)) V=L.set (ZaN x.fields R[k]) nv):=by unfold Hd;rw [HNEXT.o];exact Zoi hd
        have HNS:Hd (nv.size<=maxLen):=Zi5 HM.o.sizes HS3.o.at.sizes hd;have hLl:L.length<=6:=by have:=HLv.o;omega
        clear hd HNEXT;obtain⟨vb,vo,rfl,hVL,hvb,hv1,hv2,hvc,hvf⟩:=HS3.o.full (by omega);clear hVL;have ck3:=hvc _ hpL;have fz3:=hvf (ZaN x.fields R[k]);have g1:=FS3.o.cell;have gl:=FS3.o.lt;have g2:=FO3.o.cell;have gl2:=FO3.o.lt;clear hvc hvf;generalize hpp:ZaN x.fields R[k]=p at*;go_wp2
        go_region_with (go_at_call 283
                        refine (ZeR lo _ _ x.fields R[k] _ (HF.o.below (HB3.o.drew))).mono ?_;rintro e w4 ⟨rfl,hb4⟩;rw [HPI.o];have hb4':=Zj4 hb4;have g3:∀ i,w4.cell? ⟨w1.heap.size,i,none⟩=(#[.string kind,.string nm,.string team,.slice (some ⟨vb,vo,none⟩) V.length cap2,.bool en,.slice a3 Ho.length cap3,.int .i64 ver]:Array Value)[i]?:=(FO3.o.on hb4').cell
                        have ck4:w4.cell? ⟨vb,vo+p,none⟩=some (.string L[p]):=(hb4'.cell (p:=⟨vb,vo+p,none⟩) hvb).trans ck3;have fz4:w4.frozen? ⟨vb,vo+p,none⟩=false:=(hb4'.frozen (p:=⟨vb,vo+p,none⟩) hvb).trans fz3;have HS4:=Zab (HS3.o.below hb4');have HT4:Hd (Zag (w.heap.size+3) mid w2 w4):=HT3.o.trans (Zag.below hb4');clear hb4 hb4')
        all_goals
         go_wp2;go_roundw
         . exact⟨k+1,by go_num,by omega,by rw [HNX.o];exact HS4.o.put hpL HNS.o,HT4.o.trans (Zag.setCell _ _ _ _ _ ⟨hv1,hv2⟩)⟩
         . simp [intOf];omega
      . have HNX:Hd (ZcI (ZaN x.fields) (ZcB x.fields x.kind Ms) (R.take (k+1)) V=L):=by unfold Hd;rw [HNEXT.o];exact Zoh hd
        clear hd;go_wp2;go_roundw
        . exact⟨k+1,by go_num,by omega,by rw [HNX.o];exact HS3.o,HT3.o⟩
        . simp [intOf];omega
    . have e:k=R.length:=by omega
      subst e;have HE:Hd (R.take R.length=R):=List.take_length;have g2:=FOr.o.cell;have gl2:=FOr.o.lt;have HS2r:=Zab (HS2.o.touch HT.o (Or.inr Zl_));have rr:=FRr.o.cell;have rf:=FRr.o.free;have rl:=FRr.o.lt;have r0:wr.cell? ⟨w.heap.size+1+1,0,none⟩=some (.string ⟨#[]⟩):=rr 0;have r1:wr.cell? ⟨w.heap.size+1+1,1,none⟩=some (.string ⟨#[]⟩):=rr 1;have r2:wr.cell? ⟨w.heap.size+1+1,2,none⟩=some (.string ⟨#[]⟩):=rr 2;have r3:wr.cell? ⟨w.heap.size+1+1,3,none⟩=some (.slice none 0 0):=rr 3;have r4:wr.cell? ⟨w.heap.size+1+1,4,none⟩=some (.bool false):=rr 4;have r5:wr.cell? ⟨w.heap.size+1+1,5,none⟩=some (.slice none 0 0):=rr 5;have r6:wr.cell? ⟨w.heap.size+1+1,6,none⟩=some (.int .i64 0):=rr 6;clear rr;go_wp2
      refine bodyPost_ret (v:=.agg #[.string kind,.string nm,.string team,.slice a2 V.length cap2,.bool en,.slice a3 Ho.length cap3,.int .i64 ver]) (by simp [results,results272,go_sem,r0,r1,r2,r3,r4,r5,r6]) rfl ⟨_,_,_,rfl,?_,⟨mid,?_,?_,?_,?_⟩,by rw [<- HE.o] at HFIX;exact HFIX.o⟩
      . repeat (refine Below.setCell ?_ (by simp only [];omega) _)
        exact HBr.o
      . omega
      . simp only [World.setCell,Array.size_modify];omega
      . refine Zad.wide (lo:=w.heap.size+3) (hi:=mid) ?_ (by omega) Zl_
        repeat (refine Zad.setCell ?_ (by simp only [];omega) _)
        exact HSO.o
      . refine Zad.wide (lo:=mid) (hi:=w1.heap.size) ?_ Zl_ (by simp only [World.setCell,Array.size_modify];omega)
        repeat (refine Zad.setCell ?_ (by simp only [];omega) _)
        exact HS2r.o
 . rw [HROW.o] at hno;cases hno
end
end Go.Proofs.YtmappejlmapboaaGreat
