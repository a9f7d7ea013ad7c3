import Derived.Test.YtkiefplmnoapfaaGreatV43
set_option maxHeartbeats 16000000
set_option maxRecDepth 100000
open Go.Proofs.Tryz
namespace Go.Proofs.YtkiefplmnoapfaaGreat
open Go.RowKit Go.Deep
theorem Zjp (cs0:List Value) (U V:Rr) (csm:List Value) (M:Rm) (w:World) (h0:RrC 0 w cs0 U) (h1:RmC 0 w csm M)
 (hspec:Zbd U->Zcz M->Zbd V/\∀ (cs csm:List Value) (w:World),RrC 0 w cs U->RmC 0 w csm M->Calls prog 7 #[.agg cs.toArray,.agg csm.toArray] w fun e w'=>∃ cs',e=.returned (.agg cs'.toArray)/\Zw_ w w'/\RrC w.heap.size w' cs' V)
 (himp:Zbd U->Zcz M->∀ (cs csm:List Value) (w:World),RrC 0 w cs U->RmC 0 w csm M->Calls prog 10 #[.agg cs.toArray,.agg csm.toArray] w fun e w'=>∃ cs',e=.returned (.agg cs'.toArray)/\Zw_ w w'/\Zbl w.heap.size w'.heap.size w' cs' V) :
 Calls prog 3 #[.agg cs0.toArray,.agg csm.toArray] w fun e w'=>e=.returned (.bool true)/\Zw_ w w':=by
 have H0:=Zaa h0;have H1:=Zaa h1;have HTXM:=Zaa h1.txz;have HIMP:=Zaa himp;have HSPEC:=Zaa hspec;have HZcs0:Hd ((prog.info? 30).map (·.size)=some cs0.length):=by unfold Hd;rw [h0.len];exact Zkq
 have HZcsm:Hd ((prog.info? 32).map (·.size)=some csm.length):=by unfold Hd;rw [h1.len];exact Zkp
 have HTN:Hd (∀ (X:World) (cs:List Value),cs.length=18->(X.alloc (.cells z18.toArray 41)).there X.heap.size 0 cs.toArray.size):=fun X cs h=>by rw [show cs.toArray.size=18 from h];exact Zch _ _ _ _ rfl
 have HBX:Hd (∀ (X:World) (cs:List Value),cs.length=18->Box ((X.alloc (.cells z18.toArray 41)).setCells X.heap.size 0 cs.toArray.toList) X.heap.size cs.toArray):=fun X cs h=>(Box.new _ _ _ _ rfl).full (by rw [show cs.toArray.size=18 from h];rfl)
 have HTNm:Hd (∀ (X:World) (cs:List Value),cs.length=8->(X.alloc (.cells z8m.toArray 45)).there X.heap.size 0 cs.toArray.size):=fun X cs h=>by rw [show cs.toArray.size=8 from h];exact Zch _ _ _ _ rfl
 have HBXm:Hd (∀ (X:World) (cs:List Value),cs.length=8->Box ((X.alloc (.cells z8m.toArray 45)).setCells X.heap.size 0 cs.toArray.toList) X.heap.size cs.toArray):=fun X cs h=>(Box.new _ _ _ _ rfl).full (by rw [show cs.toArray.size=8 from h];rfl)
 clear himp hspec h0 h1;go_enter func3,ntmps3;have HR0:Hd (World.rangeAt ((w.alloc (.cells cs0.toArray 30)).alloc (.cells csm.toArray 32)) w.heap.size 0 cs0):=((Box.new _ _ _ _ rfl).on (Zab _ _)).range rfl;go_wp2_with (with_reducible refine wpList_load_mid (by with_reducible rfl) 30 (.tmp 2) (by with_reducible rfl) w.heap.size 0 (by with_unfolding_all rfl) cs0 _ HR0.o underlying30 (by with_unfolding_all rfl) HZcs0.o ?_)
 obtain⟨w0,hw0,F0,F1,HB⟩:∃ w0,w0=(w.alloc (.cells cs0.toArray 30)).alloc (.cells csm.toArray 32)/\Hd (Box w0 w.heap.size cs0.toArray)/\Hd (Box w0 (w.heap.size+1) csm.toArray)/\Hd (Zw_ w w0):=
  ⟨_,rfl,(Box.new w _ _ _ rfl).on (Zab _ _),Box.new _ _ _ _ (by simp),bt (Zab _ _) (Zab _ _)⟩
 rw [<- hw0];clear hw0 HR0;have hs0:w.heap.size+1 < w0.heap.size:=F1.o.lt
 refine (ZkM 0 _ U _ _ (by omega) (by omega) (H0.o.below HB.o)).mono ?_;rintro e w1 ⟨q0,rfl,hb,r0a,r0b,r0c⟩;have hz1:w0.heap.size<=w1.heap.size:=hb.size;replace HB:Hd (Zw_ w w1):=bt HB.o hb;replace F0:=Zaa (F0.o.on hb);replace F1:=Zaa (F1.o.on hb);clear hb;have HQ:=Zaa r0c;clear r0c
 by_cases hneg0:q0 < 0
 . go_wp2
   go_ret;exact⟨rfl,HB.o⟩
 have M0:Hd (Zbd U):=HQ.o (by omega);clear HQ;go_wp2_with (first|(with_reducible refine wpList_load_mid (by with_reducible rfl) 32 (.tmp 3) (by with_reducible rfl) (w.heap.size+1) 0 (by with_unfolding_all rfl) csm _ (F1.o.range rfl) underlying32 (by with_unfolding_all rfl) HZcsm.o ?_));refine (Zj0 0 _ M _ _ (by omega) (by omega) (H1.o.below HB.o)).mono ?_;rintro e w2 ⟨q1,rfl,hb,r1a,r1b,r1c⟩;have hz2:w1.heap.size<=w2.heap.size:=hb.size;replace HB:Hd (Zw_ w w2):=bt HB.o hb;replace F0:=Zaa (F0.o.on hb);replace F1:=Zaa (F1.o.on hb);clear hb;have HQ:=Zaa r1c;clear r1c
 by_cases hneg1:q1 < 0
 . go_wp2
   go_ret;exact⟨rfl,HB.o⟩
 have M1:Hd (Zcz M):=HQ.o (by omega);clear HQ r0a r0b r1a r1b;obtain⟨hV,hsp⟩:=HSPEC.o M0.o M1.o;have MV:=Zaa hV;have HSP:=Zaa hsp;have HIM:=Zaa (HIMP.o M0.o M1.o);have HIC:Hd (∀ (cs csm:List Value) (w:World),RrC 0 w cs U->RmC 0 w csm M->Calls prog 10 #[.agg cs.toArray,.agg csm.toArray] w fun e w'=>∃ cs',e=.returned (.agg cs'.toArray)/\Zw_ w w'/\RrC w.heap.size w' cs' V):=fun cs csm w h h'=>(HIM.o cs csm w h h').mono fun _ _ ⟨c,e,b,o⟩=>⟨c,e,b,o.at⟩
 clear hV hsp HSPEC HIMP;have K0:=Zaa (H0.o.below HB.o);have K1:=Zaa (H1.o.below HB.o);have KP:Hd (∀ W,Below w2.heap.size w2 W->W.rangeAt w.heap.size 0 cs0/\W.rangeAt (w.heap.size+1) 0 csm):=fun W hW=>⟨(F0.o.on hW).range rfl,(F1.o.on hW).range rfl⟩
 go_upto_region 8 with fail
 go_cut [6] (fun p wc=>∃ (β:Nat) (cs':List Value),p=.pointer (some ⟨β,0,none⟩)/\w2.heap.size<=β/\Box wc β cs'.toArray/\RrC 0 wc cs' V/\Below w2.heap.size w2 wc)
 case first=>
  refine wp_region_held_drew (S:=fun W=>W.rangeAt w.heap.size 0 cs0/\W.rangeAt (w.heap.size+1) 0 csm) (by kernel_rfl) (KP.o _ (Zb_.drew)) (fun hHeld=>?_);refine wpAnyH_take (i:=0) rfl (by kernel_rfl) (by kernel_rfl) (by kernel_rfl) (fun _ _ _ h=>h) (yieldsIf_load_mid (by rfl) 30 (.tmp 2) rfl w.heap.size 0 rfl cs0 _ (fun _ h=>h.1) underlying30 rfl HZcs0.o) hHeld ?_
  try simp only [Act.put,sLs]
  refine wpAnyH_take (i:=2) rfl (by kernel_rfl) (by kernel_rfl) (by kernel_rfl) (fun _ _ _ h=>h) (yieldsIf_load_mid (by rfl) 32 (.tmp 3) rfl (w.heap.size+1) 0 rfl csm _ (fun _ h=>h.2) underlying32 rfl HZcsm.o) hHeld ?_
  try simp only [Act.put,sLs]
  refine wpAnyH_ready (rs:=[1,5]) (by kernel_rfl) (by simp) ?_;refine AllReadyH.cons rfl (fun KK hK=>?_) (AllReadyH.cons rfl (fun KK hK=>?_) AllReadyH.nil)
  ·
   go_simp
   refine (ZfT 0 _ U _ (K0.o.below (Zb_.drew)) M0.o).mono ?_;rintro e v1 ⟨xs,rfl,hb,hs⟩;have SX:=Zaa (hs.mono Zz_);have CC:Hd (Below w2.heap.size w2 v1):=bt (Zb_.drew) hb;clear hs hb;have hy1:=CC.o.size
   try go_wp2_with fail
   refine hK.out _ _ (KP.o _ CC.o) (fun hHeld=>?_);clear hK KK
   try simp only [Act.put,sLs]
   refine wpAnyH_ready (rs:=[3,5]) (by kernel_rfl) (by simp) ?_;refine AllReadyH.cons rfl (fun KK hK=>?_) (AllReadyH.cons rfl (fun KK hK=>?_) AllReadyH.nil)
   ·
    go_simp
    refine (ZdP 0 _ M _ (K1.o.below CC.o) M1.o).mono ?_;rintro e v2 ⟨ys,rfl,hb,hs⟩;have SY:=Zaa (hs.mono Zz_);replace SX:=Zaa (SX.o.below hb);replace CC:Hd (Below w2.heap.size w2 v2):=bt CC.o hb;clear hs hb;have hy2:=CC.o.size
    try go_wp2_with fail
    refine hK.out _ _ (KP.o _ CC.o) (fun hHeld=>?_);clear hK KK
    try simp only [Act.put,sLs]
    refine wpAnyH_ready (rs:=[4,5]) (by kernel_rfl) (by simp) ?_;refine AllReadyH.cons rfl (fun KK hK=>?_) (AllReadyH.cons rfl (fun KK hK=>?_) AllReadyH.nil)
    ·
     go_simp
     refine (HSP.o _ _ _ SX.o SY.o).mono ?_;rintro e v3 ⟨cr,rfl,hb,hs⟩;have SR:=Zaa hs;have LR:=Zaa hs.len;have OR:=Zaa hs.one;clear SX SY;replace CC:Hd (Below w2.heap.size w2 v3):=bt CC.o hb;clear hs hb;have hy3:=CC.o.size
     try go_wp2_with fail
     refine hK.out _ _ (KP.o _ CC.o) (fun hHeld=>?_);clear hK KK
     try simp only [Act.put,sLs]
     refine wpAnyH_ready (rs:=[5]) (by kernel_rfl) (by simp) ?_;refine AllReadyH.cons rfl (fun KK hK=>?_) AllReadyH.nil
     go_simp
     obtain⟨v4,hv⟩:∃ vv,vv=v3.alloc (.cells zR 41):=⟨_,rfl⟩
     rw [<- hv];have hb:Below v3.heap.size v3 v4:=by rw [hv];exact Zab _ _
     have BX:Hd (Box v4 v3.heap.size zR):=by unfold Hd;rw [hv];exact Box.new _ _ _ _ rfl
     clear hv;have HAL:=Zaa hb;replace CC:Hd (Below w2.heap.size w2 v4):=bt CC.o hb;clear hb;have hy4:=CC.o.size;have hx4:=BX.o.lt;refine hK.out _ _ (KP.o _ CC.o) (fun hHeld=>?_);clear hK KK
     try simp only [Act.put,sLs]
     refine wpAnyH_ready (rs:=[6]) (by kernel_rfl) (by simp) ?_;refine AllReadyH.cons rfl (fun KK hK=>?_) AllReadyH.nil;have HTH:Hd (World.there v4 (v3.heap.size) 0 cr.toArray.size):=by unfold Hd;rw [show cr.toArray.size=18 from LR.o];exact BX.o.there rfl
     refine Zaz rfl 41 (.tmp 6) (.tmp 28) rfl (v3.heap.size) 0 cr.toArray rfl rfl HTH.o (szA LR.o) OR.o ?_;obtain⟨ve,hve⟩:∃ ve,ve=v4.setCells (v3.heap.size) 0 cr.toArray.toList:=⟨_,rfl⟩
     rw [<- hve];have TT:Zad (v3.heap.size) (v3.heap.size+1) v4 ve:=by rw [hve];exact Zad.sets ⟨by omega,by omega⟩ _ _ _
     have BE:Hd (Box ve (v3.heap.size) cr.toArray):=by unfold Hd;rw [hve];exact BX.o.full (by rw [show cr.toArray.size=18 from LR.o];rfl)
     have CE:Hd (Below w2.heap.size w2 ve):=CC.o.trans ((TT.under (by omega)).mono (by omega));have SE:Hd (RrC 0 ve cr V):=(SR.o.below (HAL.o.trans (TT.under (by omega)))).mono Zz_;clear hve TT;refine hK.out _ _ (KP.o _ CE.o) (fun hHeld=>?_);clear hK KK
     try simp only [Act.put,sLs]
     refine wpAnyH_done (by kernel_rfl) ?_ _;go_wp2;go_meet;exact⟨_,cr,rfl,by omega,BE.o,SE.o,CE.o⟩
    ·
     go_simp
     obtain⟨v3,hv⟩:∃ vv,vv=v2.alloc (.cells zR 41):=⟨_,rfl⟩
     rw [<- hv];have hb:Below v2.heap.size v2 v3:=by rw [hv];exact Zab _ _
     have BX:Hd (Box v3 v2.heap.size zR):=by unfold Hd;rw [hv];exact Box.new _ _ _ _ rfl
     clear hv;replace SX:=Zaa (SX.o.below hb);replace SY:=Zaa (SY.o.below hb);replace CC:Hd (Below w2.heap.size w2 v3):=bt CC.o hb;clear hb;have hy3:=CC.o.size;have hx3:=BX.o.lt;refine hK.out _ _ (KP.o _ CC.o) (fun hHeld=>?_);clear hK KK
     try simp only [Act.put,sLs]
     refine wpAnyH_ready (rs:=[4]) (by kernel_rfl) (by simp) ?_;refine AllReadyH.cons rfl (fun KK hK=>?_) AllReadyH.nil
     go_simp
     refine (HSP.o _ _ _ SX.o SY.o).mono ?_;rintro e v4 ⟨cr,rfl,hb,hs⟩;have SR:=Zaa hs;have LR:=Zaa hs.len;have OR:=Zaa hs.one;clear SX SY;replace BX:=Zaa (BX.o.on hb);replace CC:Hd (Below w2.heap.size w2 v4):=bt CC.o hb;clear hs hb;have hy4:=CC.o.size
     try go_wp2_with fail
     have hx4:=BX.o.lt;refine hK.out _ _ (KP.o _ CC.o) (fun hHeld=>?_);clear hK KK
     try simp only [Act.put,sLs]
     refine wpAnyH_ready (rs:=[6]) (by kernel_rfl) (by simp) ?_;refine AllReadyH.cons rfl (fun KK hK=>?_) AllReadyH.nil;have HTH:Hd (World.there v4 (v2.heap.size) 0 cr.toArray.size):=by unfold Hd;rw [show cr.toArray.size=18 from LR.o];exact BX.o.there rfl
     refine Zaz rfl 41 (.tmp 6) (.tmp 28) rfl (v2.heap.size) 0 cr.toArray rfl rfl HTH.o (szA LR.o) OR.o ?_;obtain⟨ve,hve⟩:∃ ve,ve=v4.setCells (v2.heap.size) 0 cr.toArray.toList:=⟨_,rfl⟩
     rw [<- hve];have TT:Zad (v2.heap.size) (v2.heap.size+1) v4 ve:=by rw [hve];exact Zad.sets ⟨by omega,by omega⟩ _ _ _
     have BE:Hd (Box ve (v2.heap.size) cr.toArray):=by unfold Hd;rw [hve];exact BX.o.full (by rw [show cr.toArray.size=18 from LR.o];rfl)
     have CE:Hd (Below w2.heap.size w2 ve):=CC.o.trans ((TT.under (by omega)).mono (by omega));have SE:Hd (RrC 0 ve cr V):=(SR.o.up TT (by omega)).mono Zz_;clear hve TT;refine hK.out _ _ (KP.o _ CE.o) (fun hHeld=>?_);clear hK KK
     try simp only [Act.put,sLs]
     refine wpAnyH_done (by kernel_rfl) ?_ _;go_wp2;go_meet;exact⟨_,cr,rfl,by omega,BE.o,SE.o,CE.o⟩
   ·
    go_simp
    obtain⟨v2,hv⟩:∃ vv,vv=v1.alloc (.cells zR 41):=⟨_,rfl⟩
    rw [<- hv];have hb:Below v1.heap.size v1 v2:=by rw [hv];exact Zab _ _
    have BX:Hd (Box v2 v1.heap.size zR):=by unfold Hd;rw [hv];exact Box.new _ _ _ _ rfl
    clear hv;replace SX:=Zaa (SX.o.below hb);replace CC:Hd (Below w2.heap.size w2 v2):=bt CC.o hb;clear hb;have hy2:=CC.o.size;have hx2:=BX.o.lt;refine hK.out _ _ (KP.o _ CC.o) (fun hHeld=>?_);clear hK KK
    try simp only [Act.put,sLs]
    refine wpAnyH_ready (rs:=[3]) (by kernel_rfl) (by simp) ?_;refine AllReadyH.cons rfl (fun KK hK=>?_) AllReadyH.nil
    go_simp
    refine (ZdP 0 _ M _ (K1.o.below CC.o) M1.o).mono ?_;rintro e v3 ⟨ys,rfl,hb,hs⟩;have SY:=Zaa (hs.mono Zz_);replace SX:=Zaa (SX.o.below hb);replace BX:=Zaa (BX.o.on hb);replace CC:Hd (Below w2.heap.size w2 v3):=bt CC.o hb;clear hs hb;have hy3:=CC.o.size
    try go_wp2_with fail
    have hx3:=BX.o.lt;refine hK.out _ _ (KP.o _ CC.o) (fun hHeld=>?_);clear hK KK
    try simp only [Act.put,sLs]
    refine wpAnyH_ready (rs:=[4]) (by kernel_rfl) (by simp) ?_;refine AllReadyH.cons rfl (fun KK hK=>?_) AllReadyH.nil
    go_simp
    refine (HSP.o _ _ _ SX.o SY.o).mono ?_;rintro e v4 ⟨cr,rfl,hb,hs⟩;have SR:=Zaa hs;have LR:=Zaa hs.len;have OR:=Zaa hs.one;clear SX SY;replace BX:=Zaa (BX.o.on hb);replace CC:Hd (Below w2.heap.size w2 v4):=bt CC.o hb;clear hs hb;have hy4:=CC.o.size
    try go_wp2_with fail
    have hx4:=BX.o.lt;refine hK.out _ _ (KP.o _ CC.o) (fun hHeld=>?_);clear hK KK
    try simp only [Act.put,sLs]
    refine wpAnyH_ready (rs:=[6]) (by kernel_rfl) (by simp) ?_;refine AllReadyH.cons rfl (fun KK hK=>?_) AllReadyH.nil;have HTH:Hd (World.there v4 (v1.heap.size) 0 cr.toArray.size):=by unfold Hd;rw [show cr.toArray.size=18 from LR.o];exact BX.o.there rfl
    refine Zaz rfl 41 (.tmp 6) (.tmp 28) rfl (v1.heap.size) 0 cr.toArray rfl rfl HTH.o (szA LR.o) OR.o ?_;obtain⟨ve,hve⟩:∃ ve,ve=v4.setCells (v1.heap.size) 0 cr.toArray.toList:=⟨_,rfl⟩
    rw [<- hve];have TT:Zad (v1.heap.size) (v1.heap.size+1) v4 ve:=by rw [hve];exact Zad.sets ⟨by omega,by omega⟩ _ _ _
    have BE:Hd (Box ve (v1.heap.size) cr.toArray):=by unfold Hd;rw [hve];exact BX.o.full (by rw [show cr.toArray.size=18 from LR.o];rfl)
    have CE:Hd (Below w2.heap.size w2 ve):=CC.o.trans ((TT.under (by omega)).mono (by omega));have SE:Hd (RrC 0 ve cr V):=(SR.o.up TT (by omega)).mono Zz_;clear hve TT;refine hK.out _ _ (KP.o _ CE.o) (fun hHeld=>?_);clear hK KK
    try simp only [Act.put,sLs]
    refine wpAnyH_done (by kernel_rfl) ?_ _;go_wp2;go_meet;exact⟨_,cr,rfl,by omega,BE.o,SE.o,CE.o⟩
  ·
   go_simp
   obtain⟨v1,hv⟩:∃ vv,vv=(w2.alloc (.cells zR 41)).drew:=⟨_,rfl⟩
   rw [<- hv];have hb:Below w2.heap.size w2 v1:=by rw [hv];exact (Zab _ _).drew
   have BX:Hd (Box v1 w2.heap.size zR):=by unfold Hd;rw [hv];exact (Box.new _ _ _ _ rfl).drew
   clear hv;have CC:Hd (Below w2.heap.size w2 v1):=hb;clear hb;have hy1:=CC.o.size;have hx1:=BX.o.lt;refine hK.out _ _ (KP.o _ CC.o) (fun hHeld=>?_);clear hK KK
   try simp only [Act.put,sLs]
   refine wpAnyH_ready (rs:=[1]) (by kernel_rfl) (by simp) ?_;refine AllReadyH.cons rfl (fun KK hK=>?_) AllReadyH.nil
   go_simp
   refine (ZfT 0 _ U _ (K0.o.below CC.o) M0.o).mono ?_;rintro e v2 ⟨xs,rfl,hb,hs⟩;have SX:=Zaa (hs.mono Zz_);replace BX:=Zaa (BX.o.on hb);replace CC:Hd (Below w2.heap.size w2 v2):=bt CC.o hb;clear hs hb;have hy2:=CC.o.size
   try go_wp2_with fail
   have hx2:=BX.o.lt;refine hK.out _ _ (KP.o _ CC.o) (fun hHeld=>?_);clear hK KK
   try simp only [Act.put,sLs]
   refine wpAnyH_ready (rs:=[3]) (by kernel_rfl) (by simp) ?_;refine AllReadyH.cons rfl (fun KK hK=>?_) AllReadyH.nil
   go_simp
   refine (ZdP 0 _ M _ (K1.o.below CC.o) M1.o).mono ?_;rintro e v3 ⟨ys,rfl,hb,hs⟩;have SY:=Zaa (hs.mono Zz_);replace SX:=Zaa (SX.o.below hb);replace BX:=Zaa (BX.o.on hb);replace CC:Hd (Below w2.heap.size w2 v3):=bt CC.o hb;clear hs hb;have hy3:=CC.o.size
   try go_wp2_with fail
   have hx3:=BX.o.lt;refine hK.out _ _ (KP.o _ CC.o) (fun hHeld=>?_);clear hK KK
   try simp only [Act.put,sLs]
   refine wpAnyH_ready (rs:=[4]) (by kernel_rfl) (by simp) ?_;refine AllReadyH.cons rfl (fun KK hK=>?_) AllReadyH.nil
   go_simp
   refine (HSP.o _ _ _ SX.o SY.o).mono ?_;rintro e v4 ⟨cr,rfl,hb,hs⟩;have SR:=Zaa hs;have LR:=Zaa hs.len;have OR:=Zaa hs.one;clear SX SY;replace BX:=Zaa (BX.o.on hb);replace CC:Hd (Below w2.heap.size w2 v4):=bt CC.o hb;clear hs hb;have hy4:=CC.o.size
   try go_wp2_with fail
   have hx4:=BX.o.lt;refine hK.out _ _ (KP.o _ CC.o) (fun hHeld=>?_);clear hK KK
   try simp only [Act.put,sLs]
   refine wpAnyH_ready (rs:=[6]) (by kernel_rfl) (by simp) ?_;refine AllReadyH.cons rfl (fun KK hK=>?_) AllReadyH.nil;have HTH:Hd (World.there v4 (w2.heap.size) 0 cr.toArray.size):=by unfold Hd;rw [show cr.toArray.size=18 from LR.o];exact BX.o.there rfl
   refine Zaz rfl 41 (.tmp 6) (.tmp 28) rfl (w2.heap.size) 0 cr.toArray rfl rfl HTH.o (szA LR.o) OR.o ?_;obtain⟨ve,hve⟩:∃ ve,ve=v4.setCells (w2.heap.size) 0 cr.toArray.toList:=⟨_,rfl⟩
   rw [<- hve];have TT:Zad (w2.heap.size) (w2.heap.size+1) v4 ve:=by rw [hve];exact Zad.sets ⟨by omega,by omega⟩ _ _ _
   have BE:Hd (Box ve (w2.heap.size) cr.toArray):=by unfold Hd;rw [hve];exact BX.o.full (by rw [show cr.toArray.size=18 from LR.o];rfl)
   have CE:Hd (Below w2.heap.size w2 ve):=CC.o.trans ((TT.under (by omega)).mono (by omega));have SE:Hd (RrC 0 ve cr V):=(SR.o.up TT (by omega)).mono Zz_;clear hve TT;refine hK.out _ _ (KP.o _ CE.o) (fun hHeld=>?_);clear hK KK
   try simp only [Act.put,sLs]
   refine wpAnyH_done (by kernel_rfl) ?_ _;go_wp2;go_meet;exact⟨_,cr,rfl,by omega,BE.o,SE.o,CE.o⟩
 case rest=>
 obtain⟨β6,cs6,rfl,hβ6,hbx,hsr,hb⟩:=hcut
 rename World=>w3
 have F6n:Hd (Box w3 β6 cs6.toArray):=hbx;have S6:Hd (RrC 0 w3 cs6 V):=hsr;have hl6:β6 < w3.heap.size:=hbx.lt
 have Lcs6:Hd (cs6.length=18):=hsr.len;have ONcs6:Hd (cs6.toArray.all (·.oneCell')=true):=hsr.one;have HZcs6:Hd ((prog.info? 41).map (·.size)=some cs6.length):=by unfold Hd;rw [Lcs6.o];exact Zar
 clear hbx hsr K0 K1 KP;have hz3:w2.heap.size<=w3.heap.size:=hb.size;replace HB:Hd (Zw_ w w3):=bt HB.o hb;replace F0:=Zaa (F0.o.on hb);replace F1:=Zaa (F1.o.on hb);clear hb;have F6:=F6n;clear F6n;have B6:Hd (Below w3.heap.size w3 w3):=Below.refl _ _;clear hneg0 hneg1;go_wp2_with (first|(with_reducible refine wpList_load_mid (by with_reducible rfl) 30 (.tmp 2) (by with_reducible rfl) w.heap.size 0 (by with_unfolding_all rfl) cs0 _ (F0.o.range rfl) underlying30 (by with_unfolding_all rfl) HZcs0.o ?_));refine (ZiZ 0 _ U _ (H0.o.below HB.o) M0.o).mono ?_;rintro e w4 ⟨cs7,rfl,hb,hs⟩;have hz4:w3.heap.size<=w4.heap.size:=hb.size;replace HB:Hd (Zw_ w w4):=bt HB.o hb;replace F0:=Zaa (F0.o.on hb);replace F1:=Zaa (F1.o.on hb);replace F6:=Zaa (F6.o.on hb);replace B6:Hd (Below w3.heap.size w3 w4):=bt B6.o hb;clear hb
 have T7:=Zaa hs;have Lcs7:Hd (cs7.length=18):=hs.at.len;have ONcs7:Hd (cs7.toArray.all (·.oneCell')=true):=hs.at.one;have HZcs7:Hd ((prog.info? 41).map (·.size)=some cs7.length):=by unfold Hd;rw [Lcs7.o];exact Zar
 clear hs;go_wp2_with (with_reducible refine stR (.tmp 7) (.tmp 30) w4.heap.size 0 cs7.toArray (HTN.o _ _ Lcs7.o) (szA Lcs7.o) ONcs7.o ?_;refine Hd.o ?_);generalize hW:World.setCells _ _ _ _=w5;have F7n:Hd (Box w5 w4.heap.size cs7.toArray):=by unfold Hd;rw [<- hW];exact HBX.o _ _ Lcs7.o
 have hb:Below w4.heap.size w4 w5:=by rw [<- hW];exact Below.sets Zl_ _ _ (Zab _ _)
 have hs5:w4.heap.size < w5.heap.size:=by have:=F7n.o.lt;omega
 clear hW;have hz5:w4.heap.size<=w5.heap.size:=hb.size;replace HB:Hd (Zw_ w w5):=bt HB.o hb;replace F0:=Zaa (F0.o.on hb);replace F1:=Zaa (F1.o.on hb);replace F6:=Zaa (F6.o.on hb);replace B6:Hd (Below w3.heap.size w3 w5):=bt B6.o hb;replace T7:=Zaa (T7.o.below hb);clear hb;have F7:=F7n;clear F7n;refine Zaa ?_;go_wp2_with (first|(with_reducible refine wpList_load_mid (by with_reducible rfl) 32 (.tmp 3) (by with_reducible rfl) (w.heap.size+1) 0 (by with_unfolding_all rfl) csm _ (F1.o.range rfl) underlying32 (by with_unfolding_all rfl) HZcsm.o ?_));refine (ZfS 0 _ M _ (H1.o.below HB.o) M1.o).mono ?_;rintro e w6 ⟨b8,m8,rfl,hb,hs⟩;have hz6:w5.heap.size<=w6.heap.size:=hb.size;replace HB:Hd (Zw_ w w6):=bt HB.o hb;replace F0:=Zaa (F0.o.on hb);replace F1:=Zaa (F1.o.on hb);replace F6:=Zaa (F6.o.on hb)
 replace F7:=Zaa (F7.o.on hb);replace B6:Hd (Below w3.heap.size w3 w6):=bt B6.o hb;replace T7:=Zaa (T7.o.below hb);clear hb;obtain⟨cs8,hcs8⟩:∃ cs8,cs8=rmL M b8 m8:=⟨_,rfl⟩
 rw [<- hcs8];have T8:Hd (Zet w5.heap.size w6.heap.size w6 cs8 M):=⟨b8,m8,hcs8,HTXM.o,hs⟩;clear hs hcs8;have Lcs8:Hd (cs8.length=8):=T8.o.at.len;have ONcs8:Hd (cs8.toArray.all (·.oneCell')=true):=T8.o.at.one;have HZcs8:Hd ((prog.info? 45).map (·.size)=some cs8.length):=by unfold Hd;rw [Lcs8.o];exact ZgQ
 go_wp2_with (with_reducible refine wpList_store_mid (by with_reducible rfl) 45 (.tmp 8) (.tmp 32) (by with_reducible rfl) w6.heap.size 0 cs8.toArray (by with_unfolding_all rfl) (by with_unfolding_all rfl) (HTNm.o _ _ Lcs8.o) (Zlb Lcs8.o) ONcs8.o ?_;refine Hd.o ?_);generalize hW:World.setCells _ _ _ _=w7;have F8n:Hd (Box w7 w6.heap.size cs8.toArray):=by unfold Hd;rw [<- hW];exact HBXm.o _ _ Lcs8.o
 have hb:Below w6.heap.size w6 w7:=by rw [<- hW];exact Below.sets Zl_ _ _ (Zab _ _)
 have hs7:w6.heap.size < w7.heap.size:=by have:=F8n.o.lt;omega
 clear hW;have hz7:w6.heap.size<=w7.heap.size:=hb.size;replace HB:Hd (Zw_ w w7):=bt HB.o hb;replace F0:=Zaa (F0.o.on hb);replace F1:=Zaa (F1.o.on hb);replace F6:=Zaa (F6.o.on hb);replace F7:=Zaa (F7.o.on hb);replace B6:Hd (Below w3.heap.size w3 w7):=bt B6.o hb;replace T7:=Zaa (T7.o.below hb);replace T8:=Zaa (T8.o.below hb);clear hb;have F8:=F8n;clear F8n;refine Zaa ?_;go_wp2_with (first|(with_reducible refine wpList_load_mid (by with_reducible rfl) 41 (.tmp 7) (by with_reducible rfl) w4.heap.size 0 (by with_unfolding_all rfl) cs7 _ (F7.o.range rfl) underlying41 (by with_unfolding_all rfl) HZcs7.o ?_)|(with_reducible refine wpList_load_mid (by with_reducible rfl) 45 (.tmp 8) (by with_reducible rfl) w6.heap.size 0 (by with_unfolding_all rfl) cs8 _ (F8.o.range rfl) underlying45 (by with_unfolding_all rfl) HZcs8.o ?_))
 refine (HIM.o _ _ _ (T7.o.at.mono Zz_) (T8.o.at.mono Zz_)).mono ?_;rintro e w8 ⟨cs9,rfl,hb,hs⟩;have hz8:w7.heap.size<=w8.heap.size:=hb.size;replace HB:Hd (Zw_ w w8):=bt HB.o hb;replace F0:=Zaa (F0.o.on hb);replace F1:=Zaa (F1.o.on hb);replace F6:=Zaa (F6.o.on hb);replace F7:=Zaa (F7.o.on hb);replace F8:=Zaa (F8.o.on hb);replace B6:Hd (Below w3.heap.size w3 w8):=bt B6.o hb;replace T7:=Zaa (T7.o.below hb);replace T8:=Zaa (T8.o.below hb);clear hb;have T9:=Zaa hs;have Lcs9:Hd (cs9.length=18):=hs.at.len;have ONcs9:Hd (cs9.toArray.all (·.oneCell')=true):=hs.at.one;have HZcs9:Hd ((prog.info? 41).map (·.size)=some cs9.length):=by unfold Hd;rw [Lcs9.o];exact Zar
 clear hs;go_wp2_with (with_reducible refine stR (.tmp 9) (.tmp 35) w8.heap.size 0 cs9.toArray (HTN.o _ _ Lcs9.o) (szA Lcs9.o) ONcs9.o ?_;refine Hd.o ?_);generalize hW:World.setCells _ _ _ _=w9;have F9n:Hd (Box w9 w8.heap.size cs9.toArray):=by unfold Hd;rw [<- hW];exact HBX.o _ _ Lcs9.o
 have hb:Below w8.heap.size w8 w9:=by rw [<- hW];exact Below.sets Zl_ _ _ (Zab _ _)
 have hs9:w8.heap.size < w9.heap.size:=by have:=F9n.o.lt;omega
 clear hW;have hz9:w8.heap.size<=w9.heap.size:=hb.size;replace HB:Hd (Zw_ w w9):=bt HB.o hb;replace F0:=Zaa (F0.o.on hb);replace F1:=Zaa (F1.o.on hb);replace F6:=Zaa (F6.o.on hb);replace F7:=Zaa (F7.o.on hb);replace F8:=Zaa (F8.o.on hb);replace B6:Hd (Below w3.heap.size w3 w9):=bt B6.o hb;replace T7:=Zaa (T7.o.below hb);replace T8:=Zaa (T8.o.below hb);replace T9:=Zaa (T9.o.below hb);clear hb;have F9:=F9n;clear F9n;refine Zaa ?_
 go_wp2_with (first|(with_reducible refine wpList_load_mid (by with_reducible rfl) 41 (.tmp 9) (by with_reducible rfl) w8.heap.size 0 (by with_unfolding_all rfl) cs9 _ (F9.o.range rfl) underlying41 (by with_unfolding_all rfl) HZcs9.o ?_)|(with_reducible refine wpList_load_mid (by with_reducible rfl) 41 (.tmp 6) (by with_reducible rfl) β6 0 (by with_unfolding_all rfl) cs6 _ (F6.o.range rfl) underlying41 (by with_unfolding_all rfl) HZcs6.o ?_));refine (ZgC _ _ _ _ V _ T9.o.at (S6.o.below B6.o)).mono ?_;rintro e w10 ⟨rfl,hb⟩;have hz10:w9.heap.size<=w10.heap.size:=hb.size;replace HB:Hd (Zw_ w w10):=bt HB.o hb;replace F0:=Zaa (F0.o.on hb);replace F1:=Zaa (F1.o.on hb);replace F6:=Zaa (F6.o.on hb);replace F7:=Zaa (F7.o.on hb);replace F8:=Zaa (F8.o.on hb);replace F9:=Zaa (F9.o.on hb)
 replace B6:Hd (Below w3.heap.size w3 w10):=bt B6.o hb;replace T7:=Zaa (T7.o.below hb);replace T8:=Zaa (T8.o.below hb);replace T9:=Zaa (T9.o.below hb);clear hb;have K:=Zaa (H0.o.below HB.o);have KP:Hd (∀ W,Below w10.heap.size w10 W->W.rangeAt w4.heap.size 0 cs7/\W.rangeAt (w.heap.size) 0 cs0):=fun W hW=>⟨(F7.o.on hW).range rfl,(F0.o.on hW).range rfl⟩
 go_wp2;refine wp_region_held_drew (S:=fun W=>W.rangeAt w4.heap.size 0 cs7/\W.rangeAt (w.heap.size) 0 cs0) (by kernel_rfl) (KP.o _ (Zb_.drew)) (fun hHeld=>?_);refine wpAnyH_take (i:=0) rfl (by kernel_rfl) (by kernel_rfl) (by kernel_rfl) (fun _ _ _ h=>h) (yieldsIf_load_mid (by rfl) 41 (.tmp 7) rfl w4.heap.size 0 rfl cs7 _ (fun _ h=>h.1) underlying41 rfl HZcs7.o) hHeld ?_
 try simp only [Act.put,sLs]
 refine wpAnyH_take (i:=1) rfl (by kernel_rfl) (by kernel_rfl) (by kernel_rfl) (fun _ _ _ h=>h) (yieldsIf_load_mid (by rfl) 30 (.tmp 2) rfl (w.heap.size) 0 rfl cs0 _ (fun _ h=>h.2) underlying30 rfl HZcs0.o) hHeld ?_
 try simp only [Act.put,sLs]
 refine wpAnyH_ready (rs:=[2]) (by kernel_rfl) (by simp) ?_;refine AllReadyH.cons rfl (fun KK hK=>?_) AllReadyH.nil
 go_simp
 refine (ZfT 0 _ U _ (K.o.below (Zb_.drew)) M0.o).mono ?_;rintro e ve ⟨zs,rfl,hbe,hse⟩;have CE:Hd (Below w10.heap.size w10 ve):=bt (Zb_.drew) hbe;have SE:=Zaa hse;clear hse hbe
 try go_wp2_with fail
 refine hK.out _ _ (KP.o _ CE.o) (fun hHeld=>?_);clear hK KK
 try simp only [Act.put,sLs]
 refine wpAnyH_ready (rs:=[3]) (by kernel_rfl) (by simp) ?_;refine AllReadyH.cons rfl (fun KK hK=>?_) AllReadyH.nil
 go_simp
 refine (ZgC _ _ _ _ U _ (T7.o.at.below CE.o) SE.o).mono ?_;rintro e vf11 ⟨rfl,hbf⟩;have CF:Hd (Below w10.heap.size w10 vf11):=bt CE.o hbf;clear hbf
 try go_wp2_with fail
 refine hK.out _ _ (KP.o _ CF.o) (fun hHeld=>?_);clear hK KK
 try simp only [Act.put,sLs]
 refine tH 4 (.bool false) rfl hHeld ?_
 try simp only [Act.put,sLs]
 refine wpAnyH_done (by kernel_rfl) ?_ _;have hb:=CF.o;clear CF CE SE K KP;have hz11:w10.heap.size<=vf11.heap.size:=hb.size;replace HB:Hd (Zw_ w vf11):=bt HB.o hb;replace F0:=Zaa (F0.o.on hb);replace F1:=Zaa (F1.o.on hb);replace F6:=Zaa (F6.o.on hb);replace F7:=Zaa (F7.o.on hb);replace F8:=Zaa (F8.o.on hb);replace F9:=Zaa (F9.o.on hb);replace B6:Hd (Below w3.heap.size w3 vf11):=bt B6.o hb;replace T7:=Zaa (T7.o.below hb);replace T8:=Zaa (T8.o.below hb);replace T9:=Zaa (T9.o.below hb);clear hb;have K:=Zaa (H1.o.below HB.o);have KP:Hd (∀ W,Below vf11.heap.size vf11 W->W.rangeAt w6.heap.size 0 cs8/\W.rangeAt (w.heap.size+1) 0 csm):=fun W hW=>⟨(F8.o.on hW).range rfl,(F1.o.on hW).range rfl⟩
 go_wp2;refine wp_region_held_drew (S:=fun W=>W.rangeAt w6.heap.size 0 cs8/\W.rangeAt (w.heap.size+1) 0 csm) (by kernel_rfl) (KP.o _ (Zb_.drew)) (fun hHeld=>?_);refine wpAnyH_take (i:=0) rfl (by kernel_rfl) (by kernel_rfl) (by kernel_rfl) (fun _ _ _ h=>h) (yieldsIf_load_mid (by rfl) 45 (.tmp 8) rfl w6.heap.size 0 rfl cs8 _ (fun _ h=>h.1) underlying45 rfl HZcs8.o) hHeld ?_
 try simp only [Act.put,sLs]
 refine wpAnyH_take (i:=1) rfl (by kernel_rfl) (by kernel_rfl) (by kernel_rfl) (fun _ _ _ h=>h) (yieldsIf_load_mid (by rfl) 32 (.tmp 3) rfl (w.heap.size+1) 0 rfl csm _ (fun _ h=>h.2) underlying32 rfl HZcsm.o) hHeld ?_
 try simp only [Act.put,sLs]
 refine wpAnyH_ready (rs:=[2]) (by kernel_rfl) (by simp) ?_;refine AllReadyH.cons rfl (fun KK hK=>?_) AllReadyH.nil
 go_simp
 refine (ZdP 0 _ M _ (K.o.below (Zb_.drew)) M1.o).mono ?_;rintro e ve ⟨zs,rfl,hbe,hse⟩;have CE:Hd (Below vf11.heap.size vf11 ve):=bt (Zb_.drew) hbe;have SE:=Zaa hse;clear hse hbe
 try go_wp2_with fail
 refine hK.out _ _ (KP.o _ CE.o) (fun hHeld=>?_);clear hK KK
 try simp only [Act.put,sLs]
 refine wpAnyH_ready (rs:=[3]) (by kernel_rfl) (by simp) ?_;refine AllReadyH.cons rfl (fun KK hK=>?_) AllReadyH.nil
 go_simp
 refine (ZjV _ _ _ _ M _ (T8.o.at.below CE.o) SE.o).mono ?_;rintro e vf12 ⟨rfl,hbf⟩;have CF:Hd (Below vf11.heap.size vf11 vf12):=bt CE.o hbf;clear hbf
 try go_wp2_with fail
 refine hK.out _ _ (KP.o _ CF.o) (fun hHeld=>?_);clear hK KK
 try simp only [Act.put,sLs]
 refine tH 4 (.bool false) rfl hHeld ?_
 try simp only [Act.put,sLs]
 refine wpAnyH_done (by kernel_rfl) ?_ _;have hb:=CF.o;clear CF CE SE K KP;have hz12:vf11.heap.size<=vf12.heap.size:=hb.size;replace HB:Hd (Zw_ w vf12):=bt HB.o hb;replace F0:=Zaa (F0.o.on hb);replace F1:=Zaa (F1.o.on hb);replace F6:=Zaa (F6.o.on hb);replace F7:=Zaa (F7.o.on hb);replace F8:=Zaa (F8.o.on hb);replace F9:=Zaa (F9.o.on hb);replace B6:Hd (Below w3.heap.size w3 vf12):=bt B6.o hb;replace T7:=Zaa (T7.o.below hb);replace T8:=Zaa (T8.o.below hb);replace T9:=Zaa (T9.o.below hb);clear hb;obtain⟨-,-,-,-,-,-,k7a,k7b⟩:=ZhZ M0.o (k:=1) (by omega) (by omega);obtain⟨-,-,-,-,-,-,k9a,k9b⟩:=ZhZ MV.o (k:=1) (by omega) (by omega)
 go_wp2_with (first|(with_reducible refine wpList_load_mid (by with_reducible rfl) 41 (.tmp 7) (by with_reducible rfl) w4.heap.size 0 (by with_unfolding_all rfl) cs7 _ (F7.o.range rfl) underlying41 (by with_unfolding_all rfl) HZcs7.o ?_));refine (Zhg w3.heap.size w4.heap.size _ U 1 _ T7.o (by omega) M0.o (by omega) (by omega)).mono ?_;rintro e w13 ⟨rfl,ht,ho⟩;have hz13:vf12.heap.size<=w13.heap.size:=ht.size;replace HB:Hd (Zw_ w w13):=HB.o.trans ((ht.under (by omega)).mono (by omega));replace F0:=Zaa (F0.o.tch2 ht (by omega));replace F1:=Zaa (F1.o.tch2 ht (by omega));replace F6:=Zaa (F6.o.tch2 ht (by omega));replace F7:=Zaa (F7.o.tch2 ht (by omega));replace F8:=Zaa (F8.o.tch2 ht (by omega));replace F9:=Zaa (F9.o.tch2 ht (by omega));replace B6:Hd (Below w3.heap.size w3 w13):=B6.o.trans ((ht.under (by omega)).mono (by omega))
 replace T8:=Zaa (T8.o.touch ht (by omega));replace T9:=Zaa (T9.o.touch ht (by omega));clear ht;clear T7 ho;obtain⟨q7,hq7⟩:∃ q:Int,q=kR7 1 U:=⟨_,rfl⟩
 rw [<- hq7] at k7a k7b;rw [<- hq7];clear hq7;go_wp2_with (first|(with_reducible refine wpList_load_mid (by with_reducible rfl) 45 (.tmp 8) (by with_reducible rfl) w6.heap.size 0 (by with_unfolding_all rfl) cs8 _ (F8.o.range rfl) underlying45 (by with_unfolding_all rfl) HZcs8.o ?_));refine (Zhf w5.heap.size w6.heap.size _ M q7 _ T8.o M1.o (by omega) (by omega)).mono ?_;rintro e w14 ⟨rfl,ht⟩;have hz14:w13.heap.size<=w14.heap.size:=ht.size;replace HB:Hd (Zw_ w w14):=HB.o.trans ((ht.under (by omega)).mono (by omega));replace F0:=Zaa (F0.o.tch2 ht (by omega));replace F1:=Zaa (F1.o.tch2 ht (by omega));replace F6:=Zaa (F6.o.tch2 ht (by omega));replace F7:=Zaa (F7.o.tch2 ht (by omega));replace F8:=Zaa (F8.o.tch2 ht (by omega));replace F9:=Zaa (F9.o.tch2 ht (by omega))
 replace B6:Hd (Below w3.heap.size w3 w14):=B6.o.trans ((ht.under (by omega)).mono (by omega));replace T9:=Zaa (T9.o.touch ht (by omega));clear ht;clear T8;obtain⟨q8,hq8⟩:∃ q:Int,q=q7+2*(M.sl.length:Int):=⟨_,rfl⟩
 rw [<- hq8];have n8:decide (q8 < 0)=false:=by simp;omega
 clear hq8 k7a k7b;go_wp2_with (first|(with_reducible refine ZaC (by with_unfolding_all rfl) 41 (.tmp 9) (by with_reducible rfl) w8.heap.size 0 (by with_unfolding_all rfl) cs9 _ (F9.o.range rfl) underlying41 (by with_unfolding_all rfl) HZcs9.o ?_)|(with_reducible refine ZaC (by with_unfolding_all rfl) 41 (.tmp 6) (by with_reducible rfl) β6 0 (by with_unfolding_all rfl) cs6 _ (F6.o.range rfl) underlying41 (by with_unfolding_all rfl) HZcs6.o ?_));clear n8;refine (ZgC _ _ _ _ V _ T9.o.at (S6.o.below B6.o)).mono ?_;rintro e w15 ⟨rfl,hb⟩;have hz15:w14.heap.size<=w15.heap.size:=hb.size;replace HB:Hd (Zw_ w w15):=bt HB.o hb;replace F0:=Zaa (F0.o.on hb);replace F1:=Zaa (F1.o.on hb);replace F6:=Zaa (F6.o.on hb);replace F7:=Zaa (F7.o.on hb);replace F8:=Zaa (F8.o.on hb);replace F9:=Zaa (F9.o.on hb)
 replace B6:Hd (Below w3.heap.size w3 w15):=bt B6.o hb;replace T9:=Zaa (T9.o.below hb);clear hb;go_wp2_with (first|(with_reducible refine wpList_load_mid (by with_reducible rfl) 41 (.tmp 9) (by with_reducible rfl) w8.heap.size 0 (by with_unfolding_all rfl) cs9 _ (F9.o.range rfl) underlying41 (by with_unfolding_all rfl) HZcs9.o ?_));refine (Zge w7.heap.size w8.heap.size _ V 1 _ T9.o MV.o (by omega) (by omega)).mono ?_;rintro e w16 ⟨rfl,ht,ho⟩;have hz16:w15.heap.size<=w16.heap.size:=ht.size;replace HB:Hd (Zw_ w w16):=HB.o.trans ((ht.under (by omega)).mono (by omega));replace F0:=Zaa (F0.o.tch2 ht (by omega));replace F1:=Zaa (F1.o.tch2 ht (by omega));replace F6:=Zaa (F6.o.tch2 ht (by omega));replace F7:=Zaa (F7.o.tch2 ht (by omega));replace F8:=Zaa (F8.o.tch2 ht (by omega));replace F9:=Zaa (F9.o.tch2 ht (by omega))
 replace B6:Hd (Below w3.heap.size w3 w16):=B6.o.trans ((ht.under (by omega)).mono (by omega));clear ht;clear T9;have T9:=Zaa ho;clear ho;obtain⟨q9,hq9⟩:∃ q:Int,q=kR7 1 V:=⟨_,rfl⟩
 rw [<- hq9] at k9a;rw [<- hq9];have n9:decide (q9 < 0)=false:=by simp;omega
 go_wp2_with (first|(with_reducible refine wpList_load_mid (by with_reducible rfl) 41 (.tmp 9) (by with_reducible rfl) w8.heap.size 0 (by with_unfolding_all rfl) cs9 _ (F9.o.range rfl) underlying41 (by with_unfolding_all rfl) HZcs9.o ?_));refine (Zec w7.heap.size w8.heap.size _ V 1 _ T9.o MV.o (by omega) (by omega)).mono ?_;rintro e w17 ⟨rfl,hb⟩;have hz17:w16.heap.size<=w17.heap.size:=hb.size;replace HB:Hd (Zw_ w w17):=bt HB.o hb;replace F0:=Zaa (F0.o.on hb);replace F1:=Zaa (F1.o.on hb);replace F6:=Zaa (F6.o.on hb);replace F7:=Zaa (F7.o.on hb);replace F8:=Zaa (F8.o.on hb);replace F9:=Zaa (F9.o.on hb);replace B6:Hd (Below w3.heap.size w3 w17):=bt B6.o hb;replace T9:=Zaa (T9.o.below hb);clear hb;rw [<- hq9];have K0:=Zaa (H0.o.below HB.o);have K1:=Zaa (H1.o.below HB.o)
 have KP:Hd (∀ W,Below w17.heap.size w17 W->W.rangeAt w.heap.size 0 cs0/\W.rangeAt (w.heap.size+1) 0 csm):=fun W hW=>⟨(F0.o.on hW).range rfl,(F1.o.on hW).range rfl⟩
 go_upto_region 31 with fail
 go_cut [13] (fun p wc=>∃ (β:Nat) (cs':List Value),p=.pointer (some ⟨β,0,none⟩)/\w17.heap.size<=β/\Box wc β cs'.toArray/\RrC 0 wc cs' V/\Below w17.heap.size w17 wc)
 case first=>
  refine wp_region_held_drew (S:=fun W=>W.rangeAt w.heap.size 0 cs0/\W.rangeAt (w.heap.size+1) 0 csm) (by kernel_rfl) (KP.o _ (Zb_.drew)) (fun hHeld=>?_);refine wpAnyH_take (i:=0) rfl (by kernel_rfl) (by kernel_rfl) (by kernel_rfl) (fun _ _ _ h=>h) (yieldsIf_load_mid (by rfl) 30 (.tmp 2) rfl w.heap.size 0 rfl cs0 _ (fun _ h=>h.1) underlying30 rfl HZcs0.o) hHeld ?_
  try simp only [Act.put,sLs]
  refine wpAnyH_take (i:=2) rfl (by kernel_rfl) (by kernel_rfl) (by kernel_rfl) (fun _ _ _ h=>h) (yieldsIf_load_mid (by rfl) 32 (.tmp 3) rfl (w.heap.size+1) 0 rfl csm _ (fun _ h=>h.2) underlying32 rfl HZcsm.o) hHeld ?_
  try simp only [Act.put,sLs]
  refine wpAnyH_ready (rs:=[1,5]) (by kernel_rfl) (by simp) ?_;refine AllReadyH.cons rfl (fun KK hK=>?_) (AllReadyH.cons rfl (fun KK hK=>?_) AllReadyH.nil)
  ·
   go_simp
   refine (ZfT 0 _ U _ (K0.o.below (Zb_.drew)) M0.o).mono ?_;rintro e v1 ⟨xs,rfl,hb,hs⟩;have SX:=Zaa (hs.mono Zz_);have CC:Hd (Below w17.heap.size w17 v1):=bt (Zb_.drew) hb;clear hs hb;have hy1:=CC.o.size
   try go_wp2_with fail
   refine hK.out _ _ (KP.o _ CC.o) (fun hHeld=>?_);clear hK KK
   try simp only [Act.put,sLs]
   refine wpAnyH_ready (rs:=[3,5]) (by kernel_rfl) (by simp) ?_;refine AllReadyH.cons rfl (fun KK hK=>?_) (AllReadyH.cons rfl (fun KK hK=>?_) AllReadyH.nil)
   ·
    go_simp
    refine (ZdP 0 _ M _ (K1.o.below CC.o) M1.o).mono ?_;rintro e v2 ⟨ys,rfl,hb,hs⟩;have SY:=Zaa (hs.mono Zz_);replace SX:=Zaa (SX.o.below hb);replace CC:Hd (Below w17.heap.size w17 v2):=bt CC.o hb;clear hs hb;have hy2:=CC.o.size
    try go_wp2_with fail
    refine hK.out _ _ (KP.o _ CC.o) (fun hHeld=>?_);clear hK KK
    try simp only [Act.put,sLs]
    refine wpAnyH_ready (rs:=[4,5]) (by kernel_rfl) (by simp) ?_;refine AllReadyH.cons rfl (fun KK hK=>?_) (AllReadyH.cons rfl (fun KK hK=>?_) AllReadyH.nil)
    ·
     go_simp
     refine (HIC.o _ _ _ SX.o SY.o).mono ?_;rintro e v3 ⟨cr,rfl,hb,hs⟩;have SR:=Zaa hs;have LR:=Zaa hs.len;have OR:=Zaa hs.one;clear SX SY;replace CC:Hd (Below w17.heap.size w17 v3):=bt CC.o hb;clear hs hb;have hy3:=CC.o.size
     try go_wp2_with fail
     refine hK.out _ _ (KP.o _ CC.o) (fun hHeld=>?_);clear hK KK
     try simp only [Act.put,sLs]
     refine wpAnyH_ready (rs:=[5]) (by kernel_rfl) (by simp) ?_;refine AllReadyH.cons rfl (fun KK hK=>?_) AllReadyH.nil
     go_simp
     obtain⟨v4,hv⟩:∃ vv,vv=v3.alloc (.cells zR 41):=⟨_,rfl⟩
     rw [<- hv];have hb:Below v3.heap.size v3 v4:=by rw [hv];exact Zab _ _
     have BX:Hd (Box v4 v3.heap.size zR):=by unfold Hd;rw [hv];exact Box.new _ _ _ _ rfl
     clear hv;have HAL:=Zaa hb;replace CC:Hd (Below w17.heap.size w17 v4):=bt CC.o hb;clear hb;have hy4:=CC.o.size;have hx4:=BX.o.lt;refine hK.out _ _ (KP.o _ CC.o) (fun hHeld=>?_);clear hK KK
     try simp only [Act.put,sLs]
     refine wpAnyH_ready (rs:=[6]) (by kernel_rfl) (by simp) ?_;refine AllReadyH.cons rfl (fun KK hK=>?_) AllReadyH.nil;have HTH:Hd (World.there v4 (v3.heap.size) 0 cr.toArray.size):=by unfold Hd;rw [show cr.toArray.size=18 from LR.o];exact BX.o.there rfl
     refine Zaz rfl 41 (.tmp 13) (.tmp 79) rfl (v3.heap.size) 0 cr.toArray rfl rfl HTH.o (szA LR.o) OR.o ?_;obtain⟨ve,hve⟩:∃ ve,ve=v4.setCells (v3.heap.size) 0 cr.toArray.toList:=⟨_,rfl⟩
     rw [<- hve];have TT:Zad (v3.heap.size) (v3.heap.size+1) v4 ve:=by rw [hve];exact Zad.sets ⟨by omega,by omega⟩ _ _ _
     have BE:Hd (Box ve (v3.heap.size) cr.toArray):=by unfold Hd;rw [hve];exact BX.o.full (by rw [show cr.toArray.size=18 from LR.o];rfl)
     have CE:Hd (Below w17.heap.size w17 ve):=CC.o.trans ((TT.under (by omega)).mono (by omega));have SE:Hd (RrC 0 ve cr V):=(SR.o.below (HAL.o.trans (TT.under (by omega)))).mono Zz_;clear hve TT;refine hK.out _ _ (KP.o _ CE.o) (fun hHeld=>?_);clear hK KK
     try simp only [Act.put,sLs]
     refine wpAnyH_done (by kernel_rfl) ?_ _;go_wp2;go_meet;exact⟨_,cr,rfl,by omega,BE.o,SE.o,CE.o⟩
    ·
     go_simp
     obtain⟨v3,hv⟩:∃ vv,vv=v2.alloc (.cells zR 41):=⟨_,rfl⟩
     rw [<- hv];have hb:Below v2.heap.size v2 v3:=by rw [hv];exact Zab _ _
     have BX:Hd (Box v3 v2.heap.size zR):=by unfold Hd;rw [hv];exact Box.new _ _ _ _ rfl
     clear hv;replace SX:=Zaa (SX.o.below hb);replace SY:=Zaa (SY.o.below hb);replace CC:Hd (Below w17.heap.size w17 v3):=bt CC.o hb;clear hb;have hy3:=CC.o.size;have hx3:=BX.o.lt;refine hK.out _ _ (KP.o _ CC.o) (fun hHeld=>?_);clear hK KK
     try simp only [Act.put,sLs]
     refine wpAnyH_ready (rs:=[4]) (by kernel_rfl) (by simp) ?_;refine AllReadyH.cons rfl (fun KK hK=>?_) AllReadyH.nil
     go_simp
     refine (HIC.o _ _ _ SX.o SY.o).mono ?_;rintro e v4 ⟨cr,rfl,hb,hs⟩;have SR:=Zaa hs;have LR:=Zaa hs.len;have OR:=Zaa hs.one;clear SX SY;replace BX:=Zaa (BX.o.on hb);replace CC:Hd (Below w17.heap.size w17 v4):=bt CC.o hb;clear hs hb;have hy4:=CC.o.size
     try go_wp2_with fail
     have hx4:=BX.o.lt;refine hK.out _ _ (KP.o _ CC.o) (fun hHeld=>?_);clear hK KK
     try simp only [Act.put,sLs]
     refine wpAnyH_ready (rs:=[6]) (by kernel_rfl) (by simp) ?_;refine AllReadyH.cons rfl (fun KK hK=>?_) AllReadyH.nil;have HTH:Hd (World.there v4 (v2.heap.size) 0 cr.toArray.size):=by unfold Hd;rw [show cr.toArray.size=18 from LR.o];exact BX.o.there rfl
     refine Zaz rfl 41 (.tmp 13) (.tmp 79) rfl (v2.heap.size) 0 cr.toArray rfl rfl HTH.o (szA LR.o) OR.o ?_;obtain⟨ve,hve⟩:∃ ve,ve=v4.setCells (v2.heap.size) 0 cr.toArray.toList:=⟨_,rfl⟩
     rw [<- hve];have TT:Zad (v2.heap.size) (v2.heap.size+1) v4 ve:=by rw [hve];exact Zad.sets ⟨by omega,by omega⟩ _ _ _
     have BE:Hd (Box ve (v2.heap.size) cr.toArray):=by unfold Hd;rw [hve];exact BX.o.full (by rw [show cr.toArray.size=18 from LR.o];rfl)
     have CE:Hd (Below w17.heap.size w17 ve):=CC.o.trans ((TT.under (by omega)).mono (by omega));have SE:Hd (RrC 0 ve cr V):=(SR.o.up TT (by omega)).mono Zz_;clear hve TT;refine hK.out _ _ (KP.o _ CE.o) (fun hHeld=>?_);clear hK KK
     try simp only [Act.put,sLs]
     refine wpAnyH_done (by kernel_rfl) ?_ _;go_wp2;go_meet;exact⟨_,cr,rfl,by omega,BE.o,SE.o,CE.o⟩
   ·
    go_simp
    obtain⟨v2,hv⟩:∃ vv,vv=v1.alloc (.cells zR 41):=⟨_,rfl⟩
    rw [<- hv];have hb:Below v1.heap.size v1 v2:=by rw [hv];exact Zab _ _
    have BX:Hd (Box v2 v1.heap.size zR):=by unfold Hd;rw [hv];exact Box.new _ _ _ _ rfl
    clear hv;replace SX:=Zaa (SX.o.below hb);replace CC:Hd (Below w17.heap.size w17 v2):=bt CC.o hb;clear hb;have hy2:=CC.o.size;have hx2:=BX.o.lt;refine hK.out _ _ (KP.o _ CC.o) (fun hHeld=>?_);clear hK KK
    try simp only [Act.put,sLs]
    refine wpAnyH_ready (rs:=[3]) (by kernel_rfl) (by simp) ?_;refine AllReadyH.cons rfl (fun KK hK=>?_) AllReadyH.nil
    go_simp
    refine (ZdP 0 _ M _ (K1.o.below CC.o) M1.o).mono ?_;rintro e v3 ⟨ys,rfl,hb,hs⟩;have SY:=Zaa (hs.mono Zz_);replace SX:=Zaa (SX.o.below hb);replace BX:=Zaa (BX.o.on hb);replace CC:Hd (Below w17.heap.size w17 v3):=bt CC.o hb;clear hs hb;have hy3:=CC.o.size
    try go_wp2_with fail
    have hx3:=BX.o.lt;refine hK.out _ _ (KP.o _ CC.o) (fun hHeld=>?_);clear hK KK
    try simp only [Act.put,sLs]
    refine wpAnyH_ready (rs:=[4]) (by kernel_rfl) (by simp) ?_;refine AllReadyH.cons rfl (fun KK hK=>?_) AllReadyH.nil
    go_simp
    refine (HIC.o _ _ _ SX.o SY.o).mono ?_;rintro e v4 ⟨cr,rfl,hb,hs⟩;have SR:=Zaa hs;have LR:=Zaa hs.len;have OR:=Zaa hs.one;clear SX SY;replace BX:=Zaa (BX.o.on hb);replace CC:Hd (Below w17.heap.size w17 v4):=bt CC.o hb;clear hs hb;have hy4:=CC.o.size
    try go_wp2_with fail
    have hx4:=BX.o.lt;refine hK.out _ _ (KP.o _ CC.o) (fun hHeld=>?_);clear hK KK
    try simp only [Act.put,sLs]
    refine wpAnyH_ready (rs:=[6]) (by kernel_rfl) (by simp) ?_;refine AllReadyH.cons rfl (fun KK hK=>?_) AllReadyH.nil;have HTH:Hd (World.there v4 (v1.heap.size) 0 cr.toArray.size):=by unfold Hd;rw [show cr.toArray.size=18 from LR.o];exact BX.o.there rfl
    refine Zaz rfl 41 (.tmp 13) (.tmp 79) rfl (v1.heap.size) 0 cr.toArray rfl rfl HTH.o (szA LR.o) OR.o ?_;obtain⟨ve,hve⟩:∃ ve,ve=v4.setCells (v1.heap.size) 0 cr.toArray.toList:=⟨_,rfl⟩
    rw [<- hve];have TT:Zad (v1.heap.size) (v1.heap.size+1) v4 ve:=by rw [hve];exact Zad.sets ⟨by omega,by omega⟩ _ _ _
    have BE:Hd (Box ve (v1.heap.size) cr.toArray):=by unfold Hd;rw [hve];exact BX.o.full (by rw [show cr.toArray.size=18 from LR.o];rfl)
    have CE:Hd (Below w17.heap.size w17 ve):=CC.o.trans ((TT.under (by omega)).mono (by omega));have SE:Hd (RrC 0 ve cr V):=(SR.o.up TT (by omega)).mono Zz_;clear hve TT;refine hK.out _ _ (KP.o _ CE.o) (fun hHeld=>?_);clear hK KK
    try simp only [Act.put,sLs]
    refine wpAnyH_done (by kernel_rfl) ?_ _;go_wp2;go_meet;exact⟨_,cr,rfl,by omega,BE.o,SE.o,CE.o⟩
  ·
   go_simp
   obtain⟨v1,hv⟩:∃ vv,vv=(w17.alloc (.cells zR 41)).drew:=⟨_,rfl⟩
   rw [<- hv];have hb:Below w17.heap.size w17 v1:=by rw [hv];exact (Zab _ _).drew
   have BX:Hd (Box v1 w17.heap.size zR):=by unfold Hd;rw [hv];exact (Box.new _ _ _ _ rfl).drew
   clear hv;have CC:Hd (Below w17.heap.size w17 v1):=hb;clear hb;have hy1:=CC.o.size;have hx1:=BX.o.lt;refine hK.out _ _ (KP.o _ CC.o) (fun hHeld=>?_);clear hK KK
   try simp only [Act.put,sLs]
   refine wpAnyH_ready (rs:=[1]) (by kernel_rfl) (by simp) ?_;refine AllReadyH.cons rfl (fun KK hK=>?_) AllReadyH.nil
   go_simp
   refine (ZfT 0 _ U _ (K0.o.below CC.o) M0.o).mono ?_;rintro e v2 ⟨xs,rfl,hb,hs⟩;have SX:=Zaa (hs.mono Zz_);replace BX:=Zaa (BX.o.on hb);replace CC:Hd (Below w17.heap.size w17 v2):=bt CC.o hb;clear hs hb;have hy2:=CC.o.size
   try go_wp2_with fail
   have hx2:=BX.o.lt;refine hK.out _ _ (KP.o _ CC.o) (fun hHeld=>?_);clear hK KK
   try simp only [Act.put,sLs]
   refine wpAnyH_ready (rs:=[3]) (by kernel_rfl) (by simp) ?_;refine AllReadyH.cons rfl (fun KK hK=>?_) AllReadyH.nil
   go_simp
   refine (ZdP 0 _ M _ (K1.o.below CC.o) M1.o).mono ?_;rintro e v3 ⟨ys,rfl,hb,hs⟩;have SY:=Zaa (hs.mono Zz_);replace SX:=Zaa (SX.o.below hb);replace BX:=Zaa (BX.o.on hb);replace CC:Hd (Below w17.heap.size w17 v3):=bt CC.o hb;clear hs hb;have hy3:=CC.o.size
   try go_wp2_with fail
   have hx3:=BX.o.lt;refine hK.out _ _ (KP.o _ CC.o) (fun hHeld=>?_);clear hK KK
   try simp only [Act.put,sLs]
   refine wpAnyH_ready (rs:=[4]) (by kernel_rfl) (by simp) ?_;refine AllReadyH.cons rfl (fun KK hK=>?_) AllReadyH.nil
   go_simp
   refine (HIC.o _ _ _ SX.o SY.o).mono ?_;rintro e v4 ⟨cr,rfl,hb,hs⟩;have SR:=Zaa hs;have LR:=Zaa hs.len;have OR:=Zaa hs.one;clear SX SY;replace BX:=Zaa (BX.o.on hb);replace CC:Hd (Below w17.heap.size w17 v4):=bt CC.o hb;clear hs hb;have hy4:=CC.o.size
   try go_wp2_with fail
   have hx4:=BX.o.lt;refine hK.out _ _ (KP.o _ CC.o) (fun hHeld=>?_);clear hK KK
   try simp only [Act.put,sLs]
   refine wpAnyH_ready (rs:=[6]) (by kernel_rfl) (by simp) ?_;refine AllReadyH.cons rfl (fun KK hK=>?_) AllReadyH.nil;have HTH:Hd (World.there v4 (w17.heap.size) 0 cr.toArray.size):=by unfold Hd;rw [show cr.toArray.size=18 from LR.o];exact BX.o.there rfl
   refine Zaz rfl 41 (.tmp 13) (.tmp 79) rfl (w17.heap.size) 0 cr.toArray rfl rfl HTH.o (szA LR.o) OR.o ?_;obtain⟨ve,hve⟩:∃ ve,ve=v4.setCells (w17.heap.size) 0 cr.toArray.toList:=⟨_,rfl⟩
   rw [<- hve];have TT:Zad (w17.heap.size) (w17.heap.size+1) v4 ve:=by rw [hve];exact Zad.sets ⟨by omega,by omega⟩ _ _ _
   have BE:Hd (Box ve (w17.heap.size) cr.toArray):=by unfold Hd;rw [hve];exact BX.o.full (by rw [show cr.toArray.size=18 from LR.o];rfl)
   have CE:Hd (Below w17.heap.size w17 ve):=CC.o.trans ((TT.under (by omega)).mono (by omega));have SE:Hd (RrC 0 ve cr V):=(SR.o.up TT (by omega)).mono Zz_;clear hve TT;refine hK.out _ _ (KP.o _ CE.o) (fun hHeld=>?_);clear hK KK
   try simp only [Act.put,sLs]
   refine wpAnyH_done (by kernel_rfl) ?_ _;go_wp2;go_meet;exact⟨_,cr,rfl,by omega,BE.o,SE.o,CE.o⟩
 case rest=>
 obtain⟨β13,cs13,rfl,hβ13,hbx,hsr,hb⟩:=hcut
 rename World=>w18
 have F13n:Hd (Box w18 β13 cs13.toArray):=hbx;have S13:Hd (RrC 0 w18 cs13 V):=hsr;have hl13:β13 < w18.heap.size:=hbx.lt
 have Lcs13:Hd (cs13.length=18):=hsr.len;have ONcs13:Hd (cs13.toArray.all (·.oneCell')=true):=hsr.one;have HZcs13:Hd ((prog.info? 41).map (·.size)=some cs13.length):=by unfold Hd;rw [Lcs13.o];exact Zar
 clear hbx hsr K0 K1 KP;have hz18:w17.heap.size<=w18.heap.size:=hb.size;replace HB:Hd (Zw_ w w18):=bt HB.o hb;replace F0:=Zaa (F0.o.on hb);replace F1:=Zaa (F1.o.on hb);replace F6:=Zaa (F6.o.on hb);replace F7:=Zaa (F7.o.on hb);replace F8:=Zaa (F8.o.on hb);replace F9:=Zaa (F9.o.on hb);replace B6:Hd (Below w3.heap.size w3 w18):=bt B6.o hb;replace T9:=Zaa (T9.o.below hb);clear hb;have F13:=F13n;clear F13n;have B13:Hd (Below w18.heap.size w18 w18):=Below.refl _ _
 go_wp2_with (first|(with_reducible refine wpList_load_mid (by with_reducible rfl) 41 (.tmp 13) (by with_reducible rfl) β13 0 (by with_unfolding_all rfl) cs13 _ (F13.o.range rfl) underlying41 (by with_unfolding_all rfl) HZcs13.o ?_)|(with_reducible refine wpList_load_mid (by with_reducible rfl) 41 (.tmp 6) (by with_reducible rfl) β6 0 (by with_unfolding_all rfl) cs6 _ (F6.o.range rfl) underlying41 (by with_unfolding_all rfl) HZcs6.o ?_));refine (ZgC _ _ _ _ V _ (S13.o.below B13.o) (S6.o.below B6.o)).mono ?_;rintro e w19 ⟨rfl,hb⟩;have hz19:w18.heap.size<=w19.heap.size:=hb.size;replace HB:Hd (Zw_ w w19):=bt HB.o hb;replace F0:=Zaa (F0.o.on hb);replace F1:=Zaa (F1.o.on hb);replace F6:=Zaa (F6.o.on hb);replace F7:=Zaa (F7.o.on hb);replace F8:=Zaa (F8.o.on hb);replace F9:=Zaa (F9.o.on hb);replace F13:=Zaa (F13.o.on hb)
 replace B6:Hd (Below w3.heap.size w3 w19):=bt B6.o hb;replace T9:=Zaa (T9.o.below hb);replace B13:Hd (Below w18.heap.size w18 w19):=bt B13.o hb;clear hb;go_wp2_with (first|(with_reducible refine wpList_load_mid (by with_reducible rfl) 41 (.tmp 9) (by with_reducible rfl) w8.heap.size 0 (by with_unfolding_all rfl) cs9 _ (F9.o.range rfl) underlying41 (by with_unfolding_all rfl) HZcs9.o ?_));refine (Zec w7.heap.size w8.heap.size _ V 1 _ T9.o MV.o (by omega) (by omega)).mono ?_;rintro e w20 ⟨rfl,hb⟩;have hz20:w19.heap.size<=w20.heap.size:=hb.size;replace HB:Hd (Zw_ w w20):=bt HB.o hb;replace F0:=Zaa (F0.o.on hb);replace F1:=Zaa (F1.o.on hb);replace F6:=Zaa (F6.o.on hb);replace F7:=Zaa (F7.o.on hb);replace F8:=Zaa (F8.o.on hb);replace F9:=Zaa (F9.o.on hb);replace F13:=Zaa (F13.o.on hb)
 replace B6:Hd (Below w3.heap.size w3 w20):=bt B6.o hb;replace T9:=Zaa (T9.o.below hb);replace B13:Hd (Below w18.heap.size w18 w20):=bt B13.o hb;clear hb;rw [<- hq9];go_wp2;go_ret;exact⟨rfl,HB.o⟩
end Go.Proofs.YtkiefplmnoapfaaGreat
