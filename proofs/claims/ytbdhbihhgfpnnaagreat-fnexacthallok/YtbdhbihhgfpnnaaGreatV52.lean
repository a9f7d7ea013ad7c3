import Derived.Test.YtbdhbihhgfpnnaaGreatV49
import Derived.Test.YtbdhbihhgfpnnaaGreatV50
import Derived.Test.YtbdhbihhgfpnnaaGreatV51
set_option maxHeartbeats 16000000
set_option maxRecDepth 100000
open Go.Proofs.Tryz
namespace Go.Proofs.YtbdhbihhgfpnnaaGreat
open Go.RowKit Go.Deep
theorem ZmA (cs ds:List Value) (U:Ho) (B:Bk) (T:Sb) (FF:Nat->List Zy_) (w:World) (hU:HoC 0 w cs U) (hB:HdC 0 w ds B T) (hn:Zdy U) (hm:Zbl B/\Zdz T)
 (hsh:Zcr [ZcB] [Za6] B.os FF) :
 Calls prog 6 #[.agg cs.toArray,.agg ds.toArray] w fun e w'=>e=.returned (.bool (okB U B T FF))/\Zw_ w w':=by
 have HL:=Zab hU;have HN:=Zab hn;have HM:=Zab hm;have HSH:=Zab hsh;have HI:Hd (okB U B T FF=(Zbs U&&(ZcP [ZcB] [Za6] U.tm B FF&&(ZaW T&&Zb6 B.os T.ss)))):=rfl;obtain⟨u0,v0,u1,v1,rfl,-⟩:=hU;obtain⟨a0,k0,a1,k1,a2,k2,a3,k3,a4,k4,a5,k5,a6,k6,rfl,hK⟩:=hB;have HK:=Zab hK;clear hK hn hm hsh
 show Calls prog 6 #[.agg #[.slice u0 U.tm.length v0,.slice u1 U.gr.length v1],.agg #[.int .i64 B.now,.int .i64 B.tick,.int .i64 B.given,.slice a0 B.os.length k0,.slice a1 B.gs.length k1,.slice a2 B.ls.length k2,.slice a3 B.ps.length k3,.int .i64 T.now,.slice a4 T.ss.length k4,.slice a5 T.cs.length k5,.slice a6 T.bs.length k6]] w _
 go_enter func6,ntmps6
 go_upto_region 1 with fail
 generalize hWa:(World.alloc (w.alloc _) _)=Wa;have HB:Hd (Zw_ w Wa):=by rw [<- hWa];exact (Zac w _).alloc (by simp) _
 have FA:Hd (Box Wa w.heap.size #[.slice u0 U.tm.length v0,.slice u1 U.gr.length v1]):=by rw [<- hWa];exact (Box.new _ _ _ _ rfl).on (Zac _ _)
 have FB:Hd (Box Wa (w.heap.size+1) #[.int .i64 B.now,.int .i64 B.tick,.int .i64 B.given,.slice a0 B.os.length k0,.slice a1 B.gs.length k1,.slice a2 B.ls.length k2,.slice a3 B.ps.length k3,.int .i64 T.now,.slice a4 T.ss.length k4,.slice a5 T.cs.length k5,.slice a6 T.bs.length k6]):=by rw [<- hWa];exact Box.new _ _ _ _ (by simp)
 clear hWa;have HD:Hd (Below Wa.heap.size Wa Wa.drew):=Zb_.drew;have KP:Hd (∀ W,Below Wa.drew.heap.size Wa.drew W->(fun W=>(∀ i,W.cell? ⟨w.heap.size,i,none⟩=#[Value.slice u0 U.tm.length v0,.slice u1 U.gr.length v1][i]?)/\∀ i,W.cell? ⟨w.heap.size+1,i,none⟩=#[Value.int .i64 B.now,.int .i64 B.tick,.int .i64 B.given,.slice a0 B.os.length k0,.slice a1 B.gs.length k1,.slice a2 B.ls.length k2,.slice a3 B.ps.length k3,.int .i64 T.now,.slice a4 T.ss.length k4,.slice a5 T.cs.length k5,.slice a6 T.bs.length k6][i]?) W):=fun W hW=>⟨(FA.o.on (bt HD.o hW)).cell,(FB.o.on (bt HD.o hW)).cell⟩
 refine wp_region_held_drew (S:=(fun W=>(∀ i,W.cell? ⟨w.heap.size,i,none⟩=#[Value.slice u0 U.tm.length v0,.slice u1 U.gr.length v1][i]?)/\∀ i,W.cell? ⟨w.heap.size+1,i,none⟩=#[Value.int .i64 B.now,.int .i64 B.tick,.int .i64 B.given,.slice a0 B.os.length k0,.slice a1 B.gs.length k1,.slice a2 B.ls.length k2,.slice a3 B.ps.length k3,.int .i64 T.now,.slice a4 T.ss.length k4,.slice a5 T.cs.length k5,.slice a6 T.bs.length k6][i]?)) (by kernel_rfl) (KP.o _ Zb_) (fun hHeld=>?_);have HLd:Hd (HoC 0 Wa.drew (hoL U u0 v0 u1 v1) U):=HL.o.below (bt HB.o HD.o);have HKd:Hd (ZpP 0 Wa.drew (.slice a0 B.os.length k0) (.slice a1 B.gs.length k1) (.slice a2 B.ls.length k2) (.slice a3 B.ps.length k3) (.slice a4 T.ss.length k4) (.slice a5 T.cs.length k5) (.slice a6 T.bs.length k6) B T):=HK.o.below (bt HB.o HD.o)
 refine tH 0 (.agg #[.slice u0 U.tm.length v0,.slice u1 U.gr.length v1]) rfl hHeld ?_
 try simp only [Act.put,sLs]
 refine wpAnyH_ready (rs:=[1]) (by kernel_rfl) (by simp) ?_;refine AllReadyH.cons rfl (fun KK hK=>?_) AllReadyH.nil
 go_simp
 refine (ZiH 0 (hoL U u0 v0 u1 v1) U _ HLd.o).mono ?_;rintro e w1 ⟨rfl,hb1⟩;have HC1:=Zab hb1;clear hb1
 cases h1:Zbs U with
 | false=>
  have HE:Hd (okB U B T FF=false):=by unfold Hd;rw [HI.o,h1];rfl
  have HCE:=HC1
  try go_wp2_with fail
  refine hK.out _ _ (KP.o _ HC1.o) (fun hHeld=>?_);clear hK KK
  try simp only [Act.put,sLs]
  refine tH 2 (.bool false) rfl hHeld ?_
  try simp only [Act.put,sLs]
  refine tN 3 rfl hHeld ?_
  try simp only [Act.put,sLs]
  refine tN 4 rfl hHeld ?_
  try simp only [Act.put,sLs]
  refine tN 5 rfl hHeld ?_
  try simp only [Act.put,sLs]
  refine tN 6 rfl hHeld ?_
  try simp only [Act.put,sLs]
  refine tN 7 rfl hHeld ?_
  try simp only [Act.put,sLs]
  refine tH 8 (.bool false) rfl hHeld ?_
  try simp only [Act.put,sLs]
  refine tH 9 (.bool false) rfl hHeld ?_
  try simp only [Act.put,sLs]
  refine tN 10 rfl hHeld ?_
  try simp only [Act.put,sLs]
  refine tN 11 rfl hHeld ?_
  try simp only [Act.put,sLs]
  refine tN 12 rfl hHeld ?_
  try simp only [Act.put,sLs]
  refine tH 13 (.bool false) rfl hHeld ?_
  try simp only [Act.put,sLs]
  refine tH 14 (.bool false) rfl hHeld ?_
  try simp only [Act.put,sLs]
  refine tN 15 rfl hHeld ?_
  try simp only [Act.put,sLs]
  refine tN 16 rfl hHeld ?_
  try simp only [Act.put,sLs]
  refine tH 17 (.bool false) rfl hHeld ?_
  try simp only [Act.put,sLs]
  refine tH 18 (.bool false) rfl hHeld ?_
  try simp only [Act.put,sLs]
  refine wpAnyH_done (by kernel_rfl) ?_ _;go_wp2;go_ret;exact⟨Zaa HE.o.symm,bt HB.o (bt (Zb_.drew) HCE.o)⟩
 | true=>
  try go_wp2_with fail
  refine hK.out _ _ (KP.o _ HC1.o) (fun hHeld=>?_);clear hK KK
  try simp only [Act.put,sLs]
  refine tH 2 (.bool true) rfl hHeld ?_
  try simp only [Act.put,sLs]
  refine tH 3 (.agg #[.slice u0 U.tm.length v0,.slice u1 U.gr.length v1]) rfl hHeld ?_
  try simp only [Act.put,sLs]
  refine tH 5 (.pointer (some ⟨w.heap.size+1,0,none⟩)) rfl hHeld ?_
  try simp only [Act.put,sLs]
  refine tH 6 (.agg #[.int .i64 B.now,.int .i64 B.tick,.int .i64 B.given,.slice a0 B.os.length k0,.slice a1 B.gs.length k1,.slice a2 B.ls.length k2,.slice a3 B.ps.length k3]) rfl hHeld ?_
  try simp only [Act.put,sLs]
  refine wpAnyH_ready (rs:=[4]) (by kernel_rfl) (by simp) ?_;refine AllReadyH.cons rfl (fun KK hK=>?_) AllReadyH.nil
  go_simp
  refine (ZjO (hoL U u0 v0 u1 v1) U _ (HLd.o.below HC1.o) HN.o).mono ?_;rintro e w2 ⟨cs2,rfl,hb2,hl2⟩;obtain⟨z0,y0,z1,y1,z2,y2,rfl,hl2⟩:=hl2;rw [show (lwL ⟨[ZcB],[Za6],U.tm⟩ z0 y0 z1 y1 z2 y2).toArray=#[.slice z0 [ZcB].length y0,.slice z1 [Za6].length y1,.slice z2 U.tm.length y2] from rfl];have HLW:Hd (ZdQ 0 w2 (.slice z0 [ZcB].length y0) (.slice z1 [Za6].length y1) (.slice z2 U.tm.length y2) [ZcB] [Za6] U.tm):=⟨hl2.l0,hl2.l1,hl2.l2⟩;have HC2:=Zab (bt HC1.o hb2);clear hb2 hl2
  try go_wp2_with fail
  refine hK.out _ _ (KP.o _ HC2.o) (fun hHeld=>?_);clear hK KK
  try simp only [Act.put,sLs]
  refine wpAnyH_ready (rs:=[7]) (by kernel_rfl) (by simp) ?_;refine AllReadyH.cons rfl (fun KK hK=>?_) AllReadyH.nil
  go_simp
  refine (ZjN 0 _ _ _ _ _ _ _ [ZcB] [Za6] U.tm B FF _ HLW.o (HKd.o.g.below HC2.o) HM.o.1 HSH.o).mono ?_;rintro e w3 ⟨rfl,hb3⟩;have HC3:=Zab (bt HC2.o hb3);clear hb3 HLW
  cases h2:ZcP [ZcB] [Za6] U.tm B FF with
  | false=>
   have HE:Hd (okB U B T FF=false):=by unfold Hd;rw [HI.o,h1,h2];rfl
   have HCE:=HC3
   try go_wp2_with fail
   refine hK.out _ _ (KP.o _ HC3.o) (fun hHeld=>?_);clear hK KK
   try simp only [Act.put,sLs]
   refine tH 8 (.bool false) rfl hHeld ?_
   try simp only [Act.put,sLs]
   refine tH 9 (.bool false) rfl hHeld ?_
   try simp only [Act.put,sLs]
   refine tN 10 rfl hHeld ?_
   try simp only [Act.put,sLs]
   refine tN 11 rfl hHeld ?_
   try simp only [Act.put,sLs]
   refine tN 12 rfl hHeld ?_
   try simp only [Act.put,sLs]
   refine tH 13 (.bool false) rfl hHeld ?_
   try simp only [Act.put,sLs]
   refine tH 14 (.bool false) rfl hHeld ?_
   try simp only [Act.put,sLs]
   refine tN 15 rfl hHeld ?_
   try simp only [Act.put,sLs]
   refine tN 16 rfl hHeld ?_
   try simp only [Act.put,sLs]
   refine tH 17 (.bool false) rfl hHeld ?_
   try simp only [Act.put,sLs]
   refine tH 18 (.bool false) rfl hHeld ?_
   try simp only [Act.put,sLs]
   refine wpAnyH_done (by kernel_rfl) ?_ _;go_wp2;go_ret;exact⟨Zaa HE.o.symm,bt HB.o (bt (Zb_.drew) HCE.o)⟩
  | true=>
   try go_wp2_with fail
   refine hK.out _ _ (KP.o _ HC3.o) (fun hHeld=>?_);clear hK KK
   try simp only [Act.put,sLs]
   refine tH 8 (.bool true) rfl hHeld ?_
   try simp only [Act.put,sLs]
   refine tH 9 (.bool true) rfl hHeld ?_
   try simp only [Act.put,sLs]
   refine tH 10 (.pointer (some ⟨w.heap.size+1,7,none⟩)) rfl hHeld ?_
   try simp only [Act.put,sLs]
   refine tH 11 (.agg #[.int .i64 T.now,.slice a4 T.ss.length k4,.slice a5 T.cs.length k5,.slice a6 T.bs.length k6]) rfl hHeld ?_
   try simp only [Act.put,sLs]
   refine wpAnyH_ready (rs:=[12]) (by kernel_rfl) (by simp) ?_;refine AllReadyH.cons rfl (fun KK hK=>?_) AllReadyH.nil
   go_simp
   refine (ZiK 0 _ _ _ T _ (HKd.o.s.below HC3.o)).mono ?_;rintro e w4 ⟨rfl,hb4⟩;have HC4:=Zab (bt HC3.o hb4);clear hb4
   cases h3:ZaW T with
   | false=>
    have HE:Hd (okB U B T FF=false):=by unfold Hd;rw [HI.o,h1,h2,h3];rfl
    have HCE:=HC4
    try go_wp2_with fail
    refine hK.out _ _ (KP.o _ HC4.o) (fun hHeld=>?_);clear hK KK
    try simp only [Act.put,sLs]
    refine tH 13 (.bool false) rfl hHeld ?_
    try simp only [Act.put,sLs]
    refine tH 14 (.bool false) rfl hHeld ?_
    try simp only [Act.put,sLs]
    refine tN 15 rfl hHeld ?_
    try simp only [Act.put,sLs]
    refine tN 16 rfl hHeld ?_
    try simp only [Act.put,sLs]
    refine tH 17 (.bool false) rfl hHeld ?_
    try simp only [Act.put,sLs]
    refine tH 18 (.bool false) rfl hHeld ?_
    try simp only [Act.put,sLs]
    refine wpAnyH_done (by kernel_rfl) ?_ _;go_wp2;go_ret;exact⟨Zaa HE.o.symm,bt HB.o (bt (Zb_.drew) HCE.o)⟩
   | true=>
    have HE:Hd (okB U B T FF=ZcL B.os T.ss):=by unfold Hd;rw [HI.o,h1,h2,h3,ZrB h2 h3];rfl
    try go_wp2_with fail
    refine hK.out _ _ (KP.o _ HC4.o) (fun hHeld=>?_);clear hK KK
    try simp only [Act.put,sLs]
    refine tH 13 (.bool true) rfl hHeld ?_
    try simp only [Act.put,sLs]
    refine tH 14 (.bool true) rfl hHeld ?_
    try simp only [Act.put,sLs]
    refine tH 15 (.agg #[.int .i64 B.now,.int .i64 B.tick,.int .i64 B.given,.slice a0 B.os.length k0,.slice a1 B.gs.length k1,.slice a2 B.ls.length k2,.slice a3 B.ps.length k3,.int .i64 T.now,.slice a4 T.ss.length k4,.slice a5 T.cs.length k5,.slice a6 T.bs.length k6]) rfl hHeld ?_
    try simp only [Act.put,sLs]
    refine wpAnyH_ready (rs:=[16]) (by kernel_rfl) (by simp) ?_;refine AllReadyH.cons rfl (fun KK hK=>?_) AllReadyH.nil
    go_simp
    refine (Zos 0 _ _ _ _ _ _ _ B T _ (HKd.o.below HC4.o)).mono ?_;rintro e w5 ⟨rfl,hb5⟩;have HC5:=Zab (bt HC4.o hb5);clear hb5;have HCE:=HC5;generalize ZcL B.os T.ss=Q at*
    try go_wp2_with fail
    refine hK.out _ _ (KP.o _ HC5.o) (fun hHeld=>?_);clear hK KK
    try simp only [Act.put,sLs]
    refine tH 17 (.bool Q) rfl hHeld ?_
    try simp only [Act.put,sLs]
    refine tH 18 (.bool Q) rfl hHeld ?_
    try simp only [Act.put,sLs]
    refine wpAnyH_done (by kernel_rfl) ?_ _;go_wp2;go_ret;exact⟨Zaa HE.o.symm,bt HB.o (bt (Zb_.drew) HCE.o)⟩
end Go.Proofs.YtbdhbihhgfpnnaaGreat
