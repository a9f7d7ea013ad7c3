import Derived.Test.YtbdhbihhgfpnnaaGreatV37
set_option maxHeartbeats 16000000
set_option maxRecDepth 100000
open Go.Proofs.Tryz
namespace Go.Proofs.YtbdhbihhgfpnnaaGreat
open Go.RowKit Go.Deep
theorem ZgC (kind nm team:Zy_) (vv hv:Value) (en:Bool) (ver:Int) (V:List Zy_) (old:Sv) (w:World) (hV:Zae w vv V) :
 Calls prog 138 #[.agg #[.string kind,.string nm,.string team,vv,.bool en,hv,.int .i64 ver],.agg (svL old).toArray] w
  fun e w'=>e=.returned (.agg (svL (Zcu nm en V old)).toArray)/\Zw_ w w':=by
 by_cases hL:V.length=6
 case neg=>
  have HE:Hd (Zcu nm en V old=⟨⟨#[]⟩,0,false,0,0,0,0,0,0,0,0,0,0⟩):=Zji hL;obtain⟨va,vc,rfl⟩:=hV.form';have hl:¬ ((V.length:Int)=6):=by omega
  clear hV hL;go_enter func138,ntmps138;unfold svL;go_wp2;refine bodyPost_ret (v:=.agg #[.string ⟨#[]⟩,.int .i64 0,.bool false,.int .i64 0,.int .i64 0,.int .i64 0,.int .i64 0,.int .i64 0,.int .i64 0,.int .i64 0,.int .i64 0,.int .i64 0,.int .i64 0]) (by simp [results,results138,go_sem]) rfl ⟨by rw [HE.o],?_⟩
  repeat (refine Below.setCell ?_ (by simp;try omega) _)
  exact ((Zb_.alloc Zl_ _).alloc (by simp) _).alloc (by simp;omega) _
 obtain⟨s0,s1,s2,s3,s4,s5,rfl⟩:=ZiG hL;obtain⟨va,vc,rfl⟩:=hV.form';obtain⟨vb,vo,rfl,hvb,hc,hz⟩:=ZgW hV (by simp);have H6:Hd (Six vb vo s0 s1 s2 s3 s4 s5 w):=⟨hc 0 (by simp),hc 1 (by simp),hc 2 (by simp),hc 3 (by simp),hc 4 (by simp)⟩
 have HZ:Hd (∀ i,(six s0 s1 s2 s3 s4 s5 i).size<=maxLen):=fun i=>by
  unfold six
  split <;> exact hz _ (by simp)
 clear hV hc hz hL;have HE:Hd (Zcu nm en [s0,s1,s2,s3,s4,s5] old=if Zaq s4=0 then ⟨nm,0,en,Zaq s0,Zaq s1,Zaq s2,Zaq s3,0,0,0,0,0,0⟩ else ⟨nm,0,en,Zaq s0,if old.wa < Zaq s1 then old.wa else Zaq s1,Zaq s2,Zaq s3,0,Zaq s4,0,Zaq s1,old.ld,0⟩):=rfl;have HN4:Hd (0<=Zaq s4):=(Zfm s4).1;generalize Zcu nm en [s0,s1,s2,s3,s4,s5] old=R at*;go_enter func138,ntmps138
 try simp only [List.length_cons,List.length_nil,Nat.reduceAdd]
 go_upto_region 3 with fail
 generalize hWa:World.alloc (World.alloc (World.alloc w _) _) _=w1;have HB:Hd (Zw_ w w1):=by unfold Hd;rw [<- hWa];exact ((Zac w _).alloc (by simp) _).alloc (by simp;omega) _
 have FO:Hd (Box w1 w.heap.size #[.string kind,.string nm,.string team,.slice (some ⟨vb,vo,none⟩) 6 vc,.bool en,hv,.int .i64 ver]):=by unfold Hd;rw [<- hWa];exact ((Box.new _ _ _ _ rfl).on (Zac _ _)).on (Zac _ _)
 have FD:Hd (Box w1 (w.heap.size+1) (svL old).toArray):=by unfold Hd;rw [<- hWa];exact (Box.new _ _ _ _ (by simp)).on (Zac _ _)
 have FR:Hd (Box w1 (w.heap.size+2) #[.string ⟨#[]⟩,.int .i64 0,.bool false,.int .i64 0,.int .i64 0,.int .i64 0,.int .i64 0,.int .i64 0,.int .i64 0,.int .i64 0,.int .i64 0,.int .i64 0,.int .i64 0]):=by unfold Hd;rw [<- hWa];exact Box.new _ _ _ _ (by simp)
 have hsz:w1.heap.size=w.heap.size+3:=by rw [<- hWa];simp
 have HSZ:=Zab hsz;clear hWa;have H61:=Zab (H6.o.below HB.o hvb);have hvb1:vb < w1.heap.size:=by omega
 have KP:Hd (∀ W,Below w1.heap.size w1 W->(∀ i,W.cell? ⟨w.heap.size,i,none⟩=#[.string kind,.string nm,.string team,.slice (some ⟨vb,vo,none⟩) 6 vc,.bool en,hv,.int .i64 ver][i]?)/\Six vb vo s0 s1 s2 s3 s4 s5 W):=fun W hW=>⟨(FO.o.on hW).cell,H61.o.below hW hvb1⟩
 clear hsz
 go_cut [5] (fun p wc=>∃ β,p=.pointer (some ⟨β,0,none⟩)/\Below w1.heap.size w1 wc/\Box wc β #[.string nm,.int .i64 0,.bool en,.int .i64 (Zaq s0),.int .i64 0,.int .i64 (Zaq s2),.int .i64 (Zaq s3),.int .i64 0,.int .i64 (Zaq s4),.int .i64 0,.int .i64 0,.int .i64 0,.int .i64 0]/\w1.heap.size<=β)
 case first=>
  refine wp_region_held_drew (S:=(fun W=>(∀ i,W.cell? ⟨w.heap.size,i,none⟩=#[.string kind,.string nm,.string team,.slice (some ⟨vb,vo,none⟩) 6 vc,.bool en,hv,.int .i64 ver][i]?)/\Six vb vo s0 s1 s2 s3 s4 s5 W)) (by kernel_rfl) (KP.o _ (Zb_.drew)) (fun hHeld=>?_);refine tS 0 (.pointer (some ⟨w.heap.size,1,none⟩)) rfl hHeld ?_
  try simp only [Act.put,sLs]
  refine tS 1 (.string nm) rfl hHeld ?_
  try simp only [Act.put,sLs]
  refine tS 2 (.pointer (some ⟨w.heap.size,4,none⟩)) rfl hHeld ?_
  try simp only [Act.put,sLs]
  refine tS 3 (.bool en) rfl hHeld ?_
  try simp only [Act.put,sLs]
  refine tS 4 (.agg #[.string kind,.string nm,.string team,.slice (some ⟨vb,vo,none⟩) 6 vc,.bool en,hv,.int .i64 ver]) rfl hHeld ?_
  try simp only [Act.put,sLs]
  refine tS 6 (.agg #[.string kind,.string nm,.string team,.slice (some ⟨vb,vo,none⟩) 6 vc,.bool en,hv,.int .i64 ver]) rfl hHeld ?_
  try simp only [Act.put,sLs]
  refine tS 8 (.agg #[.string kind,.string nm,.string team,.slice (some ⟨vb,vo,none⟩) 6 vc,.bool en,hv,.int .i64 ver]) rfl hHeld ?_
  try simp only [Act.put,sLs]
  refine tS 10 (.agg #[.string kind,.string nm,.string team,.slice (some ⟨vb,vo,none⟩) 6 vc,.bool en,hv,.int .i64 ver]) rfl hHeld ?_
  try simp only [Act.put,sLs]
  refine wpAnyH_ready (rs:=[5,13]) (by kernel_rfl) (by simp) ?_;refine AllReadyH.cons rfl (fun KK hK=>?_) (AllReadyH.cons rfl (fun KK hK=>?_) AllReadyH.nil)
  ·
   go_simp
   refine (Zat kind nm team en hv ver vb vo vc s0 s1 s2 s3 s4 s5 _ 0 (by omega) (H61.o.below (Zb_.drew) hvb1) (by simpa using hvb1) HZ.o).mono ?_;rintro e v1 ⟨rfl,hw⟩;simp only [six];have CN:Hd (Below w1.heap.size w1 v1):=zbt (Zb_.drew) hw;clear hw;have CC:=CN;clear CN;have hy1:=CC.o.size
   try go_wp2_with fail
   refine hK.out _ _ (KP.o _ CC.o) (fun hHeld=>?_);clear hK KK
   try simp only [Act.put,sLs]
   refine wpAnyH_ready (rs:=[7,13]) (by kernel_rfl) (by simp) ?_;refine AllReadyH.cons rfl (fun KK hK=>?_) (AllReadyH.cons rfl (fun KK hK=>?_) AllReadyH.nil)
   ·
    go_simp
    refine (Zat kind nm team en hv ver vb vo vc s0 s1 s2 s3 s4 s5 _ 2 (by omega) (H61.o.below CC.o hvb1) (by have:=CC.o.size;omega) HZ.o).mono ?_;rintro e v2 ⟨rfl,hw⟩;simp only [six];have CN:Hd (Below w1.heap.size w1 v2):=zbt CC.o hw;clear hw;clear CC;have CC:=CN;clear CN;have hy2:=CC.o.size
    try go_wp2_with fail
    refine hK.out _ _ (KP.o _ CC.o) (fun hHeld=>?_);clear hK KK
    try simp only [Act.put,sLs]
    refine wpAnyH_ready (rs:=[9,13]) (by kernel_rfl) (by simp) ?_;refine AllReadyH.cons rfl (fun KK hK=>?_) (AllReadyH.cons rfl (fun KK hK=>?_) AllReadyH.nil)
    ·
     go_simp
     refine (Zat kind nm team en hv ver vb vo vc s0 s1 s2 s3 s4 s5 _ 3 (by omega) (H61.o.below CC.o hvb1) (by have:=CC.o.size;omega) HZ.o).mono ?_;rintro e v3 ⟨rfl,hw⟩;simp only [six];have CN:Hd (Below w1.heap.size w1 v3):=zbt CC.o hw;clear hw;clear CC;have CC:=CN;clear CN;have hy3:=CC.o.size
     try go_wp2_with fail
     refine hK.out _ _ (KP.o _ CC.o) (fun hHeld=>?_);clear hK KK
     try simp only [Act.put,sLs]
     refine wpAnyH_ready (rs:=[11,13]) (by kernel_rfl) (by simp) ?_;refine AllReadyH.cons rfl (fun KK hK=>?_) (AllReadyH.cons rfl (fun KK hK=>?_) AllReadyH.nil)
     ·
      go_simp
      refine (Zat kind nm team en hv ver vb vo vc s0 s1 s2 s3 s4 s5 _ 4 (by omega) (H61.o.below CC.o hvb1) (by have:=CC.o.size;omega) HZ.o).mono ?_;rintro e v4 ⟨rfl,hw⟩;simp only [six];have CN:Hd (Below w1.heap.size w1 v4):=zbt CC.o hw;clear hw;clear CC;have CC:=CN;clear CN;have hy4:=CC.o.size
      try go_wp2_with fail
      refine hK.out _ _ (KP.o _ CC.o) (fun hHeld=>?_);clear hK KK
      try simp only [Act.put,sLs]
      refine tH 12 (.agg #[.string nm,.int .i64 0,.bool en,.int .i64 (Zaq s0),.int .i64 0,.int .i64 (Zaq s2),.int .i64 (Zaq s3),.int .i64 0,.int .i64 (Zaq s4),.int .i64 0,.int .i64 0,.int .i64 0,.int .i64 0]) rfl hHeld ?_
      try simp only [Act.put,sLs]
      refine wpAnyH_ready (rs:=[13]) (by kernel_rfl) (by simp) ?_;refine AllReadyH.cons rfl (fun KK hK=>?_) AllReadyH.nil
      go_simp
      obtain⟨v5,hv'⟩:∃ vv,vv=v4.alloc (.cells #[.string ⟨#[]⟩,.int .i64 0,.bool false,.int .i64 0,.int .i64 0,.int .i64 0,.int .i64 0,.int .i64 0,.int .i64 0,.int .i64 0,.int .i64 0,.int .i64 0,.int .i64 0] 118):=⟨_,rfl⟩
      rw [<- hv'];have hb:Below v4.heap.size v4 v5:=by rw [hv'];exact Zac _ _
      have BX:Hd (Box v5 v4.heap.size #[.string ⟨#[]⟩,.int .i64 0,.bool false,.int .i64 0,.int .i64 0,.int .i64 0,.int .i64 0,.int .i64 0,.int .i64 0,.int .i64 0,.int .i64 0,.int .i64 0,.int .i64 0]):=by unfold Hd;rw [hv'];exact Box.new _ _ _ _ rfl
      clear hv';replace CC:Hd (Below w1.heap.size w1 v5):=zbt CC.o hb;clear hb;have hy5:=CC.o.size;have hx5:=BX.o.lt;refine hK.out _ _ (KP.o _ CC.o) (fun hHeld=>?_);clear hK KK
      try simp only [Act.put,sLs]
      refine wpAnyH_ready (rs:=[14]) (by kernel_rfl) (by simp) ?_;refine AllReadyH.cons rfl (fun KK hK=>?_) AllReadyH.nil;have HTH:Hd (World.there v5 (v4.heap.size) 0 13):=BX.o.there rfl;rw [if_pos (by rfl)];refine wp_store_mid 118 (.tmp 5) (.tmp 24) rfl (v4.heap.size) 0 #[.string nm,.int .i64 0,.bool en,.int .i64 (Zaq s0),.int .i64 0,.int .i64 (Zaq s2),.int .i64 (Zaq s3),.int .i64 0,.int .i64 (Zaq s4),.int .i64 0,.int .i64 0,.int .i64 0,.int .i64 0] rfl rfl HTH.o Za9 (by simp [Value.oneCell']) ?_;refine hK.out _ _ (KP.o _ (Below.sets (by omega) _ _ CC.o)) (fun hHeld=>?_);clear hK KK
      try simp only [Act.put,List.getElem_toArray,List.getElem_cons_succ,List.getElem_cons_zero]
      refine wpAnyH_done (by kernel_rfl) ?_ _;go_wp2;go_meet;exact⟨v4.heap.size,rfl,Below.sets (by omega) _ _ CC.o,BX.o.full rfl,by omega⟩
     ·
      go_simp
      obtain⟨v4,hv'⟩:∃ vv,vv=v3.alloc (.cells #[.string ⟨#[]⟩,.int .i64 0,.bool false,.int .i64 0,.int .i64 0,.int .i64 0,.int .i64 0,.int .i64 0,.int .i64 0,.int .i64 0,.int .i64 0,.int .i64 0,.int .i64 0] 118):=⟨_,rfl⟩
      rw [<- hv'];have hb:Below v3.heap.size v3 v4:=by rw [hv'];exact Zac _ _
      have BX:Hd (Box v4 v3.heap.size #[.string ⟨#[]⟩,.int .i64 0,.bool false,.int .i64 0,.int .i64 0,.int .i64 0,.int .i64 0,.int .i64 0,.int .i64 0,.int .i64 0,.int .i64 0,.int .i64 0,.int .i64 0]):=by unfold Hd;rw [hv'];exact Box.new _ _ _ _ rfl
      clear hv';replace CC:Hd (Below w1.heap.size w1 v4):=zbt CC.o hb;clear hb;have hy4:=CC.o.size;have hx4:=BX.o.lt;refine hK.out _ _ (KP.o _ CC.o) (fun hHeld=>?_);clear hK KK
      try simp only [Act.put,sLs]
      refine wpAnyH_ready (rs:=[11]) (by kernel_rfl) (by simp) ?_;refine AllReadyH.cons rfl (fun KK hK=>?_) AllReadyH.nil
      go_simp
      refine (Zat kind nm team en hv ver vb vo vc s0 s1 s2 s3 s4 s5 _ 4 (by omega) (H61.o.below CC.o hvb1) (by have:=CC.o.size;omega) HZ.o).mono ?_;rintro e v5 ⟨rfl,hw⟩;simp only [six];have CN:Hd (Below w1.heap.size w1 v5):=zbt CC.o hw;replace BX:Hd (Box v5 (v3.heap.size) #[.string ⟨#[]⟩,.int .i64 0,.bool false,.int .i64 0,.int .i64 0,.int .i64 0,.int .i64 0,.int .i64 0,.int .i64 0,.int .i64 0,.int .i64 0,.int .i64 0,.int .i64 0]):=by unfold Hd;exact BX.o.on hw
      clear hw;clear CC;have CC:=CN;clear CN;have hy5:=CC.o.size
      try go_wp2_with fail
      have hx5:=BX.o.lt;refine hK.out _ _ (KP.o _ CC.o) (fun hHeld=>?_);clear hK KK
      try simp only [Act.put,sLs]
      refine tH 12 (.agg #[.string nm,.int .i64 0,.bool en,.int .i64 (Zaq s0),.int .i64 0,.int .i64 (Zaq s2),.int .i64 (Zaq s3),.int .i64 0,.int .i64 (Zaq s4),.int .i64 0,.int .i64 0,.int .i64 0,.int .i64 0]) rfl hHeld ?_
      try simp only [Act.put,sLs]
      refine wpAnyH_ready (rs:=[14]) (by kernel_rfl) (by simp) ?_;refine AllReadyH.cons rfl (fun KK hK=>?_) AllReadyH.nil;have HTH:Hd (World.there v5 (v3.heap.size) 0 13):=BX.o.there rfl;rw [if_pos (by rfl)];refine wp_store_mid 118 (.tmp 5) (.tmp 24) rfl (v3.heap.size) 0 #[.string nm,.int .i64 0,.bool en,.int .i64 (Zaq s0),.int .i64 0,.int .i64 (Zaq s2),.int .i64 (Zaq s3),.int .i64 0,.int .i64 (Zaq s4),.int .i64 0,.int .i64 0,.int .i64 0,.int .i64 0] rfl rfl HTH.o Za9 (by simp [Value.oneCell']) ?_;refine hK.out _ _ (KP.o _ (Below.sets (by omega) _ _ CC.o)) (fun hHeld=>?_);clear hK KK
      try simp only [Act.put,List.getElem_toArray,List.getElem_cons_succ,List.getElem_cons_zero]
      refine wpAnyH_done (by kernel_rfl) ?_ _;go_wp2;go_meet;exact⟨v3.heap.size,rfl,Below.sets (by omega) _ _ CC.o,BX.o.full rfl,by omega⟩
    ·
     go_simp
     obtain⟨v3,hv'⟩:∃ vv,vv=v2.alloc (.cells #[.string ⟨#[]⟩,.int .i64 0,.bool false,.int .i64 0,.int .i64 0,.int .i64 0,.int .i64 0,.int .i64 0,.int .i64 0,.int .i64 0,.int .i64 0,.int .i64 0,.int .i64 0] 118):=⟨_,rfl⟩
     rw [<- hv'];have hb:Below v2.heap.size v2 v3:=by rw [hv'];exact Zac _ _
     have BX:Hd (Box v3 v2.heap.size #[.string ⟨#[]⟩,.int .i64 0,.bool false,.int .i64 0,.int .i64 0,.int .i64 0,.int .i64 0,.int .i64 0,.int .i64 0,.int .i64 0,.int .i64 0,.int .i64 0,.int .i64 0]):=by unfold Hd;rw [hv'];exact Box.new _ _ _ _ rfl
     clear hv';replace CC:Hd (Below w1.heap.size w1 v3):=zbt CC.o hb;clear hb;have hy3:=CC.o.size;have hx3:=BX.o.lt;refine hK.out _ _ (KP.o _ CC.o) (fun hHeld=>?_);clear hK KK
     try simp only [Act.put,sLs]
     refine wpAnyH_ready (rs:=[9]) (by kernel_rfl) (by simp) ?_;refine AllReadyH.cons rfl (fun KK hK=>?_) AllReadyH.nil
     go_simp
     refine (Zat kind nm team en hv ver vb vo vc s0 s1 s2 s3 s4 s5 _ 3 (by omega) (H61.o.below CC.o hvb1) (by have:=CC.o.size;omega) HZ.o).mono ?_;rintro e v4 ⟨rfl,hw⟩;simp only [six];have CN:Hd (Below w1.heap.size w1 v4):=zbt CC.o hw;replace BX:Hd (Box v4 (v2.heap.size) #[.string ⟨#[]⟩,.int .i64 0,.bool false,.int .i64 0,.int .i64 0,.int .i64 0,.int .i64 0,.int .i64 0,.int .i64 0,.int .i64 0,.int .i64 0,.int .i64 0,.int .i64 0]):=by unfold Hd;exact BX.o.on hw
     clear hw;clear CC;have CC:=CN;clear CN;have hy4:=CC.o.size
     try go_wp2_with fail
     have hx4:=BX.o.lt;refine hK.out _ _ (KP.o _ CC.o) (fun hHeld=>?_);clear hK KK
     try simp only [Act.put,sLs]
     refine wpAnyH_ready (rs:=[11]) (by kernel_rfl) (by simp) ?_;refine AllReadyH.cons rfl (fun KK hK=>?_) AllReadyH.nil
     go_simp
     refine (Zat kind nm team en hv ver vb vo vc s0 s1 s2 s3 s4 s5 _ 4 (by omega) (H61.o.below CC.o hvb1) (by have:=CC.o.size;omega) HZ.o).mono ?_;rintro e v5 ⟨rfl,hw⟩;simp only [six];have CN:Hd (Below w1.heap.size w1 v5):=zbt CC.o hw;replace BX:Hd (Box v5 (v2.heap.size) #[.string ⟨#[]⟩,.int .i64 0,.bool false,.int .i64 0,.int .i64 0,.int .i64 0,.int .i64 0,.int .i64 0,.int .i64 0,.int .i64 0,.int .i64 0,.int .i64 0,.int .i64 0]):=by unfold Hd;exact BX.o.on hw
     clear hw;clear CC;have CC:=CN;clear CN;have hy5:=CC.o.size
     try go_wp2_with fail
     have hx5:=BX.o.lt;refine hK.out _ _ (KP.o _ CC.o) (fun hHeld=>?_);clear hK KK
     try simp only [Act.put,sLs]
     refine tH 12 (.agg #[.string nm,.int .i64 0,.bool en,.int .i64 (Zaq s0),.int .i64 0,.int .i64 (Zaq s2),.int .i64 (Zaq s3),.int .i64 0,.int .i64 (Zaq s4),.int .i64 0,.int .i64 0,.int .i64 0,.int .i64 0]) rfl hHeld ?_
     try simp only [Act.put,sLs]
     refine wpAnyH_ready (rs:=[14]) (by kernel_rfl) (by simp) ?_;refine AllReadyH.cons rfl (fun KK hK=>?_) AllReadyH.nil;have HTH:Hd (World.there v5 (v2.heap.size) 0 13):=BX.o.there rfl;rw [if_pos (by rfl)];refine wp_store_mid 118 (.tmp 5) (.tmp 24) rfl (v2.heap.size) 0 #[.string nm,.int .i64 0,.bool en,.int .i64 (Zaq s0),.int .i64 0,.int .i64 (Zaq s2),.int .i64 (Zaq s3),.int .i64 0,.int .i64 (Zaq s4),.int .i64 0,.int .i64 0,.int .i64 0,.int .i64 0] rfl rfl HTH.o Za9 (by simp [Value.oneCell']) ?_;refine hK.out _ _ (KP.o _ (Below.sets (by omega) _ _ CC.o)) (fun hHeld=>?_);clear hK KK
     try simp only [Act.put,List.getElem_toArray,List.getElem_cons_succ,List.getElem_cons_zero]
     refine wpAnyH_done (by kernel_rfl) ?_ _;go_wp2;go_meet;exact⟨v2.heap.size,rfl,Below.sets (by omega) _ _ CC.o,BX.o.full rfl,by omega⟩
   ·
    go_simp
    obtain⟨v2,hv'⟩:∃ vv,vv=v1.alloc (.cells #[.string ⟨#[]⟩,.int .i64 0,.bool false,.int .i64 0,.int .i64 0,.int .i64 0,.int .i64 0,.int .i64 0,.int .i64 0,.int .i64 0,.int .i64 0,.int .i64 0,.int .i64 0] 118):=⟨_,rfl⟩
    rw [<- hv'];have hb:Below v1.heap.size v1 v2:=by rw [hv'];exact Zac _ _
    have BX:Hd (Box v2 v1.heap.size #[.string ⟨#[]⟩,.int .i64 0,.bool false,.int .i64 0,.int .i64 0,.int .i64 0,.int .i64 0,.int .i64 0,.int .i64 0,.int .i64 0,.int .i64 0,.int .i64 0,.int .i64 0]):=by unfold Hd;rw [hv'];exact Box.new _ _ _ _ rfl
    clear hv';replace CC:Hd (Below w1.heap.size w1 v2):=zbt CC.o hb;clear hb;have hy2:=CC.o.size;have hx2:=BX.o.lt;refine hK.out _ _ (KP.o _ CC.o) (fun hHeld=>?_);clear hK KK
    try simp only [Act.put,sLs]
    refine wpAnyH_ready (rs:=[7]) (by kernel_rfl) (by simp) ?_;refine AllReadyH.cons rfl (fun KK hK=>?_) AllReadyH.nil
    go_simp
    refine (Zat kind nm team en hv ver vb vo vc s0 s1 s2 s3 s4 s5 _ 2 (by omega) (H61.o.below CC.o hvb1) (by have:=CC.o.size;omega) HZ.o).mono ?_;rintro e v3 ⟨rfl,hw⟩;simp only [six];have CN:Hd (Below w1.heap.size w1 v3):=zbt CC.o hw;replace BX:Hd (Box v3 (v1.heap.size) #[.string ⟨#[]⟩,.int .i64 0,.bool false,.int .i64 0,.int .i64 0,.int .i64 0,.int .i64 0,.int .i64 0,.int .i64 0,.int .i64 0,.int .i64 0,.int .i64 0,.int .i64 0]):=by unfold Hd;exact BX.o.on hw
    clear hw;clear CC;have CC:=CN;clear CN;have hy3:=CC.o.size
    try go_wp2_with fail
    have hx3:=BX.o.lt;refine hK.out _ _ (KP.o _ CC.o) (fun hHeld=>?_);clear hK KK
    try simp only [Act.put,sLs]
    refine wpAnyH_ready (rs:=[9]) (by kernel_rfl) (by simp) ?_;refine AllReadyH.cons rfl (fun KK hK=>?_) AllReadyH.nil
    go_simp
    refine (Zat kind nm team en hv ver vb vo vc s0 s1 s2 s3 s4 s5 _ 3 (by omega) (H61.o.below CC.o hvb1) (by have:=CC.o.size;omega) HZ.o).mono ?_;rintro e v4 ⟨rfl,hw⟩;simp only [six];have CN:Hd (Below w1.heap.size w1 v4):=zbt CC.o hw;replace BX:Hd (Box v4 (v1.heap.size) #[.string ⟨#[]⟩,.int .i64 0,.bool false,.int .i64 0,.int .i64 0,.int .i64 0,.int .i64 0,.int .i64 0,.int .i64 0,.int .i64 0,.int .i64 0,.int .i64 0,.int .i64 0]):=by unfold Hd;exact BX.o.on hw
    clear hw;clear CC;have CC:=CN;clear CN;have hy4:=CC.o.size
    try go_wp2_with fail
    have hx4:=BX.o.lt;refine hK.out _ _ (KP.o _ CC.o) (fun hHeld=>?_);clear hK KK
    try simp only [Act.put,sLs]
    refine wpAnyH_ready (rs:=[11]) (by kernel_rfl) (by simp) ?_;refine AllReadyH.cons rfl (fun KK hK=>?_) AllReadyH.nil
    go_simp
    refine (Zat kind nm team en hv ver vb vo vc s0 s1 s2 s3 s4 s5 _ 4 (by omega) (H61.o.below CC.o hvb1) (by have:=CC.o.size;omega) HZ.o).mono ?_;rintro e v5 ⟨rfl,hw⟩;simp only [six];have CN:Hd (Below w1.heap.size w1 v5):=zbt CC.o hw;replace BX:Hd (Box v5 (v1.heap.size) #[.string ⟨#[]⟩,.int .i64 0,.bool false,.int .i64 0,.int .i64 0,.int .i64 0,.int .i64 0,.int .i64 0,.int .i64 0,.int .i64 0,.int .i64 0,.int .i64 0,.int .i64 0]):=by unfold Hd;exact BX.o.on hw
    clear hw;clear CC;have CC:=CN;clear CN;have hy5:=CC.o.size
    try go_wp2_with fail
    have hx5:=BX.o.lt;refine hK.out _ _ (KP.o _ CC.o) (fun hHeld=>?_);clear hK KK
    try simp only [Act.put,sLs]
    refine tH 12 (.agg #[.string nm,.int .i64 0,.bool en,.int .i64 (Zaq s0),.int .i64 0,.int .i64 (Zaq s2),.int .i64 (Zaq s3),.int .i64 0,.int .i64 (Zaq s4),.int .i64 0,.int .i64 0,.int .i64 0,.int .i64 0]) rfl hHeld ?_
    try simp only [Act.put,sLs]
    refine wpAnyH_ready (rs:=[14]) (by kernel_rfl) (by simp) ?_;refine AllReadyH.cons rfl (fun KK hK=>?_) AllReadyH.nil;have HTH:Hd (World.there v5 (v1.heap.size) 0 13):=BX.o.there rfl;rw [if_pos (by rfl)];refine wp_store_mid 118 (.tmp 5) (.tmp 24) rfl (v1.heap.size) 0 #[.string nm,.int .i64 0,.bool en,.int .i64 (Zaq s0),.int .i64 0,.int .i64 (Zaq s2),.int .i64 (Zaq s3),.int .i64 0,.int .i64 (Zaq s4),.int .i64 0,.int .i64 0,.int .i64 0,.int .i64 0] rfl rfl HTH.o Za9 (by simp [Value.oneCell']) ?_;refine hK.out _ _ (KP.o _ (Below.sets (by omega) _ _ CC.o)) (fun hHeld=>?_);clear hK KK
    try simp only [Act.put,List.getElem_toArray,List.getElem_cons_succ,List.getElem_cons_zero]
    refine wpAnyH_done (by kernel_rfl) ?_ _;go_wp2;go_meet;exact⟨v1.heap.size,rfl,Below.sets (by omega) _ _ CC.o,BX.o.full rfl,by omega⟩
  ·
   go_simp
   obtain⟨v1,hv'⟩:∃ vv,vv=(w1.alloc (.cells #[.string ⟨#[]⟩,.int .i64 0,.bool false,.int .i64 0,.int .i64 0,.int .i64 0,.int .i64 0,.int .i64 0,.int .i64 0,.int .i64 0,.int .i64 0,.int .i64 0,.int .i64 0] 118)).drew:=⟨_,rfl⟩
   rw [<- hv'];have hb:Below w1.heap.size w1 v1:=by rw [hv'];exact (Zac _ _).drew
   have BX:Hd (Box v1 w1.heap.size #[.string ⟨#[]⟩,.int .i64 0,.bool false,.int .i64 0,.int .i64 0,.int .i64 0,.int .i64 0,.int .i64 0,.int .i64 0,.int .i64 0,.int .i64 0,.int .i64 0,.int .i64 0]):=by unfold Hd;rw [hv'];exact (Box.new _ _ _ _ rfl).drew
   clear hv';have CC:Hd (Below w1.heap.size w1 v1):=hb;clear hb;have hy1:=CC.o.size;have hx1:=BX.o.lt;refine hK.out _ _ (KP.o _ CC.o) (fun hHeld=>?_);clear hK KK
   try simp only [Act.put,sLs]
   refine wpAnyH_ready (rs:=[5]) (by kernel_rfl) (by simp) ?_;refine AllReadyH.cons rfl (fun KK hK=>?_) AllReadyH.nil
   go_simp
   refine (Zat kind nm team en hv ver vb vo vc s0 s1 s2 s3 s4 s5 _ 0 (by omega) (H61.o.below CC.o hvb1) (by have:=CC.o.size;omega) HZ.o).mono ?_;rintro e v2 ⟨rfl,hw⟩;simp only [six];have CN:Hd (Below w1.heap.size w1 v2):=zbt CC.o hw;replace BX:Hd (Box v2 (w1.heap.size) #[.string ⟨#[]⟩,.int .i64 0,.bool false,.int .i64 0,.int .i64 0,.int .i64 0,.int .i64 0,.int .i64 0,.int .i64 0,.int .i64 0,.int .i64 0,.int .i64 0,.int .i64 0]):=by unfold Hd;exact BX.o.on hw
   clear hw;clear CC;have CC:=CN;clear CN;have hy2:=CC.o.size
   try go_wp2_with fail
   have hx2:=BX.o.lt;refine hK.out _ _ (KP.o _ CC.o) (fun hHeld=>?_);clear hK KK
   try simp only [Act.put,sLs]
   refine wpAnyH_ready (rs:=[7]) (by kernel_rfl) (by simp) ?_;refine AllReadyH.cons rfl (fun KK hK=>?_) AllReadyH.nil
   go_simp
   refine (Zat kind nm team en hv ver vb vo vc s0 s1 s2 s3 s4 s5 _ 2 (by omega) (H61.o.below CC.o hvb1) (by have:=CC.o.size;omega) HZ.o).mono ?_;rintro e v3 ⟨rfl,hw⟩;simp only [six];have CN:Hd (Below w1.heap.size w1 v3):=zbt CC.o hw;replace BX:Hd (Box v3 (w1.heap.size) #[.string ⟨#[]⟩,.int .i64 0,.bool false,.int .i64 0,.int .i64 0,.int .i64 0,.int .i64 0,.int .i64 0,.int .i64 0,.int .i64 0,.int .i64 0,.int .i64 0,.int .i64 0]):=by unfold Hd;exact BX.o.on hw
   clear hw;clear CC;have CC:=CN;clear CN;have hy3:=CC.o.size
   try go_wp2_with fail
   have hx3:=BX.o.lt;refine hK.out _ _ (KP.o _ CC.o) (fun hHeld=>?_);clear hK KK
   try simp only [Act.put,sLs]
   refine wpAnyH_ready (rs:=[9]) (by kernel_rfl) (by simp) ?_;refine AllReadyH.cons rfl (fun KK hK=>?_) AllReadyH.nil
   go_simp
   refine (Zat kind nm team en hv ver vb vo vc s0 s1 s2 s3 s4 s5 _ 3 (by omega) (H61.o.below CC.o hvb1) (by have:=CC.o.size;omega) HZ.o).mono ?_;rintro e v4 ⟨rfl,hw⟩;simp only [six];have CN:Hd (Below w1.heap.size w1 v4):=zbt CC.o hw;replace BX:Hd (Box v4 (w1.heap.size) #[.string ⟨#[]⟩,.int .i64 0,.bool false,.int .i64 0,.int .i64 0,.int .i64 0,.int .i64 0,.int .i64 0,.int .i64 0,.int .i64 0,.int .i64 0,.int .i64 0,.int .i64 0]):=by unfold Hd;exact BX.o.on hw
   clear hw;clear CC;have CC:=CN;clear CN;have hy4:=CC.o.size
   try go_wp2_with fail
   have hx4:=BX.o.lt;refine hK.out _ _ (KP.o _ CC.o) (fun hHeld=>?_);clear hK KK
   try simp only [Act.put,sLs]
   refine wpAnyH_ready (rs:=[11]) (by kernel_rfl) (by simp) ?_;refine AllReadyH.cons rfl (fun KK hK=>?_) AllReadyH.nil
   go_simp
   refine (Zat kind nm team en hv ver vb vo vc s0 s1 s2 s3 s4 s5 _ 4 (by omega) (H61.o.below CC.o hvb1) (by have:=CC.o.size;omega) HZ.o).mono ?_;rintro e v5 ⟨rfl,hw⟩;simp only [six];have CN:Hd (Below w1.heap.size w1 v5):=zbt CC.o hw;replace BX:Hd (Box v5 (w1.heap.size) #[.string ⟨#[]⟩,.int .i64 0,.bool false,.int .i64 0,.int .i64 0,.int .i64 0,.int .i64 0,.int .i64 0,.int .i64 0,.int .i64 0,.int .i64 0,.int .i64 0,.int .i64 0]):=by unfold Hd;exact BX.o.on hw
   clear hw;clear CC;have CC:=CN;clear CN;have hy5:=CC.o.size
   try go_wp2_with fail
   have hx5:=BX.o.lt;refine hK.out _ _ (KP.o _ CC.o) (fun hHeld=>?_);clear hK KK
   try simp only [Act.put,sLs]
   refine tH 12 (.agg #[.string nm,.int .i64 0,.bool en,.int .i64 (Zaq s0),.int .i64 0,.int .i64 (Zaq s2),.int .i64 (Zaq s3),.int .i64 0,.int .i64 (Zaq s4),.int .i64 0,.int .i64 0,.int .i64 0,.int .i64 0]) rfl hHeld ?_
   try simp only [Act.put,sLs]
   refine wpAnyH_ready (rs:=[14]) (by kernel_rfl) (by simp) ?_;refine AllReadyH.cons rfl (fun KK hK=>?_) AllReadyH.nil;have HTH:Hd (World.there v5 (w1.heap.size) 0 13):=BX.o.there rfl;rw [if_pos (by rfl)];refine wp_store_mid 118 (.tmp 5) (.tmp 24) rfl (w1.heap.size) 0 #[.string nm,.int .i64 0,.bool en,.int .i64 (Zaq s0),.int .i64 0,.int .i64 (Zaq s2),.int .i64 (Zaq s3),.int .i64 0,.int .i64 (Zaq s4),.int .i64 0,.int .i64 0,.int .i64 0,.int .i64 0] rfl rfl HTH.o Za9 (by simp [Value.oneCell']) ?_;refine hK.out _ _ (KP.o _ (Below.sets (by omega) _ _ CC.o)) (fun hHeld=>?_);clear hK KK
   try simp only [Act.put,List.getElem_toArray,List.getElem_cons_succ,List.getElem_cons_zero]
   refine wpAnyH_done (by kernel_rfl) ?_ _;go_wp2;go_meet;exact⟨w1.heap.size,rfl,Below.sets (by omega) _ _ CC.o,BX.o.full rfl,by omega⟩
 case rest=>
 obtain⟨β,rfl,hbc,hX,hβ⟩:=hcut;have H6c:=Zab (H61.o.below hbc hvb1);have o:=(FO.o.on hbc).cell;have hol:=(FO.o.on hbc).lt;have hvl:vb < wc.heap.size:=by have:=hbc.size;omega
 go_wp2_with fail;refine (Zat kind nm team en hv ver vb vo vc s0 s1 s2 s3 s4 s5 _ 1 (by omega) H6c.o hvl HZ.o).mono ?_;rintro e w2 ⟨rfl,hb2⟩;clear o hol hvl;have hbc2:Below w1.heap.size w1 w2:=zbt hbc hb2;have HX2:=hX.on hb2;have HBc:Hd (Zw_ w w2):=zbt HB.o hbc2;have hq:=HSZ.o;have x:=HX2.cell;have xf:=HX2.free;have d:=(FD.o.on hbc2).cell;have r:=(FR.o.on hbc2).cell;have rf:=(FR.o.on hbc2).free;have r':∀ i,w2.cell? ⟨w.heap.size+1+1,i,none⟩=_:=r
 have hxl:=HX2.lt;have hrl:=(FR.o.on hbc2).lt;have hq2:w.heap.size+3<=β:=by omega
 replace HX2:=Zab HX2;have HR2:=Zab (FR.o.on hbc2);clear hX hbc FO FD FR KP H6 H61 HB HZ hq HSZ H6c hbc2 hb2;unfold svL at d;have nb1:¬ (w.heap.size+1=β):=by omega
 have nb2:¬ (β=w.heap.size+1):=by omega
 have nb3:¬ (β=w.heap.size+1+1):=by omega
 have nb4:¬ (w.heap.size+1+1=β):=by omega
 unfold six
 by_cases h4:Zaq s4=0
 . rw [if_pos h4] at HE
   go_wp2;refine bodyPost_ret (v:=.agg (svL R).toArray) (by rw [HE.o];simp [results,results138,go_sem,svL,r']) rfl ⟨rfl,?_⟩
   repeat (refine Below.setCell ?_ (by simp;try omega) _)
   exact HBc.o
 . rw [if_neg h4] at HE
   clear HN4;go_wp2;have HM:Hd ((if old.wa < Zaq s1 then old.wa else Zaq s1)=(if Zaq s1 < old.wa then Zaq s1 else old.wa)):=by unfold Hd;split <;> split <;> omega
   rw [HM.o] at HE;clear HM;obtain⟨mn,hmn⟩:∃ mn,(if Zaq s1 < old.wa then Zaq s1 else old.wa)=mn:=⟨_,rfl⟩
   rw [hmn] at HE;have HMN:=Zab hmn;clear hmn;have HD:Hd (∀ W,Below β w2 W->∀ i,W.cell? ⟨w.heap.size+1,i,none⟩=#[.string old.nm,.int .i64 old.ve,.bool old.gn,.int .i64 old.im,.int .i64 old.wa,.int .i64 old.dn,.int .i64 old.ov,.int .i64 old.nx,.int .i64 old.pr,.int .i64 old.ls,.int .i64 old.ms,.int .i64 old.ld,.int .i64 old.cl][i]?):=fun W hW i=>by rw [hW.cell (p:=⟨w.heap.size+1,i,none⟩) (by simp;omega)];exact d i
   refine wp_region_held_drew (S:=fun W=>∀ i,W.cell? ⟨w.heap.size+1,i,none⟩=#[.string old.nm,.int .i64 old.ve,.bool old.gn,.int .i64 old.im,.int .i64 old.wa,.int .i64 old.dn,.int .i64 old.ov,.int .i64 old.nx,.int .i64 old.pr,.int .i64 old.ls,.int .i64 old.ms,.int .i64 old.ld,.int .i64 old.cl][i]?) (by kernel_rfl) (HD.o _ (Zb_.drew)) (fun hHeld=>?_);refine tH 0 (.int .i64 (Zaq s1)) rfl hHeld ?_
   try simp only [Act.put,sLs]
   refine tH 1 (.pointer (some ⟨w.heap.size+1,11,none⟩)) rfl hHeld ?_
   try simp only [Act.put,sLs]
   refine tH 2 (.int .i64 old.ld) rfl hHeld ?_
   try simp only [Act.put,sLs]
   refine tH 3 (.pointer (some ⟨w.heap.size+1,4,none⟩)) rfl hHeld ?_
   try simp only [Act.put,sLs]
   refine tH 4 (.int .i64 old.wa) rfl hHeld ?_
   try simp only [Act.put,sLs]
   refine tH 5 (.int .i64 (Zaq s1)) rfl hHeld ?_
   try simp only [Act.put,sLs]
   refine wpAnyH_take (i:=6) (v:=.int .i64 mn) rfl (by kernel_rfl) (by kernel_rfl) (by kernel_rfl) (fun _ _ _ h=>h) (Or.inl ⟨by rfl,fun W hW=>by go_simp;rw [<- HMN.o];split <;> omega⟩) hHeld ?_
   try simp only [Act.put,sLs]
   refine tH 7 (.pointer (some ⟨β,10,none⟩)) rfl hHeld ?_
   try simp only [Act.put,sLs]
   refine wpAnyH_ready (rs:=[8]) (by kernel_rfl) (by simp) ?_;refine AllReadyH.cons rfl (fun KK hK=>?_) AllReadyH.nil
   go_simp
   refine hK.out _ _ (HD.o _ ((Zb_.drew).setCell (by simp) _)) (fun hHeld=>?_);clear hK KK
   try simp only [Act.put,sLs]
   refine tH 9 (.pointer (some ⟨β,11,none⟩)) rfl hHeld ?_
   try simp only [Act.put,sLs]
   refine wpAnyH_ready (rs:=[10]) (by kernel_rfl) (by simp) ?_;refine AllReadyH.cons rfl (fun KK hK=>?_) AllReadyH.nil
   go_simp
   refine hK.out _ _ (HD.o _ (((Zb_.drew).setCell (by simp) _).setCell (by simp) _)) (fun hHeld=>?_);clear hK KK
   try simp only [Act.put,sLs]
   refine tH 11 (.pointer (some ⟨β,4,none⟩)) rfl hHeld ?_
   try simp only [Act.put,sLs]
   refine wpAnyH_ready (rs:=[12]) (by kernel_rfl) (by simp) ?_;refine AllReadyH.cons rfl (fun KK hK=>?_) AllReadyH.nil
   go_simp
   refine hK.out _ _ (HD.o _ ((((Zb_.drew).setCell (by simp) _).setCell (by simp) _).setCell (by simp) _)) (fun hHeld=>?_);clear hK KK
   try simp only [Act.put,sLs]
   refine wpAnyH_done (by kernel_rfl) ?_ _;generalize hW3:World.drew _=w3;have B3:Box w3 β #[.string nm,.int .i64 0,.bool en,.int .i64 (Zaq s0),.int .i64 mn,.int .i64 (Zaq s2),.int .i64 (Zaq s3),.int .i64 0,.int .i64 (Zaq s4),.int .i64 0,.int .i64 (Zaq s1),.int .i64 old.ld,.int .i64 0]:=by rw [<- hW3];exact (((HX2.o.put 10 (by simp) _).put 11 (by simp) _).put 4 (by simp) _).drew
   have R3:Box w3 (w.heap.size+2) #[.string ⟨#[]⟩,.int .i64 0,.bool false,.int .i64 0,.int .i64 0,.int .i64 0,.int .i64 0,.int .i64 0,.int .i64 0,.int .i64 0,.int .i64 0,.int .i64 0,.int .i64 0]:=by rw [<- hW3];exact (((HR2.o.other (by simp;omega) _).other (by simp;omega) _).other (by simp;omega) _).drew
   have C3:Hd (Zw_ w w3):=by unfold Hd;rw [<- hW3];exact (((HBc.o.setCell (by simp;omega) _).setCell (by simp;omega) _).setCell (by simp;omega) _).drew
   clear hW3 x xf r rf r' hxl hrl d HD hHeld HX2 HR2 HBc h4;have x:=B3.cell;have hxl:=B3.lt;have r:=R3.cell;have rf:=R3.free;have hrl:=R3.lt;have r':∀ i,w3.cell? ⟨w.heap.size+1+1,i,none⟩=_:=r
   clear B3 R3;generalize Zaq s4=d4 at*;generalize Zaq s1=d1 at*;generalize Zaq s2=d2 at*;generalize Zaq s3=d3 at*;generalize Zaq s0=d0 at*;go_wp2;refine bodyPost_ret (v:=.agg (svL R).toArray) (by rw [HE.o];simp [results,results138,go_sem,svL,r']) rfl ⟨rfl,?_⟩
   repeat (refine Below.setCell ?_ (by simp;try omega) _)
   exact C3.o
end Go.Proofs.YtbdhbihhgfpnnaaGreat
