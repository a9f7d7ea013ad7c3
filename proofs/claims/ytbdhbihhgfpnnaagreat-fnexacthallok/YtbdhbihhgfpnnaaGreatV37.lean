import Derived.Test.YtbdhbihhgfpnnaaGreatV31
set_option maxHeartbeats 16000000
set_option maxRecDepth 100000
open Go.Proofs.Tryz
namespace Go.Proofs.YtbdhbihhgfpnnaaGreat
open Go.RowKit Go.Deep
variable {β:Nat} {cs:Array Value}
theorem ZgW {w:World}{a:Option Addr}{n cap:Nat}{L:List Zy_} (h:Zae w (.slice a n cap) L) (hL:0 < L.length) :
 ∃ b off,a=some ⟨b,off,none⟩/\b < w.heap.size/\(∀ i (h:i < L.length),w.cell? ⟨b,off+i,none⟩=some (.string L[i]))/\∀ s ∈ L,s.size<=maxLen:=by
 rcases h with ⟨_,_,_,rfl⟩ | ⟨b,off,_,h1,_,_,h4,h5,h6⟩
 . simp at hL
 . cases h1
   exact⟨b,off,rfl,h4,h5,h6⟩
theorem ZoL (s:Zy_):Zaq s=if ZiP s < 0 then 0 else ZiP s:=by
 unfold Zaq ZiP
 split
 . rename_i h
   have h7:s.size<=7/\Zey ZcA s=true:=by
    unfold ZdS inB at h;simp only [Bool.and_eq_true,decide_eq_true_eq] at h;exact⟨by omega,h.2⟩
   have:=ZbM s s.size Zl_ h7.1 (by
    rw [List.take_of_length_le (by simp)];exact h7.2)
   rw [ZcT Zl_] at this;rw [if_neg (by omega)]
 . simp
theorem Zar (s:Zy_) (w:World) (hs:s.size<=maxLen) :
 Calls prog 110 #[.string s] w fun e w'=>e=.returned (.int .i64 (Zaq s))/\w'=w:=by
 have HE:=Zab (ZoL s);have HS:=Zab hs;clear hs;go_enter func110,ntmps110;go_wp2_with fail;refine (Za4 s _ HS.o).mono ?_;rintro e w1 ⟨rfl,hw⟩;have:=hw.symm;subst this;generalize ZiP s=q at*
 by_cases hq:q < 0
 . rw [if_pos hq] at HE
   go_wp2;go_ret;exact⟨ZaB HE.o.symm,rfl⟩
 . rw [if_neg hq] at HE
   go_wp2;go_ret;exact⟨ZaB HE.o.symm,rfl⟩
structure Six (vb vo:Nat) (s0 s1 s2 s3 s4 s5:Zy_) (w:World):Prop where
 c0:w.cell? ⟨vb,vo,none⟩=some (.string s0)
 c1:w.cell? ⟨vb,vo+1,none⟩=some (.string s1)
 c2:w.cell? ⟨vb,vo+2,none⟩=some (.string s2)
 c3:w.cell? ⟨vb,vo+3,none⟩=some (.string s3)
 c4:w.cell? ⟨vb,vo+4,none⟩=some (.string s4)
theorem Six.below {vb vo:Nat}{s0 s1 s2 s3 s4 s5:Zy_}{w w':World} (h:Six vb vo s0 s1 s2 s3 s4 s5 w) {n:Nat} (hb:Below n w w') (hl:vb < n):Six vb vo s0 s1 s2 s3 s4 s5 w':=by
 have e:∀ i,w'.cell? ⟨vb,i,none⟩=w.cell? ⟨vb,i,none⟩:=fun i=>hb.cell (p:=⟨vb,i,none⟩) hl
 exact⟨by rw [e];exact h.c0,by rw [e];exact h.c1,by rw [e];exact h.c2,by rw [e];exact h.c3,by rw [e];exact h.c4⟩
def six (s0 s1 s2 s3 s4 s5:Zy_):Nat->Zy_
 | 0=>s0
 | 1=>s1
 | 2=>s2
 | 3=>s3
 | 4=>s4
 | _=>s5
section
variable (kind nm team:Zy_) (en:Bool) (hv:Value) (ver:Int) (vb vo vc:Nat) (s0 s1 s2 s3 s4 s5:Zy_) (w:World)
theorem Zat (k:Nat) (hk:k < 5) (h6:Six vb vo s0 s1 s2 s3 s4 s5 w) (hb:vb < w.heap.size) (hz:∀ i,(six s0 s1 s2 s3 s4 s5 i).size<=maxLen) :
 Calls prog 189 #[.agg #[.string kind,.string nm,.string team,.slice (some ⟨vb,vo,none⟩) 6 vc,.bool en,hv,.int .i64 ver],.int .i64 (k:Int)] w fun e w'=>e=.returned (.int .i64 (Zaq (six s0 s1 s2 s3 s4 s5 k)))/\Zw_ w w':=by
 have H6:Hd (Six vb vo s0 s1 s2 s3 s4 s5 (w.alloc (.cells #[.string kind,.string nm,.string team,.slice (some ⟨vb,vo,none⟩) 6 vc,.bool en,hv,.int .i64 ver] 126))):=h6.below (Zac _ _) hb;have HZ:=Zab hz;clear h6 hz;have hk':k=0\/k=1\/k=2\/k=3\/k=4:=by omega
 rcases hk' with rfl | rfl | rfl | rfl | rfl
 . have c:=H6.o.c0
   go_enter func189,ntmps189;go_wp2_with fail;clear c;refine (Za0 s0 _ (HZ.o 0)).mono ?_;rintro e w1 ⟨rfl,hw⟩;have:=hw.symm;subst this;go_wp2;go_ret;exact⟨rfl,Zac _ _⟩
 . have c:=H6.o.c1
   go_enter func189,ntmps189;go_wp2_with fail;clear c;refine (Za0 s1 _ (HZ.o 1)).mono ?_;rintro e w1 ⟨rfl,hw⟩;have:=hw.symm;subst this;go_wp2;go_ret;exact⟨rfl,Zac _ _⟩
 . have c:=H6.o.c2
   go_enter func189,ntmps189;go_wp2_with fail;clear c;refine (Za0 s2 _ (HZ.o 2)).mono ?_;rintro e w1 ⟨rfl,hw⟩;have:=hw.symm;subst this;go_wp2;go_ret;exact⟨rfl,Zac _ _⟩
 . have c:=H6.o.c3
   go_enter func189,ntmps189;go_wp2_with fail;clear c;refine (Za0 s3 _ (HZ.o 3)).mono ?_;rintro e w1 ⟨rfl,hw⟩;have:=hw.symm;subst this;go_wp2;go_ret;exact⟨rfl,Zac _ _⟩
 . have c:=H6.o.c4
   go_enter func189,ntmps189;go_wp2_with fail;clear c;refine (Za0 s4 _ (HZ.o 4)).mono ?_;rintro e w1 ⟨rfl,hw⟩;have:=hw.symm;subst this;go_wp2;go_ret;exact⟨rfl,Zac _ _⟩
end
theorem Box.put {w:World} (h:Box w β cs) (j:Nat) (hj:j < cs.size) (u:Value):Box (w.setCell ⟨β,j,none⟩ u) β (cs.setIfInBounds j u):=by
 have hv:w.cell? ⟨β,j,none⟩=some cs[j]:=by rw [h.cell j,Array.getElem?_eq_getElem hj]
 refine⟨by simpa [World.setCell] using h.lt,fun i=>?_,fun i=>?_⟩
 . by_cases e:i=j
   . subst e
     rw [show (w.setCell ⟨β,i,none⟩ u).cell? ⟨β,i,none⟩=some u from by apply World.cell?_setCell_same;exact hv,Array.getElem?_setIfInBounds_self_of_lt hj]
   . rw [show (w.setCell ⟨β,j,none⟩ u).cell? ⟨β,i,none⟩=w.cell? ⟨β,i,none⟩ from by apply World.cell?_setCell_other;simp,h.cell i,Array.getElem?_setIfInBounds_ne (by omega)]
 . rw [World.frozen?_setCell];exact h.free i
theorem Box.other {w:World} (h:Box w β cs) {p:Addr} (hp:β≠p.block) (u:Value):Box (w.setCell p u) β cs:=
 ⟨by simpa [World.setCell] using h.lt,fun i=>(ZaA w p ⟨β,i,none⟩ u hp).trans (h.cell i),fun i=>(World.frozen?_of_block (w:=w) (a:=⟨β,i,none⟩) (Below.heap_setCell w p u β hp)).trans (h.free i)⟩
def Zcu (nm:Zy_) (en:Bool) (V:List Zy_) (old:Sv):Sv:=
 match V with
 | [s0,s1,s2,s3,s4,_]=>if Zaq s4=0 then ⟨nm,0,en,Zaq s0,Zaq s1,Zaq s2,Zaq s3,0,0,0,0,0,0⟩
  else ⟨nm,0,en,Zaq s0,if old.wa < Zaq s1 then old.wa else Zaq s1,Zaq s2,Zaq s3,0,Zaq s4,0,Zaq s1,old.ld,0⟩
 | _=>⟨⟨#[]⟩,0,false,0,0,0,0,0,0,0,0,0,0⟩
theorem ZiG {V:List Zy_} (h:V.length=6):∃ s0 s1 s2 s3 s4 s5,V=[s0,s1,s2,s3,s4,s5]:=by
 match V,h with
 | [s0,s1,s2,s3,s4,s5],_=>exact⟨s0,s1,s2,s3,s4,s5,rfl⟩
theorem Zji {nm:Zy_}{en:Bool}{V:List Zy_}{old:Sv} (h:V.length≠6):Zcu nm en V old=⟨⟨#[]⟩,0,false,0,0,0,0,0,0,0,0,0,0⟩:=by
 unfold Zcu
 split
 . simp at h
 . rfl
theorem ZgU (kind nm team:Zy_) (vv hv:Value) (en:Bool) (ver:Int) (V:List Zy_) (old:Sv) (w:World) (hV:Zae w vv V) :
 Calls prog 58 #[.agg #[.string kind,.string nm,.string team,vv,.bool en,hv,.int .i64 ver],.agg (svL old).toArray] w
  fun e w'=>e=.returned (.agg (svL (Zcu nm en V old)).toArray)/\Zw_ w w':=by
 by_cases hL:V.length=6
 case neg=>
  have HE:Hd (Zcu nm en V old=⟨⟨#[]⟩,0,false,0,0,0,0,0,0,0,0,0,0⟩):=Zji hL;obtain⟨va,vc,rfl⟩:=hV.form';have hl:¬ ((V.length:Int)=6):=by omega
  clear hV hL;go_enter func58,ntmps58;unfold svL;go_wp2;refine bodyPost_ret (v:=.agg #[.string ⟨#[]⟩,.int .i64 0,.bool false,.int .i64 0,.int .i64 0,.int .i64 0,.int .i64 0,.int .i64 0,.int .i64 0,.int .i64 0,.int .i64 0,.int .i64 0,.int .i64 0]) (by simp [results,results58,go_sem]) rfl ⟨by rw [HE.o],?_⟩
  repeat (refine Below.setCell ?_ (by simp;try omega) _)
  exact ((Zb_.alloc Zl_ _).alloc (by simp) _).alloc (by simp;omega) _
 obtain⟨s0,s1,s2,s3,s4,s5,rfl⟩:=ZiG hL;obtain⟨va,vc,rfl⟩:=hV.form';obtain⟨vb,vo,rfl,hvb,hc,hz⟩:=ZgW hV (by simp);have H6:Hd (Six vb vo s0 s1 s2 s3 s4 s5 w):=⟨hc 0 (by simp),hc 1 (by simp),hc 2 (by simp),hc 3 (by simp),hc 4 (by simp)⟩
 have HZ:Hd (∀ i,(six s0 s1 s2 s3 s4 s5 i).size<=maxLen):=fun i=>by
  unfold six
  split <;> exact hz _ (by simp)
 clear hV hc hz hL;have HE:Hd (Zcu nm en [s0,s1,s2,s3,s4,s5] old=if Zaq s4=0 then ⟨nm,0,en,Zaq s0,Zaq s1,Zaq s2,Zaq s3,0,0,0,0,0,0⟩ else ⟨nm,0,en,Zaq s0,if old.wa < Zaq s1 then old.wa else Zaq s1,Zaq s2,Zaq s3,0,Zaq s4,0,Zaq s1,old.ld,0⟩):=rfl;have HN4:Hd (0<=Zaq s4):=(Zfm s4).1;generalize Zcu nm en [s0,s1,s2,s3,s4,s5] old=R at*;go_enter func58,ntmps58
 try simp only [List.length_cons,List.length_nil,Nat.reduceAdd]
 go_upto_region 3 with fail
 generalize hWa:World.alloc (World.alloc (World.alloc w _) _) _=w1;have HB:Hd (Zw_ w w1):=by unfold Hd;rw [<- hWa];exact ((Zac w _).alloc (by simp) _).alloc (by simp;omega) _
 have FO:Hd (Box w1 w.heap.size #[.string kind,.string nm,.string team,.slice (some ⟨vb,vo,none⟩) 6 vc,.bool en,hv,.int .i64 ver]):=by unfold Hd;rw [<- hWa];exact ((Box.new _ _ _ _ rfl).on (Zac _ _)).on (Zac _ _)
 have FD:Hd (Box w1 (w.heap.size+1) (svL old).toArray):=by unfold Hd;rw [<- hWa];exact (Box.new _ _ _ _ (by simp)).on (Zac _ _)
 have FR:Hd (Box w1 (w.heap.size+2) #[.string ⟨#[]⟩,.int .i64 0,.bool false,.int .i64 0,.int .i64 0,.int .i64 0,.int .i64 0,.int .i64 0,.int .i64 0,.int .i64 0,.int .i64 0,.int .i64 0,.int .i64 0]):=by unfold Hd;rw [<- hWa];exact Box.new _ _ _ _ (by simp)
 have hsz:w1.heap.size=w.heap.size+3:=by rw [<- hWa];simp
 have HSZ:=Zab hsz;clear hWa;have H61:=Zab (H6.o.below HB.o hvb);have hvb1:vb < w1.heap.size:=by omega
 have KP:Hd (∀ W,Below w1.heap.size w1 W->(∀ i,W.cell? ⟨w.heap.size,i,none⟩=#[.string kind,.string nm,.string team,.slice (some ⟨vb,vo,none⟩) 6 vc,.bool en,hv,.int .i64 ver][i]?)/\Six vb vo s0 s1 s2 s3 s4 s5 W):=fun W hW=>⟨(FO.o.on hW).cell,H61.o.below hW hvb1⟩
 clear hsz
 go_cut [5] (fun p wc=>∃ β,p=.pointer (some ⟨β,0,none⟩)/\Below w1.heap.size w1 wc/\Box wc β #[.string nm,.int .i64 0,.bool en,.int .i64 (Zaq s0),.int .i64 (Zaq s1),.int .i64 (Zaq s2),.int .i64 (Zaq s3),.int .i64 0,.int .i64 (Zaq s4),.int .i64 0,.int .i64 0,.int .i64 0,.int .i64 0]/\w1.heap.size<=β)
 case first=>
  refine wp_region_held_drew (S:=(fun W=>(∀ i,W.cell? ⟨w.heap.size,i,none⟩=#[.string kind,.string nm,.string team,.slice (some ⟨vb,vo,none⟩) 6 vc,.bool en,hv,.int .i64 ver][i]?)/\Six vb vo s0 s1 s2 s3 s4 s5 W)) (by kernel_rfl) (KP.o _ (Zb_.drew)) (fun hHeld=>?_);refine tS 0 (.pointer (some ⟨w.heap.size,1,none⟩)) rfl hHeld ?_
  try simp only [Act.put,sLs]
  refine tS 1 (.string nm) rfl hHeld ?_
  try simp only [Act.put,sLs]
  refine tS 2 (.pointer (some ⟨w.heap.size,4,none⟩)) rfl hHeld ?_
  try simp only [Act.put,sLs]
  refine tS 3 (.bool en) rfl hHeld ?_
  try simp only [Act.put,sLs]
  refine tS 4 (.pointer (some ⟨w.heap.size,3,none⟩)) rfl hHeld ?_
  try simp only [Act.put,sLs]
  refine tS 5 (.slice (some ⟨vb,vo,none⟩) 6 vc) rfl hHeld ?_
  try simp only [Act.put,sLs]
  refine tS 6 (.pointer (some ⟨vb,vo,none⟩)) rfl hHeld ?_
  try simp only [Act.put,sLs]
  refine tS 7 (.string s0) rfl hHeld ?_
  try simp only [Act.put,sLs]
  refine tS 9 (.pointer (some ⟨w.heap.size,3,none⟩)) rfl hHeld ?_
  try simp only [Act.put,sLs]
  refine tS 10 (.slice (some ⟨vb,vo,none⟩) 6 vc) rfl hHeld ?_
  try simp only [Act.put,sLs]
  refine tS 11 (.pointer (some ⟨vb,vo+1,none⟩)) rfl hHeld ?_
  try simp only [Act.put,sLs]
  refine tS 12 (.string s1) rfl hHeld ?_
  try simp only [Act.put,sLs]
  refine tS 14 (.pointer (some ⟨w.heap.size,3,none⟩)) rfl hHeld ?_
  try simp only [Act.put,sLs]
  refine tS 15 (.slice (some ⟨vb,vo,none⟩) 6 vc) rfl hHeld ?_
  try simp only [Act.put,sLs]
  refine tS 16 (.pointer (some ⟨vb,vo+2,none⟩)) rfl hHeld ?_
  try simp only [Act.put,sLs]
  refine tS 17 (.string s2) rfl hHeld ?_
  try simp only [Act.put,sLs]
  refine tS 19 (.pointer (some ⟨w.heap.size,3,none⟩)) rfl hHeld ?_
  try simp only [Act.put,sLs]
  refine tS 20 (.slice (some ⟨vb,vo,none⟩) 6 vc) rfl hHeld ?_
  try simp only [Act.put,sLs]
  refine tS 21 (.pointer (some ⟨vb,vo+3,none⟩)) rfl hHeld ?_
  try simp only [Act.put,sLs]
  refine tS 22 (.string s3) rfl hHeld ?_
  try simp only [Act.put,sLs]
  refine tS 24 (.pointer (some ⟨w.heap.size,3,none⟩)) rfl hHeld ?_
  try simp only [Act.put,sLs]
  refine tS 25 (.slice (some ⟨vb,vo,none⟩) 6 vc) rfl hHeld ?_
  try simp only [Act.put,sLs]
  refine tS 26 (.pointer (some ⟨vb,vo+4,none⟩)) rfl hHeld ?_
  try simp only [Act.put,sLs]
  refine tS 27 (.string s4) rfl hHeld ?_
  try simp only [Act.put,sLs]
  refine wpAnyH_ready (rs:=[8,30]) (by kernel_rfl) (by simp) ?_;refine AllReadyH.cons rfl (fun KK hK=>?_) (AllReadyH.cons rfl (fun KK hK=>?_) AllReadyH.nil)
  ·
   go_simp
   refine (Zar s0 _ (HZ.o 0)).mono ?_;rintro e v1 ⟨rfl,hw⟩;have CN:Hd (Below w1.heap.size w1 v1):=by unfold Hd;rw [hw];exact (Zb_.drew)
   clear hw;have CC:=CN;clear CN;have hy1:=CC.o.size
   try go_wp2_with fail
   refine hK.out _ _ (KP.o _ CC.o) (fun hHeld=>?_);clear hK KK
   try simp only [Act.put,sLs]
   refine wpAnyH_ready (rs:=[13,30]) (by kernel_rfl) (by simp) ?_;refine AllReadyH.cons rfl (fun KK hK=>?_) (AllReadyH.cons rfl (fun KK hK=>?_) AllReadyH.nil)
   ·
    go_simp
    refine (Zar s1 _ (HZ.o 1)).mono ?_;rintro e v2 ⟨rfl,hw⟩;have CN:Hd (Below w1.heap.size w1 v2):=by unfold Hd;rw [hw];exact CC.o
    clear hw;clear CC;have CC:=CN;clear CN;have hy2:=CC.o.size
    try go_wp2_with fail
    refine hK.out _ _ (KP.o _ CC.o) (fun hHeld=>?_);clear hK KK
    try simp only [Act.put,sLs]
    refine wpAnyH_ready (rs:=[18,30]) (by kernel_rfl) (by simp) ?_;refine AllReadyH.cons rfl (fun KK hK=>?_) (AllReadyH.cons rfl (fun KK hK=>?_) AllReadyH.nil)
    ·
     go_simp
     refine (Zar s2 _ (HZ.o 2)).mono ?_;rintro e v3 ⟨rfl,hw⟩;have CN:Hd (Below w1.heap.size w1 v3):=by unfold Hd;rw [hw];exact CC.o
     clear hw;clear CC;have CC:=CN;clear CN;have hy3:=CC.o.size
     try go_wp2_with fail
     refine hK.out _ _ (KP.o _ CC.o) (fun hHeld=>?_);clear hK KK
     try simp only [Act.put,sLs]
     refine wpAnyH_ready (rs:=[23,30]) (by kernel_rfl) (by simp) ?_;refine AllReadyH.cons rfl (fun KK hK=>?_) (AllReadyH.cons rfl (fun KK hK=>?_) AllReadyH.nil)
     ·
      go_simp
      refine (Zar s3 _ (HZ.o 3)).mono ?_;rintro e v4 ⟨rfl,hw⟩;have CN:Hd (Below w1.heap.size w1 v4):=by unfold Hd;rw [hw];exact CC.o
      clear hw;clear CC;have CC:=CN;clear CN;have hy4:=CC.o.size
      try go_wp2_with fail
      refine hK.out _ _ (KP.o _ CC.o) (fun hHeld=>?_);clear hK KK
      try simp only [Act.put,sLs]
      refine wpAnyH_ready (rs:=[28,30]) (by kernel_rfl) (by simp) ?_;refine AllReadyH.cons rfl (fun KK hK=>?_) (AllReadyH.cons rfl (fun KK hK=>?_) AllReadyH.nil)
      ·
       go_simp
       refine (Zar s4 _ (HZ.o 4)).mono ?_;rintro e v5 ⟨rfl,hw⟩;have CN:Hd (Below w1.heap.size w1 v5):=by unfold Hd;rw [hw];exact CC.o
       clear hw;clear CC;have CC:=CN;clear CN;have hy5:=CC.o.size
       try go_wp2_with fail
       refine hK.out _ _ (KP.o _ CC.o) (fun hHeld=>?_);clear hK KK
       try simp only [Act.put,sLs]
       refine tH 29 (.agg #[.string nm,.int .i64 0,.bool en,.int .i64 (Zaq s0),.int .i64 (Zaq s1),.int .i64 (Zaq s2),.int .i64 (Zaq s3),.int .i64 0,.int .i64 (Zaq s4),.int .i64 0,.int .i64 0,.int .i64 0,.int .i64 0]) rfl hHeld ?_
       try simp only [Act.put,sLs]
       refine wpAnyH_ready (rs:=[30]) (by kernel_rfl) (by simp) ?_;refine AllReadyH.cons rfl (fun KK hK=>?_) AllReadyH.nil
       go_simp
       obtain⟨v6,hv'⟩:∃ vv,vv=v5.alloc (.cells #[.string ⟨#[]⟩,.int .i64 0,.bool false,.int .i64 0,.int .i64 0,.int .i64 0,.int .i64 0,.int .i64 0,.int .i64 0,.int .i64 0,.int .i64 0,.int .i64 0,.int .i64 0] 118):=⟨_,rfl⟩
       rw [<- hv'];have hb:Below v5.heap.size v5 v6:=by rw [hv'];exact Zac _ _
       have BX:Hd (Box v6 v5.heap.size #[.string ⟨#[]⟩,.int .i64 0,.bool false,.int .i64 0,.int .i64 0,.int .i64 0,.int .i64 0,.int .i64 0,.int .i64 0,.int .i64 0,.int .i64 0,.int .i64 0,.int .i64 0]):=by unfold Hd;rw [hv'];exact Box.new _ _ _ _ rfl
       clear hv';replace CC:Hd (Below w1.heap.size w1 v6):=zbt CC.o hb;clear hb;have hy6:=CC.o.size;have hx6:=BX.o.lt;refine hK.out _ _ (KP.o _ CC.o) (fun hHeld=>?_);clear hK KK
       try simp only [Act.put,sLs]
       refine wpAnyH_ready (rs:=[31]) (by kernel_rfl) (by simp) ?_;refine AllReadyH.cons rfl (fun KK hK=>?_) AllReadyH.nil;have HTH:Hd (World.there v6 (v5.heap.size) 0 13):=BX.o.there rfl;rw [if_pos (by rfl)];refine wp_store_mid 118 (.tmp 5) (.tmp 40) rfl (v5.heap.size) 0 #[.string nm,.int .i64 0,.bool en,.int .i64 (Zaq s0),.int .i64 (Zaq s1),.int .i64 (Zaq s2),.int .i64 (Zaq s3),.int .i64 0,.int .i64 (Zaq s4),.int .i64 0,.int .i64 0,.int .i64 0,.int .i64 0] rfl rfl HTH.o Za9 (by simp [Value.oneCell']) ?_;refine hK.out _ _ (KP.o _ (Below.sets (by omega) _ _ CC.o)) (fun hHeld=>?_);clear hK KK
       try simp only [Act.put,List.getElem_toArray,List.getElem_cons_succ,List.getElem_cons_zero]
       refine wpAnyH_done (by kernel_rfl) ?_ _;go_wp2;go_meet;exact⟨v5.heap.size,rfl,Below.sets (by omega) _ _ CC.o,BX.o.full rfl,by omega⟩
      ·
       go_simp
       obtain⟨v5,hv'⟩:∃ vv,vv=v4.alloc (.cells #[.string ⟨#[]⟩,.int .i64 0,.bool false,.int .i64 0,.int .i64 0,.int .i64 0,.int .i64 0,.int .i64 0,.int .i64 0,.int .i64 0,.int .i64 0,.int .i64 0,.int .i64 0] 118):=⟨_,rfl⟩
       rw [<- hv'];have hb:Below v4.heap.size v4 v5:=by rw [hv'];exact Zac _ _
       have BX:Hd (Box v5 v4.heap.size #[.string ⟨#[]⟩,.int .i64 0,.bool false,.int .i64 0,.int .i64 0,.int .i64 0,.int .i64 0,.int .i64 0,.int .i64 0,.int .i64 0,.int .i64 0,.int .i64 0,.int .i64 0]):=by unfold Hd;rw [hv'];exact Box.new _ _ _ _ rfl
       clear hv';replace CC:Hd (Below w1.heap.size w1 v5):=zbt CC.o hb;clear hb;have hy5:=CC.o.size;have hx5:=BX.o.lt;refine hK.out _ _ (KP.o _ CC.o) (fun hHeld=>?_);clear hK KK
       try simp only [Act.put,sLs]
       refine wpAnyH_ready (rs:=[28]) (by kernel_rfl) (by simp) ?_;refine AllReadyH.cons rfl (fun KK hK=>?_) AllReadyH.nil
       go_simp
       refine (Zar s4 _ (HZ.o 4)).mono ?_;rintro e v6 ⟨rfl,hw⟩;have CN:Hd (Below w1.heap.size w1 v6):=by unfold Hd;rw [hw];exact CC.o
       replace BX:Hd (Box v6 (v4.heap.size) #[.string ⟨#[]⟩,.int .i64 0,.bool false,.int .i64 0,.int .i64 0,.int .i64 0,.int .i64 0,.int .i64 0,.int .i64 0,.int .i64 0,.int .i64 0,.int .i64 0,.int .i64 0]):=by unfold Hd;rw [hw];exact BX.o
       clear hw;clear CC;have CC:=CN;clear CN;have hy6:=CC.o.size
       try go_wp2_with fail
       have hx6:=BX.o.lt;refine hK.out _ _ (KP.o _ CC.o) (fun hHeld=>?_);clear hK KK
       try simp only [Act.put,sLs]
       refine tH 29 (.agg #[.string nm,.int .i64 0,.bool en,.int .i64 (Zaq s0),.int .i64 (Zaq s1),.int .i64 (Zaq s2),.int .i64 (Zaq s3),.int .i64 0,.int .i64 (Zaq s4),.int .i64 0,.int .i64 0,.int .i64 0,.int .i64 0]) rfl hHeld ?_
       try simp only [Act.put,sLs]
       refine wpAnyH_ready (rs:=[31]) (by kernel_rfl) (by simp) ?_;refine AllReadyH.cons rfl (fun KK hK=>?_) AllReadyH.nil;have HTH:Hd (World.there v6 (v4.heap.size) 0 13):=BX.o.there rfl;rw [if_pos (by rfl)];refine wp_store_mid 118 (.tmp 5) (.tmp 40) rfl (v4.heap.size) 0 #[.string nm,.int .i64 0,.bool en,.int .i64 (Zaq s0),.int .i64 (Zaq s1),.int .i64 (Zaq s2),.int .i64 (Zaq s3),.int .i64 0,.int .i64 (Zaq s4),.int .i64 0,.int .i64 0,.int .i64 0,.int .i64 0] rfl rfl HTH.o Za9 (by simp [Value.oneCell']) ?_;refine hK.out _ _ (KP.o _ (Below.sets (by omega) _ _ CC.o)) (fun hHeld=>?_);clear hK KK
       try simp only [Act.put,List.getElem_toArray,List.getElem_cons_succ,List.getElem_cons_zero]
       refine wpAnyH_done (by kernel_rfl) ?_ _;go_wp2;go_meet;exact⟨v4.heap.size,rfl,Below.sets (by omega) _ _ CC.o,BX.o.full rfl,by omega⟩
     ·
      go_simp
      obtain⟨v4,hv'⟩:∃ vv,vv=v3.alloc (.cells #[.string ⟨#[]⟩,.int .i64 0,.bool false,.int .i64 0,.int .i64 0,.int .i64 0,.int .i64 0,.int .i64 0,.int .i64 0,.int .i64 0,.int .i64 0,.int .i64 0,.int .i64 0] 118):=⟨_,rfl⟩
      rw [<- hv'];have hb:Below v3.heap.size v3 v4:=by rw [hv'];exact Zac _ _
      have BX:Hd (Box v4 v3.heap.size #[.string ⟨#[]⟩,.int .i64 0,.bool false,.int .i64 0,.int .i64 0,.int .i64 0,.int .i64 0,.int .i64 0,.int .i64 0,.int .i64 0,.int .i64 0,.int .i64 0,.int .i64 0]):=by unfold Hd;rw [hv'];exact Box.new _ _ _ _ rfl
      clear hv';replace CC:Hd (Below w1.heap.size w1 v4):=zbt CC.o hb;clear hb;have hy4:=CC.o.size;have hx4:=BX.o.lt;refine hK.out _ _ (KP.o _ CC.o) (fun hHeld=>?_);clear hK KK
      try simp only [Act.put,sLs]
      refine wpAnyH_ready (rs:=[23]) (by kernel_rfl) (by simp) ?_;refine AllReadyH.cons rfl (fun KK hK=>?_) AllReadyH.nil
      go_simp
      refine (Zar s3 _ (HZ.o 3)).mono ?_;rintro e v5 ⟨rfl,hw⟩;have CN:Hd (Below w1.heap.size w1 v5):=by unfold Hd;rw [hw];exact CC.o
      replace BX:Hd (Box v5 (v3.heap.size) #[.string ⟨#[]⟩,.int .i64 0,.bool false,.int .i64 0,.int .i64 0,.int .i64 0,.int .i64 0,.int .i64 0,.int .i64 0,.int .i64 0,.int .i64 0,.int .i64 0,.int .i64 0]):=by unfold Hd;rw [hw];exact BX.o
      clear hw;clear CC;have CC:=CN;clear CN;have hy5:=CC.o.size
      try go_wp2_with fail
      have hx5:=BX.o.lt;refine hK.out _ _ (KP.o _ CC.o) (fun hHeld=>?_);clear hK KK
      try simp only [Act.put,sLs]
      refine wpAnyH_ready (rs:=[28]) (by kernel_rfl) (by simp) ?_;refine AllReadyH.cons rfl (fun KK hK=>?_) AllReadyH.nil
      go_simp
      refine (Zar s4 _ (HZ.o 4)).mono ?_;rintro e v6 ⟨rfl,hw⟩;have CN:Hd (Below w1.heap.size w1 v6):=by unfold Hd;rw [hw];exact CC.o
      replace BX:Hd (Box v6 (v3.heap.size) #[.string ⟨#[]⟩,.int .i64 0,.bool false,.int .i64 0,.int .i64 0,.int .i64 0,.int .i64 0,.int .i64 0,.int .i64 0,.int .i64 0,.int .i64 0,.int .i64 0,.int .i64 0]):=by unfold Hd;rw [hw];exact BX.o
      clear hw;clear CC;have CC:=CN;clear CN;have hy6:=CC.o.size
      try go_wp2_with fail
      have hx6:=BX.o.lt;refine hK.out _ _ (KP.o _ CC.o) (fun hHeld=>?_);clear hK KK
      try simp only [Act.put,sLs]
      refine tH 29 (.agg #[.string nm,.int .i64 0,.bool en,.int .i64 (Zaq s0),.int .i64 (Zaq s1),.int .i64 (Zaq s2),.int .i64 (Zaq s3),.int .i64 0,.int .i64 (Zaq s4),.int .i64 0,.int .i64 0,.int .i64 0,.int .i64 0]) rfl hHeld ?_
      try simp only [Act.put,sLs]
      refine wpAnyH_ready (rs:=[31]) (by kernel_rfl) (by simp) ?_;refine AllReadyH.cons rfl (fun KK hK=>?_) AllReadyH.nil;have HTH:Hd (World.there v6 (v3.heap.size) 0 13):=BX.o.there rfl;rw [if_pos (by rfl)];refine wp_store_mid 118 (.tmp 5) (.tmp 40) rfl (v3.heap.size) 0 #[.string nm,.int .i64 0,.bool en,.int .i64 (Zaq s0),.int .i64 (Zaq s1),.int .i64 (Zaq s2),.int .i64 (Zaq s3),.int .i64 0,.int .i64 (Zaq s4),.int .i64 0,.int .i64 0,.int .i64 0,.int .i64 0] rfl rfl HTH.o Za9 (by simp [Value.oneCell']) ?_;refine hK.out _ _ (KP.o _ (Below.sets (by omega) _ _ CC.o)) (fun hHeld=>?_);clear hK KK
      try simp only [Act.put,List.getElem_toArray,List.getElem_cons_succ,List.getElem_cons_zero]
      refine wpAnyH_done (by kernel_rfl) ?_ _;go_wp2;go_meet;exact⟨v3.heap.size,rfl,Below.sets (by omega) _ _ CC.o,BX.o.full rfl,by omega⟩
    ·
     go_simp
     obtain⟨v3,hv'⟩:∃ vv,vv=v2.alloc (.cells #[.string ⟨#[]⟩,.int .i64 0,.bool false,.int .i64 0,.int .i64 0,.int .i64 0,.int .i64 0,.int .i64 0,.int .i64 0,.int .i64 0,.int .i64 0,.int .i64 0,.int .i64 0] 118):=⟨_,rfl⟩
     rw [<- hv'];have hb:Below v2.heap.size v2 v3:=by rw [hv'];exact Zac _ _
     have BX:Hd (Box v3 v2.heap.size #[.string ⟨#[]⟩,.int .i64 0,.bool false,.int .i64 0,.int .i64 0,.int .i64 0,.int .i64 0,.int .i64 0,.int .i64 0,.int .i64 0,.int .i64 0,.int .i64 0,.int .i64 0]):=by unfold Hd;rw [hv'];exact Box.new _ _ _ _ rfl
     clear hv';replace CC:Hd (Below w1.heap.size w1 v3):=zbt CC.o hb;clear hb;have hy3:=CC.o.size;have hx3:=BX.o.lt;refine hK.out _ _ (KP.o _ CC.o) (fun hHeld=>?_);clear hK KK
     try simp only [Act.put,sLs]
     refine wpAnyH_ready (rs:=[18]) (by kernel_rfl) (by simp) ?_;refine AllReadyH.cons rfl (fun KK hK=>?_) AllReadyH.nil
     go_simp
     refine (Zar s2 _ (HZ.o 2)).mono ?_;rintro e v4 ⟨rfl,hw⟩;have CN:Hd (Below w1.heap.size w1 v4):=by unfold Hd;rw [hw];exact CC.o
     replace BX:Hd (Box v4 (v2.heap.size) #[.string ⟨#[]⟩,.int .i64 0,.bool false,.int .i64 0,.int .i64 0,.int .i64 0,.int .i64 0,.int .i64 0,.int .i64 0,.int .i64 0,.int .i64 0,.int .i64 0,.int .i64 0]):=by unfold Hd;rw [hw];exact BX.o
     clear hw;clear CC;have CC:=CN;clear CN;have hy4:=CC.o.size
     try go_wp2_with fail
     have hx4:=BX.o.lt;refine hK.out _ _ (KP.o _ CC.o) (fun hHeld=>?_);clear hK KK
     try simp only [Act.put,sLs]
     refine wpAnyH_ready (rs:=[23]) (by kernel_rfl) (by simp) ?_;refine AllReadyH.cons rfl (fun KK hK=>?_) AllReadyH.nil
     go_simp
     refine (Zar s3 _ (HZ.o 3)).mono ?_;rintro e v5 ⟨rfl,hw⟩;have CN:Hd (Below w1.heap.size w1 v5):=by unfold Hd;rw [hw];exact CC.o
     replace BX:Hd (Box v5 (v2.heap.size) #[.string ⟨#[]⟩,.int .i64 0,.bool false,.int .i64 0,.int .i64 0,.int .i64 0,.int .i64 0,.int .i64 0,.int .i64 0,.int .i64 0,.int .i64 0,.int .i64 0,.int .i64 0]):=by unfold Hd;rw [hw];exact BX.o
     clear hw;clear CC;have CC:=CN;clear CN;have hy5:=CC.o.size
     try go_wp2_with fail
     have hx5:=BX.o.lt;refine hK.out _ _ (KP.o _ CC.o) (fun hHeld=>?_);clear hK KK
     try simp only [Act.put,sLs]
     refine wpAnyH_ready (rs:=[28]) (by kernel_rfl) (by simp) ?_;refine AllReadyH.cons rfl (fun KK hK=>?_) AllReadyH.nil
     go_simp
     refine (Zar s4 _ (HZ.o 4)).mono ?_;rintro e v6 ⟨rfl,hw⟩;have CN:Hd (Below w1.heap.size w1 v6):=by unfold Hd;rw [hw];exact CC.o
     replace BX:Hd (Box v6 (v2.heap.size) #[.string ⟨#[]⟩,.int .i64 0,.bool false,.int .i64 0,.int .i64 0,.int .i64 0,.int .i64 0,.int .i64 0,.int .i64 0,.int .i64 0,.int .i64 0,.int .i64 0,.int .i64 0]):=by unfold Hd;rw [hw];exact BX.o
     clear hw;clear CC;have CC:=CN;clear CN;have hy6:=CC.o.size
     try go_wp2_with fail
     have hx6:=BX.o.lt;refine hK.out _ _ (KP.o _ CC.o) (fun hHeld=>?_);clear hK KK
     try simp only [Act.put,sLs]
     refine tH 29 (.agg #[.string nm,.int .i64 0,.bool en,.int .i64 (Zaq s0),.int .i64 (Zaq s1),.int .i64 (Zaq s2),.int .i64 (Zaq s3),.int .i64 0,.int .i64 (Zaq s4),.int .i64 0,.int .i64 0,.int .i64 0,.int .i64 0]) rfl hHeld ?_
     try simp only [Act.put,sLs]
     refine wpAnyH_ready (rs:=[31]) (by kernel_rfl) (by simp) ?_;refine AllReadyH.cons rfl (fun KK hK=>?_) AllReadyH.nil;have HTH:Hd (World.there v6 (v2.heap.size) 0 13):=BX.o.there rfl;rw [if_pos (by rfl)];refine wp_store_mid 118 (.tmp 5) (.tmp 40) rfl (v2.heap.size) 0 #[.string nm,.int .i64 0,.bool en,.int .i64 (Zaq s0),.int .i64 (Zaq s1),.int .i64 (Zaq s2),.int .i64 (Zaq s3),.int .i64 0,.int .i64 (Zaq s4),.int .i64 0,.int .i64 0,.int .i64 0,.int .i64 0] rfl rfl HTH.o Za9 (by simp [Value.oneCell']) ?_;refine hK.out _ _ (KP.o _ (Below.sets (by omega) _ _ CC.o)) (fun hHeld=>?_);clear hK KK
     try simp only [Act.put,List.getElem_toArray,List.getElem_cons_succ,List.getElem_cons_zero]
     refine wpAnyH_done (by kernel_rfl) ?_ _;go_wp2;go_meet;exact⟨v2.heap.size,rfl,Below.sets (by omega) _ _ CC.o,BX.o.full rfl,by omega⟩
   ·
    go_simp
    obtain⟨v2,hv'⟩:∃ vv,vv=v1.alloc (.cells #[.string ⟨#[]⟩,.int .i64 0,.bool false,.int .i64 0,.int .i64 0,.int .i64 0,.int .i64 0,.int .i64 0,.int .i64 0,.int .i64 0,.int .i64 0,.int .i64 0,.int .i64 0] 118):=⟨_,rfl⟩
    rw [<- hv'];have hb:Below v1.heap.size v1 v2:=by rw [hv'];exact Zac _ _
    have BX:Hd (Box v2 v1.heap.size #[.string ⟨#[]⟩,.int .i64 0,.bool false,.int .i64 0,.int .i64 0,.int .i64 0,.int .i64 0,.int .i64 0,.int .i64 0,.int .i64 0,.int .i64 0,.int .i64 0,.int .i64 0]):=by unfold Hd;rw [hv'];exact Box.new _ _ _ _ rfl
    clear hv';replace CC:Hd (Below w1.heap.size w1 v2):=zbt CC.o hb;clear hb;have hy2:=CC.o.size;have hx2:=BX.o.lt;refine hK.out _ _ (KP.o _ CC.o) (fun hHeld=>?_);clear hK KK
    try simp only [Act.put,sLs]
    refine wpAnyH_ready (rs:=[13]) (by kernel_rfl) (by simp) ?_;refine AllReadyH.cons rfl (fun KK hK=>?_) AllReadyH.nil
    go_simp
    refine (Zar s1 _ (HZ.o 1)).mono ?_;rintro e v3 ⟨rfl,hw⟩;have CN:Hd (Below w1.heap.size w1 v3):=by unfold Hd;rw [hw];exact CC.o
    replace BX:Hd (Box v3 (v1.heap.size) #[.string ⟨#[]⟩,.int .i64 0,.bool false,.int .i64 0,.int .i64 0,.int .i64 0,.int .i64 0,.int .i64 0,.int .i64 0,.int .i64 0,.int .i64 0,.int .i64 0,.int .i64 0]):=by unfold Hd;rw [hw];exact BX.o
    clear hw;clear CC;have CC:=CN;clear CN;have hy3:=CC.o.size
    try go_wp2_with fail
    have hx3:=BX.o.lt;refine hK.out _ _ (KP.o _ CC.o) (fun hHeld=>?_);clear hK KK
    try simp only [Act.put,sLs]
    refine wpAnyH_ready (rs:=[18]) (by kernel_rfl) (by simp) ?_;refine AllReadyH.cons rfl (fun KK hK=>?_) AllReadyH.nil
    go_simp
    refine (Zar s2 _ (HZ.o 2)).mono ?_;rintro e v4 ⟨rfl,hw⟩;have CN:Hd (Below w1.heap.size w1 v4):=by unfold Hd;rw [hw];exact CC.o
    replace BX:Hd (Box v4 (v1.heap.size) #[.string ⟨#[]⟩,.int .i64 0,.bool false,.int .i64 0,.int .i64 0,.int .i64 0,.int .i64 0,.int .i64 0,.int .i64 0,.int .i64 0,.int .i64 0,.int .i64 0,.int .i64 0]):=by unfold Hd;rw [hw];exact BX.o
    clear hw;clear CC;have CC:=CN;clear CN;have hy4:=CC.o.size
    try go_wp2_with fail
    have hx4:=BX.o.lt;refine hK.out _ _ (KP.o _ CC.o) (fun hHeld=>?_);clear hK KK
    try simp only [Act.put,sLs]
    refine wpAnyH_ready (rs:=[23]) (by kernel_rfl) (by simp) ?_;refine AllReadyH.cons rfl (fun KK hK=>?_) AllReadyH.nil
    go_simp
    refine (Zar s3 _ (HZ.o 3)).mono ?_;rintro e v5 ⟨rfl,hw⟩;have CN:Hd (Below w1.heap.size w1 v5):=by unfold Hd;rw [hw];exact CC.o
    replace BX:Hd (Box v5 (v1.heap.size) #[.string ⟨#[]⟩,.int .i64 0,.bool false,.int .i64 0,.int .i64 0,.int .i64 0,.int .i64 0,.int .i64 0,.int .i64 0,.int .i64 0,.int .i64 0,.int .i64 0,.int .i64 0]):=by unfold Hd;rw [hw];exact BX.o
    clear hw;clear CC;have CC:=CN;clear CN;have hy5:=CC.o.size
    try go_wp2_with fail
    have hx5:=BX.o.lt;refine hK.out _ _ (KP.o _ CC.o) (fun hHeld=>?_);clear hK KK
    try simp only [Act.put,sLs]
    refine wpAnyH_ready (rs:=[28]) (by kernel_rfl) (by simp) ?_;refine AllReadyH.cons rfl (fun KK hK=>?_) AllReadyH.nil
    go_simp
    refine (Zar s4 _ (HZ.o 4)).mono ?_;rintro e v6 ⟨rfl,hw⟩;have CN:Hd (Below w1.heap.size w1 v6):=by unfold Hd;rw [hw];exact CC.o
    replace BX:Hd (Box v6 (v1.heap.size) #[.string ⟨#[]⟩,.int .i64 0,.bool false,.int .i64 0,.int .i64 0,.int .i64 0,.int .i64 0,.int .i64 0,.int .i64 0,.int .i64 0,.int .i64 0,.int .i64 0,.int .i64 0]):=by unfold Hd;rw [hw];exact BX.o
    clear hw;clear CC;have CC:=CN;clear CN;have hy6:=CC.o.size
    try go_wp2_with fail
    have hx6:=BX.o.lt;refine hK.out _ _ (KP.o _ CC.o) (fun hHeld=>?_);clear hK KK
    try simp only [Act.put,sLs]
    refine tH 29 (.agg #[.string nm,.int .i64 0,.bool en,.int .i64 (Zaq s0),.int .i64 (Zaq s1),.int .i64 (Zaq s2),.int .i64 (Zaq s3),.int .i64 0,.int .i64 (Zaq s4),.int .i64 0,.int .i64 0,.int .i64 0,.int .i64 0]) rfl hHeld ?_
    try simp only [Act.put,sLs]
    refine wpAnyH_ready (rs:=[31]) (by kernel_rfl) (by simp) ?_;refine AllReadyH.cons rfl (fun KK hK=>?_) AllReadyH.nil;have HTH:Hd (World.there v6 (v1.heap.size) 0 13):=BX.o.there rfl;rw [if_pos (by rfl)];refine wp_store_mid 118 (.tmp 5) (.tmp 40) rfl (v1.heap.size) 0 #[.string nm,.int .i64 0,.bool en,.int .i64 (Zaq s0),.int .i64 (Zaq s1),.int .i64 (Zaq s2),.int .i64 (Zaq s3),.int .i64 0,.int .i64 (Zaq s4),.int .i64 0,.int .i64 0,.int .i64 0,.int .i64 0] rfl rfl HTH.o Za9 (by simp [Value.oneCell']) ?_;refine hK.out _ _ (KP.o _ (Below.sets (by omega) _ _ CC.o)) (fun hHeld=>?_);clear hK KK
    try simp only [Act.put,List.getElem_toArray,List.getElem_cons_succ,List.getElem_cons_zero]
    refine wpAnyH_done (by kernel_rfl) ?_ _;go_wp2;go_meet;exact⟨v1.heap.size,rfl,Below.sets (by omega) _ _ CC.o,BX.o.full rfl,by omega⟩
  ·
   go_simp
   obtain⟨v1,hv'⟩:∃ vv,vv=(w1.alloc (.cells #[.string ⟨#[]⟩,.int .i64 0,.bool false,.int .i64 0,.int .i64 0,.int .i64 0,.int .i64 0,.int .i64 0,.int .i64 0,.int .i64 0,.int .i64 0,.int .i64 0,.int .i64 0] 118)).drew:=⟨_,rfl⟩
   rw [<- hv'];have hb:Below w1.heap.size w1 v1:=by rw [hv'];exact (Zac _ _).drew
   have BX:Hd (Box v1 w1.heap.size #[.string ⟨#[]⟩,.int .i64 0,.bool false,.int .i64 0,.int .i64 0,.int .i64 0,.int .i64 0,.int .i64 0,.int .i64 0,.int .i64 0,.int .i64 0,.int .i64 0,.int .i64 0]):=by unfold Hd;rw [hv'];exact (Box.new _ _ _ _ rfl).drew
   clear hv';have CC:Hd (Below w1.heap.size w1 v1):=hb;clear hb;have hy1:=CC.o.size;have hx1:=BX.o.lt;refine hK.out _ _ (KP.o _ CC.o) (fun hHeld=>?_);clear hK KK
   try simp only [Act.put,sLs]
   refine wpAnyH_ready (rs:=[8]) (by kernel_rfl) (by simp) ?_;refine AllReadyH.cons rfl (fun KK hK=>?_) AllReadyH.nil
   go_simp
   refine (Zar s0 _ (HZ.o 0)).mono ?_;rintro e v2 ⟨rfl,hw⟩;have CN:Hd (Below w1.heap.size w1 v2):=by unfold Hd;rw [hw];exact CC.o
   replace BX:Hd (Box v2 (w1.heap.size) #[.string ⟨#[]⟩,.int .i64 0,.bool false,.int .i64 0,.int .i64 0,.int .i64 0,.int .i64 0,.int .i64 0,.int .i64 0,.int .i64 0,.int .i64 0,.int .i64 0,.int .i64 0]):=by unfold Hd;rw [hw];exact BX.o
   clear hw;clear CC;have CC:=CN;clear CN;have hy2:=CC.o.size
   try go_wp2_with fail
   have hx2:=BX.o.lt;refine hK.out _ _ (KP.o _ CC.o) (fun hHeld=>?_);clear hK KK
   try simp only [Act.put,sLs]
   refine wpAnyH_ready (rs:=[13]) (by kernel_rfl) (by simp) ?_;refine AllReadyH.cons rfl (fun KK hK=>?_) AllReadyH.nil
   go_simp
   refine (Zar s1 _ (HZ.o 1)).mono ?_;rintro e v3 ⟨rfl,hw⟩;have CN:Hd (Below w1.heap.size w1 v3):=by unfold Hd;rw [hw];exact CC.o
   replace BX:Hd (Box v3 (w1.heap.size) #[.string ⟨#[]⟩,.int .i64 0,.bool false,.int .i64 0,.int .i64 0,.int .i64 0,.int .i64 0,.int .i64 0,.int .i64 0,.int .i64 0,.int .i64 0,.int .i64 0,.int .i64 0]):=by unfold Hd;rw [hw];exact BX.o
   clear hw;clear CC;have CC:=CN;clear CN;have hy3:=CC.o.size
   try go_wp2_with fail
   have hx3:=BX.o.lt;refine hK.out _ _ (KP.o _ CC.o) (fun hHeld=>?_);clear hK KK
   try simp only [Act.put,sLs]
   refine wpAnyH_ready (rs:=[18]) (by kernel_rfl) (by simp) ?_;refine AllReadyH.cons rfl (fun KK hK=>?_) AllReadyH.nil
   go_simp
   refine (Zar s2 _ (HZ.o 2)).mono ?_;rintro e v4 ⟨rfl,hw⟩;have CN:Hd (Below w1.heap.size w1 v4):=by unfold Hd;rw [hw];exact CC.o
   replace BX:Hd (Box v4 (w1.heap.size) #[.string ⟨#[]⟩,.int .i64 0,.bool false,.int .i64 0,.int .i64 0,.int .i64 0,.int .i64 0,.int .i64 0,.int .i64 0,.int .i64 0,.int .i64 0,.int .i64 0,.int .i64 0]):=by unfold Hd;rw [hw];exact BX.o
   clear hw;clear CC;have CC:=CN;clear CN;have hy4:=CC.o.size
   try go_wp2_with fail
   have hx4:=BX.o.lt;refine hK.out _ _ (KP.o _ CC.o) (fun hHeld=>?_);clear hK KK
   try simp only [Act.put,sLs]
   refine wpAnyH_ready (rs:=[23]) (by kernel_rfl) (by simp) ?_;refine AllReadyH.cons rfl (fun KK hK=>?_) AllReadyH.nil
   go_simp
   refine (Zar s3 _ (HZ.o 3)).mono ?_;rintro e v5 ⟨rfl,hw⟩;have CN:Hd (Below w1.heap.size w1 v5):=by unfold Hd;rw [hw];exact CC.o
   replace BX:Hd (Box v5 (w1.heap.size) #[.string ⟨#[]⟩,.int .i64 0,.bool false,.int .i64 0,.int .i64 0,.int .i64 0,.int .i64 0,.int .i64 0,.int .i64 0,.int .i64 0,.int .i64 0,.int .i64 0,.int .i64 0]):=by unfold Hd;rw [hw];exact BX.o
   clear hw;clear CC;have CC:=CN;clear CN;have hy5:=CC.o.size
   try go_wp2_with fail
   have hx5:=BX.o.lt;refine hK.out _ _ (KP.o _ CC.o) (fun hHeld=>?_);clear hK KK
   try simp only [Act.put,sLs]
   refine wpAnyH_ready (rs:=[28]) (by kernel_rfl) (by simp) ?_;refine AllReadyH.cons rfl (fun KK hK=>?_) AllReadyH.nil
   go_simp
   refine (Zar s4 _ (HZ.o 4)).mono ?_;rintro e v6 ⟨rfl,hw⟩;have CN:Hd (Below w1.heap.size w1 v6):=by unfold Hd;rw [hw];exact CC.o
   replace BX:Hd (Box v6 (w1.heap.size) #[.string ⟨#[]⟩,.int .i64 0,.bool false,.int .i64 0,.int .i64 0,.int .i64 0,.int .i64 0,.int .i64 0,.int .i64 0,.int .i64 0,.int .i64 0,.int .i64 0,.int .i64 0]):=by unfold Hd;rw [hw];exact BX.o
   clear hw;clear CC;have CC:=CN;clear CN;have hy6:=CC.o.size
   try go_wp2_with fail
   have hx6:=BX.o.lt;refine hK.out _ _ (KP.o _ CC.o) (fun hHeld=>?_);clear hK KK
   try simp only [Act.put,sLs]
   refine tH 29 (.agg #[.string nm,.int .i64 0,.bool en,.int .i64 (Zaq s0),.int .i64 (Zaq s1),.int .i64 (Zaq s2),.int .i64 (Zaq s3),.int .i64 0,.int .i64 (Zaq s4),.int .i64 0,.int .i64 0,.int .i64 0,.int .i64 0]) rfl hHeld ?_
   try simp only [Act.put,sLs]
   refine wpAnyH_ready (rs:=[31]) (by kernel_rfl) (by simp) ?_;refine AllReadyH.cons rfl (fun KK hK=>?_) AllReadyH.nil;have HTH:Hd (World.there v6 (w1.heap.size) 0 13):=BX.o.there rfl;rw [if_pos (by rfl)];refine wp_store_mid 118 (.tmp 5) (.tmp 40) rfl (w1.heap.size) 0 #[.string nm,.int .i64 0,.bool en,.int .i64 (Zaq s0),.int .i64 (Zaq s1),.int .i64 (Zaq s2),.int .i64 (Zaq s3),.int .i64 0,.int .i64 (Zaq s4),.int .i64 0,.int .i64 0,.int .i64 0,.int .i64 0] rfl rfl HTH.o Za9 (by simp [Value.oneCell']) ?_;refine hK.out _ _ (KP.o _ (Below.sets (by omega) _ _ CC.o)) (fun hHeld=>?_);clear hK KK
   try simp only [Act.put,List.getElem_toArray,List.getElem_cons_succ,List.getElem_cons_zero]
   refine wpAnyH_done (by kernel_rfl) ?_ _;go_wp2;go_meet;exact⟨w1.heap.size,rfl,Below.sets (by omega) _ _ CC.o,BX.o.full rfl,by omega⟩
 case rest=>
 obtain⟨β,rfl,hbc,hX,hβ⟩:=hcut;have HBc:Hd (Zw_ w wc):=zbt HB.o hbc;have hq:=HSZ.o;have x:=hX.cell;have xf:=hX.free;have d:=(FD.o.on hbc).cell;have r:=(FR.o.on hbc).cell;have rf:=(FR.o.on hbc).free;have r':∀ i,wc.cell? ⟨w.heap.size+1+1,i,none⟩=_:=r
 have hxl:=hX.lt;have hrl:=(FR.o.on hbc).lt;have HX:=Zab hX;have HRX:=Zab (FR.o.on hbc);have hq2:w.heap.size+3<=β:=by omega
 clear hX hbc FO FD FR KP H6 H61 HB HZ hq HSZ;unfold svL at d
 by_cases h4:Zaq s4=0
 . rw [if_pos h4] at HE
   generalize Zaq s4=p4 at*;subst h4;go_wp2;refine bodyPost_ret (v:=.agg (svL R).toArray) (by rw [HE.o];simp [results,results58,go_sem,svL,r']) rfl ⟨rfl,?_⟩
   repeat (refine Below.setCell ?_ (by simp;try omega) _)
   exact HBc.o
 . rw [if_neg h4] at HE
   have h4':0 < Zaq s4:=by have:=HN4.o;omega
   clear HN4;have nb1:¬ (w.heap.size+1=β):=by omega
   have nb2:¬ (β=w.heap.size+1):=by omega
   have nb3:¬ (β=w.heap.size+1+1):=by omega
   have nb4:¬ (w.heap.size+1+1=β):=by omega
   by_cases hw:old.wa < Zaq s1
   . rw [if_pos hw] at HE
     go_wp2;refine bodyPost_ret (v:=.agg (svL R).toArray) (by rw [HE.o];simp [results,results58,go_sem,svL,r']) rfl ⟨rfl,?_⟩
     repeat (refine Below.setCell ?_ (by simp;try omega) _)
     exact HBc.o
   . rw [if_neg hw] at HE
     go_wp2;refine bodyPost_ret (v:=.agg (svL R).toArray) (by rw [HE.o];simp [results,results58,go_sem,svL,r']) rfl ⟨rfl,?_⟩
     repeat (refine Below.setCell ?_ (by simp;try omega) _)
     exact HBc.o
end Go.Proofs.YtbdhbihhgfpnnaaGreat
