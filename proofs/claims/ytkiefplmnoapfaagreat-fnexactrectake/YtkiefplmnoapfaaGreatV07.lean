import Derived.Test.YtkiefplmnoapfaaGreatV04
set_option maxHeartbeats 16000000
set_option maxRecDepth 100000
open Go.Proofs.Tryz
namespace Go.Proofs.YtkiefplmnoapfaaGreat
open Go.RowKit Go.Deep
variable {lo B k:Nat} {w wr w1:World} {v:Value} {Xl:List Rm}
theorem RmC.sets {b:Nat} (hb:b < lo) {cs:List Value} {x:Rm}:∀ (vs:List Value) (o:Nat) {w:World},RmC lo w cs x->RmC lo (w.setCells b o vs) cs x
 | [],_,_,h=>h
 | v :: vs,o,_,h=>RmC.sets hb vs (o+1) (h.set hb v)
theorem ZeT:(prog.info? 45).map (·.size)=some 8:=by kernel_rfl
theorem Zgw:(prog.info? 32).map (·.size)=some 8:=by kernel_rfl
def Zbg (lo:Nat) (w:World) (v:Value) (Xl:List Rm):Prop:=
 (∃ (a:Option Addr) (cap:Nat),v=.slice a 0 cap/\Xl=[])\/
 ∃ (b off cap:Nat),v=.slice (some ⟨b,off,none⟩) Xl.length cap/\Xl≠[]/\Xl.length<=maxLen/\b < w.heap.size/\lo<=b/\Xl.length<=cap/\
  ∀ i (h:i < Xl.length),∃ cs,w.rangeAt b (off+i*8) cs/\RmC lo w cs Xl[i]
theorem Zbg.below {w':World} (h:Zbg lo w v Xl) (hb:Zw_ w w'):Zbg lo w' v Xl:=by
 rcases h with h | ⟨b,off,cap,h1,h2,h3,h4,h5,h6,h7⟩
 . exact Or.inl h
 . refine Or.inr ⟨b,off,cap,h1,h2,h3,Zk_ h4 hb.size,h5,h6,fun i hi=>?_⟩
   obtain⟨cs,hr,hc⟩:=h7 i hi;exact⟨cs,Zas hr hb h4,hc.below hb⟩
theorem Zbg.mono {lo':Nat} (h:Zbg lo w v Xl) (hl:lo'<=lo):Zbg lo' w v Xl:=by
 rcases h with h | ⟨b,off,cap,h1,h2,h3,h4,h5,h6,h7⟩
 . exact Or.inl h
 . refine Or.inr ⟨b,off,cap,h1,h2,h3,h4,Nat.le_trans hl h5,h6,fun i hi=>?_⟩
   obtain⟨cs,hr,hc⟩:=h7 i hi;exact⟨cs,hr,hc.mono hl⟩
theorem Zbg.set (h:Zbg lo w v Xl) {p:Addr} (hp:p.block < lo) (u:Value):Zbg lo (w.setCell p u) v Xl:=by
 rcases h with h | ⟨b,off,cap,h1,h2,h3,h4,h5,h6,h7⟩
 . exact Or.inl h
 . refine Or.inr ⟨b,off,cap,h1,h2,h3,by simpa [World.setCell] using h4,h5,h6,fun i hi=>?_⟩
   obtain⟨cs,hr,hc⟩:=h7 i hi;exact⟨cs,Zig hr (by omega) u,hc.set hp u⟩
theorem Zbg.form (h:Zbg lo w v Xl):∃ a cap,v=.slice a Xl.length cap:=by
 rcases h with ⟨a,cap,h,rfl⟩ | ⟨b,off,cap,h,_⟩
 . exact⟨a,cap,h⟩
 . exact⟨_,cap,h⟩
theorem Zbg.max (h:Zbg lo w v Xl):Xl.length<=maxLen:=by
 rcases h with ⟨a,cap,h,rfl⟩ | ⟨b,off,cap,h,_,h3,_⟩
 . exact Nat.zero_le _
 . exact h3
theorem Zbg.full' {a:Option Addr}{n cap:Nat} (h:Zbg lo w (.slice a n cap) Xl) (hL:0 < Xl.length) :
 ∃ b off,a=some ⟨b,off,none⟩/\b < w.heap.size/\lo<=b/\∀ i (h:i < Xl.length),∃ cs,w.rangeAt b (off+i*8) cs/\RmC lo w cs Xl[i]:=by
 rcases h with ⟨a',cap',h,rfl⟩ | ⟨b',off',cap',h1,h2,h3,h4,h5,h6,h7⟩
 . simp at hL
 . injection h1 with e1 e2 e3
   exact⟨b',off',e1,h4,h5,h7⟩
def ZbQ (Xl:List Rm):Prop:=Xl.length<=1048576/\∀ i (h:i < Xl.length),Zcz Xl[i]
def ZkU (Xl:List Rm) (left r:Int):Prop:= -1<=r/\r<=left/\(0<=r->ZbQ Xl)
theorem ZiK (lo:Nat) (v:Value) (Xl:List Rm) (left:Int) (w:World) (h0:0<=left) (h1:left<=1048576) (hv:Zbg lo w v Xl) :
 Calls prog 22 #[v,.int .i64 left] w fun e w'=>∃ r:Int,e=.returned (.int .i64 r)/\Zw_ w w'/\ZkU Xl left r:=by
 rcases hv with ⟨a,cap,rfl,rfl⟩ | ⟨b,off,cap,rfl,hne,hm,hbw,_,_,hc⟩
 . go_enter func22,ntmps22
   go_wp2
   go_loop [1,5] (fun l i=>∃ r:Int,l=.int .i64 r/\0<=r/\r<=left/\i=.int .i64 0) (fun _ _=>0)
   case atStart=>exact⟨_,rfl,by omega,by omega,rfl⟩
   case round=>
    obtain⟨r,rfl,hr0,hr1,rfl⟩:=hrel;go_wp2;go_ret;exact⟨r,rfl,Below.refl _ _,by omega,by omega,fun _=>⟨by simp,fun i h=>by simp at h⟩⟩
 . unfold maxLen at hm
   by_cases hle:(Xl.length:Int)<=left
   . go_enter func22,ntmps22
     go_wp2
     go_loopw [1,5] (fun l i wr=>∃ (r:Int) (k:Nat),l=.int .i64 r/\0<=r/\r<=left/\i=.int .i64 k/\k<=Xl.length/\Zw_ w wr/\∀ j (hj:j < Xl.length),j < k->Zcz Xl[j]) (fun _ i _=>Xl.length - (intOf i).toNat)
     case atStart=>exact⟨_,0,rfl,by omega,by omega,rfl,by omega,Below.refl _ _,fun j _ h=>by omega⟩
     case round=>
      obtain⟨r,k,rfl,hr0,hr1,rfl,hk,hb,hall⟩:=hrel;have HA:=Zaa hall;clear hall
      by_cases hlt:k < Xl.length
      . obtain⟨cs,hr,hx⟩:=hc k hlt
        have HX:=Zaa (hx.below hb);have HR:=Zaa (Zas hr hb hbw);have HZ:Hd ((prog.info? 32).map (·.size)=some cs.length):=by unfold Hd;rw [hx.len];exact Zgw
        clear hr hx;go_wp2_with (refine wpList_load_mid rfl 32 (.tmp 20) rfl b (off+k*8) rfl cs _ HR.o underlying32 rfl HZ.o ?_);refine (Zj0 lo _ _ _ _ hr0 (by omega) HX.o).mono ?_;rintro e w1 ⟨r1,rfl,hb1,q0,q1,q2⟩;have HQ2:=Zaa q2;have hB:Hd (Zw_ w w1):=hb.trans (hb1.mono hb.size);clear hb1 hb q2 HX HR HZ
        by_cases hneg:r1 < 0
        . go_wp2
          go_ret;exact⟨-1,rfl,hB.o,by omega,by omega,fun h=>by omega⟩
        . have HL:Hd (Zcz Xl[k]):=HQ2.o (by omega)
          clear HQ2;go_wp2;go_roundw
          case rel=>exact⟨_,k+1,rfl,by omega,by omega,by go_num,by omega,hB.o,fun j hj h=>by
                     by_cases e:j=k
                     . subst e;exact HL.o
                     . exact HA.o j hj (by omega)⟩
          . simp [intOf];omega
      . go_wp2
        go_ret;exact⟨r,rfl,hb,by omega,by omega,fun _=>⟨by omega,fun j hj=>HA.o j hj (by omega)⟩⟩
   . go_enter func22,ntmps22
     go_wp2;go_ret;exact⟨-1,rfl,Below.refl _ _,by omega,by omega,fun h=>by omega⟩
theorem Zg2 (lo lo':Nat) (v v':Value) (Xl:List Rm) (w:World) (hv:Zbg lo w v Xl) (hv':Zbg lo' w v' Xl) :
 Calls prog 18 #[v,v'] w fun e w'=>e=.returned (.bool true)/\Zw_ w w':=by
 have hm:=hv.max;unfold maxLen at hm;have HV:=Zaa hv;have HW:=Zaa hv';obtain⟨a,cap,rfl⟩:=hv.form;obtain⟨a',cap',rfl⟩:=hv'.form;clear hv hv';go_enter func18,ntmps18;go_wp2
 go_loopw [5] (fun i wr=>∃ k:Nat,i=.int .i64 k/\k<=Xl.length/\Zw_ w wr) (fun i _=>Xl.length - (intOf i).toNat)
 case atStart=>exact⟨0,rfl,by omega,Below.refl _ _⟩
 case round=>
  obtain⟨k,rfl,hk,hb⟩:=hrel
  by_cases hlt:k < Xl.length
  . obtain⟨b,off,rfl,hbw,-,hc⟩:=HV.o.full' (by omega)
    obtain⟨b',off',rfl,hbw',-,hc'⟩:=HW.o.full' (by omega);obtain⟨cs,hr,hx⟩:=hc k hlt;obtain⟨cs',hr',hx'⟩:=hc' k hlt;have HX:=Zaa (hx.below hb);have HX':=Zaa (hx'.below hb);have HB:=Zaa hb;have hz:(prog.info? 45).map (·.size)=some cs.length:=by rw [hx.len];exact ZeT
    have hz':(prog.info? 45).map (·.size)=some cs'.length:=by rw [hx'.len];exact ZeT
    have hRr:Hd (wr.rangeAt b (off+k*8) cs/\b < wr.heap.size):=⟨Zas hr hb hbw,Zk_ hbw hb.size⟩;have hRr':Hd (wr.rangeAt b' (off'+k*8) cs'/\b' < wr.heap.size):=⟨Zas hr' hb hbw',Zk_ hbw' hb.size⟩;have i0:(0:Int)<=(k:Int):=by omega
    have i1:(k:Int) < (Xl.length:Int):=by omega
    have KP:Hd (∀ W,Below wr.heap.size wr W->W.rangeAt b (off+k*8) cs/\W.rangeAt b' (off'+k*8) cs'):=fun W hW=>⟨Zas hRr.o.1 hW hRr.o.2,Zas hRr'.o.1 hW hRr'.o.2⟩
    have HZ1:=Zaa hz;have HZ2:=Zaa hz';clear hc hc' hr hr' hx hx' hb hz hz' hRr hRr';go_wp2;refine wp_region_held_drew (S:=fun W=>W.rangeAt b (off+k*8) cs/\W.rangeAt b' (off'+k*8) cs') (by kernel_rfl) (KP.o _ (Zb_.drew)) (fun hHeld=>?_);refine tH 0 (.slice (some ⟨b,off,none⟩) Xl.length cap) rfl hHeld ?_;simp only [Act.put,List.setIfInBounds_toArray];refine tH 1 (.int .i64 k) rfl hHeld ?_;simp only [Act.put];refine tH 2 (.pointer (some ⟨b,off+k*8,none⟩)) rfl hHeld ?_;simp only [Act.put];refine wpAnyH_take (i:=3) rfl (by kernel_rfl) (by kernel_rfl) (by kernel_rfl) (fun _ _ _ h=>h) (yieldsIf_load_mid (by rfl) 45 (.tmp 19) rfl b (off+k*8) rfl cs _ (fun _ h=>h.1) underlying45 rfl HZ1.o) hHeld ?_;simp only [Act.put];refine tH 4 ((.slice (some ⟨b',off',none⟩) Xl.length cap')) rfl hHeld ?_;simp only [Act.put];refine tH 5 (.int .i64 k) rfl hHeld ?_;simp only [Act.put]
    refine tH 6 ((.pointer (some ⟨b',off'+k*8,none⟩))) rfl hHeld ?_;simp only [Act.put];refine wpAnyH_take (i:=7) rfl (by kernel_rfl) (by kernel_rfl) (by kernel_rfl) (fun _ _ _ h=>h) (yieldsIf_load_mid (by rfl) 45 (.tmp 23) rfl b' (off'+k*8) rfl cs' _ (fun _ h=>h.2) underlying45 rfl HZ2.o) hHeld ?_;simp only [Act.put];refine wpAnyH_ready (rs:=[8]) (by kernel_rfl) (by simp) ?_;refine AllReadyH.cons rfl (fun K hK=>?_) AllReadyH.nil
    go_simp
    refine (ZjV lo lo' _ _ _ _ (HX.o.below (Zb_.drew)) (HX'.o.below (Zb_.drew))).mono ?_;rintro e w1 ⟨rfl,hb1⟩;have HC1:Hd (Below wr.heap.size wr w1):=bt (Zb_.drew) hb1;have hB:Hd (Zw_ w w1):=bt HB.o HC1.o;clear hb1
    try go_wp2_with fail
    refine hK.out _ _ (KP.o _ HC1.o) (fun hHeld=>?_);clear hK K
    try simp only [Act.put,List.setIfInBounds_toArray,List.set_cons_zero,List.set_cons_succ]
    refine tH 9 (.bool false) rfl hHeld ?_;simp only [Act.put,List.setIfInBounds_toArray];refine wpAnyH_done (by kernel_rfl) ?_ _;go_wp2;go_roundw
    . exact⟨k+1,by go_num,by omega,hB.o⟩
    . simp [intOf];omega
  . go_wp2
    go_ret;exact⟨rfl,hb⟩
def Zb8 (wr:World) (B:Nat) (Xl:List Rm) (k:Nat):Prop:=
 B < wr.heap.size/\wr.there B 0 (Xl.length*8)/\∀ i (h:i < Xl.length),i < k->∃ cs,wr.rangeAt B (i*8) cs/\RmC (B+1) wr cs Xl[i]
theorem Zb8.below (h:Zb8 wr B Xl k) (hb:Below wr.heap.size wr w1):Zb8 w1 B Xl k:=by
 obtain⟨h1,h2,h3⟩:=h;refine⟨Zk_ h1 hb.size,Zeo h2 hb h1,fun i hi hik=>?_⟩;obtain⟨cs,hr,hc⟩:=h3 i hi hik;exact⟨cs,Zas hr hb h1,hc.below hb⟩
theorem Zb8.step {cs:List Value} (h:Zb8 w1 B Xl k) (hk:k < Xl.length) (hc:RmC (B+1) w1 cs Xl[k]) :
 Zb8 (w1.setCells B (k*8) cs) B Xl (k+1):=by
 obtain⟨h1,h2,h3⟩:=h;have hl:=hc.len;refine⟨by rw [Za8];exact h1,World.there_setCells h2 _ _ _,fun i hi hik=>?_⟩
 by_cases e:i=k
 . subst e
   exact⟨cs,World.rangeAt_setCells_same _ _ _ _ (by rw [hl];exact Zc4 h2 (by omega)),hc.sets (by omega) _ _⟩
 . obtain⟨cs',hr,hc'⟩:=h3 i hi (by omega)
   have hl':=hc'.len;exact⟨cs',World.rangeAt_setCells_apart hr _ _ _ (by omega),hc'.sets (by omega) _ _⟩
theorem Zb8.done (h:Zb8 wr B Xl k) (hk:Xl.length<=k) (hm:Xl.length<=maxLen):Zbg B wr (.slice (some ⟨B,0,none⟩) Xl.length Xl.length) Xl:=by
 by_cases hne:Xl=[]
 . subst hne
   exact Or.inl ⟨_,_,rfl,rfl⟩
 obtain⟨h1,h2,h3⟩:=h;refine Or.inr ⟨B,0,Xl.length,rfl,hne,hm,h1,Nat.le_refl _,Nat.le_refl _,fun i hi=>?_⟩;obtain⟨cs,hr,hc⟩:=h3 i hi (by omega);rw [Nat.zero_add];exact⟨cs,hr,hc.mono (by omega)⟩
theorem Zc9:(prog.info? 45).map (fun i=>(i.zero,i.size,i.bytes))=some (some (.agg #[.int .i64 0,.int .i64 0,.int .i64 0,.int .i64 0,.int .i64 0,.int .i64 0,.string ⟨#[]⟩,.slice none 0 0]),8,88):=by kernel_rfl
theorem Zb8.new (w:World) (Xl:List Rm) (z:Array Value):Zb8 (w.alloc (.cells (madeCells z (Xl.length*8)) 45)) w.heap.size Xl 0:=
 ⟨by simp,Zch w _ _ _ (size_madeCells _ _),fun i _ h=>by omega⟩
theorem ZiY (lo:Nat) (v:Value) (Xl:List Rm) (w:World) (hv:Zbg lo w v Xl) (hn:ZbQ Xl) :
 Calls prog 33 #[v] w fun e w'=>∃ v',e=.returned v'/\Zw_ w w'/\Zbg w.heap.size w' v' Xl:=by
 obtain⟨i0,hi,hz0,hz1,hz2⟩:=info_parts Zc9;have HSM:=Zaa hn.2;have hn1:=hn.1;have HM:=Zaa hv.max;have HV:=Zaa hv;obtain⟨a,cap,rfl⟩:=hv.form;clear hn hv
 have hmk:∀ u:World,(Instr.makeSlice 38 (.int .i64 (Xl.length:Int)) (.int .i64 (Xl.length:Int))).run prog u=.ok (.slice (some ⟨u.heap.size,0,none⟩) Xl.length Xl.length) (u.alloc (.cells (madeCells (Value.cells (.agg #[.int .i64 0,.int .i64 0,.int .i64 0,.int .i64 0,.int .i64 0,.int .i64 0,.string ⟨#[]⟩,.slice none 0 0])) (Xl.length*8)) 45)):=fun u=>by
  have h:=run_make (P:=prog) u 38 45 i0 _ underlying38 hi hz0 .i64 .i64 Xl.length Xl.length (by omega) (by omega) (by rw [hz2];omega) (by omega);rw [hz1] at h
  simpa using h
 clear hi hz0 hz1 hz2;go_enter func33,ntmps33;go_wp2;clear hmk
 go_loopw [4] (fun i wr=>∃ k:Nat,i=.int .i64 k/\k<=Xl.length/\Zw_ w wr/\Zb8 wr w.heap.size Xl k) (fun i _=>Xl.length - (intOf i).toNat)
 case atStart=>exact⟨0,rfl,by omega,Zb_.alloc Zl_ _,Zb8.new w Xl _⟩
 case round=>
  obtain⟨k,rfl,hk,hb,hf⟩:=hrel
  by_cases hlt:k < Xl.length
  . obtain⟨b,off,rfl,hbw,-,hc⟩:=HV.o.full' (by omega)
    obtain⟨cs,hr,hx⟩:=hc k hlt;have hBl:w.heap.size < wr.heap.size:=hf.1
    have HX:=Zaa (hx.below hb);have HR:=Zaa (Zas hr hb hbw);have HZ:Hd ((prog.info? 32).map (·.size)=some cs.length):=by unfold Hd;rw [hx.len];exact Zgw
    have HF:=Zaa hf;have HB:=Zaa hb;clear hc hr hx hf hb;go_wp2_with (refine wpList_load_mid rfl 32 (.tmp 18) rfl b (off+k*8) rfl cs _ HR.o underlying32 rfl HZ.o ?_);refine (ZdP lo _ _ _ HX.o (HSM.o k hlt)).mono ?_;rintro e w1 ⟨cz,rfl,hb1,hz⟩;have hf1:=HF.o.below hb1;have HC:=Zaa (hz.mono (show w.heap.size+1<=wr.heap.size by omega));have HST:=Zaa (hf1.step hlt HC.o);have HT:=Zaa (Zc4 (o:=k*8) (m:=8) hf1.2.1 (by omega));have hB:Hd (Zw_ w w1):=HB.o.trans (hb1.mono HB.o.size);have hcz:cz.toArray.size=8:=List.size_toArray.trans HC.o.len;have HZ1:Hd ((prog.info? 45).map (·.size)=some cz.toArray.size):=by unfold Hd;rw [hcz];exact ZeT
    have HT1:Hd (w1.there w.heap.size (k*8) cz.toArray.size):=by unfold Hd;rw [hcz];exact HT.o
    clear hf1 hb1 hz HX HR HZ HF HB HT hBl hcz;go_wp2_with (refine wpList_store_mid rfl 45 (.tmp 21) (.tmp 20) rfl w.heap.size (k*8) cz.toArray (by simp [Act.eval,go_sem]) rfl HT1.o HZ1.o HC.o.one ?_);go_roundw
    . 
     exact⟨k+1,by go_num,by omega,Below.sets Zl_ _ _ hB.o,HST.o⟩
    . simp [intOf];omega
  . go_wp2
    go_ret;exact⟨_,rfl,hb,hf.done (by omega) HM.o⟩
end Go.Proofs.YtkiefplmnoapfaaGreat
