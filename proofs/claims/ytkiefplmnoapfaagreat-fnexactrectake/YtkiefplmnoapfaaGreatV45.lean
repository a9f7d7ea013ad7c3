import Derived.Test.YtkiefplmnoapfaaGreatV38
set_option maxHeartbeats 16000000
set_option maxRecDepth 100000
open Go.Proofs.Tryz
namespace Go.Proofs.YtkiefplmnoapfaaGreat
open Go.RowKit Go.Deep
theorem ZfA (KP:Nat->Prop) (lo:Nat) (w:World) (γ ρ:Nat) (U:Rr) (b:Nat->Option Addr) (m:Nat->Nat) (S:Nat->Nat->Prop) (M:Rm) (a0:Option Addr) (k0 lx ux:Nat) (hR:Rz KP lo w γ b m S U) (kr:KP ρ) (rb:Box w ρ #[.pointer (some ⟨γ,0,none⟩)]) (hlu:lx<=ux) (hx:ZaE rsL 2 w lx ux (.slice a0 M.sl.length k0) M.sl) (hxs:∀ k,lx<=k->k < ux->lo<=k/\k < w.heap.size/\k≠γ/\¬ KP k/\∀ i,i < 7->¬ S i k) :
 Calls prog 115 #[.agg (rmL M a0 k0).toArray,.pointer (some ⟨ρ,0,none⟩)] w fun e w'=>e=.returned (.tuple #[])/\Zag KP w w'/\Wk KP lo w' γ ρ (Zav U M):=by
 have HKw:Hd (∀ k,KP k->k < w.heap.size):=fun k hk=>(hR.prot k hk).1
 have HX:=Zaa hx;have HXS:=Zaa hxs;have hρ:=rb.lt;have hγ:=hR.box.lt;have HKR:=Zaa kr
 show Calls prog 115 #[.agg #[.int .i64 M.kd,.int .i64 M.fr,.int .i64 M.tt,.int .i64 M.ba,.int .i64 M.ix,.int .i64 M.kn,.string M.tx,.slice a0 M.sl.length k0],.pointer (some ⟨ρ,0,none⟩)] w _
 go_enter func115,ntmps115
 go_upto_region 1 with fail
 obtain⟨wz,hwz,MB,hb⟩:∃ wz,wz=w.alloc (.cells #[.int .i64 M.kd,.int .i64 M.fr,.int .i64 M.tt,.int .i64 M.ba,.int .i64 M.ix,.int .i64 M.kn,.string M.tx,.slice a0 M.sl.length k0] 45)/\Hd (Box wz w.heap.size #[.int .i64 M.kd,.int .i64 M.fr,.int .i64 M.tt,.int .i64 M.ba,.int .i64 M.ix,.int .i64 M.kn,.string M.tx,.slice a0 M.sl.length k0])/\Zw_ w wz:=⟨_,rfl,Box.new _ _ _ _ rfl,Zab _ _⟩
 rw [<- hwz];clear hwz;have hsz:w.heap.size+1<=wz.heap.size:=by have:=MB.o.lt;omega
 have HR:Hd (Rz (KN KP w 1) lo wz γ b m S U):=hR.shield hb (fun k hk=>hk.imp (fun h=>h) (fun h=>⟨h.1,by omega⟩));have RB:=Zaa (rb.on hb);have HKP:Hd (Zag KP w wz):=Zag.below hb HKw.o;have HX1:=Zaa (HX.o.below hb);clear hb hR rb hx hxs kr HX;have r0:wz.cell? ⟨ρ,0,none⟩=some (.pointer (some ⟨γ,0,none⟩)):=RB.o.cell 0;have x9:wz.cell? ⟨γ,9,none⟩=some (.slice (b 2) U.he.length (m 2)):=HR.o.box.cell 9
 by_cases hlt:U.he.length < 400
 case neg=>
  have d1:decide ((U.he.length:Int) < 400)=false:=by simp;omega
  have HE:Hd (Zav U M=U):=by unfold Hd Zav;rw [if_neg hlt]
  go_wp2
  go_end0
  exact⟨rfl,HKP.o,by rw [HE.o];exact⟨⟨b,m,S,HR.o.shield Zb_ (fun k hk=>Or.inl (Or.inl hk))⟩,HKR.o,RB.o⟩⟩
 have d1:decide ((U.he.length:Int) < 400)=true:=by simp;omega
 have HE:Hd (Zav U M={ U with he:=U.he ++ [{ M with fr:=U.nu }] }):=by unfold Hd Zav;rw [if_pos hlt]
 have x0:wz.cell? ⟨γ,0,none⟩=some (.int .i64 U.nu):=HR.o.box.cell 0;have y1:wz.cell? ⟨w.heap.size,1,none⟩=some (.int .i64 M.fr):=MB.o.cell 1;have yf:=MB.o.free
 go_upto_region 3 with fail
 clear x0 y1 yf r0 x9 d1;obtain⟨w1,hw1⟩:∃ w1,w1=wz.setCell ⟨w.heap.size,1,none⟩ (.int .i64 U.nu):=⟨_,rfl⟩
 rw [<- hw1];have MB1:Hd (Box w1 w.heap.size #[.int .i64 M.kd,.int .i64 U.nu,.int .i64 M.tt,.int .i64 M.ba,.int .i64 M.ix,.int .i64 M.kn,.string M.tx,.slice a0 M.sl.length k0]):=by unfold Hd;rw [hw1];exact MB.o.set (k:=1) (.int .i64 U.nu) (by show 1 < 8;omega)
 have T1:Hd (Zad w.heap.size (w.heap.size+1) wz w1):=by unfold Hd;rw [hw1];exact Zad.setCell _ _ _ _ _ ⟨Nat.le_refl _,Nat.lt_succ_self _⟩
 clear hw1 MB;replace HR:=Zaa (HR.o.other (β:=w.heap.size) (Or.inr ⟨by omega,by omega⟩) T1.o);replace RB:=Zaa (RB.o.tch2 T1.o (Or.inl (by omega)));replace HKP:Hd (Zag KP w w1):=HKP.o.trans (Zag.touch T1.o (fun k hk=>by have:=HKw.o k hk;omega));have hw1s:wz.heap.size<=w1.heap.size:=T1.o.size
 replace HX1:Hd (ZaE rsL 2 w1 lx ux (.slice a0 M.sl.length k0) M.sl):=HX1.o.touch T1.o (by
  rcases Nat.lt_or_ge lx ux with h | h
  . left;have:=(HXS.o (ux - 1) (by omega) (by omega)).2.1;omega
  . rcases Nat.lt_or_ge ux (w.heap.size+1) with h' | h'
    . left;omega
    . right;omega)
 clear T1;have r0:w1.cell? ⟨ρ,0,none⟩=some (.pointer (some ⟨γ,0,none⟩)):=RB.o.cell 0;have x9:w1.cell? ⟨γ,9,none⟩=some (.slice (b 2) U.he.length (m 2)):=HR.o.box.cell 9;have y0:w1.cell? ⟨w.heap.size,0,none⟩=some (.int .i64 M.kd):=MB1.o.cell 0;have y1:w1.cell? ⟨w.heap.size,1,none⟩=some (.int .i64 U.nu):=MB1.o.cell 1;have y2:w1.cell? ⟨w.heap.size,2,none⟩=some (.int .i64 M.tt):=MB1.o.cell 2;have y3:w1.cell? ⟨w.heap.size,3,none⟩=some (.int .i64 M.ba):=MB1.o.cell 3;have y4:w1.cell? ⟨w.heap.size,4,none⟩=some (.int .i64 M.ix):=MB1.o.cell 4;have y5:w1.cell? ⟨w.heap.size,5,none⟩=some (.int .i64 M.kn):=MB1.o.cell 5;have y6:w1.cell? ⟨w.heap.size,6,none⟩=some (.string M.tx):=MB1.o.cell 6;have y7:w1.cell? ⟨w.heap.size,7,none⟩=some (.slice a0 M.sl.length k0):=MB1.o.cell 7;refine Code.wp_mono NoPanic.imp ?_
 refine Zao (S:=fun W=>W.cell? ⟨ρ,0,none⟩=some (.pointer (some ⟨γ,0,none⟩))/\W.cell? ⟨γ,9,none⟩=some (.slice (b 2) U.he.length (m 2))/\W.cell? ⟨w.heap.size,0,none⟩=some (.int .i64 M.kd)/\W.cell? ⟨w.heap.size,1,none⟩=some (.int .i64 U.nu)/\W.cell? ⟨w.heap.size,2,none⟩=some (.int .i64 M.tt)/\W.cell? ⟨w.heap.size,3,none⟩=some (.int .i64 M.ba)/\W.cell? ⟨w.heap.size,4,none⟩=some (.int .i64 M.ix)/\W.cell? ⟨w.heap.size,5,none⟩=some (.int .i64 M.kn)/\W.cell? ⟨w.heap.size,6,none⟩=some (.string M.tx)/\W.cell? ⟨w.heap.size,7,none⟩=some (.slice a0 M.sl.length k0)) [8,9,10] (by kernel_rfl) ⟨r0,x9,y0,y1,y2,y3,y4,y5,y6,y7⟩ (fun hHeld=>?_);refine tB 0 (.pointer (some ⟨γ,0,none⟩)) [8,9,10] rfl hHeld ?_
 try simp only [Act.put,sLs]
 refine tB 1 (.pointer (some ⟨γ,0,none⟩)) [2,3,4,7,8,9,10] rfl hHeld ?_
 try simp only [Act.put,sLs]
 refine tB 2 (.pointer (some ⟨γ,0,none⟩)) [3,4,7,8,9,10] rfl hHeld ?_
 try simp only [Act.put,sLs]
 refine tB 3 (.pointer (some ⟨γ,9,none⟩)) [4,7,8,9,10] rfl hHeld ?_
 try simp only [Act.put,sLs]
 refine tB 4 (.slice (b 2) U.he.length (m 2)) [7,8,9,10] rfl hHeld ?_
 try simp only [Act.put,sLs]
 refine tB 5 (.agg #[.int .i64 M.kd,.int .i64 U.nu,.int .i64 M.tt,.int .i64 M.ba,.int .i64 M.ix,.int .i64 M.kn,.string M.tx,.slice a0 M.sl.length k0]) [6,7,8,9,10] rfl hHeld ?_
 try simp only [Act.put,sLs]
 refine oB 6 rfl (fun K hK=>?_)
 go_simp
 obtain⟨w2,hw2⟩:∃ w2,w2=(w1.alloc (.cells #[.int .i64 M.kd,.int .i64 U.nu,.int .i64 M.tt,.int .i64 M.ba,.int .i64 M.ix,.int .i64 M.kn,.string M.tx,.slice a0 M.sl.length k0] 45)).drew:=⟨_,rfl⟩
 have hb:Below w1.heap.size w1 w2:=by rw [hw2];exact (Zab w1 _).drew
 have SB:Hd (Box w2 w1.heap.size #[.int .i64 M.kd,.int .i64 U.nu,.int .i64 M.tt,.int .i64 M.ba,.int .i64 M.ix,.int .i64 M.kn,.string M.tx,.slice a0 M.sl.length k0]):=by unfold Hd;rw [hw2];exact (Box.new w1 _ _ _ rfl).drew
 rw [<- hw2];clear hw2;have hs2:=hb.size;replace HR:=Zaa (HR.o.on hb);replace RB:=Zaa (RB.o.on hb);replace HKP:Hd (Zag KP w w2):=HKP.o.trans (Zag.below hb (fun k hk=>by have:=HKw.o k hk;omega));replace HX1:=Zaa (HX1.o.below hb);replace MB1:=Zaa (MB1.o.on hb);clear hb hHeld;refine hK.out _ _ (fun _=>⟨RB.o.cell 0,HR.o.box.cell 9,MB1.o.cell 0,MB1.o.cell 1,MB1.o.cell 2,MB1.o.cell 3,MB1.o.cell 4,MB1.o.cell 5,MB1.o.cell 6,MB1.o.cell 7⟩) (fun hHx=>?_);have hHeld:=hHx (by decide);clear hK hHx
 try simp only [Act.put,sLs]
 have HRa:=Zaa (HR.o.absorb (fun k=>lx<=k/\k < ux) (fun k hk=>by
  have q:=HXS.o k hk.1 hk.2;refine⟨q.1,by omega,q.2.2.1,fun hK=>?_,q.2.2.2.2⟩
  rcases hK with hK | hK
  . exact q.2.2.2.1 hK
  . omega))
 obtain⟨L2,hng,hmap⟩:=HR.o.cp.o2;have hl2:L2.length=U.he.length:=by rw [<- hmap,List.length_map]
 obtain⟨v',w3,hrun,ht,hrow⟩:=ZiF Zeu ZkQ ZcT (by decide) underlying38 Zc9 rfl (S1:=fun k=>S 2 k\/(lx<=k/\k < ux)) (x:=({ M with fr:=U.nu },a0,k0)) 38 hng lx ux hlu HX1.o (fun k p q=>⟨by have:=(HXS.o k p q).2.1;omega,Or.inr ⟨p,q⟩,(HXS.o k p q).2.2.2.2 2 (by decide)⟩) ⟨w1.heap.size,0,none⟩ 1 (fun j u hu=>by
  rw [Addr.add_lit,Nat.zero_add,SB.o.cell j]
  simpa [Zai,mxL,rmL] using hu) (Ze7 _) (by omega) (by decide) (fun k hk=>⟨Or.inl hk,(HR.o.cp.seg 2 (by decide) k hk).2⟩)
 have hmap':(L2 ++ [(({ M with fr:=U.nu },a0,k0):MX)]).map (·.1)=U.he ++ [{ M with fr:=U.nu }]:=by rw [List.map_append,hmap];rfl
 obtain⟨a',m',hv'⟩:=hrow.form;rw [show (L2 ++ [(({ M with fr:=U.nu },a0,k0):MX)]).length=(U.he ++ [{ M with fr:=U.nu }]).length by rw [<- hmap',List.length_map]] at hv';subst hv';have ht2:Zal (fun k=>S 2 k\/(lx<=k/\k < ux)) w2 w3:=ht.wide fun _ h=>Or.inl h
 have HP:=Zaa (HRa.o.part2 (L':=U.he ++ [{ M with fr:=U.nu }]) (by rw [ZaA];exact ht2) ⟨L2 ++ [(({ M with fr:=U.nu },a0,k0):MX)],by rw [ZaA];exact hrow,hmap'⟩);obtain⟨nl,hnl⟩:∃ nl,nl=(U.he ++ [{ M with fr:=U.nu }]).length:=⟨_,rfl⟩
 rw [<- hnl] at HP hrun;have hkp:Zag (fun k=>k < w2.heap.size/\¬ S 2 k) w2 w3:=Zag.touchS ht fun _ h=>h
 have BG:=Zaa (HR.o.box.kept hkp ⟨HR.o.box.lt,HR.o.far 2 (by decide)⟩);have RB3:=Zaa (RB.o.kept hkp ⟨RB.o.lt,(HR.o.prot _ (Or.inl HKR.o)).2.2 2 (by decide)⟩);have MB3:=Zaa (MB1.o.kept hkp ⟨MB1.o.lt,(HR.o.prot _ (Or.inr ⟨by omega,by omega⟩)).2.2 2 (by decide)⟩);have z9:w3.cell? ⟨γ,9,none⟩=some (.slice (b 2) U.he.length (m 2)):=BG.o.cell 9;have hs3:=ht.size;clear hnl hng hmap hrow ht ht2 hkp hmap' HRa HX1 SB hl2;refine oB 7 rfl (fun K hK=>?_);refine Zae rfl (.tmp 18) (.tmp 20) 38 rfl rfl rfl hrun ?_;clear hrun hHeld;refine hK.out _ _ (fun _=>⟨RB3.o.cell 0,z9,MB3.o.cell 0,MB3.o.cell 1,MB3.o.cell 2,MB3.o.cell 3,MB3.o.cell 4,MB3.o.cell 5,MB3.o.cell 6,MB3.o.cell 7⟩) (fun _=>?_);clear hK;have gf:=BG.o.free
 try simp only [Act.put,sLs]
 refine oB 8 rfl (fun K hK=>?_)
 go_simp
 refine hK.out _ _ (fun h=>absurd (by decide) h) (fun _=>?_);clear hK K
 try simp only [Act.put,sLs]
 refine oB 9 rfl (fun K hK=>?_)
 go_simp
 refine hK.out _ _ (fun h=>absurd (by decide) h) (fun _=>?_);clear hK K
 try simp only [Act.put,sLs]
 refine oB 10 rfl (fun K hK=>?_)
 go_simp
 refine hK.out _ _ (fun h=>absurd (by decide) h) (fun _=>?_);clear hK K
 try simp only [Act.put,sLs]
 refine Zak (by kernel_rfl) ?_ _;refine NoPanic.normal ?_;clear z9 gf;obtain⟨w4,hw4⟩:∃ w4,w4=w3.setCell ⟨γ,9,none⟩ (.slice a' nl m'):=⟨_,rfl⟩
 rw [<- hw4] at HP |-;have RB4:Hd (Box w4 ρ #[.pointer (some ⟨γ,0,none⟩)]):=by unfold Hd;rw [hw4];exact RB3.o.setFar (by have:=(HR.o.prot _ (Or.inl HKR.o)).2.1;simp only [];omega) _
 clear hw4;go_wp2
 go_end0
 exact⟨rfl,HKP.o.trans (HP.o.2.less fun k hk=>Or.inl hk),by rw [HE.o];exact⟨⟨_,_,_,HP.o.1.shield Zb_ (fun k hk=>Or.inl (Or.inl hk))⟩,HKR.o,RB4.o⟩⟩
theorem Wk.on {K:Nat->Prop}{lo:Nat}{w w':World}{γ ρ:Nat}{U:Rr} (h:Wk K lo w γ ρ U) (hb:Zw_ w w'):Wk K lo w' γ ρ U:=⟨h.wz.shield hb fun _ h=>Or.inl h,h.kr,h.rb.on hb⟩
theorem ZcS (K:Nat->Prop) (lo:Nat) (w:World) (γ ρ:Nat) (U:Rr) (M:Rm) (h:Wk K lo w γ ρ U) (hM:M.sl=[]) :
 Calls prog 115 #[.agg (rmL M none 0).toArray,.pointer (some ⟨ρ,0,none⟩)] w fun e w'=>e=.returned (.tuple #[])/\Zag K w w'/\Wk K lo w' γ ρ (Zav U M):=by
 obtain⟨⟨b,m,S,hR⟩,kr,rb⟩:=h;exact ZfA K lo w γ ρ U b m S M none 0 0 0 hR kr rb Zl_ (by rw [hM];exact ZaE.nil _ _ _ _ _) (fun k _ h=>absurd h (Nat.not_lt_zero _))
theorem Zdf (KP:Nat->Prop) (lo:Nat) (w:World) (γ ρ:Nat) (U:Rr) (M:Rm) (a0:Option Addr) (k0:Nat) (h:Wk KP lo w γ ρ U) :
 Calls prog 134 #[.agg (wkC γ ρ),.agg (rmL M a0 k0).toArray] w fun e w'=>e=.returned (.tuple #[])/\Zag KP w w'/\Wk KP lo w' γ ρ (Zav U (Zfc U M)):=by
 have HW:=Zaa h;clear h
 show Calls prog 134 #[.agg #[.pointer (some ⟨γ,0,none⟩),.func (.func 115) #[] #[.pointer (some ⟨ρ,0,none⟩)]],.agg #[.int .i64 M.kd,.int .i64 M.fr,.int .i64 M.tt,.int .i64 M.ba,.int .i64 M.ix,.int .i64 M.kn,.string M.tx,.slice a0 M.sl.length k0]] w _
 go_enter func134,ntmps134
 go_upto_region 1 with fail
 obtain⟨W0,hW0,HA,MB⟩:∃ W0,W0=((w.alloc (.cells #[.pointer (some ⟨γ,0,none⟩),.func (.func 115) #[] #[.pointer (some ⟨ρ,0,none⟩)]] 123)).alloc (.cells #[.int .i64 M.kd,.int .i64 M.fr,.int .i64 M.tt,.int .i64 M.ba,.int .i64 M.ix,.int .i64 M.kn,.string M.tx,.slice a0 M.sl.length k0] 45))/\Hd (At KP lo w W0 γ ρ 2 U)/\Hd (Box W0 (w.heap.size+1) #[.int .i64 M.kd,.int .i64 M.fr,.int .i64 M.tt,.int .i64 M.ba,.int .i64 M.ix,.int .i64 M.kn,.string M.tx,.slice a0 M.sl.length k0]):=
  ⟨_,rfl,HW.o.enter (bt (Zab _ _) (Zab _ _)) ((Box.new w _ _ _ rfl).on (Zab _ _)) (by simp) (by omega),(Box.new _ _ _ _ (by simp))⟩
 rw [<- hW0];clear hW0;obtain⟨b,m,S,hR⟩:=HA.o.wz;have HR:=Zaa hR;clear hR;have x_0:W0.cell? ⟨w.heap.size,0,none⟩=some (.pointer (some ⟨γ,0,none⟩)):=HA.o.c0;have x_1:W0.cell? ⟨w.heap.size,1,none⟩=some (.func (.func 115) #[] #[.pointer (some ⟨ρ,0,none⟩)]):=HA.o.c1;have x6:W0.cell? ⟨γ,6,none⟩=some (.int .i64 U.dk.pr):=HR.o.box.cell 6;have y1_1:W0.cell? ⟨w.heap.size+1,1,none⟩=some (.int .i64 M.fr):=MB.o.cell 1;refine Code.wp_mono NoPanic.imp ?_;refine Zao (S:=fun W=>W.cell? ⟨w.heap.size,0,none⟩=some (.pointer (some ⟨γ,0,none⟩))/\W.cell? ⟨w.heap.size,1,none⟩=some (.func (.func 115) #[] #[.pointer (some ⟨ρ,0,none⟩)])/\W.cell? ⟨γ,6,none⟩=some (.int .i64 U.dk.pr)/\W.cell? ⟨w.heap.size+1,1,none⟩=some (.int .i64 M.fr)) [11] (by kernel_rfl) ⟨x_0,x_1,x6,y1_1⟩ (fun hHeld=>?_);refine tB 0 (.pointer (some ⟨w.heap.size,1,none⟩)) [1,11] rfl hHeld ?_
 try simp only [Act.put,sLs]
 refine tB 1 (.func (.func 115) #[] #[.pointer (some ⟨ρ,0,none⟩)]) [11] rfl hHeld ?_
 try simp only [Act.put,sLs]
 refine tB 2 (.pointer (some ⟨w.heap.size+1,1,none⟩)) [3,10,11] rfl hHeld ?_
 try simp only [Act.put,sLs]
 refine tB 3 (.int .i64 M.fr) [10,11] rfl hHeld ?_
 try simp only [Act.put,sLs]
 refine tB 4 (.pointer (some ⟨w.heap.size,0,none⟩)) [5,6,7,8,9,10,11] rfl hHeld ?_
 try simp only [Act.put,sLs]
 refine tB 5 (.pointer (some ⟨γ,0,none⟩)) [6,7,8,9,10,11] rfl hHeld ?_
 try simp only [Act.put,sLs]
 refine tB 6 (.pointer (some ⟨γ,0,none⟩)) [7,8,9,10,11] rfl hHeld ?_
 try simp only [Act.put,sLs]
 refine tB 7 (.pointer (some ⟨γ,6,none⟩)) [8,9,10,11] rfl hHeld ?_
 try simp only [Act.put,sLs]
 refine tB 8 (.pointer (some ⟨γ,6,none⟩)) [9,10,11] rfl hHeld ?_
 try simp only [Act.put,sLs]
 refine tB 9 (.int .i64 U.dk.pr) [10,11] rfl hHeld ?_
 try simp only [Act.put,sLs]
 refine tB 10 (.agg #[.int .i64 9,.int .i64 0,.int .i64 M.fr,.int .i64 U.dk.pr,.int .i64 0,.int .i64 0,.string ⟨#[]⟩,.slice none 0 0]) [11] rfl hHeld ?_
 try simp only [Act.put,sLs]
 refine oB 11 rfl (fun K hK=>?_)
 go_simp
 refine (ZcS (KN KP w 2) lo _ γ ρ U (Zfc U M) (HA.o.wk.on Zb_.drew) rfl).mono ?_;rintro e WX ⟨rfl,hk,hz⟩;clear hHeld;refine hK.out _ _ (fun h=>absurd (by decide) h) (fun _=>?_);clear hK
 try simp only [Act.put,sLs]
 refine Zak (by kernel_rfl) ?_ _;refine NoPanic.normal ?_;have HAn:Hd (At KP lo w WX γ ρ 2 (Zav U (Zfc U M))):=(HA.o.on Zb_.drew).call hk hz;clear HA;have HA:=HAn;go_wp2
 go_end0
 exact⟨rfl,HA.o.fin⟩
theorem Zfb (KP:Nat->Prop) (lo:Nat) (w:World) (γ ρ:Nat) (U:Rr) (ix:Nat) (x:Rs) (h:Wk KP lo w γ ρ U) (h1:1<=ix) (h2:ix<=1000) (hl:U.dk.sl.length<=1000) :
 Calls prog 138 #[.agg (wkC γ ρ),.int .i64 (ix:Int),.agg #[.int .i64 x.ba,.string x.tx]] w fun e w'=>e=.returned (.tuple #[])/\Zag KP w w'/\Wk KP lo w' γ ρ (ZdM U ix x):=by
 have HW:=Zaa h;clear h
 show Calls prog 138 #[.agg #[.pointer (some ⟨γ,0,none⟩),.func (.func 115) #[] #[.pointer (some ⟨ρ,0,none⟩)]],.int .i64 (ix:Int),.agg #[.int .i64 x.ba,.string x.tx]] w _
 go_enter func138,ntmps138
 go_upto_region 1 with fail
 obtain⟨W0,hW0,HA,SB⟩:∃ W0,W0=((w.alloc (.cells #[.pointer (some ⟨γ,0,none⟩),.func (.func 115) #[] #[.pointer (some ⟨ρ,0,none⟩)]] 123)).alloc (.cells #[.int .i64 x.ba,.string x.tx] 108))/\Hd (At KP lo w W0 γ ρ 2 U)/\Hd (Box W0 (w.heap.size+1) #[.int .i64 x.ba,.string x.tx]):=
  ⟨_,rfl,HW.o.enter (bt (Zab _ _) (Zab _ _)) ((Box.new w _ _ _ rfl).on (Zab _ _)) (by simp) (by omega),(Box.new _ _ _ _ (by simp))⟩
 rw [<- hW0];clear hW0;obtain⟨b,m,S,hR⟩:=HA.o.wz;have HR:=Zaa hR;clear hR;clear HR
 go_loopw [] (fun wr=>∃ k:Nat,U.dk.sl.length+k<=max U.dk.sl.length ix/\At KP lo w wr γ ρ 2 (ZcE U k)/\Box wr (w.heap.size+1) #[.int .i64 x.ba,.string x.tx]) (fun wr=>2000 - Zjq (wr.cell? ⟨γ,8,none⟩))
 case atStart=>exact⟨0,by omega,by have:=HA.o;simpa [ZcE] using this,SB.o⟩
 case round=>
  obtain⟨k,hk,ha,hsb⟩:=hrel;clear HA SB;have HA:=Zaa ha;have SB:=Zaa hsb;clear ha hsb;obtain⟨b5,m5,S5,hR⟩:=HA.o.wz;have HR:=Zaa hR;clear hR;have hwsz:=HA.o.sz;have hpl:(ZcE U k).dk.sl.length=U.dk.sl.length+k:=by simp [ZcE]
  have x8:wr.cell? ⟨γ,8,none⟩=some (.slice (b5 1) (U.dk.sl.length+k) (m5 1)):=by rw [HR.o.box.cell 8,<- hpl];rfl
  have x_0:wr.cell? ⟨w.heap.size,0,none⟩=some (.pointer (some ⟨γ,0,none⟩)):=HA.o.c0
  by_cases hlt:U.dk.sl.length+k < ix
  . have d1:decide (((U.dk.sl.length+k:Nat):Int) < (ix:Int))=true:=by simp;omega
    have d1b:decide ((U.dk.sl.length:Int)+(k:Int) < (ix:Int))=true:=by simp;omega
    have HLA:Hd (Zjq (wr.cell? ⟨γ,8,none⟩)=U.dk.sl.length+k):=by unfold Hd;rw [x8];rfl
    go_upto_region 2 with fail
    clear d1 d1b;refine Code.wp_mono NoPanic.imp ?_;refine Zao (S:=fun W=>W.cell? ⟨w.heap.size,0,none⟩=some (.pointer (some ⟨γ,0,none⟩))/\W.cell? ⟨γ,8,none⟩=some (.slice (b5 1) (U.dk.sl.length+k) (m5 1))) [11,12,13,14] (by kernel_rfl) ⟨x_0,x8⟩ (fun hHeld=>?_);refine tB 0 (.pointer (some ⟨w.heap.size,0,none⟩)) [1,11,12,13,14] rfl hHeld ?_
    try simp only [Act.put,sLs]
    refine tB 1 (.pointer (some ⟨γ,0,none⟩)) [11,12,13,14] rfl hHeld ?_
    try simp only [Act.put,sLs]
    refine tB 2 (.pointer (some ⟨w.heap.size,0,none⟩)) [3,4,5,6,7,10,11,12,13,14] rfl hHeld ?_
    try simp only [Act.put,sLs]
    refine tB 3 (.pointer (some ⟨γ,0,none⟩)) [4,5,6,7,10,11,12,13,14] rfl hHeld ?_
    try simp only [Act.put,sLs]
    refine tB 4 (.pointer (some ⟨γ,0,none⟩)) [5,6,7,10,11,12,13,14] rfl hHeld ?_
    try simp only [Act.put,sLs]
    refine tB 5 (.pointer (some ⟨γ,6,none⟩)) [6,7,10,11,12,13,14] rfl hHeld ?_
    try simp only [Act.put,sLs]
    refine tB 6 (.pointer (some ⟨γ,8,none⟩)) [7,10,11,12,13,14] rfl hHeld ?_
    try simp only [Act.put,sLs]
    refine tB 7 (.slice (b5 1) (U.dk.sl.length+k) (m5 1)) [10,11,12,13,14] rfl hHeld ?_
    try simp only [Act.put,sLs]
    refine tB 8 (.agg #[.int .i64 0,.string ⟨#[]⟩]) [9,10,11,12,13,14] rfl hHeld ?_
    try simp only [Act.put,sLs]
    refine oB 9 rfl (fun K hK=>?_)
    go_simp
    obtain⟨w2,hw2⟩:∃ w2,w2=(wr.alloc (.cells #[.int .i64 0,.string ⟨#[]⟩] 108)).drew:=⟨_,rfl⟩
    have hb:Below wr.heap.size wr w2:=by rw [hw2];exact (Zab wr _).drew
    have SQ:Hd (Box w2 wr.heap.size #[.int .i64 0,.string ⟨#[]⟩]):=by unfold Hd;rw [hw2];exact (Box.new wr _ _ _ rfl).drew
    rw [<- hw2];clear hw2;have hs2:=hb.size;replace HA:=Zaa (HA.o.on hb);replace HR:=Zaa (HR.o.on hb);replace SB:=Zaa (SB.o.on hb);clear hb hHeld x8 x_0;have x8:w2.cell? ⟨γ,8,none⟩=some (.slice (b5 1) (U.dk.sl.length+k) (m5 1)):=by rw [HR.o.box.cell 8,<- hpl];rfl
    refine hK.out _ _ (fun _=>⟨HA.o.c0,x8⟩) (fun hHx=>?_);have hHeld:=hHx (by decide);clear hK hHx K
    try simp only [Act.put,sLs]
    have ho1:NRS rsL 2 w2 (S5 1) (.slice (b5 1) (U.dk.sl.length+k) (m5 1)) (ZcE U k).dk.sl:=by have:=HR.o.cp.o1;rwa [hpl] at this
    obtain⟨v',w3,hrun,ht,hrow⟩:=ZaO ZaI (by decide) underlying35 ZeH rfl (M:=[zS]) 35 ho1 (some ⟨wr.heap.size,0,none⟩) 1 1 rfl (fun e=>by cases e) (fun ad e j u hu=>by
     injection e with e
     subst e;rw [Addr.add_lit,Nat.zero_add,SQ.o.cell j]
     simpa [Zai,rsL,zS] using hu) (Zel _) (by rw [hpl];simp;omega) (by decide)
    have hpad:(ZcE U k).dk.sl ++ [zS]=(ZcE U (k+1)).dk.sl:=by simp [ZcE,List.replicate_succ']
    rw [hpad] at hrow;obtain⟨a',m',hv'⟩:=hrow.form;have hpl2:(ZcE U (k+1)).dk.sl.length=U.dk.sl.length+k+1:=by simp [ZcE];omega
    rw [hpl2] at hv';subst hv';have HP:=Zaa (HR.o.part1 (L':=(ZcE U (k+1)).dk.sl) (a':=a') (m':=m') ht (by rw [hpl2];exact hrow));have hkp:Zag (fun k=>k < w2.heap.size/\¬ S5 1 k) w2 w3:=Zag.touchS ht fun _ h=>h
    have BG:=Zaa (HR.o.box.kept hkp ⟨HR.o.box.lt,HR.o.far 1 (by decide)⟩);have BX3:=Zaa (HA.o.bx.kept hkp ⟨HA.o.bx.lt,(HR.o.prot _ (Or.inr ⟨by omega,by omega⟩)).2.2 1 (by decide)⟩);have z8:w3.cell? ⟨γ,8,none⟩=some (.slice (b5 1) (U.dk.sl.length+k) (m5 1)):=by rw [BG.o.cell 8,<- hpl];rfl
    have z_0:w3.cell? ⟨w.heap.size,0,none⟩=some (.pointer (some ⟨γ,0,none⟩)):=BX3.o.cell 0;have hs3:=ht.size;clear ho1 hrow ht hkp hpad SQ;refine oB 10 rfl (fun K hK=>?_);refine Zae rfl (.tmp 22) (.tmp 24) 35 rfl rfl rfl hrun ?_;clear hrun hHeld;refine hK.out _ _ (fun _=>⟨z_0,z8⟩) (fun _=>?_);clear hK K;have gf:=BG.o.free
    try simp only [Act.put,sLs]
    refine oB 11 rfl (fun K hK=>?_)
    go_simp
    refine hK.out _ _ (fun h=>absurd (by decide) h) (fun _=>?_);clear hK K
    try simp only [Act.put,sLs]
    refine oB 12 rfl (fun K hK=>?_)
    go_simp
    refine hK.out _ _ (fun h=>absurd (by decide) h) (fun _=>?_);clear hK K
    try simp only [Act.put,sLs]
    refine oB 13 rfl (fun K hK=>?_)
    go_simp
    refine hK.out _ _ (fun h=>absurd (by decide) h) (fun _=>?_);clear hK K
    try simp only [Act.put,sLs]
    refine oB 14 rfl (fun K hK=>?_)
    go_simp
    refine hK.out _ _ (fun h=>absurd (by decide) h) (fun _=>?_);clear hK K
    try simp only [Act.put,sLs]
    refine Zak (by kernel_rfl) ?_ _;refine NoPanic.normal ?_;have hpp:=HP.o;rw [hpl2] at hpp;obtain⟨w4,hw4⟩:∃ w4,w4=w3.setCell ⟨γ,8,none⟩ (.slice a' (U.dk.sl.length+k+1) m'):=⟨_,rfl⟩
    rw [<- hw4] at hpp |-;have h8:w4.cell? ⟨γ,8,none⟩=some (.slice a' (U.dk.sl.length+k+1) m'):=by rw [hw4];exact World.cell?_setCell_same' _ _ _ (by rw [z8];rfl)
    clear z8 z_0 gf;go_wp2;refine⟨⟨k+1,by omega,HA.o.step hpp.2 ⟨_,_,_,hpp.1⟩,SB.o.kept hpp.2 (Or.inr ⟨by omega,by omega⟩)⟩,?_⟩;rw [h8,HLA.o]
    show 2000 - (U.dk.sl.length+k+1) < _
    omega
  . have d1:decide (((U.dk.sl.length+k:Nat):Int) < (ix:Int))=false:=by simp;omega
    have d1b:decide ((U.dk.sl.length:Int)+(k:Int) < (ix:Int))=false:=by simp;omega
    have hkk:k=ix - U.dk.sl.length:=by omega
    subst hkk;have HE:Hd (ZdM U ix x={ ZcE U (ix - U.dk.sl.length) with dk:={ (ZcE U (ix - U.dk.sl.length)).dk with sl:=(ZcE U (ix - U.dk.sl.length)).dk.sl.set (ix - 1) x } }):=rfl
    go_upto_region 3 with fail
    clear d1 d1b;obtain⟨n9,hn9⟩:∃ n,n=U.dk.sl.length+(ix - U.dk.sl.length):=⟨_,rfl⟩
    rw [<- hn9] at x8 hpl;have hix:ix - 1 < n9:=by omega
    have ho1:=HR.o.cp.o1
    rcases ho1 with ⟨-,hnil⟩ | ⟨g,hSg,g',cap,hv,hfr⟩
    . rw [hnil] at hpl;simp at hpl;omega
    obtain rfl:g'=g:=by have:=hfr.bs;have:=hfr.up;omega
    rw [hpl] at hv;injection hv with hv1 hv2 hv3
    have HV1:=Zaa hv1;have HV3:=Zaa hv3;have HFR:=Zaa hfr;rw [hv1] at x8;have hgw:g' < wr.heap.size:=hfr.lt
    have hcl:n9<=cap:=by rw [<- hpl];exact hfr.le
    obtain⟨o0,ho0⟩:=Option.isSome_iff_exists.1 (hfr.th ((ix - 1)*2) (by omega));obtain⟨o1,ho1⟩:=Option.isSome_iff_exists.1 (hfr.th ((ix - 1)*2+1) (by omega));have fz:=hfr.fz;have s0:wr.cell? ⟨w.heap.size+1,0,none⟩=some (.int .i64 x.ba):=SB.o.cell 0;have s1:wr.cell? ⟨w.heap.size+1,1,none⟩=some (.string x.tx):=SB.o.cell 1;obtain⟨q,hq⟩:∃ q:Nat,q=ix - 1:=⟨_,rfl⟩
    rw [<- hq] at ho0 ho1 hix;have hsub:(ix:Int) - 1=(q:Int):=by omega
    have i0:(0:Int)<=(q:Int):=by omega
    have i1:(q:Int) < (n9:Int):=by omega
    have w64:IntKind.wrap .i64 ((ix:Int) - 1)=(q:Int):=by rw [IntKind.wrap_i64];omega
    have HQ:=Zaa hq;have HN9:=Zaa hn9;have HPL:=Zaa hpl;clear hfr hv1 hv3 hv2 hq hn9 hpl hk;have hlp:q < (ZcE U (ix - U.dk.sl.length)).dk.sl.length:=by rw [HPL.o];exact hix
    go_region
    clear x8 ho0 ho1 fz s0 s1 w64 hsub x_0;obtain⟨w4,hw4⟩:∃ w4,w4=(wr.setCell ⟨g',q*2,none⟩ (.int .i64 x.ba)).setCell ⟨g',q*2+1,none⟩ (.string x.tx):=⟨_,rfl⟩
    rw [<- hw4];have hw5:w4=wr.setCells g' (q*2) (rsL x):=hw4;have ht:Zad g' (g'+1) wr w4:=by rw [hw5];exact Zad.sets ⟨Nat.le_refl _,Nat.lt_succ_self _⟩ _ _ _
    have hts:Zal (S5 1) wr w4:=ht.toS (Zdt hSg);have hL:((ZcE U (ix - U.dk.sl.length)).dk.sl.set q x).length=(ZcE U (ix - U.dk.sl.length)).dk.sl.length:=List.length_set;have hp:=HR.o.keep1 (L':=(ZcE U (ix - U.dk.sl.length)).dk.sl.set q x) hts hL (Or.inr ⟨g',hSg,g',cap,by rw [HV1.o,HV3.o],by rw [hw5];exact HFR.o.setAt ZaI hlp x⟩);have ha4:=(HA.o.step hp.2 ⟨_,_,_,hp.1⟩).on Zb_.drew;rw [HQ.o,<- HE.o] at ha4;clear HA;have HA:=Zaa ha4;clear ha4 hp hL hts ht hw5 hw4;go_wp2
    go_end0
    exact⟨rfl,HA.o.fin⟩
theorem ZhV (KP:Nat->Prop) (lo:Nat) (w:World) (γ ρ:Nat) (U:Rr) (b:Nat->Option Addr) (m:Nat->Nat) (S:Nat->Nat->Prop) (M:Rm) (a0:Option Addr) (k0 lx ux:Nat) (hR:Rz KP lo w γ b m S U) (kr:KP ρ) (rb:Box w ρ #[.pointer (some ⟨γ,0,none⟩)]) (hlu:lx<=ux) (hx:ZaE rsL 2 w lx ux (.slice a0 M.sl.length k0) M.sl) (hxs:∀ k,lx<=k->k < ux->lo<=k/\k < w.heap.size/\k≠γ/\¬ KP k/\∀ i,i < 7->¬ S i k) :
 Calls prog 115 #[.agg (rmL M a0 k0).toArray,.pointer (some ⟨ρ,0,none⟩)] w fun e w'=>e=.returned (.tuple #[])/\Zag KP w w'/\Box w' ρ #[.pointer (some ⟨γ,0,none⟩)]/\∃ b' m' S',Rz KP lo w' γ b' m' S' (Zav U M)/\b' 3=b 3/\m' 3=m 3:=by
 have HKw:Hd (∀ k,KP k->k < w.heap.size):=fun k hk=>(hR.prot k hk).1
 have HX:=Zaa hx;have HXS:=Zaa hxs;have hρ:=rb.lt;have hγ:=hR.box.lt;have HKR:=Zaa kr
 show Calls prog 115 #[.agg #[.int .i64 M.kd,.int .i64 M.fr,.int .i64 M.tt,.int .i64 M.ba,.int .i64 M.ix,.int .i64 M.kn,.string M.tx,.slice a0 M.sl.length k0],.pointer (some ⟨ρ,0,none⟩)] w _
 go_enter func115,ntmps115
 go_upto_region 1 with fail
 obtain⟨wz,hwz,MB,hb⟩:∃ wz,wz=w.alloc (.cells #[.int .i64 M.kd,.int .i64 M.fr,.int .i64 M.tt,.int .i64 M.ba,.int .i64 M.ix,.int .i64 M.kn,.string M.tx,.slice a0 M.sl.length k0] 45)/\Hd (Box wz w.heap.size #[.int .i64 M.kd,.int .i64 M.fr,.int .i64 M.tt,.int .i64 M.ba,.int .i64 M.ix,.int .i64 M.kn,.string M.tx,.slice a0 M.sl.length k0])/\Zw_ w wz:=⟨_,rfl,Box.new _ _ _ _ rfl,Zab _ _⟩
 rw [<- hwz];clear hwz;have hsz:w.heap.size+1<=wz.heap.size:=by have:=MB.o.lt;omega
 have HR:Hd (Rz (KN KP w 1) lo wz γ b m S U):=hR.shield hb (fun k hk=>hk.imp (fun h=>h) (fun h=>⟨h.1,by omega⟩));have RB:=Zaa (rb.on hb);have HKP:Hd (Zag KP w wz):=Zag.below hb HKw.o;have HX1:=Zaa (HX.o.below hb);clear hb hR rb hx hxs kr HX;have r0:wz.cell? ⟨ρ,0,none⟩=some (.pointer (some ⟨γ,0,none⟩)):=RB.o.cell 0;have x9:wz.cell? ⟨γ,9,none⟩=some (.slice (b 2) U.he.length (m 2)):=HR.o.box.cell 9
 by_cases hlt:U.he.length < 400
 case neg=>
  have d1:decide ((U.he.length:Int) < 400)=false:=by simp;omega
  have HE:Hd (Zav U M=U):=by unfold Hd Zav;rw [if_neg hlt]
  go_wp2
  go_end0
  exact⟨rfl,HKP.o,RB.o,b,m,S,by rw [HE.o];exact HR.o.shield Zb_ (fun k hk=>Or.inl (Or.inl hk)),rfl,rfl⟩
 have d1:decide ((U.he.length:Int) < 400)=true:=by simp;omega
 have HE:Hd (Zav U M={ U with he:=U.he ++ [{ M with fr:=U.nu }] }):=by unfold Hd Zav;rw [if_pos hlt]
 have x0:wz.cell? ⟨γ,0,none⟩=some (.int .i64 U.nu):=HR.o.box.cell 0;have y1:wz.cell? ⟨w.heap.size,1,none⟩=some (.int .i64 M.fr):=MB.o.cell 1;have yf:=MB.o.free
 go_upto_region 3 with fail
 clear x0 y1 yf r0 x9 d1;obtain⟨w1,hw1⟩:∃ w1,w1=wz.setCell ⟨w.heap.size,1,none⟩ (.int .i64 U.nu):=⟨_,rfl⟩
 rw [<- hw1];have MB1:Hd (Box w1 w.heap.size #[.int .i64 M.kd,.int .i64 U.nu,.int .i64 M.tt,.int .i64 M.ba,.int .i64 M.ix,.int .i64 M.kn,.string M.tx,.slice a0 M.sl.length k0]):=by unfold Hd;rw [hw1];exact MB.o.set (k:=1) (.int .i64 U.nu) (by show 1 < 8;omega)
 have T1:Hd (Zad w.heap.size (w.heap.size+1) wz w1):=by unfold Hd;rw [hw1];exact Zad.setCell _ _ _ _ _ ⟨Nat.le_refl _,Nat.lt_succ_self _⟩
 clear hw1 MB;replace HR:=Zaa (HR.o.other (β:=w.heap.size) (Or.inr ⟨by omega,by omega⟩) T1.o);replace RB:=Zaa (RB.o.tch2 T1.o (Or.inl (by omega)));replace HKP:Hd (Zag KP w w1):=HKP.o.trans (Zag.touch T1.o (fun k hk=>by have:=HKw.o k hk;omega));have hw1s:wz.heap.size<=w1.heap.size:=T1.o.size
 replace HX1:Hd (ZaE rsL 2 w1 lx ux (.slice a0 M.sl.length k0) M.sl):=HX1.o.touch T1.o (by
  rcases Nat.lt_or_ge lx ux with h | h
  . left;have:=(HXS.o (ux - 1) (by omega) (by omega)).2.1;omega
  . rcases Nat.lt_or_ge ux (w.heap.size+1) with h' | h'
    . left;omega
    . right;omega)
 clear T1;have r0:w1.cell? ⟨ρ,0,none⟩=some (.pointer (some ⟨γ,0,none⟩)):=RB.o.cell 0;have x9:w1.cell? ⟨γ,9,none⟩=some (.slice (b 2) U.he.length (m 2)):=HR.o.box.cell 9;have y0:w1.cell? ⟨w.heap.size,0,none⟩=some (.int .i64 M.kd):=MB1.o.cell 0;have y1:w1.cell? ⟨w.heap.size,1,none⟩=some (.int .i64 U.nu):=MB1.o.cell 1;have y2:w1.cell? ⟨w.heap.size,2,none⟩=some (.int .i64 M.tt):=MB1.o.cell 2;have y3:w1.cell? ⟨w.heap.size,3,none⟩=some (.int .i64 M.ba):=MB1.o.cell 3;have y4:w1.cell? ⟨w.heap.size,4,none⟩=some (.int .i64 M.ix):=MB1.o.cell 4;have y5:w1.cell? ⟨w.heap.size,5,none⟩=some (.int .i64 M.kn):=MB1.o.cell 5;have y6:w1.cell? ⟨w.heap.size,6,none⟩=some (.string M.tx):=MB1.o.cell 6;have y7:w1.cell? ⟨w.heap.size,7,none⟩=some (.slice a0 M.sl.length k0):=MB1.o.cell 7;refine Code.wp_mono NoPanic.imp ?_
 refine Zao (S:=fun W=>W.cell? ⟨ρ,0,none⟩=some (.pointer (some ⟨γ,0,none⟩))/\W.cell? ⟨γ,9,none⟩=some (.slice (b 2) U.he.length (m 2))/\W.cell? ⟨w.heap.size,0,none⟩=some (.int .i64 M.kd)/\W.cell? ⟨w.heap.size,1,none⟩=some (.int .i64 U.nu)/\W.cell? ⟨w.heap.size,2,none⟩=some (.int .i64 M.tt)/\W.cell? ⟨w.heap.size,3,none⟩=some (.int .i64 M.ba)/\W.cell? ⟨w.heap.size,4,none⟩=some (.int .i64 M.ix)/\W.cell? ⟨w.heap.size,5,none⟩=some (.int .i64 M.kn)/\W.cell? ⟨w.heap.size,6,none⟩=some (.string M.tx)/\W.cell? ⟨w.heap.size,7,none⟩=some (.slice a0 M.sl.length k0)) [8,9,10] (by kernel_rfl) ⟨r0,x9,y0,y1,y2,y3,y4,y5,y6,y7⟩ (fun hHeld=>?_);refine tB 0 (.pointer (some ⟨γ,0,none⟩)) [8,9,10] rfl hHeld ?_
 try simp only [Act.put,sLs]
 refine tB 1 (.pointer (some ⟨γ,0,none⟩)) [2,3,4,7,8,9,10] rfl hHeld ?_
 try simp only [Act.put,sLs]
 refine tB 2 (.pointer (some ⟨γ,0,none⟩)) [3,4,7,8,9,10] rfl hHeld ?_
 try simp only [Act.put,sLs]
 refine tB 3 (.pointer (some ⟨γ,9,none⟩)) [4,7,8,9,10] rfl hHeld ?_
 try simp only [Act.put,sLs]
 refine tB 4 (.slice (b 2) U.he.length (m 2)) [7,8,9,10] rfl hHeld ?_
 try simp only [Act.put,sLs]
 refine tB 5 (.agg #[.int .i64 M.kd,.int .i64 U.nu,.int .i64 M.tt,.int .i64 M.ba,.int .i64 M.ix,.int .i64 M.kn,.string M.tx,.slice a0 M.sl.length k0]) [6,7,8,9,10] rfl hHeld ?_
 try simp only [Act.put,sLs]
 refine oB 6 rfl (fun K hK=>?_)
 go_simp
 obtain⟨w2,hw2⟩:∃ w2,w2=(w1.alloc (.cells #[.int .i64 M.kd,.int .i64 U.nu,.int .i64 M.tt,.int .i64 M.ba,.int .i64 M.ix,.int .i64 M.kn,.string M.tx,.slice a0 M.sl.length k0] 45)).drew:=⟨_,rfl⟩
 have hb:Below w1.heap.size w1 w2:=by rw [hw2];exact (Zab w1 _).drew
 have SB:Hd (Box w2 w1.heap.size #[.int .i64 M.kd,.int .i64 U.nu,.int .i64 M.tt,.int .i64 M.ba,.int .i64 M.ix,.int .i64 M.kn,.string M.tx,.slice a0 M.sl.length k0]):=by unfold Hd;rw [hw2];exact (Box.new w1 _ _ _ rfl).drew
 rw [<- hw2];clear hw2;have hs2:=hb.size;replace HR:=Zaa (HR.o.on hb);replace RB:=Zaa (RB.o.on hb);replace HKP:Hd (Zag KP w w2):=HKP.o.trans (Zag.below hb (fun k hk=>by have:=HKw.o k hk;omega));replace HX1:=Zaa (HX1.o.below hb);replace MB1:=Zaa (MB1.o.on hb);clear hb hHeld;refine hK.out _ _ (fun _=>⟨RB.o.cell 0,HR.o.box.cell 9,MB1.o.cell 0,MB1.o.cell 1,MB1.o.cell 2,MB1.o.cell 3,MB1.o.cell 4,MB1.o.cell 5,MB1.o.cell 6,MB1.o.cell 7⟩) (fun hHx=>?_);have hHeld:=hHx (by decide);clear hK hHx
 try simp only [Act.put,sLs]
 have HRa:=Zaa (HR.o.absorb (fun k=>lx<=k/\k < ux) (fun k hk=>by
  have q:=HXS.o k hk.1 hk.2;refine⟨q.1,by omega,q.2.2.1,fun hK=>?_,q.2.2.2.2⟩
  rcases hK with hK | hK
  . exact q.2.2.2.1 hK
  . omega))
 obtain⟨L2,hng,hmap⟩:=HR.o.cp.o2;have hl2:L2.length=U.he.length:=by rw [<- hmap,List.length_map]
 obtain⟨v',w3,hrun,ht,hrow⟩:=ZiF Zeu ZkQ ZcT (by decide) underlying38 Zc9 rfl (S1:=fun k=>S 2 k\/(lx<=k/\k < ux)) (x:=({ M with fr:=U.nu },a0,k0)) 38 hng lx ux hlu HX1.o (fun k p q=>⟨by have:=(HXS.o k p q).2.1;omega,Or.inr ⟨p,q⟩,(HXS.o k p q).2.2.2.2 2 (by decide)⟩) ⟨w1.heap.size,0,none⟩ 1 (fun j u hu=>by
  rw [Addr.add_lit,Nat.zero_add,SB.o.cell j]
  simpa [Zai,mxL,rmL] using hu) (Ze7 _) (by omega) (by decide) (fun k hk=>⟨Or.inl hk,(HR.o.cp.seg 2 (by decide) k hk).2⟩)
 have hmap':(L2 ++ [(({ M with fr:=U.nu },a0,k0):MX)]).map (·.1)=U.he ++ [{ M with fr:=U.nu }]:=by rw [List.map_append,hmap];rfl
 obtain⟨a',m',hv'⟩:=hrow.form;rw [show (L2 ++ [(({ M with fr:=U.nu },a0,k0):MX)]).length=(U.he ++ [{ M with fr:=U.nu }]).length by rw [<- hmap',List.length_map]] at hv';subst hv';have ht2:Zal (fun k=>S 2 k\/(lx<=k/\k < ux)) w2 w3:=ht.wide fun _ h=>Or.inl h
 have HP:=Zaa (HRa.o.part2 (L':=U.he ++ [{ M with fr:=U.nu }]) (by rw [ZaA];exact ht2) ⟨L2 ++ [(({ M with fr:=U.nu },a0,k0):MX)],by rw [ZaA];exact hrow,hmap'⟩);obtain⟨nl,hnl⟩:∃ nl,nl=(U.he ++ [{ M with fr:=U.nu }]).length:=⟨_,rfl⟩
 rw [<- hnl] at HP hrun;have hkp:Zag (fun k=>k < w2.heap.size/\¬ S 2 k) w2 w3:=Zag.touchS ht fun _ h=>h
 have BG:=Zaa (HR.o.box.kept hkp ⟨HR.o.box.lt,HR.o.far 2 (by decide)⟩);have RB3:=Zaa (RB.o.kept hkp ⟨RB.o.lt,(HR.o.prot _ (Or.inl HKR.o)).2.2 2 (by decide)⟩);have MB3:=Zaa (MB1.o.kept hkp ⟨MB1.o.lt,(HR.o.prot _ (Or.inr ⟨by omega,by omega⟩)).2.2 2 (by decide)⟩);have z9:w3.cell? ⟨γ,9,none⟩=some (.slice (b 2) U.he.length (m 2)):=BG.o.cell 9;have hs3:=ht.size;clear hnl hng hmap hrow ht ht2 hkp hmap' HRa HX1 SB hl2;refine oB 7 rfl (fun K hK=>?_);refine Zae rfl (.tmp 18) (.tmp 20) 38 rfl rfl rfl hrun ?_;clear hrun hHeld;refine hK.out _ _ (fun _=>⟨RB3.o.cell 0,z9,MB3.o.cell 0,MB3.o.cell 1,MB3.o.cell 2,MB3.o.cell 3,MB3.o.cell 4,MB3.o.cell 5,MB3.o.cell 6,MB3.o.cell 7⟩) (fun _=>?_);clear hK;have gf:=BG.o.free
 try simp only [Act.put,sLs]
 refine oB 8 rfl (fun K hK=>?_)
 go_simp
 refine hK.out _ _ (fun h=>absurd (by decide) h) (fun _=>?_);clear hK K
 try simp only [Act.put,sLs]
 refine oB 9 rfl (fun K hK=>?_)
 go_simp
 refine hK.out _ _ (fun h=>absurd (by decide) h) (fun _=>?_);clear hK K
 try simp only [Act.put,sLs]
 refine oB 10 rfl (fun K hK=>?_)
 go_simp
 refine hK.out _ _ (fun h=>absurd (by decide) h) (fun _=>?_);clear hK K
 try simp only [Act.put,sLs]
 refine Zak (by kernel_rfl) ?_ _;refine NoPanic.normal ?_;clear z9 gf;obtain⟨w4,hw4⟩:∃ w4,w4=w3.setCell ⟨γ,9,none⟩ (.slice a' nl m'):=⟨_,rfl⟩
 rw [<- hw4] at HP |-;have RB4:Hd (Box w4 ρ #[.pointer (some ⟨γ,0,none⟩)]):=by unfold Hd;rw [hw4];exact RB3.o.setFar (by have:=(HR.o.prot _ (Or.inl HKR.o)).2.1;simp only [];omega) _
 clear hw4;go_wp2
 go_end0
 exact⟨rfl,HKP.o.trans (HP.o.2.less fun k hk=>Or.inl hk),RB4.o,_,_,_,by rw [HE.o];exact HP.o.1.shield Zb_ (fun k hk=>Or.inl (Or.inl hk)),Zbc _ _ (by decide),Zbc _ _ (by decide)⟩
theorem ZeF (KP:Nat->Prop) (lo:Nat) (w:World) (γ ρ:Nat) (U:Rr) (b:Nat->Option Addr) (m:Nat->Nat) (S:Nat->Nat->Prop) (M:Rm) (hR:Rz KP lo w γ b m S U) (kr:KP ρ) (rb:Box w ρ #[.pointer (some ⟨γ,0,none⟩)]) (hM:M.sl=[]) :
 Calls prog 115 #[.agg (rmL M none 0).toArray,.pointer (some ⟨ρ,0,none⟩)] w fun e w'=>e=.returned (.tuple #[])/\Zag KP w w'/\Box w' ρ #[.pointer (some ⟨γ,0,none⟩)]/\∃ b' m' S',Rz KP lo w' γ b' m' S' (Zav U M)/\b' 3=b 3/\m' 3=m 3:=
 ZhV KP lo w γ ρ U b m S M none 0 0 0 hR kr rb Zl_ (by rw [hM];exact ZaE.nil _ _ _ _ _) (fun k _ h=>absurd h (Nat.not_lt_zero _))
end Go.Proofs.YtkiefplmnoapfaaGreat
