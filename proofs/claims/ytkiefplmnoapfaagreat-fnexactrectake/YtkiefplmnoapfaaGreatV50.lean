import Derived.Test.YtkiefplmnoapfaaGreatV43
import Derived.Test.YtkiefplmnoapfaaGreatV49
set_option maxHeartbeats 16000000
set_option maxRecDepth 100000
open Go.Proofs.Tryz
namespace Go.Proofs.YtkiefplmnoapfaaGreat
open Go.RowKit Go.Deep
theorem Zhl (KP:Nat->Prop) (lo:Nat) (w:World) (γ ρ:Nat) (U:Rr) (M:Rm) (a0:Option Addr) (k0:Nat) (h:Wk KP lo w γ ρ U) (hz:RrZ U) (hl:U.dk.sl.length<=999) :
 Calls prog 116 #[.agg (wkC γ ρ),.agg (rmL M a0 k0).toArray] w fun e w'=>e=.returned (.tuple #[])/\Zag KP w w'/\Wk KP lo w' γ ρ (Zdh U M):=by
 have HW:=Zaa h;clear h;have HZ:=Zaa hz;clear hz
 show Calls prog 116 #[.agg #[.pointer (some ⟨γ,0,none⟩),.func (.func 115) #[] #[.pointer (some ⟨ρ,0,none⟩)]],.agg #[.int .i64 M.kd,.int .i64 M.fr,.int .i64 M.tt,.int .i64 M.ba,.int .i64 M.ix,.int .i64 M.kn,.string M.tx,.slice a0 M.sl.length k0]] w _
 go_enter func116,ntmps116
 go_upto_region 1 with fail
 obtain⟨W0,hW0,HA,MB⟩:∃ W0,W0=((w.alloc (.cells #[.pointer (some ⟨γ,0,none⟩),.func (.func 115) #[] #[.pointer (some ⟨ρ,0,none⟩)]] 123)).alloc (.cells #[.int .i64 M.kd,.int .i64 M.fr,.int .i64 M.tt,.int .i64 M.ba,.int .i64 M.ix,.int .i64 M.kn,.string M.tx,.slice a0 M.sl.length k0] 45))/\Hd (At KP lo w W0 γ ρ 2 U)/\Hd (Box W0 (w.heap.size+1) #[.int .i64 M.kd,.int .i64 M.fr,.int .i64 M.tt,.int .i64 M.ba,.int .i64 M.ix,.int .i64 M.kn,.string M.tx,.slice a0 M.sl.length k0]):=
  ⟨_,rfl,HW.o.enter (bt (Zab _ _) (Zab _ _)) ((Box.new w _ _ _ rfl).on (Zab _ _)) (by simp) (by omega),(Box.new _ _ _ _ (by simp))⟩
 rw [<- hW0];clear hW0;obtain⟨b,m,S,hR⟩:=HA.o.wz;have HR:=Zaa hR;clear hR;have x_0:W0.cell? ⟨w.heap.size,0,none⟩=some (.pointer (some ⟨γ,0,none⟩)):=HA.o.c0;have x6:W0.cell? ⟨γ,6,none⟩=some (.int .i64 U.dk.pr):=HR.o.box.cell 6;have y1_3:W0.cell? ⟨w.heap.size+1,3,none⟩=some (.int .i64 M.ba):=MB.o.cell 3
 by_cases hp:M.ba<=U.dk.pr
 case pos=>
  have d1:decide (M.ba<=U.dk.pr)=true:=decide_eq_true hp;have HE:Hd (Zdh U M=Zav U (Zfc U M)):=by unfold Hd Zdh;rw [if_pos hp]
  go_quiet (fail)
  obtain⟨W1,hWn⟩:∃ wx_,wx_=W0.drewN nq:=⟨_,rfl⟩
  rw [<- hWn];have hb:Below W0.heap.size W0 W1:=by rw [hWn];exact below_drewN Zb_ _
  clear hWn;replace HA:=Zaa (HA.o.on hb);replace HR:=Zaa (HR.o.on hb);replace MB:=Zaa (MB.o.on hb);clear hb
  go_upto_region 2 with fail
  clear x_0 x6 y1_3 d1;have x_0:W1.cell? ⟨w.heap.size,0,none⟩=some (.pointer (some ⟨γ,0,none⟩)):=HA.o.c0;have x_1:W1.cell? ⟨w.heap.size,1,none⟩=some (.func (.func 115) #[] #[.pointer (some ⟨ρ,0,none⟩)]):=HA.o.c1;have y1_0:W1.cell? ⟨w.heap.size+1,0,none⟩=some (.int .i64 M.kd):=MB.o.cell 0;have y1_1:W1.cell? ⟨w.heap.size+1,1,none⟩=some (.int .i64 M.fr):=MB.o.cell 1;have y1_2:W1.cell? ⟨w.heap.size+1,2,none⟩=some (.int .i64 M.tt):=MB.o.cell 2;have y1_3:W1.cell? ⟨w.heap.size+1,3,none⟩=some (.int .i64 M.ba):=MB.o.cell 3;have y1_4:W1.cell? ⟨w.heap.size+1,4,none⟩=some (.int .i64 M.ix):=MB.o.cell 4;have y1_5:W1.cell? ⟨w.heap.size+1,5,none⟩=some (.int .i64 M.kn):=MB.o.cell 5;have y1_6:W1.cell? ⟨w.heap.size+1,6,none⟩=some (.string M.tx):=MB.o.cell 6;have y1_7:W1.cell? ⟨w.heap.size+1,7,none⟩=some (.slice a0 M.sl.length k0):=MB.o.cell 7;go_wp2_with fail
  clear x_0 x_1 y1_0 y1_1 y1_2 y1_3 y1_4 y1_5 y1_6 y1_7;refine (Zdf (KN KP w 2) lo _ γ ρ U M a0 k0 HA.o.wk).mono ?_;rintro e W2 ⟨rfl,hk,hz⟩;have HAn:Hd (At KP lo w W2 γ ρ 2 (Zav U (Zfc U M))):=HA.o.call hk hz;replace MB:=Zaa (MB.o.kept hk (Or.inr ⟨by omega,by omega⟩));clear hk hz HA HR;have HA:=HAn;clear HAn;obtain⟨b,m,S,hR⟩:=HA.o.wz;have HR:=Zaa hR;clear hR;go_wp2
  (try simp only [Exit.inBlock,Exit.then]);refine bodyPost_ret (results_none rfl _ _ _) rfl ?_
  exact⟨rfl,by rw [HE.o];exact HA.o.fin⟩
 have d1:decide (M.ba<=U.dk.pr)=false:=decide_eq_false hp;have HE:Hd (Zdh U M=Zav (Zam U M.ba) (ZgN (Zam U M.ba) M)):=by unfold Hd Zdh;rw [if_neg hp]
 go_quiet (fail)
 obtain⟨W1,hWn⟩:∃ wx_,wx_=W0.drewN nq:=⟨_,rfl⟩
 rw [<- hWn];have hb:Below W0.heap.size W0 W1:=by rw [hWn];exact below_drewN Zb_ _
 clear hWn;replace HA:=Zaa (HA.o.on hb);replace HR:=Zaa (HR.o.on hb);replace MB:=Zaa (MB.o.on hb);clear hb
 go_upto_region 3 with fail
 clear x_0 x6 y1_3 d1;have x_0:W1.cell? ⟨w.heap.size,0,none⟩=some (.pointer (some ⟨γ,0,none⟩)):=HA.o.c0;have x_1:W1.cell? ⟨w.heap.size,1,none⟩=some (.func (.func 115) #[] #[.pointer (some ⟨ρ,0,none⟩)]):=HA.o.c1;have y1_3:W1.cell? ⟨w.heap.size+1,3,none⟩=some (.int .i64 M.ba):=MB.o.cell 3;go_wp2_with fail;clear x_0 x_1 y1_3;refine (Zda (KN KP w 2) lo _ γ ρ U M.ba HA.o.wk).mono ?_;rintro e W2 ⟨rfl,hk,hz⟩;have HAn:Hd (At KP lo w W2 γ ρ 2 (Zam U M.ba)):=HA.o.call hk hz;replace MB:=Zaa (MB.o.kept hk (Or.inr ⟨by omega,by omega⟩));clear hk hz HA HR;have HA:=HAn;clear HAn;obtain⟨b,m,S,hR⟩:=HA.o.wz;have HR:=Zaa hR;clear hR;obtain⟨F,hF⟩:∃ F,F=Zam U M.ba:=⟨_,rfl⟩
 have f1:F.dk.sl.length<=999:=by rw [hF,Zb4];exact hl
 have HZF:Hd (∀ i (h:i < F.dk.sl.length),ZaV F.dk.sl[i]):=by unfold Hd;rw [hF,Zb4];exact HZ.o.z1
 rw [<- hF] at HA HR HE;clear hF
 go_upto_region 4 with fail
 have x_0:W2.cell? ⟨w.heap.size,0,none⟩=some (.pointer (some ⟨γ,0,none⟩)):=HA.o.c0;have x_1:W2.cell? ⟨w.heap.size,1,none⟩=some (.func (.func 115) #[] #[.pointer (some ⟨ρ,0,none⟩)]):=HA.o.c1;have x8:W2.cell? ⟨γ,8,none⟩=some (.slice (b 1) F.dk.sl.length (m 1)):=HR.o.box.cell 8;have y1_1:W2.cell? ⟨w.heap.size+1,1,none⟩=some (.int .i64 M.fr):=MB.o.cell 1;have y1_3:W2.cell? ⟨w.heap.size+1,3,none⟩=some (.int .i64 M.ba):=MB.o.cell 3;refine Code.wp_mono NoPanic.imp ?_;refine Zao (S:=fun W=>W.cell? ⟨w.heap.size,0,none⟩=some (.pointer (some ⟨γ,0,none⟩))/\W.cell? ⟨w.heap.size,1,none⟩=some (.func (.func 115) #[] #[.pointer (some ⟨ρ,0,none⟩)])/\W.cell? ⟨γ,8,none⟩=some (.slice (b 1) F.dk.sl.length (m 1))/\W.cell? ⟨w.heap.size+1,1,none⟩=some (.int .i64 M.fr)/\W.cell? ⟨w.heap.size+1,3,none⟩=some (.int .i64 M.ba)) [14] (by kernel_rfl) ⟨x_0,x_1,x8,y1_1,y1_3⟩ (fun hHeld=>?_)
 refine tB 0 (.pointer (some ⟨w.heap.size,1,none⟩)) [1,14] rfl hHeld ?_
 try simp only [Act.put,sLs]
 refine tB 1 (.func (.func 115) #[] #[.pointer (some ⟨ρ,0,none⟩)]) [14] rfl hHeld ?_
 try simp only [Act.put,sLs]
 refine tB 2 (.pointer (some ⟨w.heap.size+1,1,none⟩)) [3,13,14] rfl hHeld ?_
 try simp only [Act.put,sLs]
 refine tB 3 (.int .i64 M.fr) [13,14] rfl hHeld ?_
 try simp only [Act.put,sLs]
 refine tB 4 (.pointer (some ⟨w.heap.size+1,3,none⟩)) [5,13,14] rfl hHeld ?_
 try simp only [Act.put,sLs]
 refine tB 5 (.int .i64 M.ba) [13,14] rfl hHeld ?_
 try simp only [Act.put,sLs]
 refine tB 6 (.pointer (some ⟨w.heap.size,0,none⟩)) [7,8,9,10,11,12,13,14] rfl hHeld ?_
 try simp only [Act.put,sLs]
 refine tB 7 (.pointer (some ⟨γ,0,none⟩)) [8,9,10,11,12,13,14] rfl hHeld ?_
 try simp only [Act.put,sLs]
 refine tB 8 (.pointer (some ⟨γ,0,none⟩)) [9,10,11,12,13,14] rfl hHeld ?_
 try simp only [Act.put,sLs]
 refine tB 9 (.pointer (some ⟨γ,6,none⟩)) [10,11,12,13,14] rfl hHeld ?_
 try simp only [Act.put,sLs]
 refine tB 10 (.pointer (some ⟨γ,8,none⟩)) [11,12,13,14] rfl hHeld ?_
 try simp only [Act.put,sLs]
 refine tB 11 (.slice (b 1) F.dk.sl.length (m 1)) [12,13,14] rfl hHeld ?_
 try simp only [Act.put,sLs]
 refine oB 12 rfl (fun K hK=>?_)
 go_simp
 have HVS:Hd (Zaq 0 W2 (.slice (b 1) F.dk.sl.length (m 1)) F.dk.sl):=by
  obtain⟨l,u,_,ho⟩:=HR.o.cp.o1.rss HZF.o;exact ho.at.mono Zz_
 refine (Zcr 0 _ F.dk.sl _ (HVS.o.below Zb_.drew) (by omega)).mono ?_;rintro e w8 ⟨v8,rfl,hb0,hrow⟩;have hb:Below W2.heap.size W2 w8:=(Zb_.drew).trans hb0;have hrow':ZaE rsL 2 w8 W2.heap.size w8.heap.size v8 F.dk.sl:=hrow;clear hb0 hrow HVS;obtain⟨a8,c8,hv8⟩:=hrow'.form;subst hv8;have HROW:=Zaa hrow';have hs8:=hb.size;have HLT:Hd (γ < W2.heap.size/\lo<=W2.heap.size/\(∀ k,KN KP w 2 k->k < W2.heap.size)/\∀ i,i < 7->∀ k,S i k->k < W2.heap.size):=⟨HR.o.box.lt,HR.o.low,fun k hk=>(HR.o.prot k hk).1,fun i hi k hS=>(HR.o.cp.seg i hi k hS).2⟩;replace HA:=Zaa (HA.o.on hb);replace HR:=Zaa (HR.o.on hb);replace MB:=Zaa (MB.o.on hb);clear hb hrow' hHeld;refine hK.out _ _ (fun _=>⟨HA.o.c0,HA.o.c1,HR.o.box.cell 8,MB.o.cell 1,MB.o.cell 3⟩) (fun hHx=>?_);have hHeld:=hHx (by decide);clear hK hHx K
 try simp only [Act.put,sLs]
 refine tB 13 (.agg #[.int .i64 2,.int .i64 0,.int .i64 M.fr,.int .i64 M.ba,.int .i64 0,.int .i64 0,.string ⟨#[]⟩,.slice a8 F.dk.sl.length c8]) [14] rfl hHeld ?_
 try simp only [Act.put,sLs]
 refine oB 14 rfl (fun K hK=>?_)
 go_simp
 refine (ZfA (KN KP w 2) lo _ γ ρ F b m S (ZgN F M) a8 c8 W2.heap.size w8.heap.size HR.o (Or.inl HA.o.kr) HA.o.rb hs8 HROW.o (fun k p q=>⟨by have:=HLT.o.2.1;omega,q,by have:=HLT.o.1;omega,fun h=>by have:=HLT.o.2.2.1 k h;omega,fun i hi hS=>by have:=HLT.o.2.2.2 i hi k hS;omega⟩)).mono ?_;rintro e WX ⟨rfl,hk,hz⟩;clear hHeld;refine hK.out _ _ (fun h=>absurd (by decide) h) (fun _=>?_);clear hK
 try simp only [Act.put,sLs]
 refine Zak (by kernel_rfl) ?_ _;refine NoPanic.normal ?_;have HAn:Hd (At KP lo w WX γ ρ 2 (Zav F (ZgN F M))):=HA.o.call hk hz;clear HA hk hz;have HA:=HAn;go_wp2
 go_end0
 exact⟨rfl,by rw [HE.o];exact HA.o.fin⟩
theorem Zho (KP:Nat->Prop) (lo:Nat) (w:World) (γ ρ:Nat) (U:Rr) (M:Rm) (a0:Option Addr) (k0:Nat) (h:Wk KP lo w γ ρ U) (hx:0<=M.ix) (h2:M.ix<=1000) (h0:0<=U.dk.kn) (hk1:U.dk.kn<=1000) (hl:U.dk.sl.length<=999) (hal:U.ac.length<=1000) (hai:∀ a ∈ U.ac,1<=a.ix/\a.ix<=1000/\a.fr.length<=1000/\Asc a.fr) (has:ZkA U.ac) :
 Calls prog 119 #[.agg (wkC γ ρ),.agg (rmL M a0 k0).toArray] w fun e w'=>e=.returned (.tuple #[])/\Zag KP w w'/\Wk KP lo w' γ ρ (Zck U M):=by
 have HW:=Zaa h;clear h;have HAI:=Zaa hai;have HAS:=Zaa has;clear hai has
 show Calls prog 119 #[.agg #[.pointer (some ⟨γ,0,none⟩),.func (.func 115) #[] #[.pointer (some ⟨ρ,0,none⟩)]],.agg #[.int .i64 M.kd,.int .i64 M.fr,.int .i64 M.tt,.int .i64 M.ba,.int .i64 M.ix,.int .i64 M.kn,.string M.tx,.slice a0 M.sl.length k0]] w _
 go_enter func119,ntmps119
 go_upto_region 1 with fail
 obtain⟨W0,hW0,HA,MB⟩:∃ W0,W0=((w.alloc (.cells #[.pointer (some ⟨γ,0,none⟩),.func (.func 115) #[] #[.pointer (some ⟨ρ,0,none⟩)]] 123)).alloc (.cells #[.int .i64 M.kd,.int .i64 M.fr,.int .i64 M.tt,.int .i64 M.ba,.int .i64 M.ix,.int .i64 M.kn,.string M.tx,.slice a0 M.sl.length k0] 45))/\Hd (At KP lo w W0 γ ρ 2 U)/\Hd (Box W0 (w.heap.size+1) #[.int .i64 M.kd,.int .i64 M.fr,.int .i64 M.tt,.int .i64 M.ba,.int .i64 M.ix,.int .i64 M.kn,.string M.tx,.slice a0 M.sl.length k0]):=
  ⟨_,rfl,HW.o.enter (bt (Zab _ _) (Zab _ _)) ((Box.new w _ _ _ rfl).on (Zab _ _)) (by simp) (by omega),(Box.new _ _ _ _ (by simp))⟩
 rw [<- hW0];clear hW0;obtain⟨b,m,S,hR⟩:=HA.o.wz;have HR:=Zaa hR;clear hR;have x_0:W0.cell? ⟨w.heap.size,0,none⟩=some (.pointer (some ⟨γ,0,none⟩)):=HA.o.c0;have x11:W0.cell? ⟨γ,11,none⟩=some (.bool U.ld):=HR.o.box.cell 11;have x13:W0.cell? ⟨γ,13,none⟩=some (.int .i64 U.ba):=HR.o.box.cell 13;have y1_3:W0.cell? ⟨w.heap.size+1,3,none⟩=some (.int .i64 M.ba):=MB.o.cell 3;have y1_4:W0.cell? ⟨w.heap.size+1,4,none⟩=some (.int .i64 M.ix):=MB.o.cell 4
 cases q1:U.ld with
 | false=>
  rw [q1] at x11;have HE:Hd (Zck U M=U):=by unfold Hd Zck;rw [if_neg (by rw [q1];simp)]
  go_quiet (fail)
  obtain⟨W1,hWn⟩:∃ wx_,wx_=W0.drewN nq:=⟨_,rfl⟩
  rw [<- hWn];have hb:Below W0.heap.size W0 W1:=by rw [hWn];exact below_drewN Zb_ _
  clear hWn;replace HA:=Zaa (HA.o.on hb);replace HR:=Zaa (HR.o.on hb);replace MB:=Zaa (MB.o.on hb);clear hb;go_wp2
  go_end0
  exact⟨rfl,by rw [HE.o];exact HA.o.fin⟩
 | true=>
 rw [q1] at x11
 by_cases q2:M.ba=U.ba
 case neg=>
  have d2:(M.ba == U.ba)=false:=by simpa using q2
  have HE:Hd (Zck U M=U):=by unfold Hd Zck;rw [if_neg (by simp [q2])]
  go_quiet (fail)
  obtain⟨W1,hWn⟩:∃ wx_,wx_=W0.drewN nq:=⟨_,rfl⟩
  rw [<- hWn];have hb:Below W0.heap.size W0 W1:=by rw [hWn];exact below_drewN Zb_ _
  clear hWn;replace HA:=Zaa (HA.o.on hb);replace HR:=Zaa (HR.o.on hb);replace MB:=Zaa (MB.o.on hb);clear hb;go_wp2
  go_end0
  exact⟨rfl,by rw [HE.o];exact HA.o.fin⟩
 have d2:(M.ba == U.ba)=true:=by simpa using q2
 by_cases q3:0 < M.ix
 case neg=>
  have d3:decide (0 < M.ix)=false:=decide_eq_false q3;have HE:Hd (Zck U M=U):=by unfold Hd Zck;rw [if_neg (fun h=>q3 h.2.2)]
  clear q2
  go_quiet (fail)
  obtain⟨W1,hWn⟩:∃ wx_,wx_=W0.drewN nq:=⟨_,rfl⟩
  rw [<- hWn];have hb:Below W0.heap.size W0 W1:=by rw [hWn];exact below_drewN Zb_ _
  clear hWn;replace HA:=Zaa (HA.o.on hb);replace HR:=Zaa (HR.o.on hb);replace MB:=Zaa (MB.o.on hb);clear hb;go_wp2
  go_end0
  exact⟨rfl,by rw [HE.o];exact HA.o.fin⟩
 have d3:decide (0 < M.ix)=true:=decide_eq_true q3;have HE:Hd (Zck U M=Zd3 U M.ix M.fr):=by unfold Hd Zck;rw [if_pos ⟨q1,q2,q3⟩]
 clear q2
 go_quiet (fail)
 obtain⟨W1,hWn⟩:∃ wx_,wx_=W0.drewN nq:=⟨_,rfl⟩
 rw [<- hWn];have hb:Below W0.heap.size W0 W1:=by rw [hWn];exact below_drewN Zb_ _
 clear hWn;replace HA:=Zaa (HA.o.on hb);replace HR:=Zaa (HR.o.on hb);replace MB:=Zaa (MB.o.on hb);clear hb
 go_upto_region 2 with fail
 clear x_0 x11 x13 y1_3 y1_4 d2 d3;have x_0:W1.cell? ⟨w.heap.size,0,none⟩=some (.pointer (some ⟨γ,0,none⟩)):=HA.o.c0;have x_1:W1.cell? ⟨w.heap.size,1,none⟩=some (.func (.func 115) #[] #[.pointer (some ⟨ρ,0,none⟩)]):=HA.o.c1;have y1_1:W1.cell? ⟨w.heap.size+1,1,none⟩=some (.int .i64 M.fr):=MB.o.cell 1;have y1_4:W1.cell? ⟨w.heap.size+1,4,none⟩=some (.int .i64 M.ix):=MB.o.cell 4;go_wp2_with fail;clear x_0 x_1 y1_1 y1_4;refine (Zi1 (KN KP w 2) lo _ γ ρ U M.fr M.ix HA.o.wk (by omega) h2 h0 hk1 (by omega) hal HAI.o HAS.o).mono ?_;rintro e W2 ⟨rfl,hk,hz⟩;have HAn:Hd (At KP lo w W2 γ ρ 2 (Zd3 U M.ix M.fr)):=HA.o.call hk hz;replace MB:=Zaa (MB.o.kept hk (Or.inr ⟨by omega,by omega⟩));clear hk hz HA HR;have HA:=HAn;clear HAn;obtain⟨b,m,S,hR⟩:=HA.o.wz;have HR:=Zaa hR;clear hR;go_wp2
 go_end0
 exact⟨rfl,by rw [HE.o];exact HA.o.fin⟩
theorem Zi6 (KP:Nat->Prop) (lo:Nat) (w:World) (γ ρ:Nat) (U:Rr) (tx:Zy_) (h:Wk KP lo w γ ρ U) (hz:RrZ U) (hkn:0<=U.dk.kn/\U.dk.kn<=(U.dk.sl.length:Int)) (_htx:tx.size<=maxLen) (hn:U.wi.length<=1000000) :
 Calls prog 141 #[.agg (wkC γ ρ),.string tx] w fun e w'=>e=.returned (.tuple #[])/\Zag KP w w'/\Wk KP lo w' γ ρ (Zeq U tx):=by
 have HW:=Zaa h;clear h;have HZ:=Zaa hz;clear hz;unfold maxLen at _htx
 show Calls prog 141 #[.agg #[.pointer (some ⟨γ,0,none⟩),.func (.func 115) #[] #[.pointer (some ⟨ρ,0,none⟩)]],.string tx] w _
 go_enter func141,ntmps141
 go_upto_region 1 with fail
 obtain⟨W0,hW0,HA⟩:∃ W0,W0=(w.alloc (.cells #[.pointer (some ⟨γ,0,none⟩),.func (.func 115) #[] #[.pointer (some ⟨ρ,0,none⟩)]] 123))/\Hd (At KP lo w W0 γ ρ 1 U):=
  ⟨_,rfl,HW.o.enter (Zab _ _) (Box.new w _ _ _ rfl) (by simp) (by omega)⟩
 rw [<- hW0];clear hW0;obtain⟨b,m,S,hR⟩:=HA.o.wz;have HR:=Zaa hR;clear hR;have x_0:W0.cell? ⟨w.heap.size,0,none⟩=some (.pointer (some ⟨γ,0,none⟩)):=HA.o.c0;have x6:W0.cell? ⟨γ,6,none⟩=some (.int .i64 U.dk.pr):=HR.o.box.cell 6;have x7:W0.cell? ⟨γ,7,none⟩=some (.int .i64 U.dk.kn):=HR.o.box.cell 7;have x8:W0.cell? ⟨γ,8,none⟩=some (.slice (b 1) U.dk.sl.length (m 1)):=HR.o.box.cell 8;have x10:W0.cell? ⟨γ,10,none⟩=some (.slice (b 3) U.wi.length (m 3)):=HR.o.box.cell 10;have HE:Hd (Zdz U tx=(inB 1 160 (tx.size:Int)&&(decide ((U.wi.length:Int) < 20)&&(!(U.wi.any (fun s=>s.toList == tx.toList))&&!ZgS (U.dk.sl.take U.dk.kn.toNat) tx)))):=rfl;have HNO:Hd (Zdz U tx=false->Zeq U tx=U):=fun h=>by unfold Zeq;rw [h];rfl
 have HAW:Hd (Za2 0 W0 (.slice (b 3) U.wi.length (m 3)) U.wi):=by
  obtain⟨l,u,_,ho⟩:=HR.o.cp.o3.rts HZ.o.z3;exact ho.at.mono Zz_
 have HAS:Hd (Zaq 0 W0 (.slice (b 1) U.dk.sl.length (m 1)) U.dk.sl):=by
  obtain⟨l,u,_,ho⟩:=HR.o.cp.o1.rss HZ.o.z1;exact ho.at.mono Zz_
 have HCT:Hd (∀ j,j < U.wi.length->∃ b' off,b 3=some ⟨b',off,none⟩/\W0.cell? ⟨b',off+j,none⟩=some (.string (txA U.wi j))):=fun j hj=>by
  obtain⟨b',off,e,-,-,hc⟩:=HAW.o.full' (by omega);exact⟨b',off,e,by rw [Zgq hj];exact (hc j hj).2⟩
 cases q1:inB 1 160 (tx.size:Int) with
 | false=>
  have HF:Hd (Zdz U tx=false):=by unfold Hd;rw [HE.o,q1];rfl
  go_wp2_with (first|(go_at_call 89;refine (Zah _ _ _ _).mono ?_;rw [q1];rintro e w' ⟨rfl,hw'⟩;have hw2:=hw'.symm;subst hw2))
  go_end0
  exact⟨rfl,by rw [HNO.o HF.o];exact HA.o.fin⟩
 | true=>
 by_cases h2:(U.wi.length:Int) < 20
 case neg=>
  have d2:decide ((U.wi.length:Int) < 20)=false:=decide_eq_false h2;have HF:Hd (Zdz U tx=false):=by unfold Hd;rw [HE.o,q1,d2];rfl
  go_wp2_with (first|(go_at_call 89;refine (Zah _ _ _ _).mono ?_;rw [q1];rintro e w' ⟨rfl,hw'⟩;have hw2:=hw'.symm;subst hw2))
  go_end0
  exact⟨rfl,by rw [HNO.o HF.o];exact HA.o.fin⟩
 have d2:decide ((U.wi.length:Int) < 20)=true:=decide_eq_true h2
 cases q3:U.wi.any (fun s=>s.toList == tx.toList) with
 | true=>
  have HF:Hd (Zdz U tx=false):=by unfold Hd;rw [HE.o,q1,d2,q3];rfl
  have q3':Zg5 U.wi U.wi.length tx=true:=by rw [ZhU,q3]
  go_wp2_with (first|(go_at_call 89;refine (Zah _ _ _ _).mono ?_;rw [q1];rintro e w' ⟨rfl,hw'⟩;have hw2:=hw'.symm;subst hw2)|(go_at_call 111;refine (Zce _ _ _ U.wi tx _ hn HCT.o).mono ?_;rw [q3'];rintro e w' ⟨rfl,hw'⟩;have hw2:=hw'.symm;subst hw2))
  go_end0
  exact⟨rfl,by rw [HNO.o HF.o];exact HA.o.fin⟩
 | false=>
 have q3':Zg5 U.wi U.wi.length tx=false:=by rw [ZhU,q3]
 go_wp2_with (first|(go_at_call 89;refine (Zah _ _ _ _).mono ?_;rw [q1];rintro e w' ⟨rfl,hw'⟩;have hw2:=hw'.symm;subst hw2)|(go_at_call 111;refine (Zce _ _ _ U.wi tx _ hn HCT.o).mono ?_;rw [q3'];rintro e w' ⟨rfl,hw'⟩;have hw2:=hw'.symm;subst hw2)|(go_at_call 145;refine (Zh1 0 U.dk (b 1) (m 1) tx _ HAS.o hkn.1 hkn.2).mono ?_;rintro e w1 ⟨rfl,hb1⟩;have HB1:=Zaa hb1;clear hb1;refine Hd.o ?_));clear x_0 x6 x7 x8 x10 HCT HAS;replace HA:=Zaa (HA.o.on HB1.o);replace HR:=Zaa (HR.o.on HB1.o);have hwsz:=HA.o.sz;refine Zaa ?_
 cases q4:ZgS (U.dk.sl.take U.dk.kn.toNat) tx with
 | true=>
  have HF:Hd (Zdz U tx=false):=by unfold Hd;rw [HE.o,q1,d2,q3,q4];rfl
  go_wp2
  go_end0
  exact⟨rfl,by rw [HNO.o HF.o];exact HA.o.fin⟩
 | false=>
 have HF:Hd (Zeq U tx={ U with wi:=U.wi ++ [tx] }):=by unfold Hd Zeq;rw [HE.o,q1,d2,q3,q4];rfl
 go_upto_region 2 with fail
 clear q1 d2 q3 q3' q4;have x_0:w1.cell? ⟨w.heap.size,0,none⟩=some (.pointer (some ⟨γ,0,none⟩)):=HA.o.c0;have x10:w1.cell? ⟨γ,10,none⟩=some (.slice (b 3) U.wi.length (m 3)):=HR.o.box.cell 10;refine Code.wp_mono NoPanic.imp ?_;refine Zao (S:=fun W=>W.cell? ⟨w.heap.size,0,none⟩=some (.pointer (some ⟨γ,0,none⟩))/\W.cell? ⟨γ,10,none⟩=some (.slice (b 3) U.wi.length (m 3))) [10,11,12] (by kernel_rfl) ⟨x_0,x10⟩ (fun hHeld=>?_);refine tB 0 (.pointer (some ⟨w.heap.size,0,none⟩)) [1,10,11,12] rfl hHeld ?_
 try simp only [Act.put,sLs]
 refine tB 1 (.pointer (some ⟨γ,0,none⟩)) [10,11,12] rfl hHeld ?_
 try simp only [Act.put,sLs]
 refine tB 2 (.pointer (some ⟨w.heap.size,0,none⟩)) [3,4,5,6,9,10,11,12] rfl hHeld ?_
 try simp only [Act.put,sLs]
 refine tB 3 (.pointer (some ⟨γ,0,none⟩)) [4,5,6,9,10,11,12] rfl hHeld ?_
 try simp only [Act.put,sLs]
 refine tB 4 (.pointer (some ⟨γ,0,none⟩)) [5,6,9,10,11,12] rfl hHeld ?_
 try simp only [Act.put,sLs]
 refine tB 5 (.pointer (some ⟨γ,10,none⟩)) [6,9,10,11,12] rfl hHeld ?_
 try simp only [Act.put,sLs]
 refine tB 6 (.slice (b 3) U.wi.length (m 3)) [9,10,11,12] rfl hHeld ?_
 try simp only [Act.put,sLs]
 refine tB 7 (.string tx) [8,9,10,11,12] rfl hHeld ?_
 try simp only [Act.put,sLs]
 refine oB 8 rfl (fun K hK=>?_)
 go_simp
 obtain⟨y1,hy1⟩:∃ y1,y1=(w1.alloc (.cells #[.string tx] 9)).drew:=⟨_,rfl⟩
 have hby:Below w1.heap.size w1 y1:=by rw [hy1];exact (Zab w1 _).drew
 have SY:Hd (Box y1 w1.heap.size #[.string tx]):=by unfold Hd;rw [hy1];exact (Box.new w1 _ _ _ rfl).drew
 rw [<- hy1];clear hy1;replace HA:=Zaa (HA.o.on hby);replace HR:=Zaa (HR.o.on hby);clear hby x_0 x10 hHeld;refine hK.out _ _ (fun _=>⟨HA.o.c0,HR.o.box.cell 10⟩) (fun hHx=>?_);have hHeld:=hHx (by decide);clear hK hHx K
 try simp only [Act.put,sLs]
 obtain⟨v',y2,hrun,ht,hrow⟩:=ZaO Zcb (by decide) underlying26 ZgF rfl (M:=[tx]) 26 HR.o.cp.o3 (some ⟨w1.heap.size,0,none⟩) 1 1 rfl (fun e=>by cases e) (fun ad e j u hu=>by
  injection e with e
  subst e;rw [Addr.add_lit,Nat.zero_add,SY.o.cell j]
  simpa [Zai,tyL] using hu) (Zfj _) (by simp;omega) (by decide)
 obtain⟨a',m',hv'⟩:=hrow.form;subst hv';have HP:=Zaa (HR.o.part3 (L':=U.wi ++ [tx]) (a':=a') (m':=m') ht hrow);have hkp:Zag (fun k=>k < y1.heap.size/\¬ S 3 k) y1 y2:=Zag.touchS ht fun _ h=>h
 have BG:=Zaa (HR.o.box.kept hkp ⟨HR.o.box.lt,HR.o.far 3 (by decide)⟩);have BX3:=Zaa (HA.o.bx.kept hkp ⟨HA.o.bx.lt,(HR.o.prot _ (Or.inr ⟨by omega,by omega⟩)).2.2 3 (by decide)⟩);have z10:y2.cell? ⟨γ,10,none⟩=some (.slice (b 3) U.wi.length (m 3)):=BG.o.cell 10;have z_0:y2.cell? ⟨w.heap.size,0,none⟩=some (.pointer (some ⟨γ,0,none⟩)):=BX3.o.cell 0;obtain⟨nl,hnl⟩:∃ nl,nl=(U.wi ++ [tx]).length:=⟨_,rfl⟩
 rw [<- hnl] at HP hrun;clear hnl hrow ht hkp SY;refine oB 9 rfl (fun K hK=>?_);refine Zae rfl (.tmp 42) (.tmp 44) 26 rfl rfl rfl hrun ?_;clear hrun hHeld;refine hK.out _ _ (fun _=>⟨z_0,z10⟩) (fun _=>?_);clear hK;have gf:=BG.o.free
 try simp only [Act.put,sLs]
 refine oB 10 rfl (fun K hK=>?_)
 go_simp
 refine hK.out _ _ (fun h=>absurd (by decide) h) (fun _=>?_);clear hK K
 try simp only [Act.put,sLs]
 refine oB 11 rfl (fun K hK=>?_)
 go_simp
 refine hK.out _ _ (fun h=>absurd (by decide) h) (fun _=>?_);clear hK K
 try simp only [Act.put,sLs]
 refine oB 12 rfl (fun K hK=>?_)
 go_simp
 refine hK.out _ _ (fun h=>absurd (by decide) h) (fun _=>?_);clear hK K
 try simp only [Act.put,sLs]
 refine Zak (by kernel_rfl) ?_ _;refine NoPanic.normal ?_;clear z10 z_0 gf;obtain⟨w4,hw4⟩:∃ w4,w4=y2.setCell ⟨γ,10,none⟩ (.slice a' nl m'):=⟨_,rfl⟩
 rw [<- hw4] at HP |-;clear hw4;have HAn:Hd (At KP lo w w4 γ ρ 1 (Zeq U tx)):=by unfold Hd;rw [HF.o];exact HA.o.step HP.o.2 ⟨_,_,_,HP.o.1⟩
 go_wp2
 go_end0
 exact⟨rfl,HAn.o.fin⟩
end Go.Proofs.YtkiefplmnoapfaaGreat
