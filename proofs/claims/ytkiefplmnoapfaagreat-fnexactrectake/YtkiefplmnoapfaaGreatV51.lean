import Derived.Test.YtkiefplmnoapfaaGreatV40
import Derived.Test.YtkiefplmnoapfaaGreatV42
import Derived.Test.YtkiefplmnoapfaaGreatV45
import Derived.Test.YtkiefplmnoapfaaGreatV46
set_option maxHeartbeats 16000000
set_option maxRecDepth 100000
open Go.Proofs.Tryz
namespace Go.Proofs.YtkiefplmnoapfaaGreat
open Go.RowKit Go.Deep
theorem Zhn (KP:Nat->Prop) (lo:Nat) (w:World) (γ ρ:Nat) (U:Rr) (M:Rm) (a0:Option Addr) (k0:Nat) (h:Wk KP lo w γ ρ U) (hx0:0<=M.ix) (hx2:M.ix<=1000) (hl:U.dk.sl.length<=999) :
 Calls prog 118 #[.agg (wkC γ ρ),.agg (rmL M a0 k0).toArray] w fun e w'=>e=.returned (.tuple #[])/\Zag KP w w'/\Wk KP lo w' γ ρ (Zb1 U M):=by
 have HW:=Zaa h;clear h
 show Calls prog 118 #[.agg #[.pointer (some ⟨γ,0,none⟩),.func (.func 115) #[] #[.pointer (some ⟨ρ,0,none⟩)]],.agg #[.int .i64 M.kd,.int .i64 M.fr,.int .i64 M.tt,.int .i64 M.ba,.int .i64 M.ix,.int .i64 M.kn,.string M.tx,.slice a0 M.sl.length k0]] w _
 go_enter func118,ntmps118
 go_upto_region 1 with fail
 obtain⟨W0,hW0,HA,MB⟩:∃ W0,W0=((w.alloc (.cells #[.pointer (some ⟨γ,0,none⟩),.func (.func 115) #[] #[.pointer (some ⟨ρ,0,none⟩)]] 123)).alloc (.cells #[.int .i64 M.kd,.int .i64 M.fr,.int .i64 M.tt,.int .i64 M.ba,.int .i64 M.ix,.int .i64 M.kn,.string M.tx,.slice a0 M.sl.length k0] 45))/\Hd (At KP lo w W0 γ ρ 2 U)/\Hd (Box W0 (w.heap.size+1) #[.int .i64 M.kd,.int .i64 M.fr,.int .i64 M.tt,.int .i64 M.ba,.int .i64 M.ix,.int .i64 M.kn,.string M.tx,.slice a0 M.sl.length k0]):=
  ⟨_,rfl,HW.o.enter (bt (Zab _ _) (Zab _ _)) ((Box.new w _ _ _ rfl).on (Zab _ _)) (by simp) (by omega),(Box.new _ _ _ _ (by simp))⟩
 rw [<- hW0];clear hW0;obtain⟨b,m,S,hR⟩:=HA.o.wz;have HR:=Zaa hR;clear hR;have x_0:W0.cell? ⟨w.heap.size,0,none⟩=some (.pointer (some ⟨γ,0,none⟩)):=HA.o.c0;have x6:W0.cell? ⟨γ,6,none⟩=some (.int .i64 U.dk.pr):=HR.o.box.cell 6;have y1_3:W0.cell? ⟨w.heap.size+1,3,none⟩=some (.int .i64 M.ba):=MB.o.cell 3
 by_cases hp:M.ba < U.dk.pr
 case pos=>
  have d1:decide (M.ba < U.dk.pr)=true:=decide_eq_true hp;have HE:Hd (Zb1 U M=Zav U (Zfc U M)):=by unfold Hd Zb1;rw [if_pos hp]
  go_quiet (fail)
  obtain⟨W1,hWn⟩:∃ wx_,wx_=W0.drewN nq:=⟨_,rfl⟩
  rw [<- hWn];have hb:Below W0.heap.size W0 W1:=by rw [hWn];exact below_drewN Zb_ _
  clear hWn;replace HA:=Zaa (HA.o.on hb);replace HR:=Zaa (HR.o.on hb);replace MB:=Zaa (MB.o.on hb);clear hb
  go_upto_region 2 with fail
  clear x_0 x6 y1_3 d1;have x_0:W1.cell? ⟨w.heap.size,0,none⟩=some (.pointer (some ⟨γ,0,none⟩)):=HA.o.c0;have x_1:W1.cell? ⟨w.heap.size,1,none⟩=some (.func (.func 115) #[] #[.pointer (some ⟨ρ,0,none⟩)]):=HA.o.c1;have y1_0:W1.cell? ⟨w.heap.size+1,0,none⟩=some (.int .i64 M.kd):=MB.o.cell 0;have y1_1:W1.cell? ⟨w.heap.size+1,1,none⟩=some (.int .i64 M.fr):=MB.o.cell 1;have y1_2:W1.cell? ⟨w.heap.size+1,2,none⟩=some (.int .i64 M.tt):=MB.o.cell 2;have y1_3:W1.cell? ⟨w.heap.size+1,3,none⟩=some (.int .i64 M.ba):=MB.o.cell 3;have y1_4:W1.cell? ⟨w.heap.size+1,4,none⟩=some (.int .i64 M.ix):=MB.o.cell 4;have y1_5:W1.cell? ⟨w.heap.size+1,5,none⟩=some (.int .i64 M.kn):=MB.o.cell 5;have y1_6:W1.cell? ⟨w.heap.size+1,6,none⟩=some (.string M.tx):=MB.o.cell 6;have y1_7:W1.cell? ⟨w.heap.size+1,7,none⟩=some (.slice a0 M.sl.length k0):=MB.o.cell 7;go_wp2_with fail
  clear x_0 x_1 y1_0 y1_1 y1_2 y1_3 y1_4 y1_5 y1_6 y1_7;refine (Zdf (KN KP w 2) lo _ γ ρ U M a0 k0 HA.o.wk).mono ?_;rintro e W2 ⟨rfl,hk,hz⟩;have HAn:Hd (At KP lo w W2 γ ρ 2 (Zav U (Zfc U M))):=HA.o.call hk hz;replace MB:=Zaa (MB.o.kept hk (Or.inr ⟨by omega,by omega⟩));clear hk hz HA HR;have HA:=HAn;clear HAn;obtain⟨b,m,S,hR⟩:=HA.o.wz;have HR:=Zaa hR;clear hR;go_wp2
  (try simp only [Exit.inBlock,Exit.then]);refine bodyPost_ret (results_none rfl _ _ _) rfl ?_
  exact⟨rfl,by rw [HE.o];exact HA.o.fin⟩
 have d1:decide (M.ba < U.dk.pr)=false:=decide_eq_false hp;have HP:=Zaa hp;clear hp
 go_quiet (fail)
 obtain⟨W1,hWn⟩:∃ wx_,wx_=W0.drewN nq:=⟨_,rfl⟩
 rw [<- hWn];have hb:Below W0.heap.size W0 W1:=by rw [hWn];exact below_drewN Zb_ _
 clear hWn;replace HA:=Zaa (HA.o.on hb);replace HR:=Zaa (HR.o.on hb);replace MB:=Zaa (MB.o.on hb);clear hb
 go_upto_region 3 with fail
 clear x_0 x6 y1_3 d1
 by_cases h0:M.ix=0
 case pos=>
  have HE:Hd (Zb1 U M=U):=by unfold Hd Zb1;rw [if_neg (by have:=HP.o;omega),if_pos (Or.inl (by omega))]
  have y4:W1.cell? ⟨w.heap.size+1,4,none⟩=some (.int .i64 0):=by rw [<- h0];exact MB.o.cell 4
  go_wp2_with fail
  (try simp only [Exit.inBlock,Exit.then]);refine bodyPost_ret (results_none rfl _ _ _) rfl ?_
  exact⟨rfl,by rw [HE.o];exact HA.o.fin⟩
 have d0:(M.ix == 0)=false:=by simpa using h0
 obtain⟨lb,hlb⟩:∃ lb,lb=(decide (0 < M.ba)&&(M.fr != U.nu)):=⟨_,rfl⟩
 have HLB:=Zaa hlb;clear hlb;have x_0:W1.cell? ⟨w.heap.size,0,none⟩=some (.pointer (some ⟨γ,0,none⟩)):=HA.o.c0;have x_1:W1.cell? ⟨w.heap.size,1,none⟩=some (.func (.func 115) #[] #[.pointer (some ⟨ρ,0,none⟩)]):=HA.o.c1;have y1_0:W1.cell? ⟨w.heap.size+1,0,none⟩=some (.int .i64 M.kd):=MB.o.cell 0;have y1_1:W1.cell? ⟨w.heap.size+1,1,none⟩=some (.int .i64 M.fr):=MB.o.cell 1;have y1_2:W1.cell? ⟨w.heap.size+1,2,none⟩=some (.int .i64 M.tt):=MB.o.cell 2;have y1_3:W1.cell? ⟨w.heap.size+1,3,none⟩=some (.int .i64 M.ba):=MB.o.cell 3;have y1_4:W1.cell? ⟨w.heap.size+1,4,none⟩=some (.int .i64 M.ix):=MB.o.cell 4;have y1_5:W1.cell? ⟨w.heap.size+1,5,none⟩=some (.int .i64 M.kn):=MB.o.cell 5;have y1_6:W1.cell? ⟨w.heap.size+1,6,none⟩=some (.string M.tx):=MB.o.cell 6;have y1_7:W1.cell? ⟨w.heap.size+1,7,none⟩=some (.slice a0 M.sl.length k0):=MB.o.cell 7;go_wp2_with fail
 clear x_0 x_1 y1_0 y1_1 y1_2 y1_3 y1_4 y1_5 y1_6 y1_7 d0;refine (ZgH (KN KP w 2) lo _ γ ρ U M a0 k0 HA.o.wk).mono ?_;rintro e W2 ⟨rfl,hb⟩;rw [<- HLB.o];replace HA:=Zaa (HA.o.on hb);replace HR:=Zaa (HR.o.on hb);replace MB:=Zaa (MB.o.on hb);clear hb
 cases q:lb with
 | false=>
  have HE:Hd (Zb1 U M=U):=by
   have h9:=HLB.o;rw [q] at h9;unfold Hd Zb1;rw [if_neg (by have:=HP.o;omega),if_pos]
   by_cases h1:M.ba < 1
   . exact Or.inr (Or.inl h1)
   . refine Or.inr (Or.inr ?_)
     rw [decide_eq_true (by omega)] at h9
     simpa using h9
  go_wp2
  (try simp only [Exit.inBlock,Exit.then]);refine bodyPost_ret (results_none rfl _ _ _) rfl ?_
  exact⟨rfl,by rw [HE.o];exact HA.o.fin⟩
 | true=>
 have HNO:Hd (¬ (M.ix < 1\/M.ba < 1\/M.fr=U.nu)):=by
  have h9:=HLB.o;rw [q] at h9;simp at h9;rintro (h | h | h)
  . omega
  . omega
  . exact h9.2 h
 go_upto_region 4 with fail
 have x_0:W2.cell? ⟨w.heap.size,0,none⟩=some (.pointer (some ⟨γ,0,none⟩)):=HA.o.c0;have x_1:W2.cell? ⟨w.heap.size,1,none⟩=some (.func (.func 115) #[] #[.pointer (some ⟨ρ,0,none⟩)]):=HA.o.c1;have y1_3:W2.cell? ⟨w.heap.size+1,3,none⟩=some (.int .i64 M.ba):=MB.o.cell 3;go_wp2_with fail;clear x_0 x_1 y1_3;refine (Zda (KN KP w 2) lo _ γ ρ U M.ba HA.o.wk).mono ?_;rintro e W3 ⟨rfl,hk,hz⟩;have HAn:Hd (At KP lo w W3 γ ρ 2 (Zam U M.ba)):=HA.o.call hk hz;replace MB:=Zaa (MB.o.kept hk (Or.inr ⟨by omega,by omega⟩));clear hk hz HA HR;have HA:=HAn;clear HAn;obtain⟨b,m,S,hR⟩:=HA.o.wz;have HR:=Zaa hR;clear hR;obtain⟨F,hF⟩:∃ F,F=Zam U M.ba:=⟨_,rfl⟩
 have f1:F.dk.sl.length<=999:=by rw [hF,Zb4];exact hl
 have HE:Hd (Zb1 U M=Zav (if F.dk.kn < M.ix then ZdM F M.ix.toNat ⟨M.ba,M.tx⟩ else F) (ZhD M)):=by unfold Hd Zb1 Zkv;rw [if_neg (by have:=HP.o;omega),if_neg HNO.o,<- hF]
 rw [<- hF] at HA HR;clear hF HLB HNO
 go_upto_region 5 with fail
 have x_0:W3.cell? ⟨w.heap.size,0,none⟩=some (.pointer (some ⟨γ,0,none⟩)):=HA.o.c0;have x7:W3.cell? ⟨γ,7,none⟩=some (.int .i64 F.dk.kn):=HR.o.box.cell 7;have y1_4:W3.cell? ⟨w.heap.size+1,4,none⟩=some (.int .i64 M.ix):=MB.o.cell 4
 by_cases hk:F.dk.kn < M.ix
 case neg=>
  have d1:decide (F.dk.kn < M.ix)=false:=decide_eq_false hk;rw [if_neg hk] at HE
  go_quiet (fail)
  obtain⟨W4,hWn⟩:∃ wx_,wx_=W3.drewN nq:=⟨_,rfl⟩
  rw [<- hWn];have hb:Below W3.heap.size W3 W4:=by rw [hWn];exact below_drewN Zb_ _
  clear hWn;replace HA:=Zaa (HA.o.on hb);replace HR:=Zaa (HR.o.on hb);replace MB:=Zaa (MB.o.on hb);clear hb
  go_upto_region 7 with fail
  clear x_0 x7 y1_4 d1;have x_0:W4.cell? ⟨w.heap.size,0,none⟩=some (.pointer (some ⟨γ,0,none⟩)):=HA.o.c0;have x_1:W4.cell? ⟨w.heap.size,1,none⟩=some (.func (.func 115) #[] #[.pointer (some ⟨ρ,0,none⟩)]):=HA.o.c1;have y1_1:W4.cell? ⟨w.heap.size+1,1,none⟩=some (.int .i64 M.fr):=MB.o.cell 1;have y1_3:W4.cell? ⟨w.heap.size+1,3,none⟩=some (.int .i64 M.ba):=MB.o.cell 3;have y1_4:W4.cell? ⟨w.heap.size+1,4,none⟩=some (.int .i64 M.ix):=MB.o.cell 4;go_wp2_with fail;clear x_0 x_1 y1_1 y1_3 y1_4;refine (ZcS (KN KP w 2) lo _ γ ρ F (ZhD M) HA.o.wk rfl).mono ?_;rintro e W5 ⟨rfl,hk,hz⟩;have HAn:Hd (At KP lo w W5 γ ρ 2 (Zav F (ZhD M))):=HA.o.call hk hz;replace MB:=Zaa (MB.o.kept hk (Or.inr ⟨by omega,by omega⟩));clear hk hz HA HR;have HA:=HAn;clear HAn;obtain⟨b,m,S,hR⟩:=HA.o.wz;have HR:=Zaa hR;clear hR;go_wp2
  go_end0
  exact⟨rfl,by rw [HE.o];exact HA.o.fin⟩
 have d1:decide (F.dk.kn < M.ix)=true:=decide_eq_true hk;rw [if_pos hk] at HE;obtain⟨ix,hix⟩:∃ ix:Nat,ix=M.ix.toNat:=⟨_,rfl⟩
 have hixM:M.ix=(ix:Int):=by omega
 rw [<- hix] at HE;have HIX:=Zaa hixM;have hx9:1<=ix/\ix<=1000:=by omega
 clear hix hixM
 go_quiet (fail)
 obtain⟨W4,hWn⟩:∃ wx_,wx_=W3.drewN nq:=⟨_,rfl⟩
 rw [<- hWn];have hb:Below W3.heap.size W3 W4:=by rw [hWn];exact below_drewN Zb_ _
 clear hWn;replace HA:=Zaa (HA.o.on hb);replace HR:=Zaa (HR.o.on hb);replace MB:=Zaa (MB.o.on hb);clear hb
 go_upto_region 6 with fail
 clear x_0 x7 y1_4 d1;have x_0:W4.cell? ⟨w.heap.size,0,none⟩=some (.pointer (some ⟨γ,0,none⟩)):=HA.o.c0;have x_1:W4.cell? ⟨w.heap.size,1,none⟩=some (.func (.func 115) #[] #[.pointer (some ⟨ρ,0,none⟩)]):=HA.o.c1;have y1_3:W4.cell? ⟨w.heap.size+1,3,none⟩=some (.int .i64 M.ba):=MB.o.cell 3;have y1_6:W4.cell? ⟨w.heap.size+1,6,none⟩=some (.string M.tx):=MB.o.cell 6;have y4:W4.cell? ⟨w.heap.size+1,4,none⟩=some (.int .i64 (ix:Int)):=by rw [<- HIX.o];exact MB.o.cell 4
 go_wp2_with fail;clear x_0 x_1 y1_3 y1_6 y4;refine (Zfb (KN KP w 2) lo _ γ ρ F ix ⟨M.ba,M.tx⟩ HA.o.wk (by omega) (by omega) (by omega)).mono ?_;rintro e W5 ⟨rfl,hk,hz⟩;have HAn:Hd (At KP lo w W5 γ ρ 2 (ZdM F ix ⟨M.ba,M.tx⟩)):=HA.o.call hk hz;replace MB:=Zaa (MB.o.kept hk (Or.inr ⟨by omega,by omega⟩));clear hk hz HA HR;have HA:=HAn;clear HAn;obtain⟨b,m,S,hR⟩:=HA.o.wz;have HR:=Zaa hR;clear hR;obtain⟨P,hP⟩:∃ P,P=ZdM F ix ⟨M.ba,M.tx⟩:=⟨_,rfl⟩
 rw [<- hP] at HA HR HE;clear hP
 go_upto_region 7 with fail
 have x_0:W5.cell? ⟨w.heap.size,0,none⟩=some (.pointer (some ⟨γ,0,none⟩)):=HA.o.c0;have x_1:W5.cell? ⟨w.heap.size,1,none⟩=some (.func (.func 115) #[] #[.pointer (some ⟨ρ,0,none⟩)]):=HA.o.c1;have y1_1:W5.cell? ⟨w.heap.size+1,1,none⟩=some (.int .i64 M.fr):=MB.o.cell 1;have y1_3:W5.cell? ⟨w.heap.size+1,3,none⟩=some (.int .i64 M.ba):=MB.o.cell 3;have y1_4:W5.cell? ⟨w.heap.size+1,4,none⟩=some (.int .i64 M.ix):=MB.o.cell 4;go_wp2_with fail;clear x_0 x_1 y1_1 y1_3 y1_4;refine (ZcS (KN KP w 2) lo _ γ ρ P (ZhD M) HA.o.wk rfl).mono ?_;rintro e W6 ⟨rfl,hk,hz⟩;have HAn:Hd (At KP lo w W6 γ ρ 2 (Zav P (ZhD M))):=HA.o.call hk hz;replace MB:=Zaa (MB.o.kept hk (Or.inr ⟨by omega,by omega⟩));clear hk hz HA HR;have HA:=HAn;clear HAn;obtain⟨b,m,S,hR⟩:=HA.o.wz;have HR:=Zaa hR;clear hR;go_wp2
 go_end0
 exact⟨rfl,by rw [HE.o];exact HA.o.fin⟩
theorem Zhr (KP:Nat->Prop) (lo:Nat) (w:World) (γ ρ:Nat) (U:Rr) (M:Rm) (a0:Option Addr) (k0:Nat) (h:Wk KP lo w γ ρ U) (hx0:0<=M.ix) (hx2:M.ix<=1000) (_hk0:0<=U.dk.kn) (hk1:U.dk.kn<=(U.dk.sl.length:Int)) (hl:U.dk.sl.length<=1000) :
 Calls prog 122 #[.agg (wkC γ ρ),.agg (rmL M a0 k0).toArray] w fun e w'=>e=.returned (.tuple #[])/\Zag KP w w'/\Wk KP lo w' γ ρ (Zdi U M):=by
 have HW:=Zaa h;clear h
 show Calls prog 122 #[.agg #[.pointer (some ⟨γ,0,none⟩),.func (.func 115) #[] #[.pointer (some ⟨ρ,0,none⟩)]],.agg #[.int .i64 M.kd,.int .i64 M.fr,.int .i64 M.tt,.int .i64 M.ba,.int .i64 M.ix,.int .i64 M.kn,.string M.tx,.slice a0 M.sl.length k0]] w _
 go_enter func122,ntmps122
 go_upto_region 1 with fail
 obtain⟨W0,hW0,HA,MB⟩:∃ W0,W0=((w.alloc (.cells #[.pointer (some ⟨γ,0,none⟩),.func (.func 115) #[] #[.pointer (some ⟨ρ,0,none⟩)]] 123)).alloc (.cells #[.int .i64 M.kd,.int .i64 M.fr,.int .i64 M.tt,.int .i64 M.ba,.int .i64 M.ix,.int .i64 M.kn,.string M.tx,.slice a0 M.sl.length k0] 45))/\Hd (At KP lo w W0 γ ρ 2 U)/\Hd (Box W0 (w.heap.size+1) #[.int .i64 M.kd,.int .i64 M.fr,.int .i64 M.tt,.int .i64 M.ba,.int .i64 M.ix,.int .i64 M.kn,.string M.tx,.slice a0 M.sl.length k0]):=
  ⟨_,rfl,HW.o.enter (bt (Zab _ _) (Zab _ _)) ((Box.new w _ _ _ rfl).on (Zab _ _)) (by simp) (by omega),(Box.new _ _ _ _ (by simp))⟩
 rw [<- hW0];clear hW0;obtain⟨b,m,S,hR⟩:=HA.o.wz;have HR:=Zaa hR;clear hR;have x_0:W0.cell? ⟨w.heap.size,0,none⟩=some (.pointer (some ⟨γ,0,none⟩)):=HA.o.c0;have x11:W0.cell? ⟨γ,11,none⟩=some (.bool U.ld):=HR.o.box.cell 11;have y1_4:W0.cell? ⟨w.heap.size+1,4,none⟩=some (.int .i64 M.ix):=MB.o.cell 4
 cases q1:U.ld with
 | false=>
  rw [q1] at x11;have HE:Hd (Zdi U M=U):=by unfold Hd Zdi Zjb;rw [if_neg (by rw [q1];simp)];rfl
  go_wp2_with fail
  (try simp only [Exit.inBlock,Exit.then]);refine bodyPost_ret (results_none rfl _ _ _) rfl ?_
  exact⟨rfl,by rw [HE.o];exact HA.o.fin⟩
 | true=>
 rw [q1] at x11
 by_cases q2:M.ix=0
 case pos=>
  rw [q2] at y1_4;have HE:Hd (Zdi U M=U):=by unfold Hd Zdi Zjb;rw [if_neg (by rw [q2];simp)];rfl
  go_wp2_with fail
  (try simp only [Exit.inBlock,Exit.then]);refine bodyPost_ret (results_none rfl _ _ _) rfl ?_
  exact⟨rfl,by rw [HE.o];exact HA.o.fin⟩
 obtain⟨x,hx⟩:∃ x:Nat,M.ix=(x:Int):=⟨M.ix.toNat,by omega⟩
 have hx1:1<=x/\x<=1000:=by omega
 have HX:=Zaa hx;have HQ1:=Zaa q1;rw [hx] at y1_4;have d2:((x:Int) == 0)=false:=by simp;omega
 clear q2 hx q1 hx0 hx2;obtain⟨cn,hcn⟩:∃ cn,cn=Zjb U M:=⟨_,rfl⟩
 have HE:Hd (Zdi U M=Zfo U M cn):=by unfold Hd Zdi;rw [hcn]
 have HCN:Hd (∀ i:Nat,i < cn↔i < 5/\(x:Int)+i<=U.dk.kn):=fun i=>by
  rw [hcn,ZeY,HX.o]
  constructor
  . intro h;exact h.2.2
  . intro h;exact⟨HQ1.o,by omega,h⟩
 have hc5:cn<=5:=by rw [hcn];unfold Zjb;split <;> omega
 clear hcn;go_wp2_with fail;clear x_0 x11 y1_4 d2;obtain⟨mn,hmn⟩:∃ mn,mn=min U.dk.kn ((x:Int)+5 - 1):=⟨_,rfl⟩
 have HMN:=Zaa hmn;clear hmn
 go_loopw [4] (fun iv wr=>∃ i:Nat,iv=.int .i64 ((x+i:Nat):Int)/\i<=cn/\At KP lo w wr γ ρ 2 (Zfo U M i)/\Box wr (w.heap.size+1) #[.int .i64 M.kd,.int .i64 M.fr,.int .i64 M.tt,.int .i64 M.ba,.int .i64 M.ix,.int .i64 M.kn,.string M.tx,.slice a0 M.sl.length k0]) (fun iv _=>x+cn - (intOf iv).toNat)
 case atStart=>exact⟨0,rfl,by omega,HA.o,MB.o⟩
 case round=>
  obtain⟨i,rfl,hi,ha,hmb⟩:=hrel;clear HA MB HR;have HA:=Zaa ha;have MB:=Zaa hmb;clear ha hmb;obtain⟨b2,m2,S2,hR⟩:=HA.o.wz;have HR:=Zaa hR;clear hR;have x_0:wr.cell? ⟨w.heap.size,0,none⟩=some (.pointer (some ⟨γ,0,none⟩)):=HA.o.c0;have x7:wr.cell? ⟨γ,7,none⟩=some (.int .i64 U.dk.kn):=by rw [HR.o.box.cell 7];show some (Value.int .i64 (Zfo U M i).dk.kn)=_;rw [(Zdw U M i).1]
  have y4:wr.cell? ⟨w.heap.size+1,4,none⟩=some (.int .i64 (x:Int)):=by rw [<- HX.o];exact MB.o.cell 4
  have hm:min U.dk.kn ((x:Int)+5 - 1)=mn:=HMN.o.symm;obtain⟨q,hq⟩:∃ q,q=x+i:=⟨_,rfl⟩
  rw [<- hq];have HQ:=Zaa hq;have hqb:1<=q/\q<=1005:=by omega
  have hqx:q=x+i:=hq;clear hq
  by_cases hlt:i < cn
  . have d1:decide ((q:Int)<=mn)=true:=by
     have:=(HCN.o i).1 hlt;have:=HMN.o;simp;omega
    have hkq:(q:Int)<=U.dk.kn:=by have:=(HCN.o i).1 hlt;omega
    clear hqx
    go_upto_region 3 with fail
    go_quiet (fail)
    clear x_0 x7 y4 hm d1;obtain⟨W1,hWn⟩:∃ wx_,wx_=wr.drewN nq:=⟨_,rfl⟩
    rw [<- hWn];have hb:Below wr.heap.size wr W1:=by rw [hWn];exact below_drewN Zb_ _
    clear hWn;replace HA:=Zaa (HA.o.on hb);replace HR:=Zaa (HR.o.on hb);replace MB:=Zaa (MB.o.on hb);clear hb
    go_upto_region 5 with fail
    obtain⟨V,hV⟩:∃ V,V=Zfo U M i:=⟨_,rfl⟩
    have hVs:=Zdw U M i;have hVl:V.dk.sl.length=U.dk.sl.length:=by rw [hV,hVs.1]
    have hVb:V.ba=U.ba:=by rw [hV,hVs.2.2]
    have hlt2:q - 1 < U.dk.sl.length:=by omega
    obtain⟨tx,htx⟩:∃ tx,tx=(U.dk.sl[q - 1]'hlt2).tx:=⟨_,rfl⟩
    have HST:Hd (Zfo U M (i+1)=Zav V ⟨6,0,M.fr,U.ba,(q:Int),0,tx,[]⟩):=by
     unfold Hd
     show Zav (Zfo U M i) (ZiG U M i)=_
     rw [<- hV]
     congr 1
     unfold ZiG;rw [HX.o,show ((x:Int)+(i:Int))=(q:Int) by have:=HQ.o;omega,show ((q:Int) - 1).toNat=q - 1 by omega,ZjY hlt2,htx]
    rw [<- hV] at HA HR;obtain⟨p,hp⟩:∃ p,p=q - 1:=⟨_,rfl⟩
    obtain⟨g,cap,hv,hf⟩:∃ g cap,(.slice (b2 1) V.dk.sl.length (m2 1):Value)=.slice (some ⟨g,0,none⟩) U.dk.sl.length cap/\FR rsL 2 W1 g (g+1) g cap U.dk.sl:=by
     have hVd:V.dk.sl=U.dk.sl:=by rw [hV,hVs.1]
     have ho:=HR.o.cp.o1;rw [hVd] at ho
     rcases ho with ⟨_,hnil⟩ | ⟨g,_,g',cap,e1,e2⟩
     . rw [hnil] at hlt2;simp at hlt2
     . exact⟨g',cap,by rw [hVl];exact e1,e2.own'⟩
    have yt:W1.cell? ⟨g,p*2+1,none⟩=some (.string tx):=by rw [htx,hp];exact hf.get ZaI hlt2 (t:=1) (by omega) (v:=.string U.dk.sl[q - 1].tx) rfl
    have x8:W1.cell? ⟨γ,8,none⟩=some (.slice (some ⟨g,0,none⟩) U.dk.sl.length cap):=by rw [<- hv];exact HR.o.box.cell 8
    have x13:W1.cell? ⟨γ,13,none⟩=some (.int .i64 U.ba):=by rw [<- hVb];exact HR.o.box.cell 13
    have x_0:W1.cell? ⟨w.heap.size,0,none⟩=some (.pointer (some ⟨γ,0,none⟩)):=HA.o.c0;have x_1:W1.cell? ⟨w.heap.size,1,none⟩=some (.func (.func 115) #[] #[.pointer (some ⟨ρ,0,none⟩)]):=HA.o.c1;have y1_1:W1.cell? ⟨w.heap.size+1,1,none⟩=some (.int .i64 M.fr):=MB.o.cell 1;have w64:IntKind.wrap .i64 ((q:Int) - 1)=(p:Int):=by rw [IntKind.wrap_i64];omega
    have i0:(0:Int)<=(p:Int):=by omega
    have i1:(p:Int) < (U.dk.sl.length:Int):=by omega
    clear hV hVs hVl hVb hp hf hv htx;refine Code.wp_mono NoPanic.imp ?_;refine Zao (S:=fun W=>W.cell? ⟨w.heap.size,0,none⟩=some (.pointer (some ⟨γ,0,none⟩))/\W.cell? ⟨w.heap.size,1,none⟩=some (.func (.func 115) #[] #[.pointer (some ⟨ρ,0,none⟩)])/\W.cell? ⟨γ,8,none⟩=some (.slice (some ⟨g,0,none⟩) U.dk.sl.length cap)/\W.cell? ⟨γ,13,none⟩=some (.int .i64 U.ba)/\W.cell? ⟨w.heap.size+1,1,none⟩=some (.int .i64 M.fr)/\W.cell? ⟨g,p*2+1,none⟩=some (.string tx)) [22] (by kernel_rfl) ⟨x_0,x_1,x8,x13,y1_1,yt⟩ (fun hHeld=>?_);refine tB 0 (.pointer (some ⟨w.heap.size,1,none⟩)) [1,22] rfl hHeld ?_
    try simp only [Act.put,sLs]
    refine tB 1 (.func (.func 115) #[] #[.pointer (some ⟨ρ,0,none⟩)]) [22] rfl hHeld ?_
    try simp only [Act.put,sLs]
    refine tB 2 (.pointer (some ⟨w.heap.size+1,1,none⟩)) [3,21,22] rfl hHeld ?_
    try simp only [Act.put,sLs]
    refine tB 3 (.int .i64 M.fr) [21,22] rfl hHeld ?_
    try simp only [Act.put,sLs]
    refine tB 4 (.pointer (some ⟨w.heap.size,0,none⟩)) [5,6,7,8,21,22] rfl hHeld ?_
    try simp only [Act.put,sLs]
    refine tB 5 (.pointer (some ⟨γ,0,none⟩)) [6,7,8,21,22] rfl hHeld ?_
    try simp only [Act.put,sLs]
    refine tB 6 (.pointer (some ⟨γ,0,none⟩)) [7,8,21,22] rfl hHeld ?_
    try simp only [Act.put,sLs]
    refine tB 7 (.pointer (some ⟨γ,13,none⟩)) [8,21,22] rfl hHeld ?_
    try simp only [Act.put,sLs]
    refine tB 8 (.int .i64 U.ba) [21,22] rfl hHeld ?_
    try simp only [Act.put,sLs]
    refine tB 9 (.int .i64 (q:Int)) [21,22] rfl hHeld ?_
    try simp only [Act.put,sLs]
    refine tB 10 (.pointer (some ⟨w.heap.size,0,none⟩)) [11,12,13,14,15,18,19,20,21,22] rfl hHeld ?_
    try simp only [Act.put,sLs]
    refine tB 11 (.pointer (some ⟨γ,0,none⟩)) [12,13,14,15,18,19,20,21,22] rfl hHeld ?_
    try simp only [Act.put,sLs]
    refine tB 12 (.pointer (some ⟨γ,0,none⟩)) [13,14,15,18,19,20,21,22] rfl hHeld ?_
    try simp only [Act.put,sLs]
    refine tB 13 (.pointer (some ⟨γ,6,none⟩)) [14,15,18,19,20,21,22] rfl hHeld ?_
    try simp only [Act.put,sLs]
    refine tB 14 (.pointer (some ⟨γ,8,none⟩)) [15,18,19,20,21,22] rfl hHeld ?_
    try simp only [Act.put,sLs]
    refine tB 15 (.slice (some ⟨g,0,none⟩) U.dk.sl.length cap) [18,19,20,21,22] rfl hHeld ?_
    try simp only [Act.put,sLs]
    refine tB 16 (.int .i64 (q:Int)) [17,18,19,20,21,22] rfl hHeld ?_
    try simp only [Act.put,sLs]
    refine tB 17 (.int .i64 (p:Int)) [18,19,20,21,22] rfl hHeld ?_
    try simp only [Act.put,sLs]
    refine tB 18 (.pointer (some ⟨g,p*2,none⟩)) [19,20,21,22] rfl hHeld ?_
    try simp only [Act.put,sLs]
    refine tB 19 (.pointer (some ⟨g,p*2+1,none⟩)) [20,21,22] rfl hHeld ?_
    try simp only [Act.put,sLs]
    refine tB 20 (.string tx) [21,22] rfl hHeld ?_
    try simp only [Act.put,sLs]
    refine tB 21 (.agg #[.int .i64 6,.int .i64 0,.int .i64 M.fr,.int .i64 U.ba,.int .i64 (q:Int),.int .i64 0,.string tx,.slice none 0 0]) [22] rfl hHeld ?_
    try simp only [Act.put,sLs]
    refine oB 22 rfl (fun K hK=>?_)
    go_simp
    refine (ZcS (KN KP w 2) lo _ γ ρ V ⟨6,0,M.fr,U.ba,(q:Int),0,tx,[]⟩ (HA.o.wk.on Zb_.drew) rfl).mono ?_;rintro e WX ⟨rfl,hk,hz⟩;clear hHeld;refine hK.out _ _ (fun h=>absurd (by decide) h) (fun _=>?_);clear hK
    try simp only [Act.put,sLs]
    refine Zak (by kernel_rfl) ?_ _;refine NoPanic.normal ?_;have HAn:Hd (At KP lo w WX γ ρ 2 (Zfo U M (i+1))):=by unfold Hd;rw [HST.o];exact (HA.o.on Zb_.drew).call hk hz
    have MBn:Hd (Box WX (w.heap.size+1) #[.int .i64 M.kd,.int .i64 M.fr,.int .i64 M.tt,.int .i64 M.ba,.int .i64 M.ix,.int .i64 M.kn,.string M.tx,.slice a0 M.sl.length k0]):=(MB.o.on Zb_.drew).kept hk (Or.inr ⟨by omega,by omega⟩);clear hk hz HA HR x_0 x_1 x8 x13 y1_1 yt w64 HST;go_wp2;exact⟨⟨i+1,by rw [HQ.o];go_num,by omega,HAn.o,MBn.o⟩,by rw [HQ.o];simp [intOf];omega⟩
  . have d1:decide ((q:Int)<=mn)=false:=by
     have h9:¬ (i < 5/\(x:Int)+i<=U.dk.kn):=fun h=>hlt ((HCN.o i).2 h)
     have:=HMN.o;simp;omega
    obtain rfl:i=cn:=by omega
    clear hqx
    go_upto_region 3 with fail
    go_quiet (fail)
    clear x_0 x7 y4 hm d1;obtain⟨W1,hWn⟩:∃ wx_,wx_=wr.drewN nq:=⟨_,rfl⟩
    rw [<- hWn];have hb:Below wr.heap.size wr W1:=by rw [hWn];exact below_drewN Zb_ _
    clear hWn;replace HA:=Zaa (HA.o.on hb);clear hb;go_wp2
    go_end0
    exact⟨rfl,by rw [HE.o];exact HA.o.fin⟩
theorem Zht (KP:Nat->Prop) (lo:Nat) (w:World) (γ ρ:Nat) (U:Rr) (M:Rm) (a0:Option Addr) (k0:Nat) (h:Wk KP lo w γ ρ U) :
 Calls prog 124 #[.agg (wkC γ ρ),.agg (rmL M a0 k0).toArray] w fun e w'=>e=.returned (.tuple #[])/\Zag KP w w'/\Wk KP lo w' γ ρ (Zcl U M):=by
 have HW:=Zaa h;clear h
 show Calls prog 124 #[.agg #[.pointer (some ⟨γ,0,none⟩),.func (.func 115) #[] #[.pointer (some ⟨ρ,0,none⟩)]],.agg #[.int .i64 M.kd,.int .i64 M.fr,.int .i64 M.tt,.int .i64 M.ba,.int .i64 M.ix,.int .i64 M.kn,.string M.tx,.slice a0 M.sl.length k0]] w _
 go_enter func124,ntmps124
 go_upto_region 1 with fail
 obtain⟨W0,hW0,HA,MB⟩:∃ W0,W0=((w.alloc (.cells #[.pointer (some ⟨γ,0,none⟩),.func (.func 115) #[] #[.pointer (some ⟨ρ,0,none⟩)]] 123)).alloc (.cells #[.int .i64 M.kd,.int .i64 M.fr,.int .i64 M.tt,.int .i64 M.ba,.int .i64 M.ix,.int .i64 M.kn,.string M.tx,.slice a0 M.sl.length k0] 45))/\Hd (At KP lo w W0 γ ρ 2 U)/\Hd (Box W0 (w.heap.size+1) #[.int .i64 M.kd,.int .i64 M.fr,.int .i64 M.tt,.int .i64 M.ba,.int .i64 M.ix,.int .i64 M.kn,.string M.tx,.slice a0 M.sl.length k0]):=
  ⟨_,rfl,HW.o.enter (bt (Zab _ _) (Zab _ _)) ((Box.new w _ _ _ rfl).on (Zab _ _)) (by simp) (by omega),(Box.new _ _ _ _ (by simp))⟩
 rw [<- hW0];clear hW0;obtain⟨b,m,S,hR⟩:=HA.o.wz;have HR:=Zaa hR;clear hR;have x_0:W0.cell? ⟨w.heap.size,0,none⟩=some (.pointer (some ⟨γ,0,none⟩)):=HA.o.c0;have x11:W0.cell? ⟨γ,11,none⟩=some (.bool U.ld):=HR.o.box.cell 11;have x12:W0.cell? ⟨γ,12,none⟩=some (.bool U.ty):=HR.o.box.cell 12;have x13:W0.cell? ⟨γ,13,none⟩=some (.int .i64 U.ba):=HR.o.box.cell 13;have y1_3:W0.cell? ⟨w.heap.size+1,3,none⟩=some (.int .i64 M.ba):=MB.o.cell 3
 by_cases q1:U.ld=true\/U.ty=true
 case neg=>
  have l1:U.ld=false:=by cases h:U.ld;rfl;exact absurd (Or.inl h) q1
  have l2:U.ty=false:=by cases h:U.ty;rfl;exact absurd (Or.inr h) q1
  rw [l1] at x11;rw [l2] at x12;have HE:Hd (Zcl U M=U):=by unfold Hd Zcl;rw [if_neg (fun h=>q1 h.2)]
  go_quiet (fail)
  obtain⟨W1,hWn⟩:∃ wx_,wx_=W0.drewN nq:=⟨_,rfl⟩
  rw [<- hWn];have hb:Below W0.heap.size W0 W1:=by rw [hWn];exact below_drewN Zb_ _
  clear hWn;replace HA:=Zaa (HA.o.on hb);replace HR:=Zaa (HR.o.on hb);replace MB:=Zaa (MB.o.on hb);clear hb;go_wp2
  go_end0
  exact⟨rfl,by rw [HE.o];exact HA.o.fin⟩
 by_cases q2:U.ba < M.ba
 case neg=>
  have d2:decide (U.ba < M.ba)=false:=decide_eq_false q2;have HE:Hd (Zcl U M=U):=by unfold Hd Zcl;rw [if_neg (fun h=>q2 h.1)]
  cases l1:U.ld with
  | true=>
   rw [l1] at x11;clear q1
   go_quiet (fail)
   obtain⟨W1,hWn⟩:∃ wx_,wx_=W0.drewN nq:=⟨_,rfl⟩
   rw [<- hWn];have hb:Below W0.heap.size W0 W1:=by rw [hWn];exact below_drewN Zb_ _
   clear hWn;replace HA:=Zaa (HA.o.on hb);replace HR:=Zaa (HR.o.on hb);replace MB:=Zaa (MB.o.on hb);clear hb;go_wp2
   go_end0
   exact⟨rfl,by rw [HE.o];exact HA.o.fin⟩
  | false=>
   have l2:U.ty=true:=by rcases q1 with h | h;rw [l1] at h;cases h;exact h
   rw [l1] at x11;rw [l2] at x12;clear q1
   go_quiet (fail)
   obtain⟨W1,hWn⟩:∃ wx_,wx_=W0.drewN nq:=⟨_,rfl⟩
   rw [<- hWn];have hb:Below W0.heap.size W0 W1:=by rw [hWn];exact below_drewN Zb_ _
   clear hWn;replace HA:=Zaa (HA.o.on hb);replace HR:=Zaa (HR.o.on hb);replace MB:=Zaa (MB.o.on hb);clear hb;go_wp2
   go_end0
   exact⟨rfl,by rw [HE.o];exact HA.o.fin⟩
 have d2:decide (U.ba < M.ba)=true:=decide_eq_true q2;have HE:Hd (Zcl U M=prU (ZaB U) M.ba):=by unfold Hd Zcl;rw [if_pos ⟨q2,q1⟩]
 obtain⟨mx,hmx⟩:∃ mx,mx=max U.dk.pr M.ba:=⟨_,rfl⟩
 have HMX:=Zaa hmx
 have HPR:Hd (prU (ZaB U) M.ba={ ZaB U with dk:={ U.dk with pr:=mx } }):=by
  have e:(if U.dk.pr < M.ba then M.ba else U.dk.pr)=mx:=by rw [hmx];split <;> omega
  unfold Hd prU
  show ({ ZaB U with dk:={ U.dk with pr:=if U.dk.pr < M.ba then M.ba else U.dk.pr } }:Rr)=_
  rw [e]
 clear hmx
 cases l1:U.ld with
 | true=>
  rw [l1] at x11;clear q1
  go_quiet (fail)
  obtain⟨W1,hWn⟩:∃ wx_,wx_=W0.drewN nq:=⟨_,rfl⟩
  rw [<- hWn];have hb:Below W0.heap.size W0 W1:=by rw [hWn];exact below_drewN Zb_ _
  clear hWn;replace HA:=Zaa (HA.o.on hb);replace HR:=Zaa (HR.o.on hb);replace MB:=Zaa (MB.o.on hb);clear hb
  go_upto_region 2 with fail
  clear x_0 x11 x12 x13 y1_3 d2;have x_0:W1.cell? ⟨w.heap.size,0,none⟩=some (.pointer (some ⟨γ,0,none⟩)):=HA.o.c0;have x_1:W1.cell? ⟨w.heap.size,1,none⟩=some (.func (.func 115) #[] #[.pointer (some ⟨ρ,0,none⟩)]):=HA.o.c1;go_wp2_with fail;clear x_0 x_1;refine (Zd6 (KN KP w 2) lo _ γ ρ U HA.o.wk).mono ?_;rintro e W2 ⟨rfl,hk,hz⟩;have HAn:Hd (At KP lo w W2 γ ρ 2 (ZaB U)):=HA.o.call hk hz;replace MB:=Zaa (MB.o.kept hk (Or.inr ⟨by omega,by omega⟩));clear hk hz HA HR;have HA:=HAn;clear HAn;obtain⟨b,m,S,hR⟩:=HA.o.wz;have HR:=Zaa hR;clear hR
  go_upto_region 3 with fail
  have x_0:W2.cell? ⟨w.heap.size,0,none⟩=some (.pointer (some ⟨γ,0,none⟩)):=HA.o.c0;have x6:W2.cell? ⟨γ,6,none⟩=some (.int .i64 U.dk.pr):=HR.o.box.cell 6;have gf:=HR.o.box.free;have y1_3:W2.cell? ⟨w.heap.size+1,3,none⟩=some (.int .i64 M.ba):=MB.o.cell 3
  go_region
  clear x_0 x6 gf y1_3;rw [<- HMX.o];obtain⟨W3,hWn⟩:∃ wx_,wx_=(W2.setCell ⟨γ,6,none⟩ (.int .i64 mx)).drew:=⟨_,rfl⟩
  rw [<- hWn];have hp0:=HR.o.scal (U':={ ZaB U with dk:={ U.dk with pr:=mx } }) (j:=6) (v:=.int .i64 mx) (by show 6 < 18;omega) rfl (fun _ h=>⟨h.seg,h.ap,h.o0,h.o1,h.o2,h.o3,h.o4,h.o5,h.o6⟩);have ha0:=HA.o.step hp0.2 ⟨_,_,_,hp0.1⟩;have ha9:=ha0.on Zb_.drew;have HAn:Hd (At KP lo w W3 γ ρ 2 ({ ZaB U with dk:={ U.dk with pr:=mx } })):=by unfold Hd;rw [hWn];exact ha9
  have HKn:Hd (Zag (KN KP w 2) W2 W3):=by unfold Hd;rw [hWn];exact (hp0.2.trans (Zag.below Zb_.drew (ha0.wz.kw)))
  replace MB:=Zaa (MB.o.kept HKn.o (Or.inr ⟨by omega,by omega⟩));have HRn:Hd (Rz (KN KP w 2) lo W3 γ b m S ({ ZaB U with dk:={ U.dk with pr:=mx } })):=by unfold Hd;rw [hWn];exact hp0.1.on Zb_.drew
  clear hWn HA HR hp0 ha0 ha9;have HA:=HAn;clear HAn;have HR:=HRn;clear HRn;go_wp2
  go_end0
  exact⟨rfl,by rw [HE.o,HPR.o];exact HA.o.fin⟩
 | false=>
  have l2:U.ty=true:=by rcases q1 with h | h;rw [l1] at h;cases h;exact h
  rw [l1] at x11;rw [l2] at x12;clear q1
  go_quiet (fail)
  obtain⟨W1,hWn⟩:∃ wx_,wx_=W0.drewN nq:=⟨_,rfl⟩
  rw [<- hWn];have hb:Below W0.heap.size W0 W1:=by rw [hWn];exact below_drewN Zb_ _
  clear hWn;replace HA:=Zaa (HA.o.on hb);replace HR:=Zaa (HR.o.on hb);replace MB:=Zaa (MB.o.on hb);clear hb
  go_upto_region 2 with fail
  clear x_0 x11 x12 x13 y1_3 d2;have x_0:W1.cell? ⟨w.heap.size,0,none⟩=some (.pointer (some ⟨γ,0,none⟩)):=HA.o.c0;have x_1:W1.cell? ⟨w.heap.size,1,none⟩=some (.func (.func 115) #[] #[.pointer (some ⟨ρ,0,none⟩)]):=HA.o.c1;go_wp2_with fail;clear x_0 x_1;refine (Zd6 (KN KP w 2) lo _ γ ρ U HA.o.wk).mono ?_;rintro e W2 ⟨rfl,hk,hz⟩;have HAn:Hd (At KP lo w W2 γ ρ 2 (ZaB U)):=HA.o.call hk hz;replace MB:=Zaa (MB.o.kept hk (Or.inr ⟨by omega,by omega⟩));clear hk hz HA HR;have HA:=HAn;clear HAn;obtain⟨b,m,S,hR⟩:=HA.o.wz;have HR:=Zaa hR;clear hR
  go_upto_region 3 with fail
  have x_0:W2.cell? ⟨w.heap.size,0,none⟩=some (.pointer (some ⟨γ,0,none⟩)):=HA.o.c0;have x6:W2.cell? ⟨γ,6,none⟩=some (.int .i64 U.dk.pr):=HR.o.box.cell 6;have gf:=HR.o.box.free;have y1_3:W2.cell? ⟨w.heap.size+1,3,none⟩=some (.int .i64 M.ba):=MB.o.cell 3
  go_region
  clear x_0 x6 gf y1_3;rw [<- HMX.o];obtain⟨W3,hWn⟩:∃ wx_,wx_=(W2.setCell ⟨γ,6,none⟩ (.int .i64 mx)).drew:=⟨_,rfl⟩
  rw [<- hWn];have hp0:=HR.o.scal (U':={ ZaB U with dk:={ U.dk with pr:=mx } }) (j:=6) (v:=.int .i64 mx) (by show 6 < 18;omega) rfl (fun _ h=>⟨h.seg,h.ap,h.o0,h.o1,h.o2,h.o3,h.o4,h.o5,h.o6⟩);have ha0:=HA.o.step hp0.2 ⟨_,_,_,hp0.1⟩;have ha9:=ha0.on Zb_.drew;have HAn:Hd (At KP lo w W3 γ ρ 2 ({ ZaB U with dk:={ U.dk with pr:=mx } })):=by unfold Hd;rw [hWn];exact ha9
  have HKn:Hd (Zag (KN KP w 2) W2 W3):=by unfold Hd;rw [hWn];exact (hp0.2.trans (Zag.below Zb_.drew (ha0.wz.kw)))
  replace MB:=Zaa (MB.o.kept HKn.o (Or.inr ⟨by omega,by omega⟩));have HRn:Hd (Rz (KN KP w 2) lo W3 γ b m S ({ ZaB U with dk:={ U.dk with pr:=mx } })):=by unfold Hd;rw [hWn];exact hp0.1.on Zb_.drew
  clear hWn HA HR hp0 ha0 ha9;have HA:=HAn;clear HAn;have HR:=HRn;clear HRn;go_wp2
  go_end0
  exact⟨rfl,by rw [HE.o,HPR.o];exact HA.o.fin⟩
end Go.Proofs.YtkiefplmnoapfaaGreat
