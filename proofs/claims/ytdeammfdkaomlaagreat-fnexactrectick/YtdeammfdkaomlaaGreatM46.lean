import Derived.Test.YtdeammfdkaomlaaGreatM41
import Derived.Test.YtdeammfdkaomlaaGreatM45
set_option maxHeartbeats 16000000
set_option maxRecDepth 100000
open Go.Proofs.Tryz
namespace Go.Proofs.YtdeammfdkaomlaaGreat
open Go.RowKit Go.Deep
def tryW (U:Rr):Rr:=if (U.ld || decide (U.hd<=4+3*U.nu))=true then U else Zj2 U (nbF U.dk.pr U.nu U.of)
theorem ZjP (K:Nat->Prop) (lo:Nat) (w:World) (γ ρ τ:Nat) (U:Rr) (sv:Value) (h:Wk K lo w γ ρ U) (tb:Box w τ (tkC γ ρ sv)) (hK:K τ) (h0:0<=U.of) (h5:U.of<=5) (hn0:0<=U.nu) (hn5:U.nu<=5) (hnb:0<=nbF U.dk.pr U.nu U.of) :
 Calls prog 184 #[.pointer (some ⟨τ,0,none⟩)] w fun e w'=>e=.returned (.tuple #[])/\Zag K w w'/\Wk K lo w' γ ρ (tryW U):=by
 have HW:=Zaa h;have HKW:Hd (∀ k,K k->k < w.heap.size):=h.wz.kw;obtain⟨⟨b,m,S,hR⟩,-,-⟩:=h;have HTB:=Zaa tb;have xt0:w.cell? ⟨τ,0,none⟩=some (.pointer (some ⟨γ,0,none⟩)):=tb.cell 0;have x11:w.cell? ⟨γ,11,none⟩=some (.bool U.ld):=hR.box.cell 11;have x17:w.cell? ⟨γ,17,none⟩=some (.int .i64 U.hd):=hR.box.cell 17;have x0:w.cell? ⟨γ,0,none⟩=some (.int .i64 U.nu):=hR.box.cell 0;have hw1:IntKind.wrap .i64 (3*U.nu)=3*U.nu:=by rw [IntKind.wrap_i64];omega
 have hw2:IntKind.wrap .i64 (4+3*U.nu)=4+3*U.nu:=by rw [IntKind.wrap_i64];omega
 have HNB:=Zaa hnb;clear hR tb hnb
 cases hld:U.ld with
 | true=>
  have HE:Hd (tryW U=U):=by unfold Hd tryW;rw [hld];rfl
  rw [hld] at x11;go_enter func184,ntmps184;go_wp2
  go_quiet (fail)
  have hb:Zw_ w (w.drewN nq):=below_drewN Zb_ _;generalize w.drewN nq=w3 at*;clear xt0 x11 x17 x0;go_wp2
  (try simp only [Exit.inBlock,Exit.then])
  refine bodyPost_ret (results_none rfl _ _ _) rfl ?_;exact⟨rfl,HW.o.keep hb,by rw [HE.o];exact HW.o.on hb⟩
 | false=>
 rw [hld] at x11
 cases hd1:decide (U.hd<=4+3*U.nu) with
 | true=>
  have HE:Hd (tryW U=U):=by unfold Hd tryW;rw [hld,hd1];rfl
  go_enter func184,ntmps184;go_wp2
  go_quiet (fail)
  have hb:Zw_ w (w.drewN nq):=below_drewN Zb_ _;generalize w.drewN nq=w3 at*;clear xt0 x11 x17 x0;go_wp2
  (try simp only [Exit.inBlock,Exit.then])
  refine bodyPost_ret (results_none rfl _ _ _) rfl ?_;exact⟨rfl,HW.o.keep hb,by rw [HE.o];exact HW.o.on hb⟩
 | false=>
 have HE:Hd (tryW U=Zj2 U (nbF U.dk.pr U.nu U.of)):=by unfold Hd tryW;rw [hld,hd1];rfl
 go_enter func184,ntmps184;go_wp2
 go_quiet (fail)
 have hb:Zw_ w (w.drewN nq):=below_drewN Zb_ _;generalize w.drewN nq=w3 at*;clear xt0 x11 x17 x0;have HK3:=Zaa (HW.o.keep hb);replace HW:=Zaa (HW.o.on hb);replace HTB:=Zaa (HTB.o.on hb);clear hb hd1 hld hw1 hw2;have xt0:w3.cell? ⟨τ,0,none⟩=some (.pointer (some ⟨γ,0,none⟩)):=HTB.o.cell 0;have xt1:w3.cell? ⟨τ,1,none⟩=some (.func (.func 177) #[] #[.pointer (some ⟨ρ,0,none⟩)]):=HTB.o.cell 1;go_wp2_with fail;clear xt0 xt1;refine (ZhK K lo w3 γ ρ U HW.o).mono ?_;rintro e w4 ⟨rfl,hk4,hw4⟩;have HK4:=Zaa (HK3.o.trans hk4);have HW4:=Zaa hw4;replace HTB:=Zaa (HTB.o.kept hk4 hK);clear hk4 hw4 HW HK3;obtain⟨⟨b4,m4,S4,hR4⟩,kr4,rb4⟩:=HW4.o;have HR4:=Zaa hR4;have xt0:w4.cell? ⟨τ,0,none⟩=some (.pointer (some ⟨γ,0,none⟩)):=HTB.o.cell 0;have x17:w4.cell? ⟨γ,17,none⟩=some (.int .i64 (Za7 U).hd):=hR4.box.cell 17;have gf:=hR4.box.free
 have RB4:=Zaa rb4;clear hR4 rb4
 go_upto_region 3 with fail
 clear xt0 x17 gf;have hp:=HR4.o.scal (U':={ Za7 U with hd:=0 }) (j:=17) (v:=.int .i64 0) (by show 17 < 18;omega) rfl (fun _ h=>⟨h.seg,h.ap,h.o0,h.o1,h.o2,h.o3,h.o4,h.o5,h.o6⟩);obtain⟨w5,hw5⟩:∃ w5,w5=w4.setCell ⟨γ,17,none⟩ (.int .i64 0):=⟨_,rfl⟩
 rw [<- hw5] at hp |-;have HW5:Hd (Wk K lo w5 γ ρ { Za7 U with hd:=0 }):=⟨⟨b4,m4,S4,hp.1⟩,kr4,RB4.o.kept hp.2 kr4⟩;have HK5:=Zaa (HK4.o.trans hp.2);replace HTB:=Zaa (HTB.o.kept hp.2 hK);have HR5:=Zaa hp.1;clear hw5 hp HR4 RB4 HW4 HK4;have xt0:w5.cell? ⟨τ,0,none⟩=some (.pointer (some ⟨γ,0,none⟩)):=HTB.o.cell 0;have x6:w5.cell? ⟨γ,6,none⟩=some (.int .i64 U.dk.pr):=HR5.o.box.cell 6;have x0:w5.cell? ⟨γ,0,none⟩=some (.int .i64 U.nu):=HR5.o.box.cell 0;have x1:w5.cell? ⟨γ,1,none⟩=some (.int .i64 U.of):=HR5.o.box.cell 1;refine Code.wp_mono NoPanic.imp ?_;refine Zan (S:=fun W=>W.cell? ⟨τ,0,none⟩=some (.pointer (some ⟨γ,0,none⟩))/\W.cell? ⟨γ,6,none⟩=some (.int .i64 U.dk.pr)/\W.cell? ⟨γ,0,none⟩=some (.int .i64 U.nu)/\W.cell? ⟨γ,1,none⟩=some (.int .i64 U.of)) [25,26] (by kernel_rfl) ⟨xt0,x6,x0,x1⟩ (fun hHeld=>?_)
 refine tB 0 (.pointer (some ⟨τ,0,none⟩)) [1,2,3,4,5,6,7,8,25,26] rfl hHeld ?_
 try simp only [Act.put,sLs]
 refine tB 1 (.pointer (some ⟨τ,0,none⟩)) [2,3,4,5,6,7,8,25,26] rfl hHeld ?_
 try simp only [Act.put,sLs]
 refine tB 2 (.pointer (some ⟨τ,0,none⟩)) [3,4,5,6,7,8,25,26] rfl hHeld ?_
 try simp only [Act.put,sLs]
 refine tB 3 (.pointer (some ⟨τ,0,none⟩)) [4,5,6,7,8,25,26] rfl hHeld ?_
 try simp only [Act.put,sLs]
 refine tB 4 (.pointer (some ⟨γ,0,none⟩)) [5,6,7,8,25,26] rfl hHeld ?_
 try simp only [Act.put,sLs]
 refine tB 5 (.pointer (some ⟨γ,0,none⟩)) [6,7,8,25,26] rfl hHeld ?_
 try simp only [Act.put,sLs]
 refine tB 6 (.pointer (some ⟨γ,6,none⟩)) [7,8,25,26] rfl hHeld ?_
 try simp only [Act.put,sLs]
 refine tB 7 (.pointer (some ⟨γ,6,none⟩)) [8,25,26] rfl hHeld ?_
 try simp only [Act.put,sLs]
 refine tB 8 (.int .i64 U.dk.pr) [25,26] rfl hHeld ?_
 try simp only [Act.put,sLs]
 refine tB 9 (.pointer (some ⟨τ,0,none⟩)) [10,11,12,13,14,15,16,25,26] rfl hHeld ?_
 try simp only [Act.put,sLs]
 refine tB 10 (.pointer (some ⟨τ,0,none⟩)) [11,12,13,14,15,16,25,26] rfl hHeld ?_
 try simp only [Act.put,sLs]
 refine tB 11 (.pointer (some ⟨τ,0,none⟩)) [12,13,14,15,16,25,26] rfl hHeld ?_
 try simp only [Act.put,sLs]
 refine tB 12 (.pointer (some ⟨τ,0,none⟩)) [13,14,15,16,25,26] rfl hHeld ?_
 try simp only [Act.put,sLs]
 refine tB 13 (.pointer (some ⟨γ,0,none⟩)) [14,15,16,25,26] rfl hHeld ?_
 try simp only [Act.put,sLs]
 refine tB 14 (.pointer (some ⟨γ,0,none⟩)) [15,16,25,26] rfl hHeld ?_
 try simp only [Act.put,sLs]
 refine tB 15 (.pointer (some ⟨γ,0,none⟩)) [16,25,26] rfl hHeld ?_
 try simp only [Act.put,sLs]
 refine tB 16 (.int .i64 U.nu) [25,26] rfl hHeld ?_
 try simp only [Act.put,sLs]
 refine tB 17 (.pointer (some ⟨τ,0,none⟩)) [18,19,20,21,22,23,24,25,26] rfl hHeld ?_
 try simp only [Act.put,sLs]
 refine tB 18 (.pointer (some ⟨τ,0,none⟩)) [19,20,21,22,23,24,25,26] rfl hHeld ?_
 try simp only [Act.put,sLs]
 refine tB 19 (.pointer (some ⟨τ,0,none⟩)) [20,21,22,23,24,25,26] rfl hHeld ?_
 try simp only [Act.put,sLs]
 refine tB 20 (.pointer (some ⟨τ,0,none⟩)) [21,22,23,24,25,26] rfl hHeld ?_
 try simp only [Act.put,sLs]
 refine tB 21 (.pointer (some ⟨γ,0,none⟩)) [22,23,24,25,26] rfl hHeld ?_
 try simp only [Act.put,sLs]
 refine tB 22 (.pointer (some ⟨γ,0,none⟩)) [23,24,25,26] rfl hHeld ?_
 try simp only [Act.put,sLs]
 refine tB 23 (.pointer (some ⟨γ,1,none⟩)) [24,25,26] rfl hHeld ?_
 try simp only [Act.put,sLs]
 refine tB 24 (.int .i64 U.of) [25,26] rfl hHeld ?_
 try simp only [Act.put,sLs]
 refine oB 25 rfl (fun KC hK=>?_)
 go_simp
 refine (Zfk U.dk.pr U.nu U.of _).mono ?_;rintro e w6 ⟨rfl,hb6⟩;replace hb6:Below w5.heap.size w5 w6:=bt Zb_.drew hb6;have HW6:=Zaa (HW5.o.on hb6);have HR6:=Zaa (HR5.o.on hb6);have HK6:=Zaa (HK5.o.trans (HW5.o.keep hb6));replace HTB:=Zaa (HTB.o.on hb6);clear hb6 hHeld xt0 x6 x0 x1 HW5 HR5 HK5;refine hK.out _ _ (fun h=>absurd (by decide) h) (fun _=>?_);clear hK KC
 try simp only [Act.put,sLs]
 refine oB 26 rfl (fun KC hK=>?_)
 go_simp
 refine hK.out _ _ (fun h=>absurd (by decide) h) (fun _=>?_);clear hK KC
 try simp only [Act.put,sLs]
 refine Zak (by kernel_rfl) ?_ _;refine NoPanic.normal ?_;obtain⟨nb,hnbe⟩:∃ nb,nb=nbF U.dk.pr U.nu U.of:=⟨_,rfl⟩
 rw [<- hnbe] at HE HNB |-;have hn1:=HNB.o;clear hnbe HNB;obtain⟨⟨b6,m6,S6,hR6⟩,kr6,rb6⟩:=HW6.o;have RB6:=Zaa rb6;have HR6:=Zaa hR6;clear rb6 hR6
 by_cases hz:nb=0
 . have d2:(nb == 0)=true:=by simp [hz]
   have HE2:Hd (Zj2 U nb={ Za7 U with hd:=0 }):=by unfold Hd Zj2;rw [if_neg (by omega)]
   clear hz;go_wp2
   (try simp only [Exit.inBlock,Exit.then])
   refine bodyPost_ret (results_none rfl _ _ _) rfl ?_;exact⟨rfl,HK6.o,by rw [HE.o,HE2.o];exact HW6.o⟩
 have d2:(nb == 0)=false:=by simp [hz]
 have HE2:Hd (Zj2 U nb=(Zax (Zgx { Za7 U with hd:=0 } nb) (Zfy nb)).foldl Zbl (Zgx { Za7 U with hd:=0 } nb)):=by unfold Hd Zj2;rw [if_pos (by omega)]
 clear hz;have xt0:w6.cell? ⟨τ,0,none⟩=some (.pointer (some ⟨γ,0,none⟩)):=HTB.o.cell 0;have x6:w6.cell? ⟨γ,6,none⟩=some (.int .i64 U.dk.pr):=HR6.o.box.cell 6;have x12:w6.cell? ⟨γ,12,none⟩=some (.bool (Za7 U).ty):=HR6.o.box.cell 12;have x13:w6.cell? ⟨γ,13,none⟩=some (.int .i64 (Za7 U).ba):=HR6.o.box.cell 13;have gf:=HR6.o.box.free
 go_upto_region 5 with fail
 clear d2
 go_region
 clear xt0 x6 x12 x13 gf;obtain⟨w7,hw7⟩:∃ w7,w7=(((w6.setCell ⟨γ,6,none⟩ (.int .i64 nb)).setCell ⟨γ,12,none⟩ (.bool true)).setCell ⟨γ,13,none⟩ (.int .i64 nb)).drew:=⟨_,rfl⟩
 rw [<- hw7];have hp0:=HR6.o.scal (U':={ Za7 U with hd:=0,dk:={ U.dk with pr:=nb } }) (j:=6) (v:=.int .i64 nb) (by show 6 < 18;omega) rfl (fun _ h=>⟨h.seg,h.ap,h.o0,h.o1,h.o2,h.o3,h.o4,h.o5,h.o6⟩);have hp1:=hp0.1.scal (U':={ Za7 U with hd:=0,dk:={ U.dk with pr:=nb },ty:=true }) (j:=12) (v:=.bool true) (by show 12 < 18;omega) rfl (fun _ h=>⟨h.seg,h.ap,h.o0,h.o1,h.o2,h.o3,h.o4,h.o5,h.o6⟩);have hp2:=hp1.1.scal (U':=Zgx { Za7 U with hd:=0 } nb) (j:=13) (v:=.int .i64 nb) (by show 13 < 18;omega) rfl (fun _ h=>⟨h.seg,h.ap,h.o0,h.o1,h.o2,h.o3,h.o4,h.o5,h.o6⟩);have hkk:=(((hp0.2.trans hp1.2).trans hp2.2).trans (Zag.below Zb_.drew (fun k hk=>(hp2.1.prot k hk).1)));have hr7:=hp2.1.on Zb_.drew;rw [<- hw7] at hkk hr7;have HW7:Hd (Wk K lo w7 γ ρ (Zgx { Za7 U with hd:=0 } nb)):=⟨⟨b6,m6,S6,hr7⟩,kr6,RB6.o.kept hkk kr6⟩;have HK7:=Zaa (HK6.o.trans hkk)
 replace HTB:=Zaa (HTB.o.kept hkk hK);clear hp0 hp1 hp2 hkk hr7 hw7 HR6 HW6 HK6 RB6;have xt0:w7.cell? ⟨τ,0,none⟩=some (.pointer (some ⟨γ,0,none⟩)):=HTB.o.cell 0;have xt1:w7.cell? ⟨τ,1,none⟩=some (.func (.func 177) #[] #[.pointer (some ⟨ρ,0,none⟩)]):=HTB.o.cell 1;go_wp2_with fail;clear xt0 xt1;refine (Zf7 K lo w7 γ ρ τ (Zgx { Za7 U with hd:=0 } nb) (Zfy nb) sv rfl HW7.o h0 h5 HTB.o hK).mono ?_;rintro e w8 ⟨rfl,hk8,hw8⟩;have HK8:=Zaa (HK7.o.trans hk8);have HW8:=Zaa hw8;clear hk8 hw8 HW7 HK7;go_wp2
 go_end0
 exact⟨rfl,HK8.o,by rw [HE.o,HE2.o];exact HW8.o⟩
section
variable {L:List Int} {of:Int} {U:Rr}
theorem ZhH (h:∀ k (h1:k+1 < L.length),L[k] < L[k+1]):Asc L:=fun a b ha hb hab=>by
 induction b with
 | zero=>omega
 | succ b ih=>
  rcases Nat.lt_or_ge a b with q | q
  . exact Int.lt_trans (ih (by omega) q) (h b hb)
  . obtain rfl:a=b:=by omega
    exact h a hb
theorem ZgW {L:List Ra} (h:∀ k (h1:k+1 < L.length),L[k].ix < L[k+1].ix):Zi2 L:=fun a b ha hb hab=>by
 induction b with
 | zero=>omega
 | succ b ih=>
  rcases Nat.lt_or_ge a b with q | q
  . exact Int.lt_trans (ih (by omega) q) (h b hb)
  . obtain rfl:a=b:=by omega
    exact h a hb
theorem Zfx (h:Zbq of L=true):Asc L:=ZhH fun k h1=>by
 unfold Zbq at h;have:=List.all_eq_true.1 h (k+1) (List.mem_range.2 h1);unfold Zfw at this;simp only [Bool.and_eq_true,List.getD_eq_getElem?_getD,Nat.add_sub_cancel,List.getElem?_eq_getElem h1,List.getElem?_eq_getElem (show k < L.length by omega),Option.getD_some] at this;have h2:=this.2;simp at h2;exact h2
theorem ZhB {L:List Ra} (h:ZbH of L=true):Zi2 L:=ZgW fun k h1=>by
 unfold ZbH at h;have:=List.all_eq_true.1 h (k+1) (List.mem_range.2 h1);unfold ZgV at this;simp only [Bool.and_eq_true,Nat.add_sub_cancel,ZbZ h1,ZbZ (show k < L.length by omega)] at this;have h2:=this.2.2;simp at h2;exact h2
def SlQ (L:List Rs):Prop:=∀ x ∈ L,0 < x.ba\/x.tx.toList=[]
theorem Zkw {L:List Rs} (h:ZaI L=true):SlQ L:=fun x hx=>by
 unfold ZaI at h;simp only [Bool.and_eq_true] at h;have:=List.all_eq_true.1 h.2 x hx;unfold ZbI at this;simp only [Bool.and_eq_true,Zcq,Bool.not_eq_true',Bool.and_eq_false_iff,beq_eq_false_iff_ne,Bool.not_eq_false'] at this
 rcases this.2.2 with h | h
 . left;have:=this.1.1;omega
 . right;simpa using h
theorem Zc3.up {c d:Nat} (h:Zc3 c U) (hd:c<=d):Zc3 d U:=
 ⟨h.k0,h.k1,Nat.le_trans h.al hd,fun a ha=>by obtain⟨h1,h2,h3,h4⟩:=h.ai a ha;exact⟨h1,h2,Nat.le_trans h3 hd,h4⟩,h.sc⟩
structure Tv (U:Rr):Prop where
 z:Bz U
 of1:1<=U.of
 of5:U.of<=5
 nu1:1<=U.nu
 nu5:U.nu<=5
 sf:U.sf.sl.length<=120
 dk:U.dk.sl.length<=120
 kn1:U.dk.kn<=(U.dk.sl.length:Int)
 ak:Zc3 120 U
 wi:U.wi.length<=20
 wne:∀ t ∈ U.wi,t.toList≠[]
 ye:U.ye.length<=6
 be:U.be.length<=120
 q:SlQ U.dk.sl
 ba:U.ld=true\/U.ty=true->0 < U.ba
 he:U.he.length<=400
theorem ZdY (h:ZaM U=true) (hz:RrZ U):Tv U/\Asc U.ye/\0<=U.hd/\U.hd<=1000000/\U.nu<=U.of:=by
 have hb:=ZjQ h hz;have hv:=Zdi h;have hk:=ZjR h;unfold ZaM Ze5 at h;simp only [Bool.and_eq_true,decide_eq_true_eq,Zcq] at h;obtain⟨⟨a0,a1⟩,⟨b0,b1⟩,h3,h4,h5,h6,⟨c0,c1⟩,h8,h9,h10,h11,h12,h13,_⟩:=h
 have hsl:ZaI U.dk.sl=true:=by
  unfold ZaW at h4;simp only [Bool.and_eq_true] at h4;exact h4.2.1
 refine⟨⟨hb,a0,a1,b0,by omega,hv.sf,hv.dk,hk.2,⟨hk.1,by have:=hv.dk;omega,Zgt h11,fun a ha=>?_,ZhB h11⟩,hv.wi,fun t ht=>?_,by have:=hv.ye;omega,hv.be,Zkw hsl,fun hq=>?_,hv.he⟩,Zfx h9,c0,c1,b1⟩
 . obtain⟨i,hi,rfl⟩:=List.getElem_of_mem ha
   obtain⟨⟨e1,e2⟩,e3⟩:=ZfM h11 i hi;have:=Ze2 e3 a1;exact⟨by omega,by omega,by omega,Zfx e3⟩
 . obtain⟨i,hi,rfl⟩:=List.getElem_of_mem ht
   unfold ZbC at h6;simp only [Bool.and_eq_true] at h6;have:=List.all_eq_true.1 h6.2 i (List.mem_range.2 hi);unfold Zgm txA at this;simp only [Bool.and_eq_true,decide_eq_true_eq,List.getD_eq_getElem?_getD,List.getElem?_eq_getElem hi,Option.getD_some] at this;intro e;have h1:=Zjg (s:=U.wi[i]) (by omega);rw [e] at h1
   cases h1
 . unfold Zf2 at h13
   rw [if_pos (by rcases hq with e | e <;> simp [e])] at h13;simp only [Bool.and_eq_true,Zcq] at h13
   omega
theorem Tv.safe (h:Tv U):Tv (Zev U):=
 ⟨⟨h.z.z1,h.z.l1,h.z.z1,h.z.l1,h.z.z2,h.z.l2,h.z.z3,h.z.l3,h.z.l4,h.z.z5,h.z.l5,h.z.z6,h.z.l6⟩,h.of1,h.of5,h.nu1,h.nu5,h.dk,h.dk,h.kn1,⟨h.ak.k0,h.ak.k1,h.ak.al,h.ak.ai,h.ak.sc⟩,h.wi,h.wne,h.ye,h.be,h.q,h.ba,h.he⟩
theorem Tv.held (h:Tv U):Tv { U with he:=[] }:=
 ⟨⟨h.z.z0,h.z.l0,h.z.z1,h.z.l1,fun _ hM=>by simp at hM,Nat.zero_le _,h.z.z3,h.z.l3,h.z.l4,h.z.z5,h.z.l5,h.z.z6,h.z.l6⟩,h.of1,h.of5,h.nu1,h.nu5,h.sf,h.dk,h.kn1,⟨h.ak.k0,h.ak.k1,h.ak.al,h.ak.ai,h.ak.sc⟩,h.wi,h.wne,h.ye,h.be,h.q,h.ba,Nat.zero_le _⟩
theorem Tv.wish (h:Tv U) (p:Zy_->Bool):Tv { U with wi:=U.wi.filter p }:=by
 have hl:=List.length_filter_le p U.wi;exact⟨⟨h.z.z0,h.z.l0,h.z.z1,h.z.l1,h.z.z2,h.z.l2,fun t ht=>h.z.z3 t (List.mem_filter.1 ht).1,Nat.le_trans hl h.z.l3,h.z.l4,h.z.z5,h.z.l5,h.z.z6,h.z.l6⟩,h.of1,h.of5,h.nu1,h.nu5,h.sf,h.dk,h.kn1,⟨h.ak.k0,h.ak.k1,h.ak.al,h.ak.ai,h.ak.sc⟩,Nat.le_trans hl h.wi,fun t ht=>h.wne t (List.mem_filter.1 ht).1,h.ye,h.be,h.q,h.ba,h.he⟩
theorem Tv.hd (h:Tv U) (x:Int):Tv { U with hd:=x }:=
 ⟨h.z.hd x,h.of1,h.of5,h.nu1,h.nu5,h.sf,h.dk,h.kn1,⟨h.ak.k0,h.ak.k1,h.ak.al,h.ak.ai,h.ak.sc⟩,h.wi,h.wne,h.ye,h.be,h.q,h.ba,h.he⟩
theorem Tv.slots (h:Tv U):∀ x ∈ U.dk.sl,ZaJ x:=fun x hx=>⟨h.z.z1 x hx⟩
theorem Tv.drop (h:Tv U):U.wi.filter (Zen U.dk)=U.wi.filter (fun t=>!Zdd (U.dk.sl.take U.dk.kn.toNat) t):=
 List.filter_congr fun t ht=>by
  unfold Zen kwB;rw [ZhX (fun x hx=>h.q x (List.mem_of_mem_take hx)) (h.wne t ht)]
theorem ZkO {L:List Rs} (h:SlQ L) (i:Nat) {s:Rs} (hs:0 < s.ba):SlQ (ZgQ L i s):=fun x hx=>by
 unfold ZgQ at hx
 rcases List.mem_or_eq_of_mem_set hx with hx | hx
 . rcases List.mem_append.1 hx with hx | hx
   . exact h x hx
   . rw [(List.mem_replicate.1 hx).2];exact Or.inr (List.isEmpty_iff.1 ZhT)
 . rw [hx];exact Or.inl hs
structure LdN (U V:Rr):Prop where
 e:∃ L,V={ U with dk:={ U.dk with sl:=L } }
 dk:V.dk.sl.length<=120
 gr:U.dk.sl.length<=V.dk.sl.length
 q:SlQ V.dk.sl
theorem ZgL (U:Rr) (B:List Rs) (k0:Nat) (hB:B.length<=120) (hU:U.dk.sl.length<=120) (hq:SlQ U.dk.sl) (hb:0 < U.ba):∀ i,LdN U (ZbQ U B k0 i)
 | 0=>⟨⟨U.dk.sl,rfl⟩,hU,Nat.le_refl _,hq⟩
 | i+1=>by
  unfold ZbQ;have ih:=ZgL U B k0 hB hU hq hb i
  split
  . rename_i s hs
    have h1:=(List.getElem?_eq_some_iff.1 hs).1;obtain⟨L,hL⟩:=ih.e;refine⟨⟨ZgQ L (k0+i+1) ⟨U.ba,s.tx⟩,by rw [hL];rfl⟩,?_,?_,ZkO ih.q _ hb⟩
    . have:=ih.dk
      simp only [ZdA,ZgQ,List.length_set,List.length_append,List.length_replicate]
      omega
    . have:=ih.gr
      simp only [ZdA,ZgQ,List.length_set,List.length_append,List.length_replicate]
      omega
  . exact ih
theorem Tv.self (h:Tv U) (hy:U.ye.length<=5):Tv (Zew U):=by
 unfold Zew
 split
 . rename_i hc
   simp only [Bool.and_eq_true] at hc;have hba:=h.ba (Or.inr hc.1);have hz:Bz (Zb1 U U.nu U.dk.sl):=h.z.prom (by omega) (by have:=h.be;omega) h.z.z1 (by have:=h.dk;omega) _;have hm:(Zas U.be U.dk.sl).length<=120:=by rw [Zbv];have:=h.be;have:=h.dk;omega
   revert hz;unfold Zb1
   split
   . intro hz
     exact⟨hz,h.of1,h.of5,h.nu1,h.nu5,h.sf,h.dk,h.kn1,⟨h.ak.k0,h.ak.k1,h.ak.al,h.ak.ai,h.ak.sc⟩,h.wi,h.wne,Nat.le_trans (ZbU _ _) (by omega),hm,h.q,h.ba,h.he⟩
   . intro hz
     unfold Zeu at hz |-;have hl:=ZgL (ZdS (ZbP U U.nu U.dk.sl)) (Zas U.be U.dk.sl) (ZdS (ZbP U U.nu U.dk.sl)).dk.kn.toNat hm h.dk h.q hba ((Zas U.be U.dk.sl).length - (ZdS (ZbP U U.nu U.dk.sl)).dk.kn.toNat);revert hz hl;generalize ZbQ _ _ _ _=V;intro hz hl;obtain⟨L,hL⟩:=hl.e;have g1:=hl.dk;have g2:=hl.gr;have g3:=hl.q;have g4:(ZdS (ZbP U U.nu U.dk.sl)).dk.sl.length=U.dk.sl.length:=rfl;subst hL;exact⟨hz,h.of1,h.of5,h.nu1,h.nu5,h.sf,g1,by have:=h.kn1;show U.dk.kn<=(L.length:Int);have:U.dk.sl.length<=L.length:=g2;omega,⟨h.ak.k0,h.ak.k1,Nat.zero_le _,fun a ha=>by simp [ZdS,Za7] at ha,fun a b ha=>absurd ha (Nat.not_lt_zero _)⟩,h.wi,h.wne,Nat.zero_le _,Nat.zero_le _,g3,fun _=>hba,h.he⟩
 . exact h
theorem ZeY (h:ZaM U=true) (hz:RrZ U):Tv (Zbp U):=by
 have h0:=(ZdY h hz).1;have hv:=Zdi h;exact (((h0.safe.held).wish _).hd _).self hv.ye
theorem ZkL (a n f:Int):0<=nbF a n f:=by
 unfold nbF
 split
 . rename_i h
   simp only [Bool.and_eq_true,Zcq] at h
   split
   . exact Int.le_refl _
   . unfold nbR
     have:0<=a / f*f:=Int.mul_nonneg (Int.ediv_nonneg (by omega) (by omega)) (by omega)
     split <;> omega
 . exact Int.le_refl _
def Zbw (U:Rr):Rr:=if (Zbp U).ld=true then leadT (Zbp U) else tryW (Zbp U)
def Zb7 (U:Rr):List Rm:=U.he ++ if (Zbp U).ld=true then Zcj (leadT (Zbp U)) else []
end
theorem Rz.shed2 {K:Nat->Prop}{lo:Nat}{w:World}{γ:Nat}{b:Nat->Option Addr}{m:Nat->Nat}{S:Nat->Nat->Prop}{U:Rr} (h:Rz K lo w γ b m S U) (he:U.he=[]) (hb:b 2=none) (hm:m 2=0):Rz (fun k=>K k\/S 2 k) lo w γ b m (upd S 2 (fun _=>False)) U:=by
 refine⟨h.box,⟨fun i hi k hS=>?_,fun i j hi hj hne k hS hS'=>?_,h.cp.o0,h.cp.o1,⟨[],Or.inl ⟨by rw [he,hb,hm];rfl,rfl⟩,by rw [he];rfl⟩,h.cp.o3,h.cp.o4,h.cp.o5,h.cp.o6⟩,h.low,fun i hi hS=>?_,fun k hk=>?_⟩
 . by_cases e:i=2
   . subst e;rw [Zam] at hS;exact hS.elim
   . rw [ZaG _ _ e] at hS;exact h.cp.seg i hi k hS
 . by_cases e:i=2
   . subst e;rw [Zam] at hS;exact hS.elim
   . by_cases e':j=2
     . subst e';rw [Zam] at hS';exact hS'.elim
     . rw [ZaG _ _ e] at hS
       rw [ZaG _ _ e'] at hS';exact h.cp.ap i j hi hj hne k hS hS'
 . by_cases e:i=2
   . subst e;rw [Zam] at hS;exact hS.elim
   . rw [ZaG _ _ e] at hS;exact h.far i hi hS
 . rcases hk with hk | hk
   . refine⟨(h.prot k hk).1,(h.prot k hk).2.1,fun i hi hS=>?_⟩
     by_cases e:i=2
     . subst e;rw [Zam] at hS;exact hS
     . rw [ZaG _ _ e] at hS;exact (h.prot k hk).2.2 i hi hS
   . refine⟨(h.cp.seg 2 (by decide) k hk).2,fun e=>h.far 2 (by decide) (by rw [<- e];exact hk),fun i hi hS=>?_⟩
     by_cases e:i=2
     . subst e;rw [Zam] at hS;exact hS
     . rw [ZaG _ _ e] at hS;exact h.cp.ap 2 i (by decide) hi (Ne.symm e) k hk hS
theorem ZhY (K:Nat->Prop) (lo:Nat) (w:World) (γ ρ τ:Nat) (U:Rr) (sv:Value) (h:Wk K lo w γ ρ U) (kt:K τ) (tr:τ≠ρ) (tb:Box w τ (tkC γ ρ sv)) (hsv:∃ a n c,sv=.slice a n c) :
 Calls prog 179 #[.pointer (some ⟨τ,0,none⟩)] w fun e w'=>e=.returned (.tuple #[])/\∃ (v':Value) (E:Nat->Prop),Box w' τ (tkC γ ρ v')/\Wk (fun k=>K k\/E k) lo w' γ ρ { U with he:=[] }/\(∃ L,NGS PM mxL 8 w' E v' L/\L.map (·.1)=U.he)/\Zag (fun k=>K k/\k≠τ) w w'/\∀ k,E k->¬ K k/\lo<=k:=by
 obtain⟨sa,sn,sc,rfl⟩:=hsv;obtain⟨⟨b,m,S,hR⟩,kr,rb⟩:=h;have HR:=Zaa hR;have HRB:=Zaa rb;have HTB:=Zaa tb;have hγτ:τ≠γ:=(hR.prot τ kt).2.1;have xt0:w.cell? ⟨τ,0,none⟩=some (.pointer (some ⟨γ,0,none⟩)):=tb.cell 0;have x9:w.cell? ⟨γ,9,none⟩=some (.slice (b 2) U.he.length (m 2)):=hR.box.cell 9;clear hR tb rb;go_enter func179,ntmps179;refine Code.wp_mono NoPanic.imp ?_;refine Zan (S:=fun W=>W.cell? ⟨τ,0,none⟩=some (.pointer (some ⟨γ,0,none⟩))/\W.cell? ⟨γ,9,none⟩=some (.slice (b 2) U.he.length (m 2))) [16,17,18,19] (by kernel_rfl) ⟨xt0,x9⟩ (fun hHeld=>?_);refine tB 0 (.pointer (some ⟨τ,0,none⟩)) [14,15,16,17,18,19] rfl hHeld ?_
 try simp only [Act.put,sLs]
 refine tB 1 (.pointer (some ⟨τ,0,none⟩)) [2,3,4,5,14,15,16,17,18,19] rfl hHeld ?_
 try simp only [Act.put,sLs]
 refine tB 2 (.pointer (some ⟨τ,0,none⟩)) [3,4,5,14,15,16,17,18,19] rfl hHeld ?_
 try simp only [Act.put,sLs]
 refine tB 3 (.pointer (some ⟨τ,0,none⟩)) [4,5,14,15,16,17,18,19] rfl hHeld ?_
 try simp only [Act.put,sLs]
 refine tB 4 (.pointer (some ⟨τ,0,none⟩)) [5,14,15,16,17,18,19] rfl hHeld ?_
 try simp only [Act.put,sLs]
 refine tB 5 (.pointer (some ⟨γ,0,none⟩)) [14,15,16,17,18,19] rfl hHeld ?_
 try simp only [Act.put,sLs]
 refine tB 6 (.pointer (some ⟨τ,0,none⟩)) [7,8,9,10,11,12,13,14,15,16,17,18,19] rfl hHeld ?_
 try simp only [Act.put,sLs]
 refine tB 7 (.pointer (some ⟨τ,0,none⟩)) [8,9,10,11,12,13,14,15,16,17,18,19] rfl hHeld ?_
 try simp only [Act.put,sLs]
 refine tB 8 (.pointer (some ⟨τ,0,none⟩)) [9,10,11,12,13,14,15,16,17,18,19] rfl hHeld ?_
 try simp only [Act.put,sLs]
 refine tB 9 (.pointer (some ⟨τ,0,none⟩)) [10,11,12,13,14,15,16,17,18,19] rfl hHeld ?_
 try simp only [Act.put,sLs]
 refine tB 10 (.pointer (some ⟨γ,0,none⟩)) [11,12,13,14,15,16,17,18,19] rfl hHeld ?_
 try simp only [Act.put,sLs]
 refine tB 11 (.pointer (some ⟨γ,0,none⟩)) [12,13,14,15,16,17,18,19] rfl hHeld ?_
 try simp only [Act.put,sLs]
 refine tB 12 (.pointer (some ⟨γ,9,none⟩)) [13,14,15,16,17,18,19] rfl hHeld ?_
 try simp only [Act.put,sLs]
 refine tB 13 (.slice (b 2) U.he.length (m 2)) [14,15,16,17,18,19] rfl hHeld ?_
 try simp only [Act.put,sLs]
 refine tB 14 (.pointer (some ⟨τ,0,none⟩)) [15,16,17,18,19] rfl hHeld ?_
 try simp only [Act.put,sLs]
 refine tB 15 (.pointer (some ⟨τ,2,none⟩)) [16,17,18,19] rfl hHeld ?_
 try simp only [Act.put,sLs]
 obtain⟨W0,hW0,TB0,RB0,R0,HB0⟩:∃ W0,W0=w.drew/\Hd (Box W0 τ (tkC γ ρ (.slice sa sn sc)))/\Hd (Box W0 ρ #[.pointer (some ⟨γ,0,none⟩)])/\Hd (Rz K lo W0 γ b m S U)/\Hd (Zw_ w W0):=⟨_,rfl,HTB.o.on Zb_.drew,HRB.o.on Zb_.drew,HR.o.on Zb_.drew,Zb_.drew⟩
 rw [<- hW0] at hHeld;rw [<- hW0];have y2:W0.cell? ⟨τ,2,none⟩=some (.slice sa sn sc):=TB0.o.cell 2;have f2:=TB0.o.free;have x9':W0.cell? ⟨γ,9,none⟩=some (.slice (b 2) U.he.length (m 2)):=R0.o.box.cell 9;have f9:=R0.o.box.free;have hne:∀ u,(W0.setCell ⟨τ,2,none⟩ u).cell? ⟨γ,9,none⟩=some (.slice (b 2) U.he.length (m 2)):=fun u=>(Zd3 _ _ _ _ (by simp only [];omega)).trans x9'
 clear hW0;refine oB 16 rfl (fun KC hK=>?_)
 go_simp
 refine hK.out _ _ (fun h=>absurd (by decide) h) (fun _=>?_);clear hK KC
 try simp only [Act.put,sLs]
 refine oB 17 rfl (fun KC hK=>?_)
 go_simp
 refine hK.out _ _ (fun h=>absurd (by decide) h) (fun _=>?_);clear hK KC
 try simp only [Act.put,sLs]
 refine oB 18 rfl (fun KC hK=>?_)
 go_simp
 refine hK.out _ _ (fun h=>absurd (by decide) h) (fun _=>?_);clear hK KC
 try simp only [Act.put,sLs]
 refine oB 19 rfl (fun KC hK=>?_)
 go_simp
 refine hK.out _ _ (fun h=>absurd (by decide) h) (fun _=>?_);clear hK KC
 try simp only [Act.put,sLs]
 refine Zak (by kernel_rfl) ?_ _;refine NoPanic.normal ?_;clear xt0 x9 y2 f2 x9' f9 hne hHeld;have ht:Zad τ (τ+1) W0 (W0.setCell ⟨τ,2,none⟩ (.slice (b 2) U.he.length (m 2))):=Zad.setCell _ _ _ _ _ ⟨Nat.le_refl _,Nat.lt_succ_self _⟩;have R1:=R0.o.other kt ht;have hp:=R1.part2 (L':=[]) (a':=none) (m':=0) (Zaj.refl _ _) ⟨[],Or.inl ⟨rfl,rfl⟩,rfl⟩;have HS:=Zaa (hp.1.shed2 rfl (Zam _ _ _) (Zam _ _ _));have hργ:ρ≠γ:=(HR.o.prot ρ kr).2.1;have hgt:Zad γ (γ+1) (W0.setCell ⟨τ,2,none⟩ (.slice (b 2) U.he.length (m 2))) ((W0.setCell ⟨τ,2,none⟩ (.slice (b 2) U.he.length (m 2))).setCell ⟨γ,9,none⟩ (.slice none 0 0)):=Zad.setCell _ _ _ _ _ ⟨Nat.le_refl _,Nat.lt_succ_self _⟩
 have hs2:Zag (fun k=>S 2 k) W0 ((W0.setCell ⟨τ,2,none⟩ (.slice (b 2) U.he.length (m 2))).setCell ⟨γ,9,none⟩ (.slice none 0 0)):=by
  refine (Zag.touch ht (fun k hk=>⟨(R0.o.cp.seg 2 (by decide) k hk).2,?_⟩)).trans (Zag.touch hgt (fun k hk=>⟨Zk_ (R0.o.cp.seg 2 (by decide) k hk).2 ht.size,?_⟩))
  . have:k≠τ:=fun e=>(R0.o.prot τ kt).2.2 2 (by decide) (by rw [<- e];exact hk)
    omega
  . have:k≠γ:=fun e=>R0.o.far 2 (by decide) (by rw [<- e];exact hk)
    omega
 obtain⟨L2,hng,hmap⟩:=R0.o.cp.o2;have hng2:=hng.kept Zdn hs2 (fun k hk=>hk);have hkk:Zag (fun k=>K k/\k≠τ) w ((W0.setCell ⟨τ,2,none⟩ (.slice (b 2) U.he.length (m 2))).setCell ⟨γ,9,none⟩ (.slice none 0 0)):=((Zag.below HB0.o (fun k hk=>(HR.o.prot k hk.1).1)).trans (Zag.touch ht (fun k hk=>⟨(R0.o.prot k hk.1).1,by have:=hk.2;omega⟩))).trans (hp.2.less fun k hk=>hk.1);have TB2:=Zaa ((TB0.o.set (k:=2) (.slice (b 2) U.he.length (m 2)) (by simp)).setFar (p:=⟨γ,9,none⟩) (by simp only [];omega) (.slice none 0 0));have RB2:=Zaa ((RB0.o.setFar (p:=⟨τ,2,none⟩) tr (.slice (b 2) U.he.length (m 2))).setFar (p:=⟨γ,9,none⟩) (Ne.symm hργ) (.slice none 0 0))
 have HEE:Hd (∀ k,Gr (S 2) (W0.setCell ⟨τ,2,none⟩ (.slice (b 2) U.he.length (m 2))) (W0.setCell ⟨τ,2,none⟩ (.slice (b 2) U.he.length (m 2))) k->¬ K k/\lo<=k):=fun k hk=>by
  rcases hk with hk | ⟨h1,h2⟩
  . exact⟨fun h=>(R0.o.prot k h).2.2 2 (by decide) hk,(R0.o.cp.seg 2 (by decide) k hk).1⟩
  . omega
 clear hp
 go_end0
 exact⟨rfl,_,_,TB2.o,⟨⟨_,_,_,HS.o⟩,Or.inl kr,RB2.o⟩,⟨L2,hng2.wide (fun k hk=>by rw [Zam];exact Or.inl hk),hmap⟩,hkk,fun k hk=>HEE.o k (by rw [Zam] at hk;exact hk)⟩
end Go.Proofs.YtdeammfdkaomlaaGreat
