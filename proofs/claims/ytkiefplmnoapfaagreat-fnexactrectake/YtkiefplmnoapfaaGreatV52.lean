import Derived.Test.YtkiefplmnoapfaaGreatV49
set_option maxHeartbeats 16000000
set_option maxRecDepth 100000
open Go.Proofs.Tryz
namespace Go.Proofs.YtkiefplmnoapfaaGreat
open Go.RowKit Go.Deep
theorem ZkI (V:Rr) (mk ba:Int) (h:0<=V.dk.kn):knB V mk ba=(decide (V.dk.kn < mk)&&Zgp V.dk.sl (V.dk.kn+1) ba):=by
 unfold knB Zgp;rw [show (V.dk.kn+1 - 1).toNat=V.dk.kn.toNat by omega]
 by_cases hk:V.dk.kn < (V.dk.sl.length:Int)
 . rw [decide_eq_true hk];rfl
 . rw [decide_eq_false hk,List.getElem?_eq_none (by omega)];rfl
theorem Zkr {L:List Rs}{i y:Int} (h:Zgp L i y=true) (h1:1<=i):i<=(L.length:Int):=by
 unfold Zgp at h
 rcases Nat.lt_or_ge (i - 1).toNat L.length with q | q
 . omega
 . rw [List.getElem?_eq_none q] at h;cases h
theorem Zhp (KP:Nat->Prop) (lo:Nat) (w:World) (γ ρ:Nat) (U:Rr) (M:Rm) (a0:Option Addr) (k0:Nat) (h:Wk KP lo w γ ρ U) (h0:0<=U.dk.kn) (h1:U.dk.kn<=(U.dk.sl.length:Int)) (hl:U.dk.sl.length<=1000) (_hmk:M.kn<=1000) (hwl:U.wi.length<=1000) :
 Calls prog 120 #[.agg (wkC γ ρ),.agg (rmL M a0 k0).toArray] w fun e w'=>e=.returned (.tuple #[])/\Zag KP w w'/\Wk KP lo w' γ ρ (ZcW U M):=by
 have HW:=Zaa h;clear h
 show Calls prog 120 #[.agg #[.pointer (some ⟨γ,0,none⟩),.func (.func 115) #[] #[.pointer (some ⟨ρ,0,none⟩)]],.agg #[.int .i64 M.kd,.int .i64 M.fr,.int .i64 M.tt,.int .i64 M.ba,.int .i64 M.ix,.int .i64 M.kn,.string M.tx,.slice a0 M.sl.length k0]] w _
 go_enter func120,ntmps120
 go_upto_region 1 with fail
 obtain⟨W0,hW0,HA,MB⟩:∃ W0,W0=((w.alloc (.cells #[.pointer (some ⟨γ,0,none⟩),.func (.func 115) #[] #[.pointer (some ⟨ρ,0,none⟩)]] 123)).alloc (.cells #[.int .i64 M.kd,.int .i64 M.fr,.int .i64 M.tt,.int .i64 M.ba,.int .i64 M.ix,.int .i64 M.kn,.string M.tx,.slice a0 M.sl.length k0] 45))/\Hd (At KP lo w W0 γ ρ 2 U)/\Hd (Box W0 (w.heap.size+1) #[.int .i64 M.kd,.int .i64 M.fr,.int .i64 M.tt,.int .i64 M.ba,.int .i64 M.ix,.int .i64 M.kn,.string M.tx,.slice a0 M.sl.length k0]):=
  ⟨_,rfl,HW.o.enter (bt (Zab _ _) (Zab _ _)) ((Box.new w _ _ _ rfl).on (Zab _ _)) (by simp) (by omega),(Box.new _ _ _ _ (by simp))⟩
 rw [<- hW0];clear hW0;obtain⟨b,m,S,hR⟩:=HA.o.wz;have HR:=Zaa hR;clear hR;have x_0:W0.cell? ⟨w.heap.size,0,none⟩=some (.pointer (some ⟨γ,0,none⟩)):=HA.o.c0;have x6:W0.cell? ⟨γ,6,none⟩=some (.int .i64 U.dk.pr):=HR.o.box.cell 6;have y1_3:W0.cell? ⟨w.heap.size+1,3,none⟩=some (.int .i64 M.ba):=MB.o.cell 3
 by_cases hp:M.ba < U.dk.pr
 case pos=>
  have d1:decide (M.ba < U.dk.pr)=true:=decide_eq_true hp;have HE:Hd (ZcW U M=Zav U (Zfc U M)):=by unfold Hd ZcW;rw [if_pos hp]
  go_quiet (fail)
  obtain⟨W1,hWn⟩:∃ wx_,wx_=W0.drewN nq:=⟨_,rfl⟩
  rw [<- hWn];have hb:Below W0.heap.size W0 W1:=by rw [hWn];exact below_drewN Zb_ _
  clear hWn;replace HA:=Zaa (HA.o.on hb);replace HR:=Zaa (HR.o.on hb);replace MB:=Zaa (MB.o.on hb);clear hb
  go_upto_region 2 with fail
  clear x_0 x6 y1_3 d1;have x_0:W1.cell? ⟨w.heap.size,0,none⟩=some (.pointer (some ⟨γ,0,none⟩)):=HA.o.c0;have x_1:W1.cell? ⟨w.heap.size,1,none⟩=some (.func (.func 115) #[] #[.pointer (some ⟨ρ,0,none⟩)]):=HA.o.c1;have y1_0:W1.cell? ⟨w.heap.size+1,0,none⟩=some (.int .i64 M.kd):=MB.o.cell 0;have y1_1:W1.cell? ⟨w.heap.size+1,1,none⟩=some (.int .i64 M.fr):=MB.o.cell 1;have y1_2:W1.cell? ⟨w.heap.size+1,2,none⟩=some (.int .i64 M.tt):=MB.o.cell 2;have y1_3:W1.cell? ⟨w.heap.size+1,3,none⟩=some (.int .i64 M.ba):=MB.o.cell 3;have y1_4:W1.cell? ⟨w.heap.size+1,4,none⟩=some (.int .i64 M.ix):=MB.o.cell 4;have y1_5:W1.cell? ⟨w.heap.size+1,5,none⟩=some (.int .i64 M.kn):=MB.o.cell 5;have y1_6:W1.cell? ⟨w.heap.size+1,6,none⟩=some (.string M.tx):=MB.o.cell 6;have y1_7:W1.cell? ⟨w.heap.size+1,7,none⟩=some (.slice a0 M.sl.length k0):=MB.o.cell 7;go_wp2_with fail
  clear x_0 x_1 y1_0 y1_1 y1_2 y1_3 y1_4 y1_5 y1_6 y1_7;refine (Zdf (KN KP w 2) lo _ γ ρ U M a0 k0 HA.o.wk).mono ?_;rintro e W2 ⟨rfl,hk,hz⟩;have HAn:Hd (At KP lo w W2 γ ρ 2 (Zav U (Zfc U M))):=HA.o.call hk hz;replace MB:=Zaa (MB.o.kept hk (Or.inr ⟨by omega,by omega⟩));clear hk hz HA HR;have HA:=HAn;clear HAn;obtain⟨b,m,S,hR⟩:=HA.o.wz;have HR:=Zaa hR;clear hR;go_wp2
  (try simp only [Exit.inBlock,Exit.then]);refine bodyPost_ret (results_none rfl _ _ _) rfl ?_
  exact⟨rfl,by rw [HE.o];exact HA.o.fin⟩
 have d1:decide (M.ba < U.dk.pr)=false:=decide_eq_false hp;have HE:Hd (ZcW U M=Zcq U M):=by unfold Hd ZcW;rw [if_neg hp]
 clear hp
 go_quiet (fail)
 obtain⟨W1,hWn⟩:∃ wx_,wx_=W0.drewN nq:=⟨_,rfl⟩
 rw [<- hWn];have hb:Below W0.heap.size W0 W1:=by rw [hWn];exact below_drewN Zb_ _
 clear hWn;replace HA:=Zaa (HA.o.on hb);replace HR:=Zaa (HR.o.on hb);replace MB:=Zaa (MB.o.on hb);clear hb
 go_upto_region 3 with fail
 clear x_0 x6 y1_3 d1;obtain⟨lb,hlb⟩:∃ lb,lb=(decide (0 < M.ba)&&(M.fr != U.nu)):=⟨_,rfl⟩
 have HLB:=Zaa hlb;clear hlb;have x_0:W1.cell? ⟨w.heap.size,0,none⟩=some (.pointer (some ⟨γ,0,none⟩)):=HA.o.c0;have x_1:W1.cell? ⟨w.heap.size,1,none⟩=some (.func (.func 115) #[] #[.pointer (some ⟨ρ,0,none⟩)]):=HA.o.c1;have y1_0:W1.cell? ⟨w.heap.size+1,0,none⟩=some (.int .i64 M.kd):=MB.o.cell 0;have y1_1:W1.cell? ⟨w.heap.size+1,1,none⟩=some (.int .i64 M.fr):=MB.o.cell 1;have y1_2:W1.cell? ⟨w.heap.size+1,2,none⟩=some (.int .i64 M.tt):=MB.o.cell 2;have y1_3:W1.cell? ⟨w.heap.size+1,3,none⟩=some (.int .i64 M.ba):=MB.o.cell 3;have y1_4:W1.cell? ⟨w.heap.size+1,4,none⟩=some (.int .i64 M.ix):=MB.o.cell 4;have y1_5:W1.cell? ⟨w.heap.size+1,5,none⟩=some (.int .i64 M.kn):=MB.o.cell 5;have y1_6:W1.cell? ⟨w.heap.size+1,6,none⟩=some (.string M.tx):=MB.o.cell 6;have y1_7:W1.cell? ⟨w.heap.size+1,7,none⟩=some (.slice a0 M.sl.length k0):=MB.o.cell 7;go_wp2_with fail
 clear x_0 x_1 y1_0 y1_1 y1_2 y1_3 y1_4 y1_5 y1_6 y1_7;refine (ZgH (KN KP w 2) lo _ γ ρ U M a0 k0 HA.o.wk).mono ?_;rintro e W2 ⟨rfl,hb⟩;rw [<- HLB.o];replace HA:=Zaa (HA.o.on hb);replace HR:=Zaa (HR.o.on hb);replace MB:=Zaa (MB.o.on hb);clear hb
 cases q:lb with
 | false=>
  have HE2:Hd (Zcq U M=U):=by
   have h9:=HLB.o;rw [q] at h9;unfold Hd Zcq;rw [if_pos]
   by_cases h1:M.ba < 1
   . exact Or.inr h1
   . rw [decide_eq_true (by omega)] at h9
     exact Or.inl (by simpa using h9)
  go_wp2
  (try simp only [Exit.inBlock,Exit.then]);refine bodyPost_ret (results_none rfl _ _ _) rfl ?_
  exact⟨rfl,by rw [HE.o,HE2.o];exact HA.o.fin⟩
 | true=>
 have HNO:Hd (¬ (M.fr=U.nu\/M.ba < 1)):=by
  have h9:=HLB.o;rw [q] at h9;simp at h9;rintro (h | h)
  . exact h9.2 h
  . omega
 go_upto_region 4 with fail
 have x_0:W2.cell? ⟨w.heap.size,0,none⟩=some (.pointer (some ⟨γ,0,none⟩)):=HA.o.c0;have x_1:W2.cell? ⟨w.heap.size,1,none⟩=some (.func (.func 115) #[] #[.pointer (some ⟨ρ,0,none⟩)]):=HA.o.c1;have y1_3:W2.cell? ⟨w.heap.size+1,3,none⟩=some (.int .i64 M.ba):=MB.o.cell 3;go_wp2_with fail;clear x_0 x_1 y1_3;refine (Zda (KN KP w 2) lo _ γ ρ U M.ba HA.o.wk).mono ?_;rintro e W3 ⟨rfl,hk,hz⟩;have HAn:Hd (At KP lo w W3 γ ρ 2 (Zam U M.ba)):=HA.o.call hk hz;replace MB:=Zaa (MB.o.kept hk (Or.inr ⟨by omega,by omega⟩));clear hk hz HA HR;have HA:=HAn;clear HAn;obtain⟨b,m,S,hR⟩:=HA.o.wz;have HR:=Zaa hR;clear hR;obtain⟨F,hF⟩:∃ F,F=Zam U M.ba:=⟨_,rfl⟩
 have f1:F.dk.sl.length=U.dk.sl.length:=by rw [hF,Zb4]
 have f2:F.dk.kn=U.dk.kn:=by rw [hF,Zfw]
 have f3:F.wi.length=U.wi.length:=by rw [hF,Zfx]
 have HE0:Hd (ZcW U M=Zbi (ZbU (knF F.dk.sl.length F M.kn M.ba) M) M (ZbU (knF F.dk.sl.length F M.kn M.ba) M).wi.length):=by unfold Hd;rw [HE.o];unfold Zcq;rw [if_neg HNO.o,<- hF]
 rw [<- hF] at HA HR;clear hF HLB HNO HE;go_wp2;clear HR
 go_loopw [] (fun wr=>∃ (n:Nat) (V:Rr),knF n V M.kn M.ba=knF F.dk.sl.length F M.kn M.ba/\V.dk.sl.length=U.dk.sl.length/\V.wi.length=U.wi.length/\0<=V.dk.kn/\V.dk.kn<=(U.dk.sl.length:Int)/\(U.dk.sl.length:Int) - V.dk.kn<=n/\At KP lo w wr γ ρ 2 V/\Box wr (w.heap.size+1) #[.int .i64 M.kd,.int .i64 M.fr,.int .i64 M.tt,.int .i64 M.ba,.int .i64 M.ix,.int .i64 M.kn,.string M.tx,.slice a0 M.sl.length k0]) (fun wr=>U.dk.sl.length - ZkH (wr.cell? ⟨γ,7,none⟩))
 case atStart=>exact⟨F.dk.sl.length,F,rfl,f1,f3,by omega,by rw [f2];exact h1,by rw [f1,f2];omega,HA.o,MB.o⟩
 case round=>
  obtain⟨n,V,v1,vl,vw,v4,v5,v6,ha,hmb⟩:=hrel;clear HA MB;have HA:=Zaa ha;have MB:=Zaa hmb;have HV1:=Zaa v1;clear ha hmb v1;obtain⟨b,m,S,hR⟩:=HA.o.wz;have HR:=Zaa hR;clear hR;have HKA:Hd (ZkH (wr.cell? ⟨γ,7,none⟩)=V.dk.kn.toNat):=by unfold Hd;rw [show wr.cell? ⟨γ,7,none⟩=some (.int .i64 V.dk.kn) from HR.o.box.cell 7];rfl
  have HBI:=Zaa (ZkI V M.kn M.ba v4);have HSZ:=HA.o.sz
  go_upto_region 5 with fail
  have w64:IntKind.wrap .i64 (V.dk.kn+1)=V.dk.kn+1:=by rw [IntKind.wrap_i64];omega
  go_cut [47] (fun c wc=>c=.bool (knB V M.kn M.ba)/\Below wr.heap.size wr wc)
  case first=>
   have xn:Nonempty (In (Up wr)):=⟨⟨wr,Below.refl _ _⟩⟩;have xs:=fun (X:In (Up wr))=>Zbn X
   have f3:∀ X:In (Up wr),X.w.cell? ⟨w.heap.size+1,3,none⟩=some (.int .i64 M.ba):=fun X=>Up.cell X (MB.o.cell 3)
   have f5:∀ X:In (Up wr),X.w.cell? ⟨w.heap.size+1,5,none⟩=some (.int .i64 M.kn):=fun X=>Up.cell X (MB.o.cell 5)
   have r0:∀ X:In (Up wr),X.w.cell? ⟨w.heap.size,0,none⟩=some (.pointer (some ⟨γ,0,none⟩)):=fun X=>Up.cell X HA.o.c0
   have r1:∀ X:In (Up wr),X.w.cell? ⟨w.heap.size,1,none⟩=some (.func (.func 115) #[] #[.pointer (some ⟨ρ,0,none⟩)]):=fun X=>Up.cell X HA.o.c1
   have k7:∀ X:In (Up wr),X.w.cell? ⟨γ,7,none⟩=some (.int .i64 V.dk.kn):=fun X=>Up.cell X (HR.o.box.cell 7)
   refine Zaf (Up wr) (by kernel_rfl) (by kernel_rfl) (Zb_.drew) ?_
   cases c1:decide (V.dk.kn < M.kn) with
   | false=>
    repeat (go_big_quiet_step (fail))
    refine wpQuiet_nil ?_;intro wn hw;obtain⟨X,hX⟩:=hw;have HWN:Below wr.heap.size wr wn:=by rw [hX];exact X.h
    clear hX X f3 f5 r0 r1 k7 xs xn;go_wp2;go_meet;exact⟨congrArg Value.bool (by rw [HBI.o,c1];rfl),HWN⟩
   | true=>
   cases c2:Zgp V.dk.sl (V.dk.kn+1) M.ba with
   | false=>
    repeat (go_big_quiet_step ((go_at_call 140;rename_i X;exact (Zc3 (KN KP w 2) lo _ γ ρ V (V.dk.kn+1) M.ba (HA.o.wk.on X.h) (by omega) (by omega) (by omega)).mono fun _ _ h=>⟨h.1.trans (rb c2),Up.next X h.2⟩)))
    refine wpQuiet_nil ?_;intro wn hw;obtain⟨X,hX⟩:=hw;have HWN:Below wr.heap.size wr wn:=by rw [hX];exact X.h
    clear hX X f3 f5 r0 r1 k7 xs xn;go_wp2;go_meet;exact⟨congrArg Value.bool (by rw [HBI.o,c1,c2];rfl),HWN⟩
   | true=>
    repeat (go_big_quiet_step ((go_at_call 140;rename_i X;exact (Zc3 (KN KP w 2) lo _ γ ρ V (V.dk.kn+1) M.ba (HA.o.wk.on X.h) (by omega) (by omega) (by omega)).mono fun _ _ h=>⟨h.1.trans (rb c2),Up.next X h.2⟩)))
    refine wpQuiet_nil ?_;intro wn hw;obtain⟨X,hX⟩:=hw;have HWN:Below wr.heap.size wr wn:=by rw [hX];exact X.h
    clear hX X f3 f5 r0 r1 k7 xs xn;go_wp2;go_meet;exact⟨congrArg Value.bool (by rw [HBI.o,c1,c2];rfl),HWN⟩
  case rest=>
  obtain⟨rfl,hb⟩:=hcut;clear w64;replace HA:=Zaa (HA.o.on hb);replace HR:=Zaa (HR.o.on hb);replace MB:=Zaa (MB.o.on hb);have HCW:Hd (wc.cell? ⟨γ,7,none⟩=some (.int .i64 V.dk.kn)):=HR.o.box.cell 7;clear hb
  cases hq:knB V M.kn M.ba with
  | true=>
   have hlt:V.dk.kn+1<=(U.dk.sl.length:Int):=by
    have h9:=HBI.o;rw [hq] at h9
    have h8:Zgp V.dk.sl (V.dk.kn+1) M.ba=true:=by
     cases h7:Zgp V.dk.sl (V.dk.kn+1) M.ba
     . rw [h7] at h9;simp at h9
     . rfl
    have:=Zkr h8 (by omega)
    omega
   have w64:IntKind.wrap .i64 (V.dk.kn+1)=V.dk.kn+1:=by rw [IntKind.wrap_i64];omega
   have x_0:wc.cell? ⟨w.heap.size,0,none⟩=some (.pointer (some ⟨γ,0,none⟩)):=HA.o.c0;have x7:wc.cell? ⟨γ,7,none⟩=some (.int .i64 V.dk.kn):=HR.o.box.cell 7;have gf:=HR.o.box.free;go_wp2_with fail;clear x_0 x7 gf w64;obtain⟨W4,hWn⟩:∃ wx_,wx_=(wc.setCell ⟨γ,7,none⟩ (.int .i64 (V.dk.kn+1))):=⟨_,rfl⟩
   rw [<- hWn];have hp0:=HR.o.scal (U':={ V with dk:={ V.dk with kn:=V.dk.kn+1 } }) (j:=7) (v:=.int .i64 (V.dk.kn+1)) (by show 7 < 18;omega) rfl (fun _ h=>⟨h.seg,h.ap,h.o0,h.o1,h.o2,h.o3,h.o4,h.o5,h.o6⟩);have ha0:=HA.o.step hp0.2 ⟨_,_,_,hp0.1⟩;have HAn:Hd (At KP lo w W4 γ ρ 2 ({ V with dk:={ V.dk with kn:=V.dk.kn+1 } })):=by unfold Hd;rw [hWn];exact ha0
   have HKn:Hd (Zag (KN KP w 2) wc W4):=by unfold Hd;rw [hWn];exact hp0.2
   replace MB:=Zaa (MB.o.kept HKn.o (Or.inr ⟨by omega,by omega⟩));have HRn:Hd (Rz (KN KP w 2) lo W4 γ b m S ({ V with dk:={ V.dk with kn:=V.dk.kn+1 } })):=by unfold Hd;rw [hWn];exact hp0.1
   clear hWn HA HR hp0 ha0;have HA:=HAn;clear HAn;have HR:=HRn;clear HRn;obtain⟨n',rfl⟩:∃ n',n=n'+1:=⟨n - 1,by omega⟩
   have HKN:Hd (ZkH (W4.cell? ⟨γ,7,none⟩)=(V.dk.kn+1).toNat):=by unfold Hd;rw [show W4.cell? ⟨γ,7,none⟩=some (.int .i64 (V.dk.kn+1)) from HR.o.box.cell 7];rfl
   have HST:Hd (knF n' { V with dk:={ V.dk with kn:=V.dk.kn+1 } } M.kn M.ba=knF F.dk.sl.length F M.kn M.ba):=by
    unfold Hd;rw [<- HV1.o]
    show _=(if knB V M.kn M.ba=true then _ else _)
    rw [if_pos hq]
   go_roundw
   . exact⟨n',_,HST.o,vl,vw,by show 0<=V.dk.kn+1;omega,hlt,by show _ - (V.dk.kn+1)<=_;omega,HA.o,MB.o⟩
   . rw [HKA.o,HKN.o];omega
  | false=>
  have HE:Hd (ZcW U M=Zbi (ZbU V M) M (ZbU V M).wi.length):=by unfold Hd;rw [HE0.o,<- HV1.o,ZjW hq]
  clear HV1 HKA HBI HCW HE0;have x_0:wc.cell? ⟨w.heap.size,0,none⟩=some (.pointer (some ⟨γ,0,none⟩)):=HA.o.c0;have x7:wc.cell? ⟨γ,7,none⟩=some (.int .i64 V.dk.kn):=HR.o.box.cell 7;have y1_5:wc.cell? ⟨w.heap.size+1,5,none⟩=some (.int .i64 M.kn):=MB.o.cell 5
  go_upto_region 7 with fail
  by_cases h6:V.dk.kn < M.kn
  case neg=>
   have d6:decide (V.dk.kn < M.kn)=false:=decide_eq_false h6;have HNU:Hd (ZbU V M=V):=by unfold Hd ZbU;rw [if_neg h6]
   go_quiet (fail)
   obtain⟨W4,hWn⟩:∃ wx_,wx_=wc.drewN nq:=⟨_,rfl⟩
   rw [<- hWn];have hb:Below wc.heap.size wc W4:=by rw [hWn];exact below_drewN Zb_ _
   clear hWn;replace HA:=Zaa (HA.o.on hb);replace HR:=Zaa (HR.o.on hb);replace MB:=Zaa (MB.o.on hb);clear hb
   go_upto_region 9 with fail
   clear x_0 x7 y1_5 d6 h6;rw [HNU.o] at HE;obtain⟨N,hN⟩:∃ N,N=V:=⟨_,rfl⟩
   rw [<- hN] at HE HA HR;have hnw:N.wi.length<=1000:=by rw [hN];omega
   clear hN HNU;obtain⟨a3,ha3⟩:∃ a3,a3=b 3:=⟨_,rfl⟩
   obtain⟨c3,hc3⟩:∃ c3,c3=m 3:=⟨_,rfl⟩
   obtain⟨nw,hn3⟩:∃ nw,nw=N.wi.length:=⟨_,rfl⟩
   have x_0:W4.cell? ⟨w.heap.size,0,none⟩=some (.pointer (some ⟨γ,0,none⟩)):=HA.o.c0;have x10:W4.cell? ⟨γ,10,none⟩=some (.slice (b 3) N.wi.length (m 3)):=HR.o.box.cell 10;replace x10:W4.cell? ⟨γ,10,none⟩=some (.slice a3 nw c3):=by rw [ha3,hc3,hn3];exact x10
   have HA3:=Zaa ha3;have HC3:=Zaa hc3;have HN3:=Zaa hn3;rw [<- hn3] at hnw HE;clear ha3 hc3 hn3;go_wp2;clear x_0 x10
   go_loopw [88] (fun iv wq=>∃ (i:Nat) (b':Nat->Option Addr) (m':Nat->Nat) (S':Nat->Nat->Prop),iv=.int .i64 i/\i<=nw/\At KP lo w wq γ ρ 2 (Zbi N M i)/\Box wq (w.heap.size+1) #[.int .i64 M.kd,.int .i64 M.fr,.int .i64 M.tt,.int .i64 M.ba,.int .i64 M.ix,.int .i64 M.kn,.string M.tx,.slice a0 M.sl.length k0]/\Rz (KN KP w 2) lo wq γ b' m' S' (Zbi N M i)/\b' 3=a3/\m' 3=c3) (fun iv _=>nw - (intOf iv).toNat)
   case atStart=>exact⟨0,_,_,_,rfl,by omega,HA.o,MB.o,HR.o,HA3.o.symm,HC3.o.symm⟩
   case round=>
    obtain⟨i,b6,m6,S6,rfl,hi,ha,hmb,hr,e3,e4⟩:=hrel;clear HA HR MB HA3 HC3;have HA:=Zaa ha;have HR:=Zaa hr;have MB:=Zaa hmb;clear ha hr hmb
    by_cases hlt0:i < nw
    . have hlt:i < N.wi.length:=by have:=HN3.o;omega
      have i0:(0:Int)<=(i:Int):=by omega
      have i1:(i:Int) < (nw:Int):=by omega
      have d1:decide ((i:Int) < (nw:Int))=true:=by simp;omega
      have hwi:(Zbi N M i).wi=N.wi:=Zd2 N M i;have ho3:=HR.o.cp.o3;rw [hwi,e3,e4] at ho3
      rcases ho3 with ⟨-,hnil⟩ | ⟨g3,hSg3,g3',cap3,hv,hfr3⟩
      . rw [hnil] at hlt;simp at hlt
      injection hv with hv1 hv2 hv3
      subst hv1;clear hv2 hv3;obtain⟨tx,htx⟩:∃ x,x=N.wi[i]:=⟨_,rfl⟩
      rename World=>wq
      have z3:wq.cell? ⟨g3',i,none⟩=some (.string tx):=by rw [htx];have:=hfr3.get Zcb hlt (t:=0) (by omega) (v:=.string N.wi[i]) rfl;rwa [show i*1+0=i by omega] at this
      have x_1:wq.cell? ⟨w.heap.size,1,none⟩=some (.func (.func 115) #[] #[.pointer (some ⟨ρ,0,none⟩)]):=HA.o.c1;have y1:wq.cell? ⟨w.heap.size+1,1,none⟩=some (.int .i64 M.fr):=MB.o.cell 1;have HNX:Hd (Zbi N M (i+1)=Zav (Zbi N M i) (ZcJ M tx)):=by unfold Hd;rw [Zc5 hlt,htx]
      have HE3:=Zaa e3;have HE4:=Zaa e4;clear hfr3 htx hwi e3 e4;go_wp2_with fail;clear z3 x_1 y1 d1;refine (ZeF (KN KP w 2) lo _ γ ρ (Zbi N M i) b6 m6 S6 (ZcJ M tx) HR.o (Or.inl HA.o.kr) HA.o.rb rfl).mono ?_;rintro e wz ⟨rfl,hk,hrb,b7,m7,S7,hr,e3,e4⟩;have HAn:Hd (At KP lo w wz γ ρ 2 (Zbi N M (i+1))):=by unfold Hd;rw [HNX.o];exact HA.o.step hk ⟨_,_,_,hr⟩
      have MBn:Hd (Box wz (w.heap.size+1) #[.int .i64 M.kd,.int .i64 M.fr,.int .i64 M.tt,.int .i64 M.ba,.int .i64 M.ix,.int .i64 M.kn,.string M.tx,.slice a0 M.sl.length k0]):=MB.o.kept hk (Or.inr ⟨by omega,by omega⟩);have HRn:Hd (Rz (KN KP w 2) lo wz γ b7 m7 S7 (Zbi N M (i+1))):=by unfold Hd;rw [HNX.o];exact hr
      have HE5:=Zaa (e3.trans HE3.o);have HE6:=Zaa (e4.trans HE4.o);clear hk hrb hr HA HR MB HNX e3 e4 HE3 HE4;go_wp2;go_roundw
      . exact⟨i+1,b7,m7,S7,by go_num,by omega,HAn.o,MBn.o,HRn.o,HE5.o,HE6.o⟩
      . simp [intOf];omega
    . have d1:decide ((i:Int) < (nw:Int))=false:=by simp;omega
      obtain rfl:i=nw:=by omega
      go_wp2
      go_end0
      exact⟨rfl,by rw [HE.o];exact HA.o.fin⟩
  have d6:decide (V.dk.kn < M.kn)=true:=decide_eq_true h6;have HNU:Hd (ZbU V M=Zav V (ZfJ V M)):=by unfold Hd ZbU;rw [if_pos h6]
  go_quiet (fail)
  obtain⟨W4,hWn⟩:∃ wx_,wx_=wc.drewN nq:=⟨_,rfl⟩
  rw [<- hWn];have hb:Below wc.heap.size wc W4:=by rw [hWn];exact below_drewN Zb_ _
  clear hWn;replace HA:=Zaa (HA.o.on hb);replace HR:=Zaa (HR.o.on hb);replace MB:=Zaa (MB.o.on hb);clear hb
  go_upto_region 8 with fail
  clear x_0 x7 y1_5 d6 h6;have w64:IntKind.wrap .i64 (V.dk.kn+1)=V.dk.kn+1:=by rw [IntKind.wrap_i64];omega
  have x_0:W4.cell? ⟨w.heap.size,0,none⟩=some (.pointer (some ⟨γ,0,none⟩)):=HA.o.c0;have x_1:W4.cell? ⟨w.heap.size,1,none⟩=some (.func (.func 115) #[] #[.pointer (some ⟨ρ,0,none⟩)]):=HA.o.c1;have x7:W4.cell? ⟨γ,7,none⟩=some (.int .i64 V.dk.kn):=HR.o.box.cell 7;have y1_1:W4.cell? ⟨w.heap.size+1,1,none⟩=some (.int .i64 M.fr):=MB.o.cell 1;have y1_3:W4.cell? ⟨w.heap.size+1,3,none⟩=some (.int .i64 M.ba):=MB.o.cell 3;refine Code.wp_mono NoPanic.imp ?_;refine Zao (S:=fun W=>W.cell? ⟨w.heap.size,0,none⟩=some (.pointer (some ⟨γ,0,none⟩))/\W.cell? ⟨w.heap.size,1,none⟩=some (.func (.func 115) #[] #[.pointer (some ⟨ρ,0,none⟩)])/\W.cell? ⟨γ,7,none⟩=some (.int .i64 V.dk.kn)/\W.cell? ⟨w.heap.size+1,1,none⟩=some (.int .i64 M.fr)/\W.cell? ⟨w.heap.size+1,3,none⟩=some (.int .i64 M.ba)) [14] (by kernel_rfl) ⟨x_0,x_1,x7,y1_1,y1_3⟩ (fun hHeld=>?_)
  refine tB 0 (.pointer (some ⟨w.heap.size,1,none⟩)) [1,14] rfl hHeld ?_
  try simp only [Act.put,sLs]
  refine tB 1 (.func (.func 115) #[] #[.pointer (some ⟨ρ,0,none⟩)]) [14] rfl hHeld ?_
  try simp only [Act.put,sLs]
  refine tB 2 (.pointer (some ⟨w.heap.size+1,1,none⟩)) [3,13,14] rfl hHeld ?_
  try simp only [Act.put,sLs]
  refine tB 3 (.int .i64 M.fr) [13,14] rfl hHeld ?_
  try simp only [Act.put,sLs]
  refine tB 4 (.pointer (some ⟨w.heap.size+1,3,none⟩)) [5,13,14] rfl hHeld ?_
  try simp only [Act.put,sLs]
  refine tB 5 (.int .i64 M.ba) [13,14] rfl hHeld ?_
  try simp only [Act.put,sLs]
  refine tB 6 (.pointer (some ⟨w.heap.size,0,none⟩)) [7,8,9,10,11,12,13,14] rfl hHeld ?_
  try simp only [Act.put,sLs]
  refine tB 7 (.pointer (some ⟨γ,0,none⟩)) [8,9,10,11,12,13,14] rfl hHeld ?_
  try simp only [Act.put,sLs]
  refine tB 8 (.pointer (some ⟨γ,0,none⟩)) [9,10,11,12,13,14] rfl hHeld ?_
  try simp only [Act.put,sLs]
  refine tB 9 (.pointer (some ⟨γ,6,none⟩)) [10,11,12,13,14] rfl hHeld ?_
  try simp only [Act.put,sLs]
  refine tB 10 (.pointer (some ⟨γ,7,none⟩)) [11,12,13,14] rfl hHeld ?_
  try simp only [Act.put,sLs]
  refine tB 11 (.int .i64 V.dk.kn) [12,13,14] rfl hHeld ?_
  try simp only [Act.put,sLs]
  refine tB 12 (.int .i64 (V.dk.kn+1)) [13,14] rfl hHeld ?_
  try simp only [Act.put,sLs]
  refine tB 13 (.agg #[.int .i64 7,.int .i64 0,.int .i64 M.fr,.int .i64 M.ba,.int .i64 (V.dk.kn+1),.int .i64 0,.string ⟨#[]⟩,.slice none 0 0]) [14] rfl hHeld ?_
  try simp only [Act.put,sLs]
  refine oB 14 rfl (fun K hK=>?_)
  go_simp
  refine (ZcS (KN KP w 2) lo _ γ ρ V (ZfJ V M) (HA.o.wk.on Zb_.drew) rfl).mono ?_;rintro e WX ⟨rfl,hk,hz⟩;clear hHeld;refine hK.out _ _ (fun h=>absurd (by decide) h) (fun _=>?_);clear hK
  try simp only [Act.put,sLs]
  refine Zak (by kernel_rfl) ?_ _;refine NoPanic.normal ?_;have HAn:Hd (At KP lo w WX γ ρ 2 (ZbU V M)):=by unfold Hd;rw [HNU.o];exact (HA.o.on Zb_.drew).call hk hz
  replace MB:Hd (Box WX (w.heap.size+1) #[.int .i64 M.kd,.int .i64 M.fr,.int .i64 M.tt,.int .i64 M.ba,.int .i64 M.ix,.int .i64 M.kn,.string M.tx,.slice a0 M.sl.length k0]):=(MB.o.on Zb_.drew).kept hk (Or.inr ⟨by omega,by omega⟩);clear HA hk hz x_0 x_1 x7 y1_1 y1_3 w64 HR;have HA:=HAn;obtain⟨N,hN⟩:∃ N,N=ZbU V M:=⟨_,rfl⟩
  have hnw:N.wi.length<=1000:=by rw [hN,Zgg];omega
  rw [<- hN] at HE HA;clear hN HNU HAn;obtain⟨b,m,S,hR⟩:=HA.o.wz;have HR:=Zaa hR;clear hR
  go_upto_region 9 with fail
  obtain⟨a3,ha3⟩:∃ a3,a3=b 3:=⟨_,rfl⟩
  obtain⟨c3,hc3⟩:∃ c3,c3=m 3:=⟨_,rfl⟩
  obtain⟨nw,hn3⟩:∃ nw,nw=N.wi.length:=⟨_,rfl⟩
  have x_0:WX.cell? ⟨w.heap.size,0,none⟩=some (.pointer (some ⟨γ,0,none⟩)):=HA.o.c0;have x10:WX.cell? ⟨γ,10,none⟩=some (.slice (b 3) N.wi.length (m 3)):=HR.o.box.cell 10;replace x10:WX.cell? ⟨γ,10,none⟩=some (.slice a3 nw c3):=by rw [ha3,hc3,hn3];exact x10
  have HA3:=Zaa ha3;have HC3:=Zaa hc3;have HN3:=Zaa hn3;rw [<- hn3] at hnw HE;clear ha3 hc3 hn3;go_wp2;clear x_0 x10
  go_loopw [88] (fun iv wq=>∃ (i:Nat) (b':Nat->Option Addr) (m':Nat->Nat) (S':Nat->Nat->Prop),iv=.int .i64 i/\i<=nw/\At KP lo w wq γ ρ 2 (Zbi N M i)/\Box wq (w.heap.size+1) #[.int .i64 M.kd,.int .i64 M.fr,.int .i64 M.tt,.int .i64 M.ba,.int .i64 M.ix,.int .i64 M.kn,.string M.tx,.slice a0 M.sl.length k0]/\Rz (KN KP w 2) lo wq γ b' m' S' (Zbi N M i)/\b' 3=a3/\m' 3=c3) (fun iv _=>nw - (intOf iv).toNat)
  case atStart=>exact⟨0,_,_,_,rfl,by omega,HA.o,MB.o,HR.o,HA3.o.symm,HC3.o.symm⟩
  case round=>
   obtain⟨i,b6,m6,S6,rfl,hi,ha,hmb,hr,e3,e4⟩:=hrel;clear HA HR MB HA3 HC3;have HA:=Zaa ha;have HR:=Zaa hr;have MB:=Zaa hmb;clear ha hr hmb
   by_cases hlt0:i < nw
   . have hlt:i < N.wi.length:=by have:=HN3.o;omega
     have i0:(0:Int)<=(i:Int):=by omega
     have i1:(i:Int) < (nw:Int):=by omega
     have d1:decide ((i:Int) < (nw:Int))=true:=by simp;omega
     have hwi:(Zbi N M i).wi=N.wi:=Zd2 N M i;have ho3:=HR.o.cp.o3;rw [hwi,e3,e4] at ho3
     rcases ho3 with ⟨-,hnil⟩ | ⟨g3,hSg3,g3',cap3,hv,hfr3⟩
     . rw [hnil] at hlt;simp at hlt
     injection hv with hv1 hv2 hv3
     subst hv1;clear hv2 hv3;obtain⟨tx,htx⟩:∃ x,x=N.wi[i]:=⟨_,rfl⟩
     rename World=>wq
     have z3:wq.cell? ⟨g3',i,none⟩=some (.string tx):=by rw [htx];have:=hfr3.get Zcb hlt (t:=0) (by omega) (v:=.string N.wi[i]) rfl;rwa [show i*1+0=i by omega] at this
     have x_1:wq.cell? ⟨w.heap.size,1,none⟩=some (.func (.func 115) #[] #[.pointer (some ⟨ρ,0,none⟩)]):=HA.o.c1;have y1:wq.cell? ⟨w.heap.size+1,1,none⟩=some (.int .i64 M.fr):=MB.o.cell 1;have HNX:Hd (Zbi N M (i+1)=Zav (Zbi N M i) (ZcJ M tx)):=by unfold Hd;rw [Zc5 hlt,htx]
     have HE3:=Zaa e3;have HE4:=Zaa e4;clear hfr3 htx hwi e3 e4;go_wp2_with fail;clear z3 x_1 y1 d1;refine (ZeF (KN KP w 2) lo _ γ ρ (Zbi N M i) b6 m6 S6 (ZcJ M tx) HR.o (Or.inl HA.o.kr) HA.o.rb rfl).mono ?_;rintro e wz ⟨rfl,hk,hrb,b7,m7,S7,hr,e3,e4⟩;have HAn:Hd (At KP lo w wz γ ρ 2 (Zbi N M (i+1))):=by unfold Hd;rw [HNX.o];exact HA.o.step hk ⟨_,_,_,hr⟩
     have MBn:Hd (Box wz (w.heap.size+1) #[.int .i64 M.kd,.int .i64 M.fr,.int .i64 M.tt,.int .i64 M.ba,.int .i64 M.ix,.int .i64 M.kn,.string M.tx,.slice a0 M.sl.length k0]):=MB.o.kept hk (Or.inr ⟨by omega,by omega⟩);have HRn:Hd (Rz (KN KP w 2) lo wz γ b7 m7 S7 (Zbi N M (i+1))):=by unfold Hd;rw [HNX.o];exact hr
     have HE5:=Zaa (e3.trans HE3.o);have HE6:=Zaa (e4.trans HE4.o);clear hk hrb hr HA HR MB HNX e3 e4 HE3 HE4;go_wp2;go_roundw
     . exact⟨i+1,b7,m7,S7,by go_num,by omega,HAn.o,MBn.o,HRn.o,HE5.o,HE6.o⟩
     . simp [intOf];omega
   . have d1:decide ((i:Int) < (nw:Int))=false:=by simp;omega
     obtain rfl:i=nw:=by omega
     go_wp2
     go_end0
     exact⟨rfl,by rw [HE.o];exact HA.o.fin⟩
end Go.Proofs.YtkiefplmnoapfaaGreat
