import Derived.Test.YtdeammfdkaomlaaGreatM41
import Derived.Test.YtdeammfdkaomlaaGreatM45
import Derived.Test.YtdeammfdkaomlaaGreatM47
set_option maxHeartbeats 16000000
set_option maxRecDepth 100000
open Go.Proofs.Tryz
namespace Go.Proofs.YtdeammfdkaomlaaGreat
open Go.RowKit Go.Deep
theorem Zjx (KP:Nat->Prop) (lo:Nat) (w:World) (γ ρ:Nat) (U:Rr) (b:Nat->Option Addr) (m:Nat->Nat) (S:Nat->Nat->Prop) (ix:Nat) (x:Rs) (hR:Rz KP lo w γ b m S U) (h:Wk KP lo w γ ρ U) (h1:1<=ix) (h2:ix<=1000) (hl:U.dk.sl.length<=1000) :
 Calls prog 208 #[.agg (wkC γ ρ),.int .i64 (ix:Int),.agg #[.int .i64 x.ba,.string x.tx]] w fun e w'=>e=.returned (.tuple #[])/\Zag KP w w'/\Wk KP lo w' γ ρ (ZdA U ix x)/\∃ b' m' S',Rz KP lo w' γ b' m' S' (ZdA U ix x)/\b' 3=b 3/\m' 3=m 3:=by
 have HW:=Zaa h;have HR0:=Zaa hR;clear h hR
 show Calls prog 208 #[.agg #[.pointer (some ⟨γ,0,none⟩),.func (.func 177) #[] #[.pointer (some ⟨ρ,0,none⟩)]],.int .i64 (ix:Int),.agg #[.int .i64 x.ba,.string x.tx]] w _
 go_enter func208,ntmps208
 go_upto_region 1 with fail
 obtain⟨W0,hW0,HA,SB⟩:∃ W0,W0=((w.alloc (.cells #[.pointer (some ⟨γ,0,none⟩),.func (.func 177) #[] #[.pointer (some ⟨ρ,0,none⟩)]] 190)).alloc (.cells #[.int .i64 x.ba,.string x.tx] 171))/\Hd (At KP lo w W0 γ ρ 2 U)/\Hd (Box W0 (w.heap.size+1) #[.int .i64 x.ba,.string x.tx]):=
  ⟨_,rfl,HW.o.enter (bt (Zab _ _) (Zab _ _)) ((Box.new w _ _ _ rfl).on (Zab _ _)) (by simp) (by omega),(Box.new _ _ _ _ (by simp))⟩
 rw [<- hW0];have HR:Hd (Rz (KN KP w 2) lo W0 γ b m S U):=by unfold Hd;rw [hW0];exact HR0.o.shield (bt (Zab _ _) (Zab _ _)) (fun k hk=>hk.imp id (fun h=>⟨h.1,by simp;omega⟩))
 clear hW0 HR0
 go_loopw [] (fun wr=>∃ k:Nat,U.dk.sl.length+k<=max U.dk.sl.length ix/\At KP lo w wr γ ρ 2 (ZbL U k)/\Box wr (w.heap.size+1) #[.int .i64 x.ba,.string x.tx]/\∃ b' m' S',Rz (KN KP w 2) lo wr γ b' m' S' (ZbL U k)/\b' 3=b 3/\m' 3=m 3) (fun wr=>2000 - Zhj (wr.cell? ⟨γ,8,none⟩))
 case atStart=>exact⟨0,by omega,by have:=HA.o;simpa [ZbL] using this,SB.o,b,m,S,by have:=HR.o;simpa [ZbL] using this,rfl,rfl⟩
 case round=>
  obtain⟨k,hk,ha,hsb,b5,m5,S5,hR,hb53,hm53⟩:=hrel;have HB5:Hd (b5 3=b 3/\m5 3=m 3):=⟨hb53,hm53⟩;clear HA SB HR hb53 hm53;have HA:=Zaa ha;have SB:=Zaa hsb;clear ha hsb;have HR:=Zaa hR;clear hR;have hwsz:=HA.o.sz;have hpl:(ZbL U k).dk.sl.length=U.dk.sl.length+k:=by simp [ZbL]
  have x8:wr.cell? ⟨γ,8,none⟩=some (.slice (b5 1) (U.dk.sl.length+k) (m5 1)):=by rw [HR.o.box.cell 8,<- hpl];rfl
  have x_0:wr.cell? ⟨w.heap.size,0,none⟩=some (.pointer (some ⟨γ,0,none⟩)):=HA.o.c0
  by_cases hlt:U.dk.sl.length+k < ix
  . have d1:decide (((U.dk.sl.length+k:Nat):Int) < (ix:Int))=true:=by simp;omega
    have d1b:decide ((U.dk.sl.length:Int)+(k:Int) < (ix:Int))=true:=by simp;omega
    have HLA:Hd (Zhj (wr.cell? ⟨γ,8,none⟩)=U.dk.sl.length+k):=by unfold Hd;rw [x8];rfl
    go_upto_region 2 with fail
    clear d1 d1b;refine Code.wp_mono NoPanic.imp ?_;refine Zan (S:=fun W=>W.cell? ⟨w.heap.size,0,none⟩=some (.pointer (some ⟨γ,0,none⟩))/\W.cell? ⟨γ,8,none⟩=some (.slice (b5 1) (U.dk.sl.length+k) (m5 1))) [11,12,13,14] (by kernel_rfl) ⟨x_0,x8⟩ (fun hHeld=>?_);refine tB 0 (.pointer (some ⟨w.heap.size,0,none⟩)) [1,11,12,13,14] rfl hHeld ?_
    try simp only [Act.put,sLs]
    refine tB 1 (.pointer (some ⟨γ,0,none⟩)) [11,12,13,14] rfl hHeld ?_
    try simp only [Act.put,sLs]
    refine tB 2 (.pointer (some ⟨w.heap.size,0,none⟩)) [3,4,5,6,7,10,11,12,13,14] rfl hHeld ?_
    try simp only [Act.put,sLs]
    refine tB 3 (.pointer (some ⟨γ,0,none⟩)) [4,5,6,7,10,11,12,13,14] rfl hHeld ?_
    try simp only [Act.put,sLs]
    refine tB 4 (.pointer (some ⟨γ,0,none⟩)) [5,6,7,10,11,12,13,14] rfl hHeld ?_
    try simp only [Act.put,sLs]
    refine tB 5 (.pointer (some ⟨γ,6,none⟩)) [6,7,10,11,12,13,14] rfl hHeld ?_
    try simp only [Act.put,sLs]
    refine tB 6 (.pointer (some ⟨γ,8,none⟩)) [7,10,11,12,13,14] rfl hHeld ?_
    try simp only [Act.put,sLs]
    refine tB 7 (.slice (b5 1) (U.dk.sl.length+k) (m5 1)) [10,11,12,13,14] rfl hHeld ?_
    try simp only [Act.put,sLs]
    refine tB 8 (.agg #[.int .i64 0,.string ⟨#[]⟩]) [9,10,11,12,13,14] rfl hHeld ?_
    try simp only [Act.put,sLs]
    refine oB 9 rfl (fun K hK=>?_)
    go_simp
    obtain⟨w2,hw2⟩:∃ w2,w2=(wr.alloc (.cells #[.int .i64 0,.string ⟨#[]⟩] 171)).drew:=⟨_,rfl⟩
    have hb:Below wr.heap.size wr w2:=by rw [hw2];exact (Zab wr _).drew
    have SQ:Hd (Box w2 wr.heap.size #[.int .i64 0,.string ⟨#[]⟩]):=by unfold Hd;rw [hw2];exact (Box.new wr _ _ _ rfl).drew
    rw [<- hw2];clear hw2;have hs2:=hb.size;replace HA:=Zaa (HA.o.on hb);replace HR:=Zaa (HR.o.on hb);replace SB:=Zaa (SB.o.on hb);clear hb hHeld x8 x_0;have x8:w2.cell? ⟨γ,8,none⟩=some (.slice (b5 1) (U.dk.sl.length+k) (m5 1)):=by rw [HR.o.box.cell 8,<- hpl];rfl
    refine hK.out _ _ (fun _=>⟨HA.o.c0,x8⟩) (fun hHx=>?_);have hHeld:=hHx (by decide);clear hK hHx K
    try simp only [Act.put,sLs]
    have ho1:NRS rsL 2 w2 (S5 1) (.slice (b5 1) (U.dk.sl.length+k) (m5 1)) (ZbL U k).dk.sl:=by have:=HR.o.cp.o1;rwa [hpl] at this
    obtain⟨v',w3,hrun,ht,hrow⟩:=ZaK ZaC (by decide) underlying56 Zed rfl (M:=[zS]) 56 ho1 (some ⟨wr.heap.size,0,none⟩) 1 1 rfl (fun e=>by cases e) (fun ad e j u hu=>by
     injection e with e
     subst e;rw [Addr.add_lit,Nat.zero_add,SQ.o.cell j]
     simpa [Zai,rsL,zS] using hu) (Zdz _) (by rw [hpl];simp;omega) (by decide)
    have hpad:(ZbL U k).dk.sl ++ [zS]=(ZbL U (k+1)).dk.sl:=by simp [ZbL,List.replicate_succ']
    rw [hpad] at hrow;obtain⟨a',m',hv'⟩:=hrow.form;have hpl2:(ZbL U (k+1)).dk.sl.length=U.dk.sl.length+k+1:=by simp [ZbL];omega
    rw [hpl2] at hv';subst hv';have HP:=Zaa (HR.o.part1 (L':=(ZbL U (k+1)).dk.sl) (a':=a') (m':=m') ht (by rw [hpl2];exact hrow));have hkp:Zag (fun k=>k < w2.heap.size/\¬ S5 1 k) w2 w3:=Zag.touchS ht fun _ h=>h
    have BG:=Zaa (HR.o.box.kept hkp ⟨HR.o.box.lt,HR.o.far 1 (by decide)⟩);have BX3:=Zaa (HA.o.bx.kept hkp ⟨HA.o.bx.lt,(HR.o.prot _ (Or.inr ⟨by omega,by omega⟩)).2.2 1 (by decide)⟩);have z8:w3.cell? ⟨γ,8,none⟩=some (.slice (b5 1) (U.dk.sl.length+k) (m5 1)):=by rw [BG.o.cell 8,<- hpl];rfl
    have z_0:w3.cell? ⟨w.heap.size,0,none⟩=some (.pointer (some ⟨γ,0,none⟩)):=BX3.o.cell 0;have hs3:=ht.size;clear ho1 hrow ht hkp hpad SQ;refine oB 10 rfl (fun K hK=>?_);refine Zae rfl (.tmp 22) (.tmp 24) 56 rfl rfl rfl hrun ?_;clear hrun hHeld;refine hK.out _ _ (fun _=>⟨z_0,z8⟩) (fun _=>?_);clear hK K;have gf:=BG.o.free
    try simp only [Act.put,sLs]
    refine oB 11 rfl (fun K hK=>?_)
    go_simp
    refine hK.out _ _ (fun h=>absurd (by decide) h) (fun _=>?_);clear hK K
    try simp only [Act.put,sLs]
    refine oB 12 rfl (fun K hK=>?_)
    go_simp
    refine hK.out _ _ (fun h=>absurd (by decide) h) (fun _=>?_);clear hK K
    try simp only [Act.put,sLs]
    refine oB 13 rfl (fun K hK=>?_)
    go_simp
    refine hK.out _ _ (fun h=>absurd (by decide) h) (fun _=>?_);clear hK K
    try simp only [Act.put,sLs]
    refine oB 14 rfl (fun K hK=>?_)
    go_simp
    refine hK.out _ _ (fun h=>absurd (by decide) h) (fun _=>?_);clear hK K
    try simp only [Act.put,sLs]
    refine Zak (by kernel_rfl) ?_ _;refine NoPanic.normal ?_;have hpp:=HP.o;rw [hpl2] at hpp;obtain⟨w4,hw4⟩:∃ w4,w4=w3.setCell ⟨γ,8,none⟩ (.slice a' (U.dk.sl.length+k+1) m'):=⟨_,rfl⟩
    rw [<- hw4] at hpp |-;have h8:w4.cell? ⟨γ,8,none⟩=some (.slice a' (U.dk.sl.length+k+1) m'):=by rw [hw4];exact World.cell?_setCell_same' _ _ _ (by rw [z8];rfl)
    clear z8 z_0 gf;go_wp2;refine⟨⟨k+1,by omega,HA.o.step hpp.2 ⟨_,_,_,hpp.1⟩,SB.o.kept hpp.2 (Or.inr ⟨by omega,by omega⟩),_,_,_,hpp.1,HB5.o.1,HB5.o.2⟩,?_⟩;rw [h8,HLA.o]
    show 2000 - (U.dk.sl.length+k+1) < _
    omega
  . have d1:decide (((U.dk.sl.length+k:Nat):Int) < (ix:Int))=false:=by simp;omega
    have d1b:decide ((U.dk.sl.length:Int)+(k:Int) < (ix:Int))=false:=by simp;omega
    have hkk:k=ix - U.dk.sl.length:=by omega
    subst hkk;have HE:Hd (ZdA U ix x={ ZbL U (ix - U.dk.sl.length) with dk:={ (ZbL U (ix - U.dk.sl.length)).dk with sl:=(ZbL U (ix - U.dk.sl.length)).dk.sl.set (ix - 1) x } }):=rfl
    go_upto_region 3 with fail
    clear d1 d1b;obtain⟨n9,hn9⟩:∃ n,n=U.dk.sl.length+(ix - U.dk.sl.length):=⟨_,rfl⟩
    rw [<- hn9] at x8 hpl;have hix:ix - 1 < n9:=by omega
    have ho1:=HR.o.cp.o1
    rcases ho1 with ⟨-,hnil⟩ | ⟨g,hSg,g',cap,hv,hfr⟩
    . rw [hnil] at hpl;simp at hpl;omega
    obtain rfl:g'=g:=by have:=hfr.bs;have:=hfr.up;omega
    rw [hpl] at hv;injection hv with hv1 hv2 hv3
    have HV1:=Zaa hv1;have HV3:=Zaa hv3;have HFR:=Zaa hfr;rw [hv1] at x8;have hgw:g' < wr.heap.size:=hfr.lt
    have hcl:n9<=cap:=by rw [<- hpl];exact hfr.le
    obtain⟨o0,ho0⟩:=Option.isSome_iff_exists.1 (hfr.th ((ix - 1)*2) (by omega));obtain⟨o1,ho1⟩:=Option.isSome_iff_exists.1 (hfr.th ((ix - 1)*2+1) (by omega));have fz:=hfr.fz;have s0:wr.cell? ⟨w.heap.size+1,0,none⟩=some (.int .i64 x.ba):=SB.o.cell 0;have s1:wr.cell? ⟨w.heap.size+1,1,none⟩=some (.string x.tx):=SB.o.cell 1;obtain⟨q,hq⟩:∃ q:Nat,q=ix - 1:=⟨_,rfl⟩
    rw [<- hq] at ho0 ho1 hix;have hsub:(ix:Int) - 1=(q:Int):=by omega
    have i0:(0:Int)<=(q:Int):=by omega
    have i1:(q:Int) < (n9:Int):=by omega
    have w64:IntKind.wrap .i64 ((ix:Int) - 1)=(q:Int):=by rw [IntKind.wrap_i64];omega
    have HQ:=Zaa hq;have HN9:=Zaa hn9;have HPL:=Zaa hpl;clear hfr hv1 hv3 hv2 hq hn9 hpl hk;have hlp:q < (ZbL U (ix - U.dk.sl.length)).dk.sl.length:=by rw [HPL.o];exact hix
    go_region
    clear x8 ho0 ho1 fz s0 s1 w64 hsub x_0;obtain⟨w4,hw4⟩:∃ w4,w4=(wr.setCell ⟨g',q*2,none⟩ (.int .i64 x.ba)).setCell ⟨g',q*2+1,none⟩ (.string x.tx):=⟨_,rfl⟩
    rw [<- hw4];have hw5:w4=wr.setCells g' (q*2) (rsL x):=hw4;have ht:Zad g' (g'+1) wr w4:=by rw [hw5];exact Zad.sets ⟨Nat.le_refl _,Nat.lt_succ_self _⟩ _ _ _
    have hts:Zaj (S5 1) wr w4:=ht.toS (ZcX hSg);have hL:((ZbL U (ix - U.dk.sl.length)).dk.sl.set q x).length=(ZbL U (ix - U.dk.sl.length)).dk.sl.length:=List.length_set;have hp:=HR.o.keep1 (L':=(ZbL U (ix - U.dk.sl.length)).dk.sl.set q x) hts hL (Or.inr ⟨g',hSg,g',cap,by rw [HV1.o,HV3.o],by rw [hw5];exact HFR.o.setAt ZaC hlp x⟩);have ha4:=(HA.o.step hp.2 ⟨_,_,_,hp.1⟩).on Zb_.drew;have hr4:=hp.1.on Zb_.drew;rw [HQ.o,<- HE.o] at ha4 hr4;have HR4:=Zaa hr4;clear hr4;clear HA;have HA:=Zaa ha4;clear ha4 hp hL hts ht hw5 hw4;go_wp2
    go_end0
    exact⟨rfl,HA.o.fin.1,HA.o.fin.2,b5,m5,⟨_,HR4.o.shield Zb_ (fun k hk=>Or.inl (Or.inl hk))⟩,HB5.o.1,HB5.o.2⟩
structure Bws (K:Nat->Prop) (lo:Nat) (w wr:World) (γ ρ:Nat) (a0:Option Addr) (c0:Nat) (V:Rr):Prop where
 kp:Zag K w wr
 wk:Wk K lo wr γ ρ V
 rz:∃ b m S,Rz K lo wr γ b m S V/\b 3=a0/\m 3=c0
theorem Bws.on {K:Nat->Prop}{lo:Nat}{w wr w3:World}{γ ρ:Nat}{a0:Option Addr}{c0:Nat}{V:Rr} (h:Bws K lo w wr γ ρ a0 c0 V) (hb:Below wr.heap.size wr w3):Bws K lo w w3 γ ρ a0 c0 V:=by
 obtain⟨b,m,S,h1,h2⟩:=h.rz;exact⟨h.kp.trans (h.wk.keep hb),h.wk.on hb,b,m,S,h1.on hb,h2⟩
theorem ZgZ (K:Nat->Prop) (lo:Nat) (w:World) (γ ρ τ:Nat) (U:Rr) (sv:Value) (h:Wk K lo w γ ρ U) (tb:Box w τ (tkC γ ρ sv)) (hK:K τ) (hz1:∀ x ∈ U.dk.sl,ZaJ x) (hz3:∀ x ∈ U.wi,x.size<=maxLen) (hl:U.dk.sl.length<=120) (hs:U.wi.length<=1000) (hq:∀ x ∈ U.dk.sl,0 < x.ba\/x.tx.toList=[]) (hb0:0 < U.ba) (hw0:∀ t ∈ U.wi,t.toList≠[]) :
 Calls prog 195 #[.pointer (some ⟨τ,0,none⟩)] w fun e w'=>e=.returned (.tuple #[])/\Zag K w w'/\Wk K lo w' γ ρ (ZeQ U U.wi.length):=by
 have HTB:=Zaa tb;have HZ1:=Zaa hz1;have HZ3:=Zaa hz3;have HQ:=Zaa hq;have HW0:=Zaa hw0;have HB0:=Zaa hb0;obtain⟨b,m,S,hR⟩:=h.wz;obtain⟨a0,ha0⟩:∃ a,a=b 3:=⟨_,rfl⟩
 obtain⟨c0,hc0⟩:∃ c,c=m 3:=⟨_,rfl⟩
 have HT:Hd (Bws K lo w w γ ρ a0 c0 U):=⟨Zag.refl _ _,h,b,m,S,hR,ha0.symm,hc0.symm⟩;have xt0:w.cell? ⟨τ,0,none⟩=some (.pointer (some ⟨γ,0,none⟩)):=tb.cell 0;have x10:w.cell? ⟨γ,10,none⟩=some (.slice a0 U.wi.length c0):=by rw [ha0,hc0];exact hR.box.cell 10
 obtain⟨nn,hnn⟩:∃ nn,nn=U.wi.length:=⟨_,rfl⟩
 rw [<- hnn] at x10 hs |-;have HNN:=Zaa hnn;clear tb hR h ha0 hc0 hnn hz1 hz3 hq hw0 hb0;go_enter func195,ntmps195;go_wp2_with fail;clear xt0 x10
 go_loopw [13] (fun q wr=>∃ k:Nat,q=.int .i64 k/\k<=nn/\Bws K lo w wr γ ρ a0 c0 (ZeQ U k)) (fun q _=>nn - (intOf q).toNat)
 case atStart=>exact⟨0,rfl,Nat.zero_le _,HT.o⟩
 case round=>
  clear HT;obtain⟨k,rfl,hk,hS⟩:=hrel;have HS:=Zaa hS;clear hS;obtain⟨V,hV⟩:∃ V,V=ZeQ U k:=⟨_,rfl⟩
  have HV:=Zaa hV;rw [<- hV] at HS;obtain⟨TT,hVE,hT1,hT2⟩:=Zcb hl k (by rw [<- HNN.o];exact hk);rw [<- hV] at hVE;have HBA:Hd (V.ba=U.ba):=by unfold Hd;rw [hVE]
  have HWI:Hd (V.wi=U.wi):=by unfold Hd;rw [hVE]
  have HSL:Hd (V.dk.sl=U.dk.sl ++ TT):=by unfold Hd;rw [hVE]
  have hVL:V.dk.sl.length<=120:=by rw [HSL.o];exact hT1
  have HVQ:Hd (∀ x ∈ V.dk.sl,0 < x.ba\/x.tx.toList=[]):=fun x hx=>by
   rw [HSL.o] at hx
   rcases List.mem_append.1 hx with hx | hx
   . exact HQ.o x hx
   . exact Or.inl (by rw [(hT2 x hx).1];exact HB0.o)
  have HVZ:Hd (∀ i (hi:i < V.dk.sl.length),ZaJ V.dk.sl[i]):=fun i hi=>by
   have hx:V.dk.sl[i] ∈ U.dk.sl ++ TT:=by rw [<- HSL.o];exact List.getElem_mem _
   rcases List.mem_append.1 hx with hx | hx
   . exact HZ1.o _ hx
   . exact⟨HZ3.o _ (hT2 _ hx).2⟩
  clear hVE hV hT1 hT2
  by_cases hlt:k < nn
  . have d1:decide ((k:Int) < (nn:Int))=true:=decide_eq_true (by omega)
    obtain⟨b,m,S,hR,hb0,hm0⟩:=HS.o.rz;have hltV:k < V.wi.length:=by rw [HWI.o,<- HNN.o];exact hlt
    obtain⟨x,hx'⟩:∃ x,x=V.wi[k]:=⟨_,rfl⟩
    obtain⟨g,ha,hf⟩:∃ g,a0=some ⟨g,0,none⟩/\FR tyL 1 wr g (g+1) g c0 V.wi:=by
     rcases hR.cp.o3 with ⟨_,hnil⟩ | ⟨g,_,g',cap,e1,e2⟩
     . rw [hnil] at hltV;simp at hltV
     . injection e1 with e3 e4 e5
       refine⟨g',by rw [<- hb0];exact e3,?_⟩;rw [<- hm0,e5];exact e2.own'
    have z0:wr.cell? ⟨g,k,none⟩=some (.string x):=by
     have:=hf.get ZbN hltV (t:=0) (by omega) (v:=.string V.wi[k]) rfl;rw [hx']
     simpa using this
    have HXM:Hd (x.toList≠[]):=by unfold Hd;rw [hx'];exact HW0.o _ (by rw [<- HWI.o];exact List.getElem_mem _)
    have HNX:Hd (ZeQ U (k+1)=if (!Zhw V.dk.sl x&&decide (V.dk.sl.length < 120))=true then ZdA V (V.dk.sl.length+1) ⟨V.ba,x⟩ else V):=by
     unfold Hd;rw [Zer U (by rw [<- HNN.o];exact hlt),<- HV.o];unfold wsh1;have hex:U.wi[k]'(by rw [<- HNN.o];exact hlt)=x:=by rw [hx'];exact List.getElem_of_eq HWI.o.symm _
     rw [hex,ZhX HVQ.o HXM.o]
    have HHA:=Zaa ha;subst ha;clear hR hf hx' hb0 hm0 hltV HHA;have xt0:wr.cell? ⟨τ,0,none⟩=some (.pointer (some ⟨γ,0,none⟩)):=(HTB.o.kept HS.o.kp hK).cell 0
    obtain⟨b1,m1,x8,HRS⟩:∃ b1 m1,wr.cell? ⟨γ,8,none⟩=some (.slice b1 V.dk.sl.length m1)/\Hd (Zat 0 wr (.slice b1 V.dk.sl.length m1) V.dk.sl):=by
     obtain⟨b,m,S,hR,-,-⟩:=HS.o.rz;exact⟨b 1,m 1,hR.box.cell 8,(hR.cp.o1.rss HVZ.o).at (fun k _=>Nat.zero_le _)⟩
    by_cases he:V.dk.sl.length < 120
    . have d2:decide ((V.dk.sl.length:Int) < 120)=true:=decide_eq_true (by omega)
      have d3:decide (V.dk.sl.length < 120)=true:=decide_eq_true he;rw [d3] at HNX;clear d3
      cases qt:Zhw V.dk.sl x with
      | true=>
       rw [qt] at HNX;go_wp2_with (go_at_call 202;refine (ZcU 0 _ V.dk.sl x _ HRS.o).mono ?_;rw [qt];rintro e w3 ⟨rfl,hb⟩;have HS3:=Zaa (HS.o.on hb);clear hb);go_roundw
       . exact⟨k+1,by go_num,by omega,by rw [HNX.o];exact HS3.o⟩
       . simp [intOf];omega
      | false=>
       rw [qt] at HNX
       go_upto_region 4 with (go_at_call 202;refine (ZcU 0 _ V.dk.sl x _ HRS.o).mono ?_;rw [qt];rintro e w3 ⟨rfl,hb⟩;have HS3:=Zaa (HS.o.on hb);clear hb)
       clear xt0 x8 HRS z0;have xt0:w3.cell? ⟨τ,0,none⟩=some (.pointer (some ⟨γ,0,none⟩)):=(HTB.o.kept HS3.o.kp hK).cell 0;have xt1:w3.cell? ⟨τ,1,none⟩=some (.func (.func 177) #[] #[.pointer (some ⟨ρ,0,none⟩)]):=(HTB.o.kept HS3.o.kp hK).cell 1;have x13:w3.cell? ⟨γ,13,none⟩=some (.int .i64 V.ba):=by obtain⟨b,m,S,hR,-,-⟩:=HS3.o.rz;exact hR.box.cell 13
       obtain⟨b1,m1,x8⟩:∃ b1 m1,w3.cell? ⟨γ,8,none⟩=some (.slice b1 V.dk.sl.length m1):=by
        obtain⟨b,m,S,hR,-,-⟩:=HS3.o.rz;exact⟨b 1,m 1,hR.box.cell 8⟩
       have hwk:IntKind.wrap .i64 ((V.dk.sl.length:Int)+1)=((V.dk.sl.length+1:Nat):Int):=by rw [IntKind.wrap_i64];omega
       refine Code.wp_mono NoPanic.imp ?_;refine Zan (S:=fun W=>W.cell? ⟨τ,0,none⟩=some (.pointer (some ⟨γ,0,none⟩))/\W.cell? ⟨τ,1,none⟩=some (.func (.func 177) #[] #[.pointer (some ⟨ρ,0,none⟩)])/\W.cell? ⟨γ,8,none⟩=some (.slice b1 V.dk.sl.length m1)/\W.cell? ⟨γ,13,none⟩=some (.int .i64 V.ba)) [25] (by kernel_rfl) ⟨xt0,xt1,x8,x13⟩ (fun hHeld=>?_);refine tB 0 (.pointer (some ⟨τ,0,none⟩)) [1,2,3,25] rfl hHeld ?_
       try simp only [Act.put,sLs]
       refine tB 1 (.pointer (some ⟨τ,0,none⟩)) [2,3,25] rfl hHeld ?_
       try simp only [Act.put,sLs]
       refine tB 2 (.pointer (some ⟨τ,0,none⟩)) [3,25] rfl hHeld ?_
       try simp only [Act.put,sLs]
       refine tB 3 (.agg #[.pointer (some ⟨γ,0,none⟩),.func (.func 177) #[] #[.pointer (some ⟨ρ,0,none⟩)]]) [25] rfl hHeld ?_
       try simp only [Act.put,sLs]
       refine tB 4 (.pointer (some ⟨τ,0,none⟩)) [5,6,7,8,9,10,11,12,13,14,25] rfl hHeld ?_
       try simp only [Act.put,sLs]
       refine tB 5 (.pointer (some ⟨τ,0,none⟩)) [6,7,8,9,10,11,12,13,14,25] rfl hHeld ?_
       try simp only [Act.put,sLs]
       refine tB 6 (.pointer (some ⟨τ,0,none⟩)) [7,8,9,10,11,12,13,14,25] rfl hHeld ?_
       try simp only [Act.put,sLs]
       refine tB 7 (.pointer (some ⟨τ,0,none⟩)) [8,9,10,11,12,13,14,25] rfl hHeld ?_
       try simp only [Act.put,sLs]
       refine tB 8 (.pointer (some ⟨γ,0,none⟩)) [9,10,11,12,13,14,25] rfl hHeld ?_
       try simp only [Act.put,sLs]
       refine tB 9 (.pointer (some ⟨γ,0,none⟩)) [10,11,12,13,14,25] rfl hHeld ?_
       try simp only [Act.put,sLs]
       refine tB 10 (.pointer (some ⟨γ,6,none⟩)) [11,12,13,14,25] rfl hHeld ?_
       try simp only [Act.put,sLs]
       refine tB 11 (.pointer (some ⟨γ,8,none⟩)) [12,13,14,25] rfl hHeld ?_
       try simp only [Act.put,sLs]
       refine tB 12 (.slice b1 V.dk.sl.length m1) [13,14,25] rfl hHeld ?_
       try simp only [Act.put,sLs]
       refine tB 13 (.int .i64 (V.dk.sl.length:Int)) [14,25] rfl hHeld ?_
       try simp only [Act.put,sLs]
       refine tB 14 (.int .i64 ((V.dk.sl.length+1:Nat):Int)) [25] rfl hHeld ?_
       try simp only [Act.put,sLs]
       refine tB 15 (.pointer (some ⟨τ,0,none⟩)) [16,17,18,19,20,21,22,24,25] rfl hHeld ?_
       try simp only [Act.put,sLs]
       refine tB 16 (.pointer (some ⟨τ,0,none⟩)) [17,18,19,20,21,22,24,25] rfl hHeld ?_
       try simp only [Act.put,sLs]
       refine tB 17 (.pointer (some ⟨τ,0,none⟩)) [18,19,20,21,22,24,25] rfl hHeld ?_
       try simp only [Act.put,sLs]
       refine tB 18 (.pointer (some ⟨τ,0,none⟩)) [19,20,21,22,24,25] rfl hHeld ?_
       try simp only [Act.put,sLs]
       refine tB 19 (.pointer (some ⟨γ,0,none⟩)) [20,21,22,24,25] rfl hHeld ?_
       try simp only [Act.put,sLs]
       refine tB 20 (.pointer (some ⟨γ,0,none⟩)) [21,22,24,25] rfl hHeld ?_
       try simp only [Act.put,sLs]
       refine tB 21 (.pointer (some ⟨γ,13,none⟩)) [22,24,25] rfl hHeld ?_
       try simp only [Act.put,sLs]
       refine tB 22 (.int .i64 V.ba) [24,25] rfl hHeld ?_
       try simp only [Act.put,sLs]
       refine tB 23 (.string x) [24,25] rfl hHeld ?_
       try simp only [Act.put,sLs]
       refine tB 24 (.agg #[.int .i64 V.ba,.string x]) [25] rfl hHeld ?_
       try simp only [Act.put,sLs]
       refine ZdH (i:=25) (by kernel_rfl) rfl (fun KC hK'=>?_)
       go_simp
       obtain⟨b3,m3,S3,hR3,hb3,hm3⟩:=(HS3.o.on Zb_.drew).rz;refine (Zjx K lo _ γ ρ V b3 m3 S3 (V.dk.sl.length+1) ⟨V.ba,x⟩ hR3 (HS3.o.on Zb_.drew).wk (by omega) (by omega) (by omega)).mono ?_;rintro e w8 ⟨rfl,hk8,hw8,b8,m8,S8,hR8,hb8,hm8⟩;have HS8:Hd (Bws K lo w w8 γ ρ (some ⟨g,0,none⟩) c0 (ZdA V (V.dk.sl.length+1) ⟨V.ba,x⟩)):=⟨(HS3.o.on Zb_.drew).kp.trans hk8,hw8,b8,m8,S8,hR8,hb8.trans hb3,hm8.trans hm3⟩;clear hk8 hw8 hR8 hb8 hm8 hR3 hb3 hm3 hHeld xt0 xt1 x8 x13 HS3;refine hK'.out _ _ (fun h=>absurd (by decide) h) (fun _=>?_);clear hK'
       try simp only [Act.put,sLs]
       refine Zak (by kernel_rfl) ?_ _;refine NoPanic.normal ?_;go_wp2;go_roundw
       . exact⟨k+1,by go_num,by omega,by rw [HNX.o];exact HS8.o⟩
       . simp [intOf];omega
    . have d2:decide ((V.dk.sl.length:Int) < 120)=false:=decide_eq_false (by omega)
      have d3:decide (V.dk.sl.length < 120)=false:=decide_eq_false he;rw [d3,Bool.and_false] at HNX;clear d3;go_wp2_with fail;go_roundw
      . exact⟨k+1,by go_num,by omega,by rw [HNX.o];exact HS.o⟩
      . simp [intOf];omega
  . have d1:decide ((k:Int) < (nn:Int))=false:=decide_eq_false (by omega)
    have hkn:k=nn:=by omega
    have HE:Hd (V=ZeQ U nn):=by unfold Hd;rw [HV.o,hkn]
    clear hkn;go_wp2
    go_end0
    exact⟨rfl,HS.o.kp,by rw [<- HE.o];exact HS.o.wk⟩
structure Tks (K:Nat->Prop) (lo:Nat) (w wr:World) (γ ρ:Nat) (a0:Option Addr) (c0:Nat) (V:Rr):Prop where
 kp:Zag K w wr
 wk:Wk K lo wr γ ρ V
 rz:∃ b m S,Rz K lo wr γ b m S V/\b 0=a0/\m 0=c0
theorem Tks.on {K:Nat->Prop}{lo:Nat}{w wr w3:World}{γ ρ:Nat}{a0:Option Addr}{c0:Nat}{V:Rr} (h:Tks K lo w wr γ ρ a0 c0 V) (hb:Below wr.heap.size wr w3):Tks K lo w w3 γ ρ a0 c0 V:=by
 obtain⟨b,m,S,h1,h2⟩:=h.rz;exact⟨h.kp.trans (h.wk.keep hb),h.wk.on hb,b,m,S,h1.on hb,h2⟩
theorem ZiT (K:Nat->Prop) (lo:Nat) (w:World) (γ ρ τ:Nat) (U:Rr) (sv:Value) (h:Wk K lo w γ ρ U) (tb:Box w τ (tkC γ ρ sv)) (hK:K τ) (ok:Zc3 800 U) (hl:U.dk.sl.length<=1000) (hs:U.sf.sl.length<=200) :
 Calls prog 194 #[.pointer (some ⟨τ,0,none⟩)] w fun e w'=>e=.returned (.tuple #[])/\Zag K w w'/\Wk K lo w' γ ρ (ZbW U U.sf.sl.length):=by
 have HTB:=Zaa tb;have HOK:=Zaa ok;obtain⟨b,m,S,hR⟩:=h.wz;obtain⟨a0,ha0⟩:∃ a,a=b 0:=⟨_,rfl⟩
 obtain⟨c0,hc0⟩:∃ c,c=m 0:=⟨_,rfl⟩
 have HT:Hd (Tks K lo w w γ ρ a0 c0 U):=⟨Zag.refl _ _,h,b,m,S,hR,ha0.symm,hc0.symm⟩;have xt0:w.cell? ⟨τ,0,none⟩=some (.pointer (some ⟨γ,0,none⟩)):=tb.cell 0;have x5:w.cell? ⟨γ,5,none⟩=some (.slice a0 U.sf.sl.length c0):=by rw [ha0,hc0];exact hR.box.cell 5
 obtain⟨nn,hnn⟩:∃ nn,nn=U.sf.sl.length:=⟨_,rfl⟩
 rw [<- hnn] at x5 hs |-;have HNN:=Zaa hnn;clear tb ok hR h ha0 hc0 hnn;go_enter func194,ntmps194;go_wp2_with fail;clear xt0 x5
 go_loopw [14] (fun q wr=>∃ k:Nat,q=.int .i64 k/\k<=nn/\Tks K lo w wr γ ρ a0 c0 (ZbW U k)) (fun q _=>nn - (intOf q).toNat)
 case atStart=>exact⟨0,rfl,Nat.zero_le _,HT.o⟩
 case round=>
  clear HT;obtain⟨k,rfl,hk,hS⟩:=hrel;have HS:=Zaa hS;clear hS;obtain⟨V,hV⟩:∃ V,V=ZbW U k:=⟨_,rfl⟩
  have HV:=Zaa hV;rw [<- hV] at HS;obtain⟨okV,kn,AC,hVE⟩:=ZbK HOK.o k (by omega);rw [<- hV] at okV hVE;have HOV:=Zaa okV;have hsf:V.sf=U.sf:=by rw [hVE]
  have hsl:V.dk.sl=U.dk.sl:=by rw [hVE]
  have HLV:Hd (V.dk.sl.length<=1000):=by unfold Hd;rw [hsl];exact hl
  have HSF:=Zaa hsf;clear okV hVE hV hsl hsf
  by_cases hlt:k < nn
  . have d1:decide ((k:Int) < (nn:Int))=true:=decide_eq_true (by omega)
    obtain⟨b,m,S,hR,hb0,hm0⟩:=HS.o.rz;have hltV:k < V.sf.sl.length:=by rw [HSF.o,<- HNN.o];exact hlt
    obtain⟨s,hs'⟩:∃ s,s=V.sf.sl[k]:=⟨_,rfl⟩
    obtain⟨g,ha,hf⟩:∃ g,a0=some ⟨g,0,none⟩/\FR rsL 2 wr g (g+1) g c0 V.sf.sl:=by
     rcases hR.cp.o0 with ⟨_,hnil⟩ | ⟨g,_,g',cap,e1,e2⟩
     . rw [hnil] at hltV;simp at hltV
     . injection e1 with e3 e4 e5
       refine⟨g',by rw [<- hb0];exact e3,?_⟩;rw [<- hm0,e5];exact e2.own'
    have z0:wr.cell? ⟨g,k*2,none⟩=some (.int .i64 s.ba):=by
     have:=hf.get ZaC hltV (t:=0) (by omega) (v:=.int .i64 V.sf.sl[k].ba) rfl;rw [hs']
     simpa using this
    have z1:wr.cell? ⟨g,k*2+1,none⟩=some (.string s.tx):=by
     have:=hf.get ZaC hltV (t:=1) (by omega) (v:=.string V.sf.sl[k].tx) rfl;rw [hs']
     simpa using this
    have HNX:Hd (ZbW U (k+1)=if s.ba=V.ba then ZcR V ((k:Int)+1) V.nu else V):=by
     unfold Hd;rw [ZcG,<- HV.o];unfold ack1;rw [<- HSF.o,List.getElem?_eq_getElem hltV,<- hs']
    have HHA:=Zaa ha;subst ha;clear hR hf hs' hb0 hm0 hltV HHA
    go_upto_region 3 with fail
    obtain⟨w2,hw2⟩:∃ w2,w2=(wr.alloc (.cells #[.int .i64 s.ba,.string s.tx] 171)):=⟨_,rfl⟩
    have hb2:Below wr.heap.size wr w2:=by rw [hw2];exact Zab _ _
    have FB:Hd (Box w2 wr.heap.size #[.int .i64 s.ba,.string s.tx]):=by unfold Hd;rw [hw2];exact Box.new _ _ _ _ rfl
    rw [<- hw2];replace HS:=Zaa (HS.o.on hb2);clear hw2 hb2 z0 z1;have xt0:w2.cell? ⟨τ,0,none⟩=some (.pointer (some ⟨γ,0,none⟩)):=(HTB.o.kept HS.o.kp hK).cell 0;have x13:w2.cell? ⟨γ,13,none⟩=some (.int .i64 V.ba):=by obtain⟨b,m,S,hR,-,-⟩:=HS.o.rz;exact hR.box.cell 13
    have y0:w2.cell? ⟨wr.heap.size,0,none⟩=some (.int .i64 s.ba):=FB.o.cell 0;clear FB;have hwk:IntKind.wrap .i64 ((k:Int)+1)=(k:Int)+1:=by rw [IntKind.wrap_i64];omega
    by_cases he:s.ba=V.ba
    . have d2:(s.ba == V.ba)=true:=by simp [he]
      rw [if_pos he] at HNX;clear he
      go_quiet (fail)
      have hb:Below w2.heap.size w2 (w2.drewN nq):=below_drewN Zb_ _;generalize w2.drewN nq=w3 at*;clear xt0 x13 y0;replace HS:=Zaa (HS.o.on hb);clear hb;have xt0:w3.cell? ⟨τ,0,none⟩=some (.pointer (some ⟨γ,0,none⟩)):=(HTB.o.kept HS.o.kp hK).cell 0;have xt1:w3.cell? ⟨τ,1,none⟩=some (.func (.func 177) #[] #[.pointer (some ⟨ρ,0,none⟩)]):=(HTB.o.kept HS.o.kp hK).cell 1;have x0:w3.cell? ⟨γ,0,none⟩=some (.int .i64 V.nu):=by obtain⟨b,m,S,hR,-,-⟩:=HS.o.rz;exact hR.box.cell 0
      go_upto_region 4 with fail
      refine Code.wp_mono NoPanic.imp ?_;refine Zan (S:=fun W=>W.cell? ⟨τ,0,none⟩=some (.pointer (some ⟨γ,0,none⟩))/\W.cell? ⟨τ,1,none⟩=some (.func (.func 177) #[] #[.pointer (some ⟨ρ,0,none⟩)])/\W.cell? ⟨γ,0,none⟩=some (.int .i64 V.nu)) [14] (by kernel_rfl) ⟨xt0,xt1,x0⟩ (fun hHeld=>?_);refine tB 0 (.pointer (some ⟨τ,0,none⟩)) [1,2,3,14] rfl hHeld ?_
      try simp only [Act.put,sLs]
      refine tB 1 (.pointer (some ⟨τ,0,none⟩)) [2,3,14] rfl hHeld ?_
      try simp only [Act.put,sLs]
      refine tB 2 (.pointer (some ⟨τ,0,none⟩)) [3,14] rfl hHeld ?_
      try simp only [Act.put,sLs]
      refine tB 3 (.agg #[.pointer (some ⟨γ,0,none⟩),.func (.func 177) #[] #[.pointer (some ⟨ρ,0,none⟩)]]) [14] rfl hHeld ?_
      try simp only [Act.put,sLs]
      refine tB 4 (.pointer (some ⟨τ,0,none⟩)) [5,6,7,8,9,10,11,14] rfl hHeld ?_
      try simp only [Act.put,sLs]
      refine tB 5 (.pointer (some ⟨τ,0,none⟩)) [6,7,8,9,10,11,14] rfl hHeld ?_
      try simp only [Act.put,sLs]
      refine tB 6 (.pointer (some ⟨τ,0,none⟩)) [7,8,9,10,11,14] rfl hHeld ?_
      try simp only [Act.put,sLs]
      refine tB 7 (.pointer (some ⟨τ,0,none⟩)) [8,9,10,11,14] rfl hHeld ?_
      try simp only [Act.put,sLs]
      refine tB 8 (.pointer (some ⟨γ,0,none⟩)) [9,10,11,14] rfl hHeld ?_
      try simp only [Act.put,sLs]
      refine tB 9 (.pointer (some ⟨γ,0,none⟩)) [10,11,14] rfl hHeld ?_
      try simp only [Act.put,sLs]
      refine tB 10 (.pointer (some ⟨γ,0,none⟩)) [11,14] rfl hHeld ?_
      try simp only [Act.put,sLs]
      refine tB 11 (.int .i64 V.nu) [14] rfl hHeld ?_
      try simp only [Act.put,sLs]
      refine tB 12 (.int .i64 (k:Int)) [13,14] rfl hHeld ?_
      try simp only [Act.put,sLs]
      refine tB 13 (.int .i64 ((k:Int)+1)) [14] rfl hHeld ?_
      try simp only [Act.put,sLs]
      refine ZdH (i:=14) (by kernel_rfl) rfl (fun KC hK'=>?_)
      go_simp
      obtain⟨b3,m3,S3,hR3,hb3,hm3⟩:=(HS.o.on Zb_.drew).rz;refine (ZiX K lo _ γ ρ V b3 m3 S3 V.nu ((k:Int)+1) hR3 (HS.o.on Zb_.drew).wk (by omega) (by omega) HOV.o.k0 HOV.o.k1 HLV.o (by have:=HOV.o.al;omega) (fun a ha=>by obtain⟨q1,q2,q3,q4⟩:=HOV.o.ai a ha;exact⟨q1,q2,by omega,q4⟩) HOV.o.sc).mono ?_;rintro e w8 ⟨rfl,hk8,hw8,b8,m8,S8,hR8,hb8,hm8⟩;have HS8:Hd (Tks K lo w w8 γ ρ (some ⟨g,0,none⟩) c0 (ZcR V ((k:Int)+1) V.nu)):=⟨(HS.o.on Zb_.drew).kp.trans hk8,hw8,b8,m8,S8,hR8,hb8.trans hb3,hm8.trans hm3⟩;clear hk8 hw8 hR8 hb8 hm8 hR3 hb3 hm3 hHeld xt0 xt1 x0 HS;refine hK'.out _ _ (fun h=>absurd (by decide) h) (fun _=>?_);clear hK'
      try simp only [Act.put,sLs]
      refine Zak (by kernel_rfl) ?_ _;refine NoPanic.normal ?_;go_wp2;go_roundw
      . exact⟨k+1,by go_num,by omega,by rw [HNX.o];exact HS8.o⟩
      . simp [intOf];omega
    . have d2:(s.ba == V.ba)=false:=by simp [he]
      rw [if_neg he] at HNX;clear he
      go_quiet (fail)
      have hb:Below w2.heap.size w2 (w2.drewN nq):=below_drewN Zb_ _;generalize w2.drewN nq=w3 at*;clear xt0 x13 y0;replace HS:=Zaa (HS.o.on hb);clear hb;go_wp2;go_roundw
      . exact⟨k+1,by go_num,by omega,by rw [HNX.o];exact HS.o⟩
      . simp [intOf];omega
  . have d1:decide ((k:Int) < (nn:Int))=false:=decide_eq_false (by omega)
    have hkn:k=nn:=by omega
    have HE:Hd (V=ZbW U nn):=by unfold Hd;rw [HV.o,hkn]
    clear hkn;go_wp2
    go_end0
    exact⟨rfl,HS.o.kp,by rw [<- HE.o];exact HS.o.wk⟩
end Go.Proofs.YtdeammfdkaomlaaGreat
