import Derived.Test.YtdeammfdkaomlaaGreatM31
set_option maxHeartbeats 16000000
set_option maxRecDepth 100000
open Go.Proofs.Tryz
namespace Go.Proofs.YtdeammfdkaomlaaGreat
open Go.RowKit Go.Deep
theorem Zjy (KP:Nat->Prop) (lo:Nat) (w:World) (γ ρ:Nat) (U:Rr) (ix:Nat) (x:Rs) (h:Wk KP lo w γ ρ U) (h1:1<=ix) (h2:ix<=1000) (hl:U.dk.sl.length<=1000) :
 Calls prog 208 #[.agg (wkC γ ρ),.int .i64 (ix:Int),.agg #[.int .i64 x.ba,.string x.tx]] w fun e w'=>e=.returned (.tuple #[])/\Zag KP w w'/\Wk KP lo w' γ ρ (ZdA U ix x):=by
 have HW:=Zaa h;clear h
 show Calls prog 208 #[.agg #[.pointer (some ⟨γ,0,none⟩),.func (.func 177) #[] #[.pointer (some ⟨ρ,0,none⟩)]],.int .i64 (ix:Int),.agg #[.int .i64 x.ba,.string x.tx]] w _
 go_enter func208,ntmps208
 go_upto_region 1 with fail
 obtain⟨W0,hW0,HA,SB⟩:∃ W0,W0=((w.alloc (.cells #[.pointer (some ⟨γ,0,none⟩),.func (.func 177) #[] #[.pointer (some ⟨ρ,0,none⟩)]] 190)).alloc (.cells #[.int .i64 x.ba,.string x.tx] 171))/\Hd (At KP lo w W0 γ ρ 2 U)/\Hd (Box W0 (w.heap.size+1) #[.int .i64 x.ba,.string x.tx]):=
  ⟨_,rfl,HW.o.enter (bt (Zab _ _) (Zab _ _)) ((Box.new w _ _ _ rfl).on (Zab _ _)) (by simp) (by omega),(Box.new _ _ _ _ (by simp))⟩
 rw [<- hW0];clear hW0;obtain⟨b,m,S,hR⟩:=HA.o.wz;have HR:=Zaa hR;clear hR;clear HR
 go_loopw [] (fun wr=>∃ k:Nat,U.dk.sl.length+k<=max U.dk.sl.length ix/\At KP lo w wr γ ρ 2 (ZbL U k)/\Box wr (w.heap.size+1) #[.int .i64 x.ba,.string x.tx]) (fun wr=>2000 - Zhj (wr.cell? ⟨γ,8,none⟩))
 case atStart=>exact⟨0,by omega,by have:=HA.o;simpa [ZbL] using this,SB.o⟩
 case round=>
  obtain⟨k,hk,ha,hsb⟩:=hrel;clear HA SB;have HA:=Zaa ha;have SB:=Zaa hsb;clear ha hsb;obtain⟨b5,m5,S5,hR⟩:=HA.o.wz;have HR:=Zaa hR;clear hR;have hwsz:=HA.o.sz;have hpl:(ZbL U k).dk.sl.length=U.dk.sl.length+k:=by simp [ZbL]
  have x8:wr.cell? ⟨γ,8,none⟩=some (.slice (b5 1) (U.dk.sl.length+k) (m5 1)):=by rw [HR.o.box.cell 8,<- hpl];rfl
  have x_0:wr.cell? ⟨w.heap.size,0,none⟩=some (.pointer (some ⟨γ,0,none⟩)):=HA.o.c0
  by_cases hlt:U.dk.sl.length+k < ix
  . have d1:decide (((U.dk.sl.length+k:Nat):Int) < (ix:Int))=true:=by simp;omega
    have d1b:decide ((U.dk.sl.length:Int)+(k:Int) < (ix:Int))=true:=by simp;omega
    have HLA:Hd (Zhj (wr.cell? ⟨γ,8,none⟩)=U.dk.sl.length+k):=by unfold Hd;rw [x8];rfl
    go_upto_region 2 with fail
    clear d1 d1b;refine Code.wp_mono NoPanic.imp ?_;refine Zan (S:=fun W=>W.cell? ⟨w.heap.size,0,none⟩=some (.pointer (some ⟨γ,0,none⟩))/\W.cell? ⟨γ,8,none⟩=some (.slice (b5 1) (U.dk.sl.length+k) (m5 1))) [11,12,13,14] (by kernel_rfl) ⟨x_0,x8⟩ (fun hHeld=>?_);refine tB 0 (.pointer (some ⟨w.heap.size,0,none⟩)) [1,11,12,13,14] rfl hHeld ?_
    try simp only [Act.put,sLs]
    refine tB 1 (.pointer (some ⟨γ,0,none⟩)) [11,12,13,14] rfl hHeld ?_
    try simp only [Act.put,sLs]
    refine tB 2 (.pointer (some ⟨w.heap.size,0,none⟩)) [3,4,5,6,7,10,11,12,13,14] rfl hHeld ?_
    try simp only [Act.put,sLs]
    refine tB 3 (.pointer (some ⟨γ,0,none⟩)) [4,5,6,7,10,11,12,13,14] rfl hHeld ?_
    try simp only [Act.put,sLs]
    refine tB 4 (.pointer (some ⟨γ,0,none⟩)) [5,6,7,10,11,12,13,14] rfl hHeld ?_
    try simp only [Act.put,sLs]
    refine tB 5 (.pointer (some ⟨γ,6,none⟩)) [6,7,10,11,12,13,14] rfl hHeld ?_
    try simp only [Act.put,sLs]
    refine tB 6 (.pointer (some ⟨γ,8,none⟩)) [7,10,11,12,13,14] rfl hHeld ?_
    try simp only [Act.put,sLs]
    refine tB 7 (.slice (b5 1) (U.dk.sl.length+k) (m5 1)) [10,11,12,13,14] rfl hHeld ?_
    try simp only [Act.put,sLs]
    refine tB 8 (.agg #[.int .i64 0,.string ⟨#[]⟩]) [9,10,11,12,13,14] rfl hHeld ?_
    try simp only [Act.put,sLs]
    refine oB 9 rfl (fun K hK=>?_)
    go_simp
    obtain⟨w2,hw2⟩:∃ w2,w2=(wr.alloc (.cells #[.int .i64 0,.string ⟨#[]⟩] 171)).drew:=⟨_,rfl⟩
    have hb:Below wr.heap.size wr w2:=by rw [hw2];exact (Zab wr _).drew
    have SQ:Hd (Box w2 wr.heap.size #[.int .i64 0,.string ⟨#[]⟩]):=by unfold Hd;rw [hw2];exact (Box.new wr _ _ _ rfl).drew
    rw [<- hw2];clear hw2;have hs2:=hb.size;replace HA:=Zaa (HA.o.on hb);replace HR:=Zaa (HR.o.on hb);replace SB:=Zaa (SB.o.on hb);clear hb hHeld x8 x_0;have x8:w2.cell? ⟨γ,8,none⟩=some (.slice (b5 1) (U.dk.sl.length+k) (m5 1)):=by rw [HR.o.box.cell 8,<- hpl];rfl
    refine hK.out _ _ (fun _=>⟨HA.o.c0,x8⟩) (fun hHx=>?_);have hHeld:=hHx (by decide);clear hK hHx K
    try simp only [Act.put,sLs]
    have ho1:NRS rsL 2 w2 (S5 1) (.slice (b5 1) (U.dk.sl.length+k) (m5 1)) (ZbL U k).dk.sl:=by have:=HR.o.cp.o1;rwa [hpl] at this
    obtain⟨v',w3,hrun,ht,hrow⟩:=ZaK ZaC (by decide) underlying56 Zed rfl (M:=[zS]) 56 ho1 (some ⟨wr.heap.size,0,none⟩) 1 1 rfl (fun e=>by cases e) (fun ad e j u hu=>by
     injection e with e
     subst e;rw [Addr.add_lit,Nat.zero_add,SQ.o.cell j]
     simpa [Zai,rsL,zS] using hu) (Zdz _) (by rw [hpl];simp;omega) (by decide)
    have hpad:(ZbL U k).dk.sl ++ [zS]=(ZbL U (k+1)).dk.sl:=by simp [ZbL,List.replicate_succ']
    rw [hpad] at hrow;obtain⟨a',m',hv'⟩:=hrow.form;have hpl2:(ZbL U (k+1)).dk.sl.length=U.dk.sl.length+k+1:=by simp [ZbL];omega
    rw [hpl2] at hv';subst hv';have HP:=Zaa (HR.o.part1 (L':=(ZbL U (k+1)).dk.sl) (a':=a') (m':=m') ht (by rw [hpl2];exact hrow));have hkp:Zag (fun k=>k < w2.heap.size/\¬ S5 1 k) w2 w3:=Zag.touchS ht fun _ h=>h
    have BG:=Zaa (HR.o.box.kept hkp ⟨HR.o.box.lt,HR.o.far 1 (by decide)⟩);have BX3:=Zaa (HA.o.bx.kept hkp ⟨HA.o.bx.lt,(HR.o.prot _ (Or.inr ⟨by omega,by omega⟩)).2.2 1 (by decide)⟩);have z8:w3.cell? ⟨γ,8,none⟩=some (.slice (b5 1) (U.dk.sl.length+k) (m5 1)):=by rw [BG.o.cell 8,<- hpl];rfl
    have z_0:w3.cell? ⟨w.heap.size,0,none⟩=some (.pointer (some ⟨γ,0,none⟩)):=BX3.o.cell 0;have hs3:=ht.size;clear ho1 hrow ht hkp hpad SQ;refine oB 10 rfl (fun K hK=>?_);refine Zae rfl (.tmp 22) (.tmp 24) 56 rfl rfl rfl hrun ?_;clear hrun hHeld;refine hK.out _ _ (fun _=>⟨z_0,z8⟩) (fun _=>?_);clear hK K;have gf:=BG.o.free
    try simp only [Act.put,sLs]
    refine oB 11 rfl (fun K hK=>?_)
    go_simp
    refine hK.out _ _ (fun h=>absurd (by decide) h) (fun _=>?_);clear hK K
    try simp only [Act.put,sLs]
    refine oB 12 rfl (fun K hK=>?_)
    go_simp
    refine hK.out _ _ (fun h=>absurd (by decide) h) (fun _=>?_);clear hK K
    try simp only [Act.put,sLs]
    refine oB 13 rfl (fun K hK=>?_)
    go_simp
    refine hK.out _ _ (fun h=>absurd (by decide) h) (fun _=>?_);clear hK K
    try simp only [Act.put,sLs]
    refine oB 14 rfl (fun K hK=>?_)
    go_simp
    refine hK.out _ _ (fun h=>absurd (by decide) h) (fun _=>?_);clear hK K
    try simp only [Act.put,sLs]
    refine Zak (by kernel_rfl) ?_ _;refine NoPanic.normal ?_;have hpp:=HP.o;rw [hpl2] at hpp;obtain⟨w4,hw4⟩:∃ w4,w4=w3.setCell ⟨γ,8,none⟩ (.slice a' (U.dk.sl.length+k+1) m'):=⟨_,rfl⟩
    rw [<- hw4] at hpp |-;have h8:w4.cell? ⟨γ,8,none⟩=some (.slice a' (U.dk.sl.length+k+1) m'):=by rw [hw4];exact World.cell?_setCell_same' _ _ _ (by rw [z8];rfl)
    clear z8 z_0 gf;go_wp2;refine⟨⟨k+1,by omega,HA.o.step hpp.2 ⟨_,_,_,hpp.1⟩,SB.o.kept hpp.2 (Or.inr ⟨by omega,by omega⟩)⟩,?_⟩;rw [h8,HLA.o]
    show 2000 - (U.dk.sl.length+k+1) < _
    omega
  . have d1:decide (((U.dk.sl.length+k:Nat):Int) < (ix:Int))=false:=by simp;omega
    have d1b:decide ((U.dk.sl.length:Int)+(k:Int) < (ix:Int))=false:=by simp;omega
    have hkk:k=ix - U.dk.sl.length:=by omega
    subst hkk;have HE:Hd (ZdA U ix x={ ZbL U (ix - U.dk.sl.length) with dk:={ (ZbL U (ix - U.dk.sl.length)).dk with sl:=(ZbL U (ix - U.dk.sl.length)).dk.sl.set (ix - 1) x } }):=rfl
    go_upto_region 3 with fail
    clear d1 d1b;obtain⟨n9,hn9⟩:∃ n,n=U.dk.sl.length+(ix - U.dk.sl.length):=⟨_,rfl⟩
    rw [<- hn9] at x8 hpl;have hix:ix - 1 < n9:=by omega
    have ho1:=HR.o.cp.o1
    rcases ho1 with ⟨-,hnil⟩ | ⟨g,hSg,g',cap,hv,hfr⟩
    . rw [hnil] at hpl;simp at hpl;omega
    obtain rfl:g'=g:=by have:=hfr.bs;have:=hfr.up;omega
    rw [hpl] at hv;injection hv with hv1 hv2 hv3
    have HV1:=Zaa hv1;have HV3:=Zaa hv3;have HFR:=Zaa hfr;rw [hv1] at x8;have hgw:g' < wr.heap.size:=hfr.lt
    have hcl:n9<=cap:=by rw [<- hpl];exact hfr.le
    obtain⟨o0,ho0⟩:=Option.isSome_iff_exists.1 (hfr.th ((ix - 1)*2) (by omega));obtain⟨o1,ho1⟩:=Option.isSome_iff_exists.1 (hfr.th ((ix - 1)*2+1) (by omega));have fz:=hfr.fz;have s0:wr.cell? ⟨w.heap.size+1,0,none⟩=some (.int .i64 x.ba):=SB.o.cell 0;have s1:wr.cell? ⟨w.heap.size+1,1,none⟩=some (.string x.tx):=SB.o.cell 1;obtain⟨q,hq⟩:∃ q:Nat,q=ix - 1:=⟨_,rfl⟩
    rw [<- hq] at ho0 ho1 hix;have hsub:(ix:Int) - 1=(q:Int):=by omega
    have i0:(0:Int)<=(q:Int):=by omega
    have i1:(q:Int) < (n9:Int):=by omega
    have w64:IntKind.wrap .i64 ((ix:Int) - 1)=(q:Int):=by rw [IntKind.wrap_i64];omega
    have HQ:=Zaa hq;have HN9:=Zaa hn9;have HPL:=Zaa hpl;clear hfr hv1 hv3 hv2 hq hn9 hpl hk;have hlp:q < (ZbL U (ix - U.dk.sl.length)).dk.sl.length:=by rw [HPL.o];exact hix
    go_region
    clear x8 ho0 ho1 fz s0 s1 w64 hsub x_0;obtain⟨w4,hw4⟩:∃ w4,w4=(wr.setCell ⟨g',q*2,none⟩ (.int .i64 x.ba)).setCell ⟨g',q*2+1,none⟩ (.string x.tx):=⟨_,rfl⟩
    rw [<- hw4];have hw5:w4=wr.setCells g' (q*2) (rsL x):=hw4;have ht:Zad g' (g'+1) wr w4:=by rw [hw5];exact Zad.sets ⟨Nat.le_refl _,Nat.lt_succ_self _⟩ _ _ _
    have hts:Zaj (S5 1) wr w4:=ht.toS (ZcX hSg);have hL:((ZbL U (ix - U.dk.sl.length)).dk.sl.set q x).length=(ZbL U (ix - U.dk.sl.length)).dk.sl.length:=List.length_set;have hp:=HR.o.keep1 (L':=(ZbL U (ix - U.dk.sl.length)).dk.sl.set q x) hts hL (Or.inr ⟨g',hSg,g',cap,by rw [HV1.o,HV3.o],by rw [hw5];exact HFR.o.setAt ZaC hlp x⟩);have ha4:=(HA.o.step hp.2 ⟨_,_,_,hp.1⟩).on Zb_.drew;rw [HQ.o,<- HE.o] at ha4;clear HA;have HA:=Zaa ha4;clear ha4 hp hL hts ht hw5 hw4;go_wp2
    go_end0
    exact⟨rfl,HA.o.fin⟩
variable {w:World} {lo n c m:Nat} {ao:Option Addr} {A:List Rs}
theorem ZhN (x y:Rs) (w:World) :
 Calls prog 215 #[.agg #[.int .i64 x.ba,.string x.tx],.agg #[.int .i64 y.ba,.string y.tx]] w fun e w'=>e=.returned (.int .i64 (Zg1 x.ba y.ba))/\Zw_ w w':=by
 have HO:∀ o o',Hd (Zw_ w ((w.alloc o).alloc o')):=fun o o'=>(Zab w o).alloc (by simp) o'
 go_enter func215,ntmps215;go_wp2_with (go_at_call 189;refine (ZeB _ _ _).mono ?_;rintro e w' ⟨rfl,rfl⟩);go_ret;exact⟨rfl,(HO _ _).o⟩
def Zkc (ao:Option Addr) (c m:Nat):Option Addr:=if c=m then ao else ao.map (·.add (m*2))
theorem Zc2 {ops:Array Oper}{rest:List Oper}{o:Oper}{a:Act}{Q:Exit->Act->World->Prop} (hgd:o.guard=none) (x y:Operand) (ho:o.op=.slice 56 x (some y) none none)
 (ao:Option Addr) (n c m:Nat) (hx:a.eval x=.slice ao n c) (hy:a.eval y=.int .i64 m) (hm:m<=n) (h:wpList prog ops Q rest (a.put o.dst (.slice (Zkc ao c m) (n - m) (c - m))) w):wpList prog ops Q (o :: rest) a w:=by
 refine wpList_plain hgd fun K hK=>?_
 have hr:=run_slice_l (P:=prog) w 56 ao n c underlying56 .i64 m (by omega) (by omega);have hs:=run_sliceAt_slice (P:=prog) w 56 (.slice ao n c) (some (.int .i64 m)) none none underlying56;obtain⟨i0,hi,hz0,hz1,hz2⟩:=info_parts Zed;have hsz:(sizeOf 171).run prog w=.ok 2 w:=by simp [sizeOf,typeInfo,hi,hz1]
 unfold Oper.wp execOp;simp only [ho,Option.map_some,Option.map_none,hx,hy,Sem.run_bind,Sem.run_pure,Result.andThen_ok,hs,hr,show prog.elem 56=171 from rfl,hsz,sliced,Int.toNat_natCast];exact hK _ _ h
theorem Zat.from (h:Zat lo w (.slice ao n c) A) (hn:n=A.length) (hm:m<=A.length):∀ ad,Zkc ao c m=some ad->∀ j u,(Zai rsL (A.drop m))[j]?=some u->w.cell? (ad.add j)=some u:=by
 subst hn;intro ad hc j u hu;have hj:=(List.getElem?_eq_some_iff.1 hu).1;rw [Zaw ZaC,List.length_drop] at hj;have h0:0 < A.length:=by omega
 have hcap:A.length<=c:=by
  rcases h with ⟨_,_,_,e⟩ | ⟨_,_,_,h1,_,_,_,_,h6,_⟩
  . rw [e] at h0;simp at h0
  . injection h1 with e1 e2 e3
    omega
 obtain⟨b,off,rfl,-,-,-⟩:=h.full' h0;unfold Zkc at hc;rw [if_neg (by omega)] at hc;simp only [Option.map_some,Option.some.injEq] at hc;subst hc;have hu':=Zdq ZaC hm hu;have:=h.src _ rfl _ _ hu';rw [Addr.add_lit] at this |-;rw [Addr.add_lit];simp only [Nat.add_assoc] at this |-;exact this
theorem Zat.cutN (h:Zat lo w (.slice ao n c) A) (hn:n=A.length):Zkc ao c m=none->n - m=0:=by
 intro hc
 have:ao=none:=by
  unfold Zkc at hc
  split at hc
  . exact hc
  . cases ao with
    | none=>rfl
    | some x=>simp at hc
 have:=h.nilN this
 omega
theorem ZgX (lo:Nat) (W0:World) (va vb v:Value) (A B:List Rs) (w:World) (ha:Zat lo W0 va A) (hb:Zat lo W0 vb B) (hna:A.length<=1048576) (hnb:B.length<=1048576) (hw:Below W0.heap.size W0 w) (hl:ZeR w W0.heap.size v []) :
 Calls prog 214 #[v,va,vb,.func (.func 215) #[] #[]] w fun e w'=>∃ v',e=.returned v'/\Below W0.heap.size W0 w'/\ZeR w' W0.heap.size v' (Zas A B):=by
 have HVA:=Zaa ha;have HVB:=Zaa hb;have HW:=Zaa hw;have HL0:=Zaa hl;obtain⟨aa,ca,rfl⟩:=ha.form;obtain⟨ab,cb,rfl⟩:=hb.form;clear ha hb hw hl;obtain⟨m,hm⟩:∃ m:Nat,m=min A.length B.length:=⟨_,rfl⟩
 have hmi:min (A.length:Int) (B.length:Int)=(m:Int):=by omega
 have hma:m<=A.length:=by omega
 have hmb:m<=B.length:=by omega
 have HM:=Zaa hm;clear hm;go_enter func214,ntmps214;go_wp2
 go_loopw [0,17] (fun o i wr=>∃ (k:Nat) (L:List Rs),i=.int .i64 k/\k<=m/\Below W0.heap.size W0 wr/\ZeR wr W0.heap.size o L/\L=ZgY A B k) (fun _ i _=>m - (intOf i).toNat)
 case atStart=>exact⟨0,[],rfl,by omega,HW.o,HL0.o,rfl⟩
 case round=>
  obtain⟨k,L,rfl,hk,hb,hl,hL⟩:=hrel;have HB:=Zaa hb;have HL:=Zaa hl;have HE:=Zaa hL;have HLn:Hd (L.length=k):=by unfold Hd;rw [hL,Zjc]
  clear hb hl hL
  by_cases hlt:k < m
  . have hka:k < A.length:=by omega
    have hkb:k < B.length:=by omega
    obtain⟨b,off,hab,hbw,-,hc⟩:=HVB.o.full' (by omega);obtain⟨a,offa,haa,haw,-,hca⟩:=HVA.o.full' (by omega);subst hab haa;obtain⟨hsz,hcc⟩:=hc k hkb;obtain⟨hsa,hcca⟩:=hca k hka;obtain⟨y,hy⟩:∃ y,y=B[k]:=⟨_,rfl⟩
    obtain⟨x,hx⟩:∃ x,x=A[k]:=⟨_,rfl⟩
    rw [<- hy] at hsz hcc;rw [<- hx] at hsa hcca;have HNX:Hd (ZgY A B (k+1)=L ++ [mrg x y]):=by unfold Hd;rw [ZhI A B k hka hkb,<- HE.o,<- hx,<- hy]
    have HZ:=Zaa hsz;have HZA:=Zaa hsa;have E0:=Zaa (hcc.below HB.o hbw);have EA:=Zaa (hcca.below HB.o haw);have i0:(0:Int)<=(k:Int):=by omega
    have i1:(k:Int) < (B.length:Int):=by omega
    have i2:(k:Int) < (A.length:Int):=by omega
    clear hc hcc hsz hy hca hcca hsa hx;go_wp2
    go_cut [30] (fun c wc=>c=.bool (decide (Zg1 x.ba y.ba < 0))/\Below wr.heap.size wr wc)
    case first=>
     have xn:Nonempty (In (Up wr)):=⟨⟨wr,Below.refl _ _⟩⟩;have xs:=fun (X:In (Up wr))=>Zbc X
     have s0:∀ X:In (Up wr),_:=fun X=>Up.cell X E0.o.c0
     have s1:∀ X:In (Up wr),_:=fun X=>Up.cell X E0.o.c1
     have t0:∀ X:In (Up wr),_:=fun X=>Up.cell X EA.o.c0
     have t1:∀ X:In (Up wr),_:=fun X=>Up.cell X EA.o.c1
     refine Zaf (Up wr) (by kernel_rfl) (by kernel_rfl) (Zb_.drew) ?_
     repeat (go_big_quiet_step ((go_at_call 215;rename_i X;exact (ZhN x y _).mono fun _ _ h=>⟨h.1,Up.next X h.2⟩)))
     refine wpQuiet_nil ?_;intro wn hw;obtain⟨X,hX⟩:=hw;have HWN:Below wr.heap.size wr wn:=by rw [hX];exact X.h
     clear hX X s0 s1 t0 t1 xs xn;go_wp2;go_meet;exact⟨rfl,HWN⟩
    case rest=>
     obtain⟨rfl,hbc⟩:=hcut;have HBc:=Zaa hbc;have HLc:=Zaa (HL.o.below hbc);obtain⟨q0,q1⟩:=E0.o.below hbc (Zk_ hbw HB.o.size);obtain⟨q2,q3⟩:=EA.o.below hbc (Zk_ haw HB.o.size);clear hbc
     cases dm:decide (Zg1 x.ba y.ba < 0) with
     | true=>
      have HN:Hd (ZgY A B (k+1)=L ++ [y]):=by unfold Hd;rw [HNX.o,mrg,if_pos (ZeW.1 (of_decide_eq_true dm))]
      go_wp2_with (at_builtin;refine ZbT (w:=wc.alloc _) (base:=W0.heap.size) (L:=L) [y] rfl (.tmp 31) (.tmp 36) rfl rfl (HLc.o.below (Zab _ _)) (some ⟨wc.heap.size,0,none⟩) 1 1 rfl rfl (fun e=>by cases e) (fun ad e j u hu=>by
       injection e with e
       subst e;rw [Addr.add_lit,Nat.zero_add,(Box.new wc _ _ _ rfl).cell j]
       simpa [Zai,rsL] using hu) (fun i hi=>by
       have:i=0:=by simp at hi;omega
       subst this;exact HZ.o) (by have:=HLn.o;simp;omega) (by have:=(bt HB.o HBc.o).size;simp;omega) ?_;intro v' w' h1 h2;have H1:=Zaa h1;have H2:=Zaa h2;clear h1 h2)
      go_roundw
      . exact⟨k+1,L ++ [y],by go_num,by omega,(bt (bt HB.o HBc.o) (Zab _ _)).trans (H2.o),H1.o,HN.o.symm⟩
      . simp [intOf];omega
     | false=>
      have HN:Hd (ZgY A B (k+1)=L ++ [x]):=by unfold Hd;rw [HNX.o,mrg,if_neg (fun h=>of_decide_eq_false dm (ZeW.2 h))]
      go_wp2_with (at_builtin;refine ZbT (w:=wc.alloc _) (base:=W0.heap.size) (L:=L) [x] rfl (.tmp 38) (.tmp 43) rfl rfl (HLc.o.below (Zab _ _)) (some ⟨wc.heap.size,0,none⟩) 1 1 rfl rfl (fun e=>by cases e) (fun ad e j u hu=>by
       injection e with e
       subst e;rw [Addr.add_lit,Nat.zero_add,(Box.new wc _ _ _ rfl).cell j]
       simpa [Zai,rsL] using hu) (fun i hi=>by
       have:i=0:=by simp at hi;omega
       subst this;exact HZA.o) (by have:=HLn.o;simp;omega) (by have:=(bt HB.o HBc.o).size;simp;omega) ?_;intro v' w' h1 h2;have H1:=Zaa h1;have H2:=Zaa h2;clear h1 h2)
      go_roundw
      . exact⟨k+1,L ++ [x],by go_num,by omega,(bt (bt HB.o HBc.o) (Zab _ _)).trans (H2.o),H1.o,HN.o.symm⟩
      . simp [intOf];omega
  . have hkm:k=m:=by omega
    subst hkm;obtain⟨g,cap,rfl,hr⟩:=HL.o;clear hr;have HSA:Hd (∀ i (h:i < (A.drop k).length),ZaJ (A.drop k)[i]):=fun i hi=>by rw [List.getElem_drop];exact HVA.o.sizes _ _
    have HSB:Hd (∀ i (h:i < (B.drop k).length),ZaJ (B.drop k)[i]):=fun i hi=>by rw [List.getElem_drop];exact HVB.o.sizes _ _
    go_wp2_with (first
     | (with_reducible refine Zc2 (by with_reducible rfl) (.tmp 47) (.tmp 48) (by with_reducible rfl) aa A.length ca k (by with_unfolding_all rfl) (by with_unfolding_all rfl) hma ?_)
     | (with_reducible refine Zc2 (by with_reducible rfl) (.tmp 52) (.tmp 53) (by with_reducible rfl) ab B.length cb k (by with_unfolding_all rfl) (by with_unfolding_all rfl) hmb ?_)
     | (at_builtin;refine ZbT (w:=wr) (base:=W0.heap.size) (L:=L) (A.drop k) rfl (.tmp 46) (.tmp 49) rfl rfl HL.o (Zkc aa ca k) (A.length - k) (ca - k) rfl (by rw [List.length_drop]) (fun e=>HVA.o.cutN rfl e) ((HVA.o.below HB.o).from rfl hma) HSA.o (by have:=HLn.o;rw [List.length_drop];omega) HB.o.size ?_;intro v1 w1 h1 h2;have H1:=Zaa h1;have H2:=Zaa (HB.o.trans h2);clear h1 h2;refine Hd.o ?_))
    refine Zaa ?_
    go_wp2_with (first
     | (with_reducible refine Zc2 (by with_reducible rfl) (.tmp 52) (.tmp 53) (by with_reducible rfl) ab B.length cb k (by with_unfolding_all rfl) (by with_unfolding_all rfl) hmb ?_)
     | (at_builtin;refine ZbT (w:=w1) (base:=W0.heap.size) (L:=L ++ A.drop k) (B.drop k) rfl (.tmp 51) (.tmp 54) rfl rfl H1.o (Zkc ab cb k) (B.length - k) (cb - k) rfl (by rw [List.length_drop]) (fun e=>HVB.o.cutN rfl e) ((HVB.o.below H2.o).from rfl hmb) HSB.o (by have:=HLn.o;rw [List.length_append,List.length_drop,List.length_drop];omega) H2.o.size ?_;intro v2 w2 h1 h2;have H3:=Zaa h1;have H4:=Zaa (H2.o.trans h2);clear h1 h2))
    go_ret;exact⟨_,rfl,H4.o,by rw [Zfp,<- HM.o,<- HE.o];exact H3.o⟩
end Go.Proofs.YtdeammfdkaomlaaGreat
