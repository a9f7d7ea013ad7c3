import Derived.Test.YtdeammfdkaomlaaGreatM44
set_option maxHeartbeats 16000000
set_option maxRecDepth 100000
open Go.Proofs.Tryz
namespace Go.Proofs.YtdeammfdkaomlaaGreat
open Go.RowKit Go.Deep
theorem ZiX (KP:Nat->Prop) (lo:Nat) (w:World) (γ ρ:Nat) (U:Rr) (b:Nat->Option Addr) (m:Nat->Nat) (S:Nat->Nat->Prop) (n ix:Int) (hR:Rz KP lo w γ b m S U) (h:Wk KP lo w γ ρ U) (h1:1<=ix) (h2:ix<=1000) (h0:0<=U.dk.kn) (hk1:U.dk.kn<=1000) (hl:U.dk.sl.length<=1000) (hal:U.ac.length<=1000) (hai:∀ a ∈ U.ac,1<=a.ix/\a.ix<=1000/\a.fr.length<=1000/\Asc a.fr) (has:Zi2 U.ac) :
 Calls prog 207 #[.agg (wkC γ ρ),.int .i64 n,.int .i64 ix] w fun e w'=>e=.returned (.tuple #[])/\Zag KP w w'/\Wk KP lo w' γ ρ (ZcR U ix n)/\∃ b' m' S',Rz KP lo w' γ b' m' S' (ZcR U ix n)/\b' 0=b 0/\m' 0=m 0:=by
 have HW:=Zaa h;have HR0:=Zaa hR;clear h hR;have HAI:=Zaa hai;have HAS:=Zaa has;clear hai has
 show Calls prog 207 #[.agg #[.pointer (some ⟨γ,0,none⟩),.func (.func 177) #[] #[.pointer (some ⟨ρ,0,none⟩)]],.int .i64 n,.int .i64 ix] w _
 go_enter func207,ntmps207
 go_upto_region 1 with fail
 obtain⟨W0,hW0,HA⟩:∃ W0,W0=(w.alloc (.cells #[.pointer (some ⟨γ,0,none⟩),.func (.func 177) #[] #[.pointer (some ⟨ρ,0,none⟩)]] 190))/\Hd (At KP lo w W0 γ ρ 1 U):=
  ⟨_,rfl,HW.o.enter (Zab _ _) (Box.new w _ _ _ rfl) (by simp) (by omega)⟩
 rw [<- hW0];have HR:Hd (Rz (KN KP w 1) lo W0 γ b m S U):=by unfold Hd;rw [hW0];exact HR0.o.shield (Zab _ _) (fun k hk=>hk.imp id (fun h=>⟨h.1,by simp;omega⟩))
 clear hW0 HR0;obtain⟨L,hmap,hrows,hins⟩:=HR.o.acks6;have hll:L.length=U.ac.length:=by rw [<- hmap,List.length_map]
 have HMAP:=Zaa hmap;have HSG:Hd (∀ k,S 6 k->k < W0.heap.size):=fun k hk=>(HR.o.cp.seg 6 (by decide) k hk).2
 have HINS:=Zaa hins;have HROWS:=Zaa hrows;obtain⟨p,hp⟩:∃ p,p=Zch U.ac ix:=⟨_,rfl⟩
 obtain⟨fd,hfd⟩:∃ fd,fd=atA U.ac ix:=⟨_,rfl⟩
 have HP:=Zaa hp;have HFD:=Zaa hfd;have hpl:p<=U.ac.length:=by rw [hp];exact Zga _ _
 clear hmap hins hrows hp hfd;have x_0:W0.cell? ⟨w.heap.size,0,none⟩=some (.pointer (some ⟨γ,0,none⟩)):=HA.o.c0;have x16:W0.cell? ⟨γ,16,none⟩=some (.slice (b 6) U.ac.length (m 6)):=HR.o.box.cell 16
 have HSR:Hd (∀ W:World,Below W0.heap.size W0 W->Calls prog 216 #[.slice (b 6) U.ac.length (m 6),.agg #[.int .i64 ix,.slice none 0 0],.func (.func 176) #[] #[]] W fun e w'=>e=.returned (.tuple #[.int .i64 p,.bool fd])/\Below W.heap.size W w'):=fun W hW=>by
  rcases HROWS.o with ⟨e1,e2,e3⟩ | ⟨g,e1,hg,-,-,hf⟩
  . have hn:U.ac=[]:=by rw [<- HMAP.o,e3];rfl
    rw [e1,e2,HP.o,HFD.o,hn];exact Zgg ix W
  . have:=Zgf g (m 6) L ix W (hf.below hW) (by omega) (by rw [HMAP.o];exact HAS.o)
    rw [HMAP.o,<- HP.o,<- HFD.o,hll] at this;rw [e1];exact this
 go_wp2_with fail;clear x_0 x16;refine (HSR.o _ Zb_).mono ?_;rintro e w1 ⟨rfl,hb⟩;clear HSR
 go_upto_if 22 with fail
 have HB1:=Zaa hb;replace HA:=Zaa (HA.o.on hb);clear hb
 go_cut [7,10,18,20,21,22] (fun _ _ _ _ _ _ wc=>At KP lo w wc γ ρ 1 { U with ac:=Zcg U.ac ix }/\wc.cell? ⟨γ,5,none⟩=some (.slice (b 0) U.sf.sl.length (m 0)))
 case first=>
  cases hfc:fd with
  | true=>
   have HE:Hd ({ U with ac:=Zcg U.ac ix }=U):=by unfold Hd;rw [ZgK (by rw [<- HFD.o];exact hfc)]
   go_wp2;go_meet;rw [HE.o];exact⟨HA.o,(HR.o.on HB1.o).box.cell 5⟩
  | false=>
   have HE:Hd (Zcg U.ac ix=U.ac.take p ++ [⟨ix,[]⟩] ++ U.ac.drop p):=by unfold Hd;rw [HP.o];exact Zh5 (by rw [<- HFD.o];exact hfc)
   replace HR:=Zaa (HR.o.on HB1.o);have x_0:w1.cell? ⟨w.heap.size,0,none⟩=some (.pointer (some ⟨γ,0,none⟩)):=HA.o.c0;have x16:w1.cell? ⟨γ,16,none⟩=some (.slice (b 6) U.ac.length (m 6)):=HR.o.box.cell 16
   go_upto_region 3 with fail
   refine Code.wp_mono NoPanic.imp ?_;refine Zan (S:=fun W=>W.cell? ⟨w.heap.size,0,none⟩=some (.pointer (some ⟨γ,0,none⟩))/\W.cell? ⟨γ,16,none⟩=some (.slice (b 6) U.ac.length (m 6))) [12,13,14] (by kernel_rfl) ⟨x_0,x16⟩ (fun hHeld=>?_);refine tB 0 (.pointer (some ⟨w.heap.size,0,none⟩)) [1,12,13,14] rfl hHeld ?_
   try simp only [Act.put,sLs]
   refine tB 1 (.pointer (some ⟨γ,0,none⟩)) [12,13,14] rfl hHeld ?_
   try simp only [Act.put,sLs]
   refine tB 2 (.pointer (some ⟨w.heap.size,0,none⟩)) [3,4,5,6,11,12,13,14] rfl hHeld ?_
   try simp only [Act.put,sLs]
   refine tB 3 (.pointer (some ⟨γ,0,none⟩)) [4,5,6,11,12,13,14] rfl hHeld ?_
   try simp only [Act.put,sLs]
   refine tB 4 (.pointer (some ⟨γ,0,none⟩)) [5,6,11,12,13,14] rfl hHeld ?_
   try simp only [Act.put,sLs]
   refine tB 5 (.pointer (some ⟨γ,16,none⟩)) [6,11,12,13,14] rfl hHeld ?_
   try simp only [Act.put,sLs]
   refine tB 6 (.slice (b 6) U.ac.length (m 6)) [11,12,13,14] rfl hHeld ?_
   try simp only [Act.put,sLs]
   refine tB 7 (.int .i64 (p:Int)) [11,12,13,14] rfl hHeld ?_
   try simp only [Act.put,sLs]
   refine tB 8 (.int .i64 ix) [9,10,11,12,13,14] rfl hHeld ?_
   try simp only [Act.put,sLs]
   refine tB 9 (.agg #[.int .i64 ix,.slice none 0 0]) [10,11,12,13,14] rfl hHeld ?_
   try simp only [Act.put,sLs]
   refine oB 10 rfl (fun K hK=>?_)
   go_simp
   obtain⟨w2,hw2⟩:∃ w2,w2=(w1.alloc (.cells #[.int .i64 ix,.slice none 0 0] 170)).drew:=⟨_,rfl⟩
   have hb:Below w1.heap.size w1 w2:=by rw [hw2];exact (Zab w1 _).drew
   have SQ:Hd (Box w2 w1.heap.size (axL (Zdk ix)).toArray):=by unfold Hd;rw [hw2];exact (Box.new w1 _ _ _ rfl).drew
   have hs2:w1.heap.size+1<=w2.heap.size:=by have:=SQ.o.lt;omega
   rw [<- hw2];clear hw2;have HB2:=Zaa (bt HB1.o hb);replace HA:=Zaa (HA.o.on hb);replace HR:=Zaa (HR.o.on hb);clear hb hHeld x16 x_0;refine hK.out _ _ (fun _=>⟨HA.o.c0,HR.o.box.cell 16⟩) (fun hHx=>?_);have hHeld:=hHx (by decide);clear hK hHx K
   try simp only [Act.put,sLs]
   obtain⟨L2,hmap2,hrows2,hins2⟩:=HR.o.acks6;have hll2:L2.length=U.ac.length:=by rw [<- hmap2,List.length_map]
   have HCALL:Hd (Calls prog 217 #[.slice (b 6) U.ac.length (m 6),.int .i64 (p:Int),.slice (some ⟨w1.heap.size,0,none⟩) 1 1] w2 fun e w'=>∃ v',e=.returned v'/\(((∃ T:Nat->Prop,Zaj T w2 w'/\∀ t,T t->b 6=some ⟨t,0,none⟩)/\ZaH axL 2 w' w2.heap.size w'.heap.size v' (L2.take p ++ [Zdk ix] ++ L2.drop p))\/(∃ g,b 6=some ⟨g,0,none⟩/\Zad g (g+1) w2 w'/\ZaH axL 2 w' g (g+1) v' (L2.take p ++ [Zdk ix] ++ L2.drop p)))):=by
    unfold Hd
    rcases hrows2 with ⟨e1,e2,e3⟩ | ⟨g,e1,hg,-,-,hf⟩
    . have hn:U.ac=[]:=by rw [<- hmap2,e3];rfl
      have hp0:p=0:=by rw [hn] at hpl;simpa using hpl
      rw [e1,e2,hn,hp0,e3];refine (Zhd w1.heap.size (Zdk ix) w2 SQ.o).mono ?_;rintro e w' ⟨v',rfl,hb,hrow⟩;exact⟨v',rfl,Or.inl ⟨⟨fun _=>False,Zaj.below hb,fun _ h=>h.elim⟩,hrow⟩⟩
    . rw [e1,<- hll2]
      have hgw:g < w1.heap.size:=Zk_ (HSG.o g hg) HB1.o.size
      refine (Zhc g p w1.heap.size (m 6) L2 (Zdk ix) w2 hf (by omega) (by omega) (by omega) SQ.o).mono ?_;rintro e w' ⟨v',rfl,ht,hrow⟩
      rcases hrow with hrow | hrow
      . exact⟨v',rfl,Or.inr ⟨g,rfl,ht,hrow⟩⟩
      . exact⟨v',rfl,Or.inl ⟨⟨fun t=>t=g,ht.toS (fun k a b=>by omega),fun t h=>by rw [h]⟩,hrow⟩⟩
   have HI2:=Zaa hins2;clear hmap2 hrows2 hins2;refine oB 11 rfl (fun K hK=>?_)
   go_simp
   refine HCALL.o.mono ?_;rintro e w3 ⟨v',rfl,hcase⟩;obtain⟨a',c',hv',htS,b',m',S',hRz,hKp⟩:=HI2.o p hpl ix w3 v' hcase;subst hv';have hkp:Zag (fun k=>k < w2.heap.size/\¬ S 6 k) w2 w3:=Zag.touchS htS fun _ h=>h
   have BG:=Zaa (HR.o.box.kept hkp ⟨HR.o.box.lt,HR.o.far 6 (by decide)⟩);have BX3:=Zaa (HA.o.bx.kept hkp ⟨HA.o.bx.lt,(HR.o.prot _ (Or.inr ⟨by omega,by omega⟩)).2.2 6 (by decide)⟩);have z16:w3.cell? ⟨γ,16,none⟩=some (.slice (b 6) U.ac.length (m 6)):=BG.o.cell 16;have z_0:w3.cell? ⟨w.heap.size,0,none⟩=some (.pointer (some ⟨γ,0,none⟩)):=BX3.o.cell 0;have HA3:Hd (At KP lo w (w3.setCell ⟨γ,16,none⟩ (.slice a' (U.ac.take p ++ [(⟨ix,[]⟩:Ra)] ++ U.ac.drop p).length c')) γ ρ 1 { U with ac:=U.ac.take p ++ [(⟨ix,[]⟩:Ra)] ++ U.ac.drop p }):=HA.o.step hKp ⟨_,_,_,hRz⟩;have Z5:Hd (∀ v,(w3.setCell ⟨γ,16,none⟩ v).cell? ⟨γ,5,none⟩=some (.slice (b 0) U.sf.sl.length (m 0))):=fun v=>(World.cell?_setCell_other _ _ _ _ (by simp)).trans (BG.o.cell 5)
   rw [<- HE.o] at HA3 |-;obtain⟨nl,hnl⟩:∃ nl,nl=(Zcg U.ac ix).length:=⟨_,rfl⟩
   rw [<- hnl] at HA3 |-;clear hnl hcase htS hRz hKp hkp hHeld HCALL HI2;refine hK.out _ _ (fun _=>⟨z_0,z16⟩) (fun _=>?_);clear hK;have gf:=BG.o.free
   try simp only [Act.put,sLs]
   refine oB 12 rfl (fun K hK=>?_)
   go_simp
   refine hK.out _ _ (fun h=>absurd (by decide) h) (fun _=>?_);clear hK K
   try simp only [Act.put,sLs]
   refine oB 13 rfl (fun K hK=>?_)
   go_simp
   refine hK.out _ _ (fun h=>absurd (by decide) h) (fun _=>?_);clear hK K
   try simp only [Act.put,sLs]
   refine oB 14 rfl (fun K hK=>?_)
   go_simp
   refine hK.out _ _ (fun h=>absurd (by decide) h) (fun _=>?_);clear hK K
   try simp only [Act.put,sLs]
   refine Zak (by kernel_rfl) ?_ _;refine NoPanic.normal ?_;clear z16 z_0 gf;obtain⟨w4,hw4⟩:∃ w4,w4=w3.setCell ⟨γ,16,none⟩ (.slice a' nl c'):=⟨_,rfl⟩
   rw [<- hw4] at HA3 |-;have Z6:Hd (w4.cell? ⟨γ,5,none⟩=some (.slice (b 0) U.sf.sl.length (m 0))):=by unfold Hd;rw [hw4];exact Z5.o _
   clear hw4 Z5;go_wp2;go_meet;exact⟨HA3.o,Z6.o⟩
 case rest=>
 clear HA HR HB1 HROWS HINS HMAP;obtain⟨V,hV⟩:∃ V:Rr,V={ U with ac:=Zcg U.ac ix }:=⟨_,rfl⟩
 rw [<- hV] at hcut;have HC5:=Zaa hcut.2;have HA:=Zaa hcut.1;obtain⟨hpV0,hix0,hfr0⟩:=Zke U.ac ix;have hpV:p < V.ac.length:=by rw [hV,HP.o];exact hpV0
 have HVA:Hd (∀ a ∈ V.ac,1<=a.ix/\a.ix<=1000/\a.fr.length<=1000/\Asc a.fr):=by unfold Hd;rw [hV];exact ZgG HAI.o ⟨h1,h2,Nat.zero_le _,fun a b ha=>absurd ha (Nat.not_lt_zero _)⟩
 have hVl:V.ac.length<=1001:=by rw [hV];have:=ZgI U.ac ix;show (Zcg U.ac ix).length<=_;omega
 have HVE:=Zaa hV;have HVD:Hd (V.dk=U.dk):=by unfold Hd;rw [hV]
 clear hcut hV hpV0 hix0 hfr0;obtain⟨b2,m2,S2,hR⟩:=HA.o.wz
 have HB0:Hd (b2 0=b 0/\m2 0=m 0):=by
  have q:=(hR.box.cell 5).symm.trans HC5.o;have q2:(Value.slice (b2 0) V.sf.sl.length (m2 0))=.slice (b 0) U.sf.sl.length (m 0):=Option.some.inj q;injection q2 with q3 q4 q5
  exact⟨q3,q5⟩
 clear HC5;have HR:=Zaa hR;clear hR;obtain⟨g,a1,c1,T,hb6,hm6,hcell,hfz,hgl,hgγ,hgK,hNR,hT,hturn⟩:=HR.o.inner6 hpV;have HT:=Zaa hT;have HTU:=Zaa hturn;have HNR:=Zaa hNR;have hfa:=HVA.o V.ac[p] (List.getElem_mem hpV);obtain⟨ff,hff⟩:∃ ff,ff=V.ac[p].fr:=⟨_,rfl⟩
 rw [<- hff] at hcell hfa HNR;have HFA:=Zaa hfa;obtain⟨an,han⟩:∃ an,an=V.ac.length:=⟨_,rfl⟩
 have x16:wc.cell? ⟨γ,16,none⟩=some (.slice (some ⟨g,0,none⟩) an (m2 6)):=by rw [han,<- hb6];exact HR.o.box.cell 16
 have x_0:wc.cell? ⟨w.heap.size,0,none⟩=some (.pointer (some ⟨γ,0,none⟩)):=HA.o.c0;have i0:(0:Int)<=(p:Int):=by omega
 have i1:(p:Int) < (an:Int):=by omega
 have hmc:an<=m2 6:=by omega
 have HAN:=Zaa han;have HFF:=Zaa hff;have hwsz:=HA.o.sz;clear hT hturn hNR hff hfa han hm6
 go_upto_region 4 with fail
 refine Code.wp_mono NoPanic.imp ?_;refine Zan (S:=fun W=>W.cell? ⟨w.heap.size,0,none⟩=some (.pointer (some ⟨γ,0,none⟩))/\W.cell? ⟨γ,16,none⟩=some (.slice (some ⟨g,0,none⟩) an (m2 6))/\W.cell? ⟨g,p*2+1,none⟩=some (.slice a1 ff.length c1)) [17,18,19] (by kernel_rfl) ⟨x_0,x16,hcell⟩ (fun hHeld=>?_);refine tB 0 (.pointer (some ⟨w.heap.size,0,none⟩)) [1,2,3,4,17,18,19] rfl hHeld ?_
 try simp only [Act.put,sLs]
 refine tB 1 (.pointer (some ⟨γ,0,none⟩)) [2,3,4,17,18,19] rfl hHeld ?_
 try simp only [Act.put,sLs]
 refine tB 2 (.pointer (some ⟨γ,0,none⟩)) [3,4,17,18,19] rfl hHeld ?_
 try simp only [Act.put,sLs]
 refine tB 3 (.pointer (some ⟨γ,16,none⟩)) [4,17,18,19] rfl hHeld ?_
 try simp only [Act.put,sLs]
 refine tB 4 (.slice (some ⟨g,0,none⟩) an (m2 6)) [17,18,19] rfl hHeld ?_
 try simp only [Act.put,sLs]
 refine tB 5 (.int .i64 (p:Int)) [17,18,19] rfl hHeld ?_
 try simp only [Act.put,sLs]
 refine tB 6 (.pointer (some ⟨w.heap.size,0,none⟩)) [7,8,9,10,12,13,14,16,17,18,19] rfl hHeld ?_
 try simp only [Act.put,sLs]
 refine tB 7 (.pointer (some ⟨γ,0,none⟩)) [8,9,10,12,13,14,16,17,18,19] rfl hHeld ?_
 try simp only [Act.put,sLs]
 refine tB 8 (.pointer (some ⟨γ,0,none⟩)) [9,10,12,13,14,16,17,18,19] rfl hHeld ?_
 try simp only [Act.put,sLs]
 refine tB 9 (.pointer (some ⟨γ,16,none⟩)) [10,12,13,14,16,17,18,19] rfl hHeld ?_
 try simp only [Act.put,sLs]
 refine tB 10 (.slice (some ⟨g,0,none⟩) an (m2 6)) [12,13,14,16,17,18,19] rfl hHeld ?_
 try simp only [Act.put,sLs]
 refine tB 11 (.int .i64 (p:Int)) [12,13,14,16,17,18,19] rfl hHeld ?_
 try simp only [Act.put,sLs]
 refine tB 12 (.pointer (some ⟨g,p*2,none⟩)) [13,14,16,17,18,19] rfl hHeld ?_
 try simp only [Act.put,sLs]
 refine tB 13 (.pointer (some ⟨g,p*2+1,none⟩)) [14,16,17,18,19] rfl hHeld ?_
 try simp only [Act.put,sLs]
 refine tB 14 (.slice a1 ff.length c1) [16,17,18,19] rfl hHeld ?_
 try simp only [Act.put,sLs]
 refine tB 15 (.int .i64 n) [16,17,18,19] rfl hHeld ?_
 try simp only [Act.put,sLs]
 refine oB 16 rfl (fun K hK=>?_)
 go_simp
 have hd:Below wc.heap.size wc wc.drew:=Zb_.drew;refine (ZfI T _ ff n _ (HNR.o.kept (K:=fun k=>k < wc.heap.size) (Zag.below hd fun _ h=>h) (fun k hk=>(HR.o.cp.seg 6 (by decide) k (HT.o k hk).1).2)) (by have:=HFA.o;omega) HFA.o.2.2.2).mono ?_;rintro e w2 ⟨v',rfl,ht0,hrow0⟩;have ht:Zaj T wc w2:=⟨ht0.os,ht0.tape,ht0.output,ht0.size,ht0.block⟩;have hrow:NRS inL 1 w2 (Gr T wc w2) v' (ZbD ff n):=hrow0;clear ht0 hrow0 hd;obtain⟨S3,hRz,hKp⟩:=HTU.o w2 v' (ZbD ff n) ht hrow;obtain⟨a',c',hv'⟩:=hrow.form;subst hv';have hkp:Zag (fun k=>k < wc.heap.size/\¬ T k) wc w2:=Zag.touchS ht fun _ h=>h
 have BG:=Zaa (HR.o.box.kept hkp ⟨HR.o.box.lt,fun h=>HR.o.far 6 (by decide) (HT.o _ h).1⟩);have BX3:=Zaa (HA.o.bx.kept hkp ⟨HA.o.bx.lt,fun h=>(HR.o.prot _ (Or.inr ⟨by omega,by omega⟩)).2.2 6 (by decide) (HT.o _ h).1⟩);have z16:w2.cell? ⟨γ,16,none⟩=some (.slice (some ⟨g,0,none⟩) an (m2 6)):=by rw [HAN.o,<- hb6];exact BG.o.cell 16
 have z_0:w2.cell? ⟨w.heap.size,0,none⟩=some (.pointer (some ⟨γ,0,none⟩)):=BX3.o.cell 0;have zc:w2.cell? ⟨g,p*2+1,none⟩=some (.slice a1 ff.length c1):=(hkp.cell (p:=⟨g,p*2+1,none⟩) ⟨hgl,fun h=>(HT.o _ h).2 rfl⟩).trans hcell;have zf:∀ j,w2.frozen? ⟨g,j,none⟩=false:=fun j=>(hkp.frozen (p:=⟨g,j,none⟩) ⟨hgl,fun h=>(HT.o _ h).2 rfl⟩).trans (hfz j)
 obtain⟨nl,hnl⟩:∃ nl,nl=(ZbD ff n).length:=⟨_,rfl⟩
 rw [<- hnl] at hRz hKp |-;have HRZ:=Zaa hRz;have HKZ:=Zaa hKp;clear hnl hrow ht hkp hHeld hRz hKp;refine hK.out _ _ (fun _=>⟨z_0,z16,zc⟩) (fun _=>?_);clear hK
 try simp only [Act.put,sLs]
 refine oB 17 rfl (fun K hK=>?_)
 go_simp
 refine hK.out _ _ (fun h=>absurd (by decide) h) (fun _=>?_);clear hK K
 try simp only [Act.put,sLs]
 refine oB 18 rfl (fun K hK=>?_)
 go_simp
 refine hK.out _ _ (fun h=>absurd (by decide) h) (fun _=>?_);clear hK K
 try simp only [Act.put,sLs]
 refine oB 19 rfl (fun K hK=>?_)
 go_simp
 refine hK.out _ _ (fun h=>absurd (by decide) h) (fun _=>?_);clear hK K
 try simp only [Act.put,sLs]
 refine Zak (by kernel_rfl) ?_ _;refine NoPanic.normal ?_;clear z16 z_0 zc zf x_0 x16 hcell hfz;obtain⟨w3,hw3⟩:∃ w3,w3=w2.setCell ⟨g,p*2+1,none⟩ (.slice a' nl c'):=⟨_,rfl⟩
 rw [<- hw3] at HRZ HKZ |-;clear hw3;obtain⟨V3,hV3⟩:∃ V3:Rr,V3={ V with ac:=V.ac.set p { V.ac[p] with fr:=ZbD ff n } }:=⟨_,rfl⟩
 rw [<- hV3] at HRZ;have HA3:Hd (At KP lo w w3 γ ρ 1 V3):=HA.o.step HKZ.o ⟨_,_,_,HRZ.o⟩
 have HV3:Hd (ZcR U ix n=Zcv V3):=by
  unfold Hd ZcR;rw [hV3]
  congr 1
  rw [<- HP.o];have e1:V.ac=Zcg U.ac ix:=by rw [HVE.o]
  have e2:∀ X,({ U with ac:=X }:Rr)={ V with ac:=X }:=fun X=>by rw [HVE.o]
  rw [e2];unfold Zd1;rw [<- e1,List.getElem?_eq_getElem hpV,HFF.o]
 have h3l:V3.ac.length=an:=by rw [hV3,HAN.o];show (V.ac.set _ _).length=_;rw [List.length_set]
 have H3A:Hd (∀ i (h:i < V3.ac.length),(1<=V3.ac[i].ix/\V3.ac[i].ix<=1000)/\V3.ac[i].fr.length<=1001):=fun i hi=>by
  have hm:=List.getElem_mem hi;generalize V3.ac[i]=z at hm |-;rw [hV3] at hm
  rcases List.mem_or_eq_of_mem_set hm with h | h
  . have:=HVA.o z h;omega
  . rw [h]
    have q:=HVA.o V.ac[p] (List.getElem_mem hpV);have:=ZbU ff n;have:=HFA.o;exact⟨⟨q.1,q.2.1⟩,by show (ZbD ff n).length<=_;omega⟩
 have H3D:Hd (V3.dk=U.dk):=by unfold Hd;rw [hV3];exact HVD.o
 have HAO:Hd (∀ i,i<=V3.ac.length->Zhx V3 (ZfK V3 i)):=ZfO (by rw [H3D.o];exact h0) (by rw [H3D.o];exact hk1) (fun i hi=>(H3A.o i hi).1);have h3s:V3.dk.sl.length<=1000:=by rw [H3D.o];exact hl
 have x16:w3.cell? ⟨γ,16,none⟩=some (.slice (some ⟨g,0,none⟩) an (m2 6)):=by rw [<- h3l,<- hb6];exact HRZ.o.box.cell 16
 have x_0:w3.cell? ⟨w.heap.size,0,none⟩=some (.pointer (some ⟨γ,0,none⟩)):=HA3.o.c0;clear hV3 HA HR HKZ HTU HNR HT;go_wp2;clear x16 x_0;have HLP:Hd (ZfK V3 0=V3):=rfl;have hanl:an<=1001:=by have:=HAN.o;omega
 go_loopw [62] (fun iv wr=>∃ i:Nat,iv=.int .i64 i/\i<=an/\At KP lo w wr γ ρ 1 (ZfK V3 i)/\Rz (KN KP w 1) lo wr γ b2 m2 S3 (ZfK V3 i)) (fun iv _=>an - (intOf iv).toNat)
 case atStart=>exact⟨0,rfl,by omega,HA3.o,HRZ.o⟩
 case round=>
  obtain⟨i,rfl,hi,ha,hr⟩:=hrel;clear HA3 HRZ;have HA:=Zaa ha;have HR:=Zaa hr;clear ha hr
  by_cases hlt:i < an
  . have d1:decide ((i:Int) < (an:Int))=true:=by simp;omega
    have hi3:i < V3.ac.length:=by omega
    obtain⟨Q,hQ⟩:∃ Q,Q=ZfK V3 i:=⟨_,rfl⟩
    have hof:=HAO.o i (by omega);rw [<- hQ] at HA HR hof;have hqa:Q.ac=V3.ac:=by rw [hof.e]
    have hqs:Q.dk.sl=V3.dk.sl:=by rw [hof.e]
    have hk0:=hof.k0;have hk9:=hof.k1;obtain⟨a,ha⟩:∃ a,a=V3.ac[i]:=⟨_,rfl⟩
    have HST:Hd (ZfK V3 (i+1)=adv1 Q a):=by unfold Hd;rw [Zc8 hi3,<- hQ,<- ha]
    have hA3:=H3A.o i hi3;rw [<- ha] at hA3;obtain⟨ha1,ha2⟩:=hA3.1;have haf:=hA3.2;have HBI:=Zaa (Zj8 Q a ha1);obtain⟨L,hmap,hrows,-⟩:=HR.o.acks6;have hll:L.length=an:=by rw [<- h3l,<- hqa,<- hmap,List.length_map]
    obtain⟨g',e1,-,-,-,hf⟩:∃ g',b2 6=some ⟨g',0,none⟩/\True/\True/\True/\FR axL 2 wr g' (g'+1) g' (m2 6) L:=by
     rcases hrows with ⟨e1,_,_⟩ | ⟨g',e1,_,_,_,hf⟩
     . rw [hb6] at e1;cases e1
     . exact⟨g',e1,trivial,trivial,trivial,hf⟩
    obtain rfl:g'=g:=by rw [hb6] at e1;injection e1 with e1;injection e1 with e1;exact e1.symm
    have hiL:i < L.length:=by omega
    have hLi:L[i].1=a:=by
     have h9:(L.map (·.1))[i]?=V3.ac[i]?:=by rw [hmap,hqa]
     rw [List.getElem?_map,List.getElem?_eq_getElem hiL,List.getElem?_eq_getElem hi3] at h9;simp only [Option.map_some,Option.some.injEq] at h9;rw [ha];exact h9
    obtain⟨ya,yc,hyy⟩:∃ ya yc,wr.cell? ⟨g',i*2+1,none⟩=some (.slice ya a.fr.length yc):=⟨_,_,by have:=hf.get Zar hiL (t:=1) (by omega) (v:=.slice L[i].2.1 L[i].1.fr.length L[i].2.2) rfl;rw [hLi] at this;exact this⟩
    have yx:wr.cell? ⟨g',i*2,none⟩=some (.int .i64 a.ix):=by have:=hf.get Zar hiL (t:=0) (by omega) (v:=.int .i64 L[i].1.ix) rfl;rw [hLi] at this;exact this
    have i0:(0:Int)<=(i:Int):=by omega
    have i1:(i:Int) < (an:Int):=by omega
    have HOF:=Zaa hof;have HQQ:=Zaa hQ;clear hQ ha hmap hrows hf hLi hll hqa hA3 hof e1;have hqsl:Q.dk.sl.length<=1000:=by rw [hqs];exact h3s
    clear hqs
    go_upto_region 8 with fail
    clear yx hyy d1;obtain⟨w5,hw5,FB,hb5⟩:∃ w5,w5=wr.alloc (.cells #[.int .i64 a.ix,.slice ya a.fr.length yc] 170)/\Hd (Box w5 wr.heap.size #[.int .i64 a.ix,.slice ya a.fr.length yc])/\Below wr.heap.size wr w5:=⟨_,rfl,Box.new _ _ _ _ rfl,Zab _ _⟩
    rw [<- hw5];clear hw5;replace HA:=Zaa (HA.o.on hb5);replace HR:=Zaa (HR.o.on hb5);clear hb5;have w64:IntKind.wrap .i64 (Q.dk.kn+1)=Q.dk.kn+1:=by rw [IntKind.wrap_i64];omega
    go_cut [92] (fun c wc=>c=.bool (Zj7 Q a)/\Below w5.heap.size w5 wc)
    case first=>
     have xn:Nonempty (In (Up w5)):=⟨⟨w5,Below.refl _ _⟩⟩;have xs:=fun (X:In (Up w5))=>Zbc X
     have f0:∀ X:In (Up w5),X.w.cell? ⟨wr.heap.size,0,none⟩=some (.int .i64 a.ix):=fun X=>Up.cell X (FB.o.cell 0)
     have f1:∀ X:In (Up w5),X.w.cell? ⟨wr.heap.size,1,none⟩=some (.slice ya a.fr.length yc):=fun X=>Up.cell X (FB.o.cell 1)
     have r0:∀ X:In (Up w5),X.w.cell? ⟨w.heap.size,0,none⟩=some (.pointer (some ⟨γ,0,none⟩)):=fun X=>Up.cell X HA.o.c0
     have r1:∀ X:In (Up w5),X.w.cell? ⟨w.heap.size,1,none⟩=some (.func (.func 177) #[] #[.pointer (some ⟨ρ,0,none⟩)]):=fun X=>Up.cell X HA.o.c1
     have k7:∀ X:In (Up w5),X.w.cell? ⟨γ,7,none⟩=some (.int .i64 Q.dk.kn):=fun X=>Up.cell X (HR.o.box.cell 7)
     have k13:∀ X:In (Up w5),X.w.cell? ⟨γ,13,none⟩=some (.int .i64 Q.ba):=fun X=>Up.cell X (HR.o.box.cell 13)
     refine Zaf (Up w5) (by kernel_rfl) (by kernel_rfl) (Zb_.drew) ?_
     cases c1:(a.ix == Q.dk.kn+1) with
     | false=>
      repeat (go_big_quiet_step (fail))
      refine wpQuiet_nil ?_;intro wn hw;obtain⟨X,hX⟩:=hw;have HWN:Below w5.heap.size w5 wn:=by rw [hX];exact X.h
      clear hX X f0 f1 r0 r1 k7 k13 xs xn;go_wp2;go_meet;exact⟨congrArg Value.bool (by rw [HBI.o,c1];rfl),HWN⟩
     | true=>
     cases c2:decide (Q.of < 2*(a.fr.length:Int)) with
     | false=>
      repeat (go_big_quiet_step ((first|(go_at_call 205;rename_i X;exact (Zde (KN KP w 1) lo _ γ ρ Q ya a.fr.length yc (HA.o.wk.on X.h) (by omega)).mono fun _ _ h=>⟨h.1.trans (rb c2),Up.next X h.2⟩))))
      refine wpQuiet_nil ?_;intro wn hw;obtain⟨X,hX⟩:=hw;have HWN:Below w5.heap.size w5 wn:=by rw [hX];exact X.h
      clear hX X f0 f1 r0 r1 k7 k13 xs xn;go_wp2;go_meet;exact⟨congrArg Value.bool (by rw [HBI.o,c1,c2];rfl),HWN⟩
     | true=>
     cases c3:Zj1 Q.dk.sl a.ix Q.ba with
     | false=>
      repeat (go_big_quiet_step ((first|(go_at_call 205;rename_i X;exact (Zde (KN KP w 1) lo _ γ ρ Q ya a.fr.length yc (HA.o.wk.on X.h) (by omega)).mono fun _ _ h=>⟨h.1.trans (rb c2),Up.next X h.2⟩)|(go_at_call 218;rename_i X;exact (ZeL (KN KP w 1) lo _ γ ρ Q a.ix Q.ba (HA.o.wk.on X.h) ha1 (by omega) (by omega)).mono fun _ _ h=>⟨h.1.trans (rb c3),Up.next X h.2⟩))))
      refine wpQuiet_nil ?_;intro wn hw;obtain⟨X,hX⟩:=hw;have HWN:Below w5.heap.size w5 wn:=by rw [hX];exact X.h
      clear hX X f0 f1 r0 r1 k7 k13 xs xn;go_wp2;go_meet;exact⟨congrArg Value.bool (by rw [HBI.o,c1,c2,c3];rfl),HWN⟩
     | true=>
      repeat (go_big_quiet_step ((first|(go_at_call 205;rename_i X;exact (Zde (KN KP w 1) lo _ γ ρ Q ya a.fr.length yc (HA.o.wk.on X.h) (by omega)).mono fun _ _ h=>⟨h.1.trans (rb c2),Up.next X h.2⟩)|(go_at_call 218;rename_i X;exact (ZeL (KN KP w 1) lo _ γ ρ Q a.ix Q.ba (HA.o.wk.on X.h) ha1 (by omega) (by omega)).mono fun _ _ h=>⟨h.1.trans (rb c3),Up.next X h.2⟩))))
      refine wpQuiet_nil ?_;intro wn hw;obtain⟨X,hX⟩:=hw;have HWN:Below w5.heap.size w5 wn:=by rw [hX];exact X.h
      clear hX X f0 f1 r0 r1 k7 k13 xs xn;go_wp2;go_meet;exact⟨congrArg Value.bool (by rw [HBI.o,c1,c2,c3];rfl),HWN⟩
    case rest=>
    obtain⟨rfl,hbc⟩:=hcut;replace HA:=Zaa (HA.o.on hbc);replace HR:=Zaa (HR.o.on hbc);replace FB:=Zaa (FB.o.on hbc);have hsw:wr.heap.size < wc.heap.size:=FB.o.lt
    clear hbc w64
    cases hq:Zj7 Q a with
    | false=>
     have HE:Hd (adv1 Q a=Q):=by unfold Hd adv1;rw [hq];rfl
     rw [HE.o] at HST;go_wp2;go_roundw
     . exact⟨i+1,by go_num,by omega,by rw [HST.o];exact HA.o,by rw [HST.o];exact HR.o⟩
     . simp [intOf];omega
    | true=>
     have HE:Hd (adv1 Q a={ Q with dk:={ Q.dk with kn:=a.ix } }):=by unfold Hd adv1;rw [hq];rfl
     rw [HE.o] at HST;have x_0:wc.cell? ⟨w.heap.size,0,none⟩=some (.pointer (some ⟨γ,0,none⟩)):=HA.o.c0;have x7:wc.cell? ⟨γ,7,none⟩=some (.int .i64 Q.dk.kn):=HR.o.box.cell 7;have y0:wc.cell? ⟨wr.heap.size,0,none⟩=some (.int .i64 a.ix):=FB.o.cell 0;have gf:=HR.o.box.free;go_wp2_with fail;clear x_0 x7 y0 gf;have hp:=HR.o.scal (U':={ Q with dk:={ Q.dk with kn:=a.ix } }) (j:=7) (v:=.int .i64 a.ix) (by show 7 < 18;omega) rfl (fun _ h=>⟨h.seg,h.ap,h.o0,h.o1,h.o2,h.o3,h.o4,h.o5,h.o6⟩);have hA:=HA.o.step hp.2 ⟨_,_,_,hp.1⟩;obtain⟨w7,hw7⟩:∃ w7,w7=wc.setCell ⟨γ,7,none⟩ (.int .i64 a.ix):=⟨_,rfl⟩
     rw [<- hw7] at hp hA |-;have HPP:=Zaa hp.1;have HAA:=Zaa hA;clear hp hA hw7;go_wp2;go_roundw
     . exact⟨i+1,by go_num,by omega,by rw [HST.o];exact HAA.o,by rw [HST.o];exact HPP.o⟩
     . simp [intOf];omega
  . have d1:decide ((i:Int) < (an:Int))=false:=by simp;omega
    obtain rfl:i=an:=by omega
    have HE:Hd (ZcR U ix n=ZfK V3 i):=by unfold Hd;rw [HV3.o,<- ZeT,h3l]
    go_wp2
    go_end0
    rw [HE.o];exact⟨rfl,HA.o.fin.1,HA.o.fin.2,b2,m2,S3,HR.o.shield Zb_ (fun k hk=>Or.inl (Or.inl hk)),HB0.o.1,HB0.o.2⟩
end Go.Proofs.YtdeammfdkaomlaaGreat
