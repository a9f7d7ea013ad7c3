import Derived.Test.YtmappejlmapboaaGreatD47
import Derived.Test.YtmappejlmapboaaGreatD48
set_option maxHeartbeats 16000000
set_option maxRecDepth 100000
open Go.Proofs.Tryz
namespace Go.Proofs.YtmappejlmapboaaGreat
open Go.RowKit Go.Deep Go.Shelf Go.Maps
def ZfS (W0:World) (Os:List Ob) (S:Nat->List Nat) (R:Nat->Prop) (mb b1 b2 b3 b4:Nat) (M:Nat->Bool):Prop:=
 ∀ (p:Nat) (w:World) (N:Nat) (D:DataW Value),p < Os.length->R p->W0.grownBy w (some mb)->w.ownsMap prog 153 Zcu mb N D->ZfB Os D M->N+ZeD Os.length M<=Os.length->
  Calls prog 163 #[.int .i64 p,.pointer (some ⟨b1,0,none⟩),.pointer (some ⟨b2,0,none⟩),.pointer (some ⟨b3,0,none⟩),.pointer (some ⟨b4,0,none⟩)] w
   fun e w'=>e=.returned (.tuple #[])/\∃ (M':Nat->Bool) (N':Nat) (D':DataW Value),W0.grownBy w' (some mb)/\w'.ownsMap prog 153 Zcu mb N' D'/\ZfB Os D' M'/\N'+ZeD Os.length M'<=Os.length/\Met S R M M'/\M' p=true
theorem ZlW (lo:Nat) (W0:World) (Os:List Ob) (S:Nat->List Nat) (R:Nat->Prop) (mb b1 b2 b3 b4 lb N1 base:Nat) (ov:Value) (D1:DataW Value) (M:Nat->Bool) (hO:Za3 lo W0 ov Os) (hn:Os.length<=1048576) (hd:Zhl Os)
 (x1:Box W0 b1 #[.map (some mb)]) (x2:Box W0 b2 #[ov]) (x3:Box W0 b3 #[.map (some lb)])
 (x4:Box W0 b4 #[.func (.func 163) #[] #[.pointer (some ⟨b1,0,none⟩),.pointer (some ⟨b2,0,none⟩),.pointer (some ⟨b3,0,none⟩),.pointer (some ⟨b4,0,none⟩)]])
 (hm:b1≠mb/\b2≠mb/\b3≠mb/\b4≠mb/\lb≠mb/\∀ g,ov.ownBlock=some g->g≠mb)
 (hl:W0.ownsMap prog 153 Zcu lb N1 D1)
 (hrow:∀ k (h:k < Os.length),∃ v,D1.atKey (ZbI Os[k].kd Os[k].nm) (.held (.slice none 0 0))=.held v/\(∀ g,v.ownBlock=some g->g≠mb)/\W0.ownsRow base 3 1 v (ZdR (S k)).length ((ZdR (S k)).map (Value.int .i64)))
 (hS:∀ k,k < Os.length->∀ y ∈ S k,y < Os.length) (hR:∀ k,R k->∀ y ∈ S k,R y)
 (IH:∀ M':Nat->Bool,ZeD Os.length M' < ZeD Os.length M->ZfS W0 Os S R mb b1 b2 b3 b4 M'):ZfS W0 Os S R mb b1 b2 b3 b4 M:=fun p w N D hp hRp hg hown hD hN=>by
 have HO:=Zab hO;have HD:=Zab hd;have HX1:=Zab x1;have HX2:=Zab x2;have HX3:=Zab x3;have HX4:=Zab x4;have HM:=Zab hm;have HL:=Zab hl;have HRO:=Zab hrow;have HS:=Zab hS;have HR:=Zab hR;have HIH:=Zab IH;have HG:=Zab hg;have HOw:=Zab hown;have HDD:=Zab hD;obtain⟨oa,ocap,rfl⟩:=hO.form;obtain⟨b,off,rfl,hbw,-,hc⟩:=hO.full' (by omega);obtain⟨hs,vv0,vv1,hcell,hv0,hv1⟩:=hc p hp
 have HBS:Hd (∀ W,W0.grownBy W (some mb)->Box W b1 #[.map (some mb)]/\Box W b2 #[.slice (some ⟨b,off,none⟩) Os.length ocap]/\Box W b3 #[.map (some lb)]/\Box W b4 #[.func (.func 163) #[] #[.pointer (some ⟨b1,0,none⟩),.pointer (some ⟨b2,0,none⟩),.pointer (some ⟨b3,0,none⟩),.pointer (some ⟨b4,0,none⟩)]]):=fun W hW=>by
  obtain⟨n1,n2,n3,n4,-⟩:=hm;exact⟨x1.row hW (fun e=>by injection e with e;exact n1 e.symm),x2.row hW (fun e=>by injection e with e;exact n2 e.symm),x3.row hW (fun e=>by injection e with e;exact n3 e.symm),x4.row hW (fun e=>by injection e with e;exact n4 e.symm)⟩
 have hlm:lb≠mb:=hm.2.2.2.2.1;have hbm:b≠mb:=hm.2.2.2.2.2 b rfl
 have HCE:Hd (∀ W,W0.grownBy W (some mb)->Zci W b (off+p*7) Os[p] vv0 vv1):=fun W hW=>by
  have e:W.heap[b]?=W0.heap[b]?:=hW.block b hbw (fun e=>by injection e with e;exact hbm e);have c:∀ o,W.cell? ⟨b,o,none⟩=W0.cell? ⟨b,o,none⟩:=fun o=>World.cell?_of_block (a:=⟨b,o,none⟩) e
  exact⟨by rw [c];exact hcell.c0,by rw [c];exact hcell.c1,by rw [c];exact hcell.c2,by rw [c];exact hcell.c3,by rw [c];exact hcell.c4,by rw [c];exact hcell.c5,by rw [c];exact hcell.c6⟩
 obtain⟨va,vc,rfl⟩:=hv0.at.form';obtain⟨ha,hc',rfl⟩:=hv1.at.form';have HZ:=Zab hs;obtain⟨y1,y2,y3,y4⟩:=HBS.o w hg;obtain⟨c0,c1,c2,c3,c4,c5,c6⟩:=HCE.o w hg;clear hO hd x1 x2 x3 x4 hm hl hrow hS hR IH hg hown hD hc hcell hv0 hv1 hs;have hi0:(0:Int)<=(p:Int):=by omega
 have hi1:(p:Int) < (Os.length:Int):=by omega
 have z1:=y1.cell;have z2:=y2.cell;go_enter func163,ntmps163
 have HH:Hd (∀ W,W.heap=w.heap->Calls prog 120 #[.map (some mb),.agg #[.string Os[p].kd,.string Os[p].nm,.string Os[p].tm,.slice va Os[p].vs.length vc,.bool Os[p].en,.slice ha Os[p].hs.length hc',.int .i64 Os[p].ver]] W fun e w'=>e=.returned (.bool (M p))/\Below W.heap.size W w'):=fun W hW=>
  ZgL Os M p mb N D _ _ _ _ _ _ W HD.o hp HZ.o.s0 HZ.o.s1 (ZcA HOw.o (by rw [hW])) HDD.o
 go_wp2_with fail
 go_region_with (go_at_call 120;refine (HH.o _ (by first | rfl | simp|(unfold World.drew;rfl))).mono ?_;rintro e w1 ⟨rfl,hb1⟩)
 all_goals
  have HG1:Hd (W0.grownBy w1 (some mb)):=HG.o.trans (ZaN (bt (Zb_.drew) hb1) _);have HO1:Hd (w1.ownsMap prog 153 Zcu mb N D):=HOw.o.kept (ZaN (bt (Zb_.drew) hb1) none) (fun e=>by cases e);clear hb1 c0 c1 c2 c3 c4 c5 c6 y1 y2 y3 y4 z1 z2
  cases hMp:M p with
  | true=>
   go_wp2;refine bodyPost_ret (results_none rfl _ _ _) rfl ?_;exact⟨rfl,M,N,D,HG1.o,HO1.o,HDD.o,hN,Met.refl M,hMp⟩
  | false=>
   obtain⟨y1,y2,y3,y4⟩:=HBS.o w1 HG1.o;obtain⟨c0,c1,c2,c3,c4,c5,c6⟩:=HCE.o w1 HG1.o;have z2:=y2.cell;go_wp2_with fail;refine (Zcb Os[p] _ _ _ _ _ _ _).mono ?_;rintro e w2 ⟨rfl,hb2⟩;have HG2:Hd (W0.grownBy w2 (some mb)):=HG1.o.trans (ZaN hb2 _);have HO2:Hd (w2.ownsMap prog 153 Zcu mb N D):=HO1.o.kept (ZaN hb2 none) (fun e=>by cases e);have HW3:Hd (W0.grownBy (w2.alloc (.cells #[.string Os[p].kd,.string Os[p].nm] 153)) (some mb)):=HG2.o.trans ((World.grownBy_alloc w2 _ none).but _);have ho3:(w2.alloc (.cells #[.string Os[p].kd,.string Os[p].nm] 153)).ownsMap prog 153 Zcu mb N D:=HO2.o.alloc _;obtain⟨q1,q2,q3,q4⟩:=HBS.o _ HW3.o;have z1:=q1.cell;clear hb2 c0 c1 c2 c3 c4 c5 c6 y1 y2 y3 y4 z2;have hm2:=HO2.o.lt;have hNm:N < maxLen:=by unfold maxLen;omega
   go_wp2_with (at_mapUpdate;refine wpList_mapUpdate_own _ rfl _ _ _ 147 rfl 153 3 ZcJ underlying147 Zcu mb N D rfl ho3 hNm _ _ _ rfl rfl (Zc1.mk' HZ.o.s0 HZ.o.s1) (.held (.int .i64 (p:Int))) [] rfl ?_;intro w4 ho4 hg4;refine Hd.o ?_);have HO4:Hd (w4.ownsMap prog 153 Zcu mb (N+1) _):=ho4;have HG4:Hd (W0.grownBy w4 (some mb)):=HW3.o.trans hg4;obtain⟨r1,r2,r3,r4⟩:=HBS.o w4 HG4.o;have z3:=r3.cell;have e6:=hg4.block w2.heap.size (by simp) (fun e=>by injection e with e;omega);have k0:=(World.cell?_of_block (a:=⟨w2.heap.size,0,none⟩) e6).trans (ZaJ w2 _ _ _ 0 rfl);have k1:=(World.cell?_of_block (a:=⟨w2.heap.size,1,none⟩) e6).trans (ZaJ w2 _ _ _ 1 rfl);have hmap:w4.ownsMap prog 153 Zcu lb N1 D1:=HL.o.kept HG4.o (fun e=>by injection e with e;exact hlm e)
   obtain⟨v,ps,hlook,hv⟩:=hmap.lookup ZcJ underlying150 (z:=.slice none 0 0) (by rfl) (zd:=.held (.slice none 0 0)) (zp:=[]) rfl (Zc1.mk' HZ.o.s0 HZ.o.s1)
   have hat:D1.atKey (ZbI Os[p].kd Os[p].nm) (.held (.slice none 0 0))=.held v:=by
    have h1:some (DataW.held v,([]:List MemPlace))=some (D1.atKey (ZbI Os[p].kd Os[p].nm) (.held (.slice none 0 0)),ps):=hv;injection h1 with h1
    injection h1 with h1 _
    exact h1.symm
   obtain⟨v',h1,hnb,hrow⟩:=HRO.o p hp;rw [hat] at h1;injection h1 with h1
   subst h1;have HROW:Hd (∀ W,W0.grownBy W (some mb)->W.ownsRow base 3 1 v (ZdR (S p)).length ((ZdR (S p)).map (Value.int .i64))):=fun W hW=>ZdC hrow hW (fun g e e'=>by injection e' with e';exact hnb g e e')
   obtain⟨ga,gcap,hvf⟩:=(Zd0 (HROW.o _ HG4.o)).form;subst hvf;have HD4:=Zab (HDD.o.step HD.o hp HZ.o.s0 HZ.o.s1);have hlt4:=Zph hp hMp;have hN4:N+1+ZeD Os.length (fun x=>M x || x == p)<=Os.length:=by omega
   have HA4:=Zab (Zd8.start (S:=S) (R:=R) (M:=M) hRp);have HUM:=Zab hlt4
   have HCL:Hd (∀ W,W0.grownBy W (some mb)->∀ j (hj:j < (S p).length),∃ rb roff,ga=some ⟨rb,roff,none⟩/\W.cell? ⟨rb,roff+j,none⟩=some (.int .i64 ((S p)[j]:Nat))):=fun W hW j hj=>by
    have hjn:j < (ZdR (S p)).length:=by rw [ZeV];exact hj
    rcases Zd0 (HROW.o _ hW) with ⟨_,_,_,h0⟩ | ⟨rb,roff,rcap,hv,_,_,hrb,hcells,_⟩
    . rw [h0] at hjn
      simp at hjn
    . injection hv with hv1 _ hv3
      have hcj:=hcells j hjn;rw [ZrQ hj] at hcj;exact⟨rb,roff,hv1,hcj⟩
   have hgb:(S p).length<=9223372036854775807:=by
    rcases Zd0 (HROW.o _ HG4.o) with ⟨_,_,_,h0⟩ | ⟨_,_,_,_,_,h0,_⟩
    . have:=ZeV (S p)
      rw [h0] at this;simp at this
      omega
    . rw [ZeV] at h0
      exact h0
   have HSY:Hd (∀ j (hj:j < (S p).length),(S p)[j] < Os.length/\R (S p)[j]):=fun j hj=>⟨HS.o p hp _ (List.getElem_mem hj),HR.o p hRp _ (List.getElem_mem hj)⟩
   clear ho4 hg4 e6 hmap hv hat hrow hnb r1 r2 r3 r4 hlt4 hN ho3 z1 HROW;refine Zab ?_;rw [ZeV] at hlook;generalize hgn:(ZdR (S p)).length=gn;rw [ZeV] at hgn;have HGN:=Zab hgn;rw [hgn] at hlook hgb;clear hgn;go_wp2
   go_loopw [27] (fun q wr=>∃ j:Nat,q=.int .i64 j/\j<=gn/\W0.grownBy wr (some mb)/\∃ (M':Nat->Bool) (N':Nat) (D':DataW Value),wr.ownsMap prog 153 Zcu mb N' D'/\ZfB Os D' M'/\N'+ZeD Os.length M'<=Os.length/\Zd8 S R M p ((S p).take j) M') (fun q _=>gn - (intOf q).toNat)
   case atStart=>exact⟨0,rfl,Nat.zero_le _,HG4.o,_,_,_,HO4.o,HD4.o,hN4,HA4.o⟩
   case round=>
    obtain⟨j,rfl,hj,hg,M',N',D',ho,hsd,hnn,hma⟩:=hrel;have HGj:=Zab hg;have HOj:=Zab ho;have HSj:=Zab hsd;have HMA:=Zab hma;clear hg ho hsd hma HO4 HD4
    by_cases hjl:j < gn
    . have hjs:j < (S p).length:=by have:=HGN.o;omega
      obtain⟨rb,roff,rfl,hcj⟩:=HCL.o wr HGj.o j hjs;obtain⟨hyl,hyr⟩:=HSY.o j hjs;have HTK:Hd ((S p).take (j+1)=(S p).take j ++ [(S p)[j]]):=List.take_succ_eq_append_getElem hjs;generalize (S p)[j]=y at*
      have HUN:Hd (ZeD Os.length M' < ZeD Os.length M):=Nat.lt_of_le_of_lt (Zpi fun x hx=>by
       rw [Bool.or_eq_true,beq_iff_eq] at hx
       rcases hx with hx | rfl
       . exact HMA.o.mono x hx
       . exact HMA.o.self) HUM.o
      obtain⟨r1,r2,r3,r4⟩:=HBS.o wr HGj.o;have z4:=r4.cell;clear r1 r2 r3 r4;go_wp2_with fail;refine (HIH.o M' HUN.o y wr N' D' hyl hyr HGj.o HOj.o HSj.o hnn).mono ?_;rintro e w5 ⟨rfl,M2,N2,D2,hg5,ho5,hsd5,hnn5,hmet,hmy⟩;have HG5:=Zab hg5;have HO5:=Zab ho5;have HS5:=Zab hsd5;have HM5:=Zab (HTK.o.symm ▸ HMA.o.step hmet hmy);clear hg5 ho5 hsd5 hmet z4 hcj;go_wp2;go_roundw
      . exact⟨j+1,by go_num,by omega,HG5.o,M2,N2,D2,HO5.o,HS5.o,hnn5,HM5.o⟩
      . simp [intOf];omega
    . have hje:j=(S p).length:=by have:=HGN.o;omega
      have HE:=Zab (HMA.o);rw [hje,List.take_length] at HE;clear hje;go_wp2
      go_end0
      obtain⟨hmet,hmp⟩:=HE.o.end;exact⟨rfl,M',N',D',HGj.o,HOj.o,HSj.o,hnn,hmet,hmp⟩
end Go.Proofs.YtmappejlmapboaaGreat
