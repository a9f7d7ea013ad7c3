import Derived.Test.YtmappejlmapboaaGreatD39
set_option maxHeartbeats 16000000
set_option maxRecDepth 100000
open Go.Proofs.Tryz
namespace Go.Proofs.YtmappejlmapboaaGreat
section
open Go.RowKit Go.Deep
variable {w:World} {base g cap:Nat}
def ZaX (Os:List Ob) (i:Nat):Bool:=match Os[i]? with
 | some o=>decide (0 < o.hs.length)
 | none=>false
theorem Zqn {Os:List Ob}{i:Nat} (h:i < Os.length):ZaX Os i=decide (0 < Os[i].hs.length):=by unfold ZaX;rw [List.getElem?_eq_getElem h]
theorem Zkc {L:List Bool} (h:w.ownsRow base 4 1 (.slice (some ⟨g,0,none⟩) L.length cap) L.length (L.map Value.bool)) {i:Nat} (hi:i < L.length):w.cell? ⟨g,i,none⟩=some (.bool L[i]):=by
 obtain⟨g',e,_,_,hc⟩:=(Zch.of_row h).full (by omega);have:g=g':=by injection e with e;injection e
 subst this;exact hc i hi
theorem Zni {n:Nat}{xs:List Value} (h:w.ownsRow base 4 1 (.slice (some ⟨g,0,none⟩) n cap) n xs):base<=g/\g < w.heap.size:=by
 rcases h.2 with ⟨h1,_⟩ | ⟨g',cap',cur,h1,h2,h3,_⟩
 . cases h1
 . have:g=g':=by injection h1 with e;injection e with e;injection e
   subst this;exact⟨h2,(Array.getElem?_eq_some_iff.1 h3).1⟩
theorem ZiB (lo:Nat) (sv mv tv ov gv lv pv:Value) (g:Nat) (cap:Nat) (Ss:List Sh) (Ms:List Md) (Ts:List Tm) (B:Bk) (L:List Bool) (w:World) (hl:ZbH lo w sv mv tv Ss Ms Ts) (h:ZaU lo w ov gv lv pv B) (hs:ZfX Ss B.os) (hv:Zch w (.slice (some ⟨g,0,none⟩) B.os.length cap) L) (hg:g < w.heap.size) (hL:L.length=B.os.length) (hn:B.os.length<=1048576) :
 Calls prog 60 #[.agg #[sv,mv,tv],.agg #[.int .i64 B.now,.int .i64 B.tick,.int .i64 B.given,ov,gv,lv,pv],.slice (some ⟨g,0,none⟩) B.os.length cap] w
  fun e w'=>∃ g2 c2,e=.returned (.slice (some ⟨g2,0,none⟩) B.os.length c2)/\Zw_ w w'/\w'.ownsRow w.heap.size 4 1 (.slice (some ⟨g2,0,none⟩) B.os.length c2) B.os.length ((passes B.os.length (ZaX B.os) (ZbN Ss B.os) L (B.os.length+1)).map Value.bool):=by
 obtain⟨i0,hi,hz0,hz1,hz2⟩:=info_parts Tryz.info4;have HL:=Zab hl;have HK:=Zab h;have HS:=Zab hs;have HLn:=Zab hL;obtain⟨sa,sc,rfl⟩:=hl.shs.form;obtain⟨ma,mc,rfl⟩:=hl.mds.form;obtain⟨ta,tc,rfl⟩:=hl.tms.form;obtain⟨a0,k0,rfl⟩:=h.obs.form;obtain⟨a1,k1,rfl⟩:=h.grs.form;obtain⟨a2,k2,rfl⟩:=h.les.form;obtain⟨a3,k3,rfl⟩:=h.pus.form;have hb3:Zw_ w (((w.alloc (.cells #[.slice sa Ss.length sc,.slice ma Ms.length mc,.slice ta Ts.length tc] 41)).alloc (.cells #[.int .i64 B.now,.int .i64 B.tick,.int .i64 B.given,.slice a0 B.os.length k0,.slice a1 B.gs.length k1,.slice a2 B.ls.length k2,.slice a3 B.ps.length k3] 48)).alloc (.cells #[] 4)):=((Zac w _).alloc (by simp) _).alloc (by simp;omega) _
 have hcv:∀ i (hi:i < L.length),w.cell? ⟨g,i,none⟩=some (.bool L[i]):=fun i hi=>by
  obtain⟨g',e,_,_,hc⟩:=hv.full (by omega);have:g=g':=by injection e with e;injection e
  subst this;exact hc i hi
 obtain⟨v2,W,hrun,hrow,hgr,hnil,-⟩:=run_append_own_at (P:=prog) (w:=((w.alloc (.cells #[.slice sa Ss.length sc,.slice ma Ms.length mc,.slice ta Ts.length tc] 41)).alloc (.cells #[.int .i64 B.now,.int .i64 B.tick,.int .i64 B.given,.slice a0 B.os.length k0,.slice a1 B.gs.length k1,.slice a2 B.ls.length k2,.slice a3 B.ps.length k3] 48)).alloc (.cells #[] 4)) (w.heap.size+2) 91 91 4 i0 (.bool false) 1 1 underlying91 hi hz0 hz1 hz2 rfl (by decide) (.slice (some ⟨w.heap.size+1+1,0,none⟩) 0 0) 0 []
  ⟨rfl,Or.inr ⟨_,0,#[],rfl,by omega,Zmy _ _ _ (by simp),Nat.le_refl _,by unfold maxLen;omega,rfl,rfl⟩⟩ ⟨g,0,none⟩ B.os.length cap (L.map Value.bool) (by simp;exact hL)
  (fun j u hu=>by
    have hj:j < L.length:=by
     have:=(List.getElem?_eq_some_iff.1 hu).1
     simpa using this
    rw [List.getElem?_map,List.getElem?_eq_getElem hj] at hu;have e:u=.bool L[j]:=by simpa using hu.symm
    rw [e];rw [show (⟨g,0,none⟩:Addr).add j=⟨g,j,none⟩ by unfold Addr.add;simp;try omega];exact (hb3.cell (p:=⟨g,j,none⟩) hg).trans (hcv j hj)) (fun u hu=>by obtain⟨x,_,rfl⟩:=List.mem_map.1 hu;rfl) (by unfold maxLen;omega) (by omega) (by simp)
 rw [Nat.zero_add,List.nil_append] at hrow;have HB:Hd (Zw_ w W):=hb3.trans ⟨hgr.os,hgr.tape,hgr.output,hgr.size,fun k hk=>hgr.block k (by have:=hb3.size;omega) (fun e=>by injection e with e;have e:k=w.heap.size+1+1:=e;omega)⟩;have FL:Hd (Box W w.heap.size #[.slice sa Ss.length sc,.slice ma Ms.length mc,.slice ta Ts.length tc]):=((((Box.new w _ _ _ rfl).on (Zac _ _)).on (Zac _ _))).row hgr (fun e=>by injection e with e;have e:w.heap.size+1+1=w.heap.size:=e;omega)
 have FB:Hd (Box W (w.heap.size+1) #[.int .i64 B.now,.int .i64 B.tick,.int .i64 B.given,.slice a0 B.os.length k0,.slice a1 B.gs.length k1,.slice a2 B.ls.length k2,.slice a3 B.ps.length k3]):=((Box.new (w.alloc (.cells #[.slice sa Ss.length sc,.slice ma Ms.length mc,.slice ta Ts.length tc] 41)) _ _ _ (by simp)).on (Zac _ _)).row hgr (fun e=>by injection e with e;have e:w.heap.size+1+1=w.heap.size+1:=e;omega);have HW:=Zab hrow
 obtain⟨g2,c2,rfl⟩:∃ g2 c2,v2=.slice (some ⟨g2,0,none⟩) B.os.length c2:=by
  rcases hrow.2 with ⟨h1,_⟩ | ⟨g',cap',cur,h1,_⟩
  . exact absurd (hnil.1 h1).1 (by intro e;cases e)
  . exact⟨_,_,h1⟩
 clear hb3 hcv hrow hgr hnil hl h hs hv hL hi hz0 hz1 hz2 hg;go_enter func60,ntmps60;go_wp2_with (at_builtin;refine Zbt rfl (.tmp 10) (.tmp 11) 91 rfl rfl rfl hrun ?_);have HI:=Zab hn;clear hrun
 go_loopw [8,9] (fun q _ wr=>∃ m:Nat,q=.int .i64 m/\m<=B.os.length+1/\Zw_ w wr/\Box wr w.heap.size #[.slice sa Ss.length sc,.slice ma Ms.length mc,.slice ta Ts.length tc]/\Box wr (w.heap.size+1) #[.int .i64 B.now,.int .i64 B.tick,.int .i64 B.given,.slice a0 B.os.length k0,.slice a1 B.gs.length k1,.slice a2 B.ls.length k2,.slice a3 B.ps.length k3]/\wr.ownsRow (w.heap.size+2) 4 1 (.slice (some ⟨g2,0,none⟩) B.os.length c2) B.os.length ((passes B.os.length (ZaX B.os) (ZbN Ss B.os) L m).map Value.bool)) (fun q _ _=>B.os.length+1 - (intOf q).toNat)
 case atStart=>exact⟨0,rfl,Nat.zero_le _,HB.o,FL.o,FB.o,HW.o⟩
 case round=>
  obtain⟨m,rfl,hm,hb,hx,hy,hr⟩:=hrel;have HBr:=Zab hb;have HXr:=Zab hx;have HYr:=Zab hy;have HR:=Zab hr;clear hb hx hy hr HB FL FB HW
  by_cases hlt:m<=B.os.length
  . go_wp2
    go_loopw [9] (fun q ws=>∃ j:Nat,q=.int .i64 j/\j<=B.os.length/\Zw_ w ws/\Box ws w.heap.size #[.slice sa Ss.length sc,.slice ma Ms.length mc,.slice ta Ts.length tc]/\Box ws (w.heap.size+1) #[.int .i64 B.now,.int .i64 B.tick,.int .i64 B.given,.slice a0 B.os.length k0,.slice a1 B.gs.length k1,.slice a2 B.ls.length k2,.slice a3 B.ps.length k3]/\ws.ownsRow (w.heap.size+2) 4 1 (.slice (some ⟨g2,0,none⟩) B.os.length c2) B.os.length ((Zbv B.os.length (ZaX B.os) (ZbN Ss B.os) (passes B.os.length (ZaX B.os) (ZbN Ss B.os) L m) j).map Value.bool)) (fun q _=>B.os.length - (intOf q).toNat)
    case atStart=>exact⟨0,rfl,Nat.zero_le _,HBr.o,HXr.o,HYr.o,HR.o⟩
    case round=>
     obtain⟨j,rfl,hj,hb,hx,hy,hr⟩:=hrel;have HBs:=Zab hb;have HXs:=Zab hx;have HYs:=Zab hy;have HRs:=Zab hr;clear hb hx hy hr;have x:=HXs.o.cell;have y:=HYs.o.cell
     by_cases hjt:j < B.os.length
     . obtain⟨b,off,rfl,hbw,-,hc⟩:=HK.o.obs.full' (by omega)
       obtain⟨_,jv0,jv1,hcell,_,hv1⟩:=hc j hjt;obtain⟨ha,hcc,rfl⟩:=hv1.at.form';obtain⟨c0,c1,c2',c3,c4,c5,c6⟩:=hcell.below HBs.o hbw;have HHO:=Zab (Zqn hjt);have hmx:=HK.o.obs.max;have hDr:Zbv B.os.length (ZaX B.os) (ZbN Ss B.os) (passes B.os.length (ZaX B.os) (ZbN Ss B.os) L m) (j+1)=Zdj B.os.length (ZaX B.os) (ZbN Ss B.os) (Zbv B.os.length (ZaX B.os) (ZbN Ss B.os) (passes B.os.length (ZaX B.os) (ZbN Ss B.os) L m) j) j:=rfl;have hLc:(Zbv B.os.length (ZaX B.os) (ZbN Ss B.os) (passes B.os.length (ZaX B.os) (ZbN Ss B.os) L m) j).length=B.os.length:=by rw [ZgH,ZgI,HLn.o]
       have HDr:=Zab hDr;have HLc:=Zab hLc;clear hDr hLc hc hcell hv1 c0 c1 c2' c3 c4 c6;generalize hgn:Zbv B.os.length (ZaX B.os) (ZbN Ss B.os) (passes B.os.length (ZaX B.os) (ZbN Ss B.os) L m) j=Lc at HRs HDr HLc;clear hgn;have hjl:j < Lc.length:=by rw [HLc.o];exact hjt
       have hcj:wr.cell? ⟨g2,j,none⟩=some (.bool Lc[j]):=Zkc (cap:=c2) (by rw [HLc.o];exact HRs.o) hjl;have hge:Lc[j]?.getD false=Lc[j]:=by rw [List.getElem?_eq_getElem hjl];rfl
       have hi0:(0:Int)<=(j:Int):=by omega
       have hi1:(j:Int) < (B.os.length:Int):=by omega
       have hlow:=Zni HRs.o;unfold maxLen at hmx
       have SET:Hd (∀ W,Below wr.heap.size wr W->Zw_ w (W.setCell ⟨g2,j,none⟩ (.bool false))/\Box (W.setCell ⟨g2,j,none⟩ (.bool false)) w.heap.size #[.slice sa Ss.length sc,.slice ma Ms.length mc,.slice ta Ts.length tc]/\Box (W.setCell ⟨g2,j,none⟩ (.bool false)) (w.heap.size+1) #[.int .i64 B.now,.int .i64 B.tick,.int .i64 B.given,.slice (some ⟨b,off,none⟩) B.os.length k0,.slice a1 B.gs.length k1,.slice a2 B.ls.length k2,.slice a3 B.ps.length k3]/\(W.setCell ⟨g2,j,none⟩ (.bool false)).ownsRow (w.heap.size+2) 4 1 (.slice (some ⟨g2,0,none⟩) B.os.length c2) B.os.length ((Lc.set j false).map Value.bool)):=fun W hW=>by
        obtain⟨r1,r2⟩:=(Zdd HRs.o hW).stored j (.bool false);refine⟨(bt HBs.o hW).setCell (by simp only [];omega) _,(HXs.o.on hW).row r2 (fun e=>by injection e with e;omega),(HYs.o.on hW).row r2 (fun e=>by injection e with e;omega),?_⟩;rw [List.map_set];exact r1
       cases hq:Lc[j] with
       | false=>
        rw [hq] at hcj;have HE:Hd (Zbv B.os.length (ZaX B.os) (ZbN Ss B.os) (passes B.os.length (ZaX B.os) (ZbN Ss B.os) L m) (j+1)=Lc):=by unfold Hd;rw [HDr.o];unfold Zdj;rw [hge,hq];rfl
        go_wp2;go_roundw
        case measure=>simp [intOf];omega
        case rel=>exact⟨j+1,by go_num,by omega,HBs.o,HXs.o,HYs.o,by rw [HE.o];exact HRs.o⟩
       | true=>
        rw [hq] at hcj;have hfr:wr.frozen? ⟨g2,j,none⟩=false:=HRs.o.frozenAt j
        by_cases hh:0 < B.os[j].hs.length
        . have HE:Hd (Zbv B.os.length (ZaX B.os) (ZbN Ss B.os) (passes B.os.length (ZaX B.os) (ZbN Ss B.os) L m) (j+1)=Lc.set j false):=by unfold Hd;rw [HDr.o];unfold Zdj;rw [hge,hq,HHO.o,decide_eq_true hh];rfl
          have HS2:=Zab (SET.o wr Zb_);have hh':(0:Int) < (B.os[j].hs.length:Int):=by omega
          clear x;go_wp2;go_roundw
          case measure=>simp [intOf];omega
          case rel=>exact⟨j+1,by go_num,by omega,HS2.o.1,HS2.o.2.1,HS2.o.2.2.1,by rw [HE.o];exact HS2.o.2.2.2⟩
        . have hz:B.os[j].hs.length=0:=by omega
          have HST:=Zab (Zl7 lo _ _ _ _ _ _ _ _ Ss Ms Ts B Lc j wr (HL.o.below HBs.o) (HK.o.below HBs.o) HS.o (Zch.of_row (by rw [HLc.o];exact HRs.o):Zch wr (.slice (some ⟨g2,0,none⟩) B.os.length c2) Lc) HLc.o hjt HI.o);rw [hz] at c5
          cases hk:Zew Ss B.os Lc j B.os.length with
          | true=>
           have HE:Hd (Zbv B.os.length (ZaX B.os) (ZbN Ss B.os) (passes B.os.length (ZaX B.os) (ZbN Ss B.os) L m) (j+1)=Lc.set j false):=by unfold Hd;rw [HDr.o];unfold Zdj;rw [hge,hq,HHO.o,decide_eq_false hh,show Zfu B.os.length (ZbN Ss B.os) Lc j=true from hk];rfl
           have HFR:Hd (∀ W,Below wr.heap.size wr W->W.frozen? ⟨g2,j,none⟩=false/\W.cell? ⟨g2,j,none⟩=some (.bool true)):=fun W hW=>⟨(Zdd HRs.o hW).frozenAt j,(hW.cell (p:=⟨g2,j,none⟩) hlow.2).trans hcj⟩
           go_wp2_with (go_at_call 107;refine HST.o.mono ?_;rintro e w2 ⟨rfl,hb2⟩;rw [hk];obtain⟨hf2,hc2⟩:=HFR.o _ hb2;have HS2:=Zab (SET.o _ hb2));go_roundw
           case measure=>simp [intOf];omega
           case rel=>exact⟨j+1,by go_num,by omega,HS2.o.1,HS2.o.2.1,HS2.o.2.2.1,by rw [HE.o];exact HS2.o.2.2.2⟩
          | false=>
           have HE:Hd (Zbv B.os.length (ZaX B.os) (ZbN Ss B.os) (passes B.os.length (ZaX B.os) (ZbN Ss B.os) L m) (j+1)=Lc):=by unfold Hd;rw [HDr.o];unfold Zdj;rw [hge,hq,HHO.o,decide_eq_false hh,show Zfu B.os.length (ZbN Ss B.os) Lc j=false from hk];rfl
           go_wp2_with (go_at_call 107;refine HST.o.mono ?_;rintro e w2 ⟨rfl,hb2⟩;rw [hk];have HB2:=Zab (bt HBs.o hb2);have HX2:=Zab (HXs.o.on hb2);have HY2:=Zab (HYs.o.on hb2);have HR2:=Zab (Zdd HRs.o hb2));go_roundw
           case measure=>simp [intOf];omega
           case rel=>exact⟨j+1,by go_num,by omega,HB2.o,HX2.o,HY2.o,by rw [HE.o];exact HR2.o⟩
     . have hje:j=B.os.length:=by omega
       rw [hje] at HRs;clear x y;go_wp2;go_roundw
       case measure=>simp [intOf];omega
       case rel=>exact⟨m+1,by go_num,by omega,HBs.o,HXs.o,HYs.o,HRs.o⟩
  . have hme:m=B.os.length+1:=by omega
    rw [hme] at HR;go_wp2;go_ret;exact⟨g2,c2,rfl,HBr.o,Zlm HR.o (by omega)⟩
end
section
open Go.RowKit Go.Deep Go.Maps
variable {Os:List Ob} {Ss:List Sh}
def Ze0 (Os:List Ob) (a b:Zy_):Nat:=(ZeC Os (fun i=>decide (i < Os.length)) a b).getD 0
def ZhU (Ss:List Sh) (Os:List Ob) (k:Nat):List Nat:=match Os[k]? with
 | some o=>((ZcC Ss o).filter fun t=>!(t.2.1 == 2)).map fun t=>Ze0 Os t.2.2.1 t.2.2.2
 | none=>[]
theorem Zlh (hd:Zhl Os) {i:Nat} (hi:i < Os.length):Ze0 Os Os[i].kd Os[i].nm=i:=by
 unfold Ze0;rw [Zfd hd hi (by simpa using hi)]
 rfl
theorem Zig (ro:Int) (x:Tie) (a b:Zy_):ZgN ro a b x=true↔x.2.1=ro/\x.2.2.1=a/\x.2.2.2=b:=by
 unfold ZgN;rw [Bool.and_eq_true,Bool.and_eq_true,beq_iff_eq,Zaz,Zaz]
def ZeK (Ss:List Sh) (Os:List Ob):Prop:=∀ k (_:k < Os.length),∀ t ∈ ZcC Ss Os[k],(t.2.1=1\/t.2.1=2\/t.2.1=3)/\(t.2.1≠2->∃ j,∃ _:j < Os.length,Os[j].kd=t.2.2.1/\Os[j].nm=t.2.2.2)
theorem Zk6 (hd:Zhl Os) (ht:ZeK Ss Os) {k:Nat} (hk:k < Os.length) (i:Nat):i ∈ ZhU Ss Os k↔i < Os.length/\ZbN Ss Os k i=true:=by
 unfold ZhU;rw [List.getElem?_eq_getElem hk];dsimp only;rw [List.mem_map]
 constructor
 . rintro⟨t,hm,rfl⟩
   obtain⟨h1,h2⟩:=List.mem_filter.1 hm;have hne:t.2.1≠2:=by simpa using h2
   obtain⟨hr,hj⟩:=ht k hk t h1;obtain⟨j,hj,e1,e2⟩:=hj hne;have hp:Ze0 Os t.2.2.1 t.2.2.2=j:=by rw [<- e1,<- e2];exact Zlh hd hj
   rw [hp];refine⟨hj,?_⟩;rw [ZjX hk hj,Zdc,Zdc,Bool.or_eq_true,List.any_eq_true,List.any_eq_true]
   rcases hr with h | h | h
   . exact Or.inl ⟨t,h1,(Zig _ _ _ _).2 ⟨h,e1.symm,e2.symm⟩⟩
   . exact absurd h hne
   . exact Or.inr ⟨t,h1,(Zig _ _ _ _).2 ⟨h,e1.symm,e2.symm⟩⟩
 . rintro⟨hi,h⟩
   rw [ZjX hk hi,Zdc,Zdc,Bool.or_eq_true,List.any_eq_true,List.any_eq_true] at h
   have go:∀ ro:Int,ro≠2->(∃ t ∈ ZcC Ss Os[k],ZgN ro Os[i].kd Os[i].nm t=true)->∃ t,t ∈ (ZcC Ss Os[k]).filter (fun t=>!(t.2.1 == 2))/\Ze0 Os t.2.2.1 t.2.2.2=i:=fun ro hro ⟨t,h1,h2⟩=>by
    obtain⟨e0,e1,e2⟩:=(Zig _ _ _ _).1 h2;refine⟨t,List.mem_filter.2 ⟨h1,?_⟩,by rw [e1,e2];exact Zlh hd hi⟩;simp [e0,hro]
   rcases h with h | h
   . exact go 1 (by decide) h
   . exact go 3 (by decide) h
theorem ZoY (hd:Zhl Os) (ht:ZeK Ss Os) {So Ho:Nat->Bool} {i:Nat} :
 Stays Os.length So Ho (ZbN Ss Os) i↔Least Os.length (fun j=>!So j || Ho j) (ZhU Ss Os) i:=
 ZmD fun _ hk i=>Zk6 hd ht hk i
end
open Go.RowKit Go.Deep Go.Maps
theorem Zmu (lo:Nat) (v:Value) (Os:List Ob) (w:World) (hv:Za3 lo w v Os) (hn:Os.length<=1048576) (hd:Zhl Os) :
 Calls prog 192 #[v] w
  fun e w'=>e=.returned (.map (some w.heap.size))/\Zw_ w w'/\∃ D:DataW Value,w'.ownsMap prog 153 Zcu w.heap.size Os.length D/\ZfB Os D (fun i=>decide (i < Os.length)):=by
 have HV:=Zab hv;have HD:=Zab hd;obtain⟨a,cap,rfl⟩:=hv.form;clear hv hd;have hmm:∀ (n:Nat) (w:World),(Instr.makeMap 146 (some (.int .i64 n))).run prog w=.ok (.map (some w.heap.size)) (w.alloc (.map #[] 0)):=fun n w=>by simp [Instr.makeMap,go_sem,run_underlying underlying146,Result.andThen]
 go_enter func192,ntmps192;go_wp2;clear hmm
 go_loopw [11] (fun i wr=>∃ k:Nat,i=.int .i64 k/\k<=Os.length/\Zw_ w wr/\∃ D:DataW Value,wr.ownsMap prog 153 Zcu w.heap.size k D/\ZfB Os D (fun q=>decide (q < k))) (fun i _=>Os.length - (intOf i).toNat)
 case atStart=>exact⟨0,rfl,Nat.zero_le _,Zac _ _,.map [],World.ownsMap_made _ _ _ _,(ZfB.start Os).congr fun i _=>by simp⟩
 case round=>
  obtain⟨k,rfl,hk,hb,D,ho,hsum⟩:=hrel;have HB:=Zab hb;have HSUM:=Zab hsum;clear hb hsum
  by_cases hlt:k < Os.length
  . obtain⟨b,off,rfl,hbw,-,hc⟩:=HV.o.full' (by omega)
    obtain⟨hs,vv0,vv1,hcell,hv0,hv1⟩:=hc k hlt;obtain⟨c0,c1,c2,c3,c4,c5,c6⟩:=hcell.below HB.o hbw;obtain⟨va,vc,rfl⟩:=hv0.at.form';obtain⟨ha,hc',rfl⟩:=hv1.at.form';have HZ:=Zab hs;have HO:=Zab ho;clear hc hcell hs hv0 hv1 ho;go_wp2_with fail;refine (Zcb Os[k] _ _ _ _ _ _ _).mono ?_;rintro e w1 ⟨rfl,hb1⟩;have HB1:Hd (Zw_ w w1):=(HB.o.trans ((Zac _ _).mono HB.o.size)).trans (hb1.mono (HB.o.trans ((Zac _ _).mono HB.o.size)).size);have ho1:w1.ownsMap prog 153 Zcu w.heap.size k D:=(HO.o.alloc _).kept (ZaC hb1) (by simp);clear hb1
    go_wp2_with (at_mapUpdate;refine wpList_mapUpdate_own _ rfl _ _ _ 146 rfl 153 3 ZcJ underlying146 Zcu w.heap.size k D rfl ho1 (by unfold maxLen;omega) _ _ _ rfl rfl (Zc1.mk' HZ.o.s0 HZ.o.s1) (.held (.int .i64 (k:Int))) [] rfl ?_;intro w2 ho2 hg2;have HO2:=Zab ho2;have HG2:=Zab hg2;clear ho2 hg2);go_roundw
    . exact⟨k+1,by go_num,by omega,ZbT HB1.o HG2.o Zl_,_,HO2.o,(HSUM.o.step HD.o hlt HZ.o.s0 HZ.o.s1).congr fun i _=>by rw [Bool.eq_iff_iff];simp;omega⟩
    . simp [intOf];omega
  . have he:k=Os.length:=by omega
    subst he;have HO:=Zab ho;clear ho;go_wp2;go_ret;exact⟨rfl,HB.o,D,HO.o,HSUM.o⟩
end Go.Proofs.YtmappejlmapboaaGreat
