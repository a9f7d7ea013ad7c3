import Derived.Test.YtmappejlmapboaaGreatG40
set_option maxHeartbeats 16000000
set_option maxRecDepth 100000
open Go.Proofs.Tryz
namespace Go.Proofs.YtmappejlmapboaaGreat
open Go.RowKit Go.Deep
section
variable {w:World} {v:Value} {L:List Bool}
def Zce (w:World) (v:Value) (L:List Bool):Prop:=
 (v=.slice none 0 0/\L=[])\/∃ g cap,v=.slice (some ⟨g,0,none⟩) L.length cap/\g < w.heap.size/\L.length<=maxLen/\∀ i (h:i < L.length),w.cell? ⟨g,i,none⟩=some (.bool L[i])
theorem Zce.form (h:Zce w v L):∃ a cap,v=.slice a L.length cap:=by
 rcases h with ⟨h1,h2⟩ | ⟨g,cap,h1,_⟩
 . subst h2;exact⟨_,_,h1⟩
 . exact⟨_,_,h1⟩
theorem Zce.full {a:Option Addr}{n cap:Nat} (h:Zce w (.slice a n cap) L) (hL:0 < L.length):∃ g,a=some ⟨g,0,none⟩/\g < w.heap.size/\L.length<=maxLen/\∀ i (h:i < L.length),w.cell? ⟨g,i,none⟩=some (.bool L[i]):=by
 rcases h with ⟨h1,h2⟩ | ⟨g,cap',h1,h2,h3,h4⟩
 . subst h2;simp at hL
 . injection h1 with e1
   exact⟨g,e1,h2,h3,h4⟩
theorem Zce.of_row {base:Nat} (h:w.ownsRow base 4 1 v L.length (L.map Value.bool)):Zce w v L:=by
 rcases h.2 with ⟨h1,h2⟩ | ⟨g,cap,cur,h1,h2,h3,h4,h5,h6,h7⟩
 . exact Or.inl ⟨h1,List.length_eq_zero_iff.1 h2⟩
 . refine Or.inr ⟨g,cap,h1,(Array.getElem?_eq_some_iff.1 h3).1,by omega,fun i hi=>?_⟩
   have hc:cur[i]?=some (.bool L[i]):=by
    have h8:(cur.toList.take (L.length*1))[i]?=(L.map Value.bool)[i]?:=by rw [h7]
    rw [List.getElem?_take,if_pos (by omega),List.getElem?_map,List.getElem?_eq_getElem hi,Array.getElem?_toList] at h8;exact h8
   unfold World.cell?;rw [h3]
   simpa using hc
def Zb3 (L:List Bool) (n:Nat):List Int:=((List.range n).filter fun i=>L[i]?.getD false).map fun i:Nat=>(i:Int)
theorem ZkI (L:List Bool) (n:Nat):Zb3 L (n+1)=Zb3 L n ++ (if L[n]?.getD false then [(n:Int)] else []):=by
 unfold Zb3;rw [List.range_succ,List.filter_append,List.map_append]
 congr 1
 cases h:L[n]?.getD false <;> simp [h]
theorem ZhE (L:List Bool) (n:Nat):(Zb3 L n).length<=n:=by
 unfold Zb3;rw [List.length_map];exact Nat.le_trans (List.length_filter_le _ _) (by simp)
theorem Zku (v:Value) (L:List Bool) (w:World) (h:Zce w v L) (hn:L.length<=1048576) :
 Calls prog 59 #[v] w fun e w'=>∃ v,e=.returned v/\Zw_ w w'/\Zav w.heap.size w'.heap.size w' v (Zb3 L L.length):=by
 obtain⟨i0,hi,hz0,hz1,hz2⟩:=info_parts Tryz.info3;have HI3:=Zab (And.intro hi (And.intro hz0 (And.intro hz1 hz2)));clear hi hz0 hz1 hz2;have HK:=Zab h;obtain⟨a0,k0,rfl⟩:=h.form;clear h;go_enter func59,ntmps59;go_wp2_with fail;generalize hWa:World.alloc w _=Wa;have HB:Hd (Zw_ w Wa):=by unfold Hd;rw [<- hWa];exact Zac w _
 have HS:Wa.heap.size=w.heap.size+1:=by rw [<- hWa];simp
 have FR:Hd (Wa.ownsRow w.heap.size 3 1 (.slice (some ⟨w.heap.size,0,none⟩) 0 0) (Zb3 L 0).length ((Zb3 L 0).map (Value.int .i64))):=by
  unfold Hd;rw [<- hWa];exact⟨rfl,Or.inr ⟨_,0,#[],rfl,by omega,ZlS _ _ _ rfl,Nat.le_refl _,by unfold maxLen;omega,rfl,rfl⟩⟩
 clear hWa
 go_loopw [4,3] (fun q v wr=>∃ m:Nat,q=.int .i64 m/\m<=L.length/\Zw_ w wr/\wr.ownsRow w.heap.size 3 1 v (Zb3 L m).length ((Zb3 L m).map (Value.int .i64))) (fun q _ _=>L.length - (intOf q).toNat)
 case atStart=>exact⟨0,rfl,Nat.zero_le _,HB.o,FR.o⟩
 case round=>
  obtain⟨m,rfl,hm,hb,hr⟩:=hrel;have HBr:=Zab hb;have HR:=Zab hr;clear hb hr HB FR
  by_cases hlt:m < L.length
  . obtain⟨b,rfl,hbw,-,hc⟩:=HK.o.full (by omega)
    have hcm:wr.cell? ⟨b,m,none⟩=some (.bool L[m]):=(HBr.o.cell (p:=⟨b,m,none⟩) hbw).trans (hc m hlt);have hll:=ZhE L m;have HE:=Zab (ZkI L m);have hge:L[m]?.getD false=L[m]:=by rw [List.getElem?_eq_getElem hlt];rfl
    have hi0:(0:Int)<=(m:Int):=by omega
    have hi1:(m:Int) < (L.length:Int):=by omega
    cases hq:L[m] with
    | false=>
     rw [hq] at hcm;have HE2:Hd (Zb3 L (m+1)=Zb3 L m):=by unfold Hd;rw [HE.o,hge,hq];simp
     clear hc;go_wp2;go_roundw
     case measure=>simp [intOf];omega
     case rel=>exact⟨m+1,by go_num,by omega,HBr.o,by rw [HE2.o];exact HR.o⟩
    | true=>
     rw [hq] at hcm;have HE2:Hd (Zb3 L (m+1)=Zb3 L m ++ [(m:Int)]):=by unfold Hd;rw [HE.o,hge,hq];simp
     obtain⟨v2,W2,hrun,hrow,hg,hlow⟩:=ZnG (P:=prog) (S:=35) underlying35 i0 HI3.o.1 HI3.o.2.1 HI3.o.2.2.1 HI3.o.2.2.2 HR.o (by have:=HBr.o.size;omega) (by omega) (m:Int);have HW2:=Zab hrow;have HB2:Hd (Zw_ w W2):=HBr.o.trans ⟨hg.os,hg.tape,hg.output,hg.size,fun k hk=>hg.block k (by have:=HBr.o.size;omega) (fun e=>by have:=hlow _ e.symm;omega)⟩;clear hc hrow hg hlow HR;go_wp2_with (at_builtin;refine Zbs rfl (.tmp 16) (.tmp 18) 35 rfl rfl rfl hrun ?_);go_roundw
     case measure=>simp [intOf];omega
     case rel=>exact⟨m+1,by go_num,by omega,HB2.o,by rw [HE2.o];exact HW2.o⟩
  . have hme:m=L.length:=by omega
    have HI:=Zab (ZdO HR.o);rw [hme] at HI;go_wp2;go_ret;exact⟨_,rfl,HBr.o,HI.o⟩
end
section
variable {Ss:List Sh} {Os:List Ob} {i m:Nat} {L:List Bool}
def ZbL (Ss:List Sh) (Os:List Ob) (k i:Nat):Bool:=match Os[k]?,Os[i]? with
 | some a,some b=>Zdf Ss a 1 b.kd b.nm || Zdf Ss a 3 b.kd b.nm
 | _,_=>false
theorem Zjl {k:Nat} (hk:k < Os.length) (hi:i < Os.length):ZbL Ss Os k i=(Zdf Ss Os[k] 1 Os[i].kd Os[i].nm || Zdf Ss Os[k] 3 Os[i].kd Os[i].nm):=by
 unfold ZbL;rw [List.getElem?_eq_getElem hk,List.getElem?_eq_getElem hi]
def Zee (Ss:List Sh) (Os:List Ob) (L:List Bool) (i m:Nat):Bool:=Zfe m (ZbL Ss Os) L i
theorem Zln:Zee Ss Os L i (m+1)=(Zee Ss Os L i m || (!(L[m]?.getD false)&&ZbL Ss Os m i)):=by
 unfold Zee Zfe;rw [List.range_succ,List.any_append];simp
theorem Znn {n:Nat} (h:m < n) (h1:(!(L[m]?.getD false)&&ZbL Ss Os m i)=true):Zee Ss Os L i n=true:=by
 unfold Zee Zfe;exact List.any_eq_true.2 ⟨m,List.mem_range.2 h,h1⟩
theorem Zls (lo:Nat) (sv mv tv ov gv lv pv v:Value) (Ss:List Sh) (Ms:List Md) (Ts:List Tm) (B:Bk) (L:List Bool) (i:Nat) (w:World) (hl:ZbF lo w sv mv tv Ss Ms Ts) (h:ZaU lo w ov gv lv pv B) (hs:Zgs Ss B.os) (hv:Zce w v L) (hL:L.length=B.os.length) (hi:i < B.os.length) (hn:B.os.length<=1048576) :
 Calls prog 107 #[.agg #[sv,mv,tv],.agg #[.int .i64 B.now,.int .i64 B.tick,.int .i64 B.given,ov,gv,lv,pv],v,.int .i64 i] w fun e w'=>e=.returned (.bool (Zee Ss B.os L i B.os.length))/\Zw_ w w':=by
 have HL:=Zab hl;have HK:=Zab h;have HS:=Zab hs;have HV:=Zab hv;obtain⟨sa,sc,rfl⟩:=hl.shs.form;obtain⟨ma,mc,rfl⟩:=hl.mds.form;obtain⟨ta,tc,rfl⟩:=hl.tms.form;obtain⟨a0,k0,rfl⟩:=h.obs.form;obtain⟨a1,k1,rfl⟩:=h.grs.form;obtain⟨a2,k2,rfl⟩:=h.les.form;obtain⟨a3,k3,rfl⟩:=h.pus.form;obtain⟨va,vc,rfl⟩:=hv.form;clear hl h hs hv;rw [hL] at HV |-;have HLn:=Zab hL;clear hL;go_enter func107,ntmps107;go_wp2_with fail;generalize hWa:World.alloc (World.alloc w _) _=Wa;have HB:Hd (Zw_ w Wa):=by unfold Hd;rw [<- hWa];exact (Zac w _).alloc (by simp) _
 have FL:Hd (Box Wa w.heap.size #[.slice sa Ss.length sc,.slice ma Ms.length mc,.slice ta Ts.length tc]):=by unfold Hd;rw [<- hWa];exact (Box.new _ _ _ _ rfl).on (Zac _ _)
 have FB:Hd (Box Wa (w.heap.size+1) #[.int .i64 B.now,.int .i64 B.tick,.int .i64 B.given,.slice a0 B.os.length k0,.slice a1 B.gs.length k1,.slice a2 B.ls.length k2,.slice a3 B.ps.length k3]):=by unfold Hd;rw [<- hWa];exact Box.new _ _ _ _ (by simp)
 clear hWa
 go_loopw [9] (fun q wr=>∃ m:Nat,q=.int .i64 m/\m<=B.os.length/\Zee Ss B.os L i m=false/\Zw_ w wr/\Box wr w.heap.size #[.slice sa Ss.length sc,.slice ma Ms.length mc,.slice ta Ts.length tc]/\Box wr (w.heap.size+1) #[.int .i64 B.now,.int .i64 B.tick,.int .i64 B.given,.slice a0 B.os.length k0,.slice a1 B.gs.length k1,.slice a2 B.ls.length k2,.slice a3 B.ps.length k3]) (fun q _=>B.os.length - (intOf q).toNat)
 case atStart=>exact⟨0,rfl,Nat.zero_le _,rfl,HB.o,FL.o,FB.o⟩
 case round=>
  obtain⟨m,rfl,hm,hno,hb,hx,hy⟩:=hrel;have HNO:=Zab hno;have HBr:=Zab hb;have HXr:=Zab hx;have HYr:=Zab hy;clear hb hx hy HB FL FB hno;have x:=HXr.o.cell;have y:=HYr.o.cell
  by_cases hlt:m < B.os.length
  . have hml:m < L.length:=by rw [HLn.o];exact hlt
    obtain⟨b,rfl,hbw,-,hc⟩:=HV.o.full (by omega);have hcm:wr.cell? ⟨b,m,none⟩=some (.bool L[m]):=(HBr.o.cell (p:=⟨b,m,none⟩) hbw).trans (hc m hml);have hge:L[m]?.getD false=L[m]:=by rw [List.getElem?_eq_getElem hml];rfl
    have hi0:(0:Int)<=(m:Int):=by omega
    have hi1:(m:Int) < (B.os.length:Int):=by omega
    have HSC:=Zab (Zln (Ss:=Ss) (Os:=B.os) (L:=L) (i:=i) (m:=m));have HKE:=Zab (Zjl (Ss:=Ss) (Os:=B.os) hlt hi);have HN:Hd (∀ (ro:Int) (W:World),Zw_ w W->Calls prog 72 #[.agg #[.slice sa Ss.length sc,.slice ma Ms.length mc,.slice ta Ts.length tc],.agg #[.int .i64 B.now,.int .i64 B.tick,.int .i64 B.given,.slice a0 B.os.length k0,.slice a1 B.gs.length k1,.slice a2 B.ls.length k2,.slice a3 B.ps.length k3],.int .i64 m,.int .i64 i,.int .i64 ro] W fun e w'=>e=.returned (.bool (Zdf Ss B.os[m] ro B.os[i].kd B.os[i].nm))/\Below W.heap.size W w'):=fun ro W hW=>Zlr lo _ _ _ _ _ _ _ Ss Ms Ts B m i ro W (HL.o.below hW) (HK.o.below hW) HS.o hlt hi
    have HY':=Zab (fun h=>Znn (Ss:=Ss) (Os:=B.os) (L:=L) (i:=i) hlt h);clear hc
    cases hq:L[m] with
    | true=>
     rw [hq] at hcm;have HE:Hd (Zee Ss B.os L i (m+1)=false):=by unfold Hd;rw [HSC.o,HNO.o,hge,hq];rfl
     go_wp2;go_roundw
     case measure=>simp [intOf];omega
     case rel=>exact⟨m+1,by go_num,by omega,HE.o,HBr.o,HXr.o,HYr.o⟩
    | false=>
     rw [hq] at hcm
     cases h1:Zdf Ss B.os[m] 1 B.os[i].kd B.os[i].nm with
     | true=>
      have HE:Hd (Zee Ss B.os L i B.os.length=true):=by unfold Hd;exact HY'.o (by rw [hge,hq,HKE.o,h1];rfl)
      go_wp2_with (first|(go_at_call 72;refine (HN.o _ _ HBr.o).mono ?_;rintro e w2 ⟨rfl,hb2⟩;rw [h1];have HX2:=Zab (HXr.o.on hb2);have HY2:=Zab (HYr.o.on hb2);have x2:=HX2.o.cell;have y2:=HY2.o.cell));go_ret;exact⟨Zaa HE.o.symm,bt HBr.o hb2⟩
     | false=>
      cases h3:Zdf Ss B.os[m] 3 B.os[i].kd B.os[i].nm with
      | true=>
       have HE:Hd (Zee Ss B.os L i B.os.length=true):=by unfold Hd;exact HY'.o (by rw [hge,hq,HKE.o,h1,h3];rfl)
       go_wp2_with (go_at_call 72;refine (HN.o _ _ (by first | exact HB2.o | exact HBr.o)).mono ?_;first|(rintro e w2 ⟨rfl,hb2⟩;rw [h1];have HX2:=Zab (HXr.o.on hb2);have HY2:=Zab (HYr.o.on hb2);have HB2:=Zab (bt HBr.o hb2);have x2:=HX2.o.cell;have y2:=HY2.o.cell)|(rintro e w3 ⟨rfl,hb3⟩;rw [h3]));go_ret;exact⟨Zaa HE.o.symm,bt HB2.o hb3⟩
      | false=>
       have HE:Hd (Zee Ss B.os L i (m+1)=false):=by unfold Hd;rw [HSC.o,HNO.o,HKE.o,h1,h3];simp
       go_wp2_with (go_at_call 72;refine (HN.o _ _ (by first | exact HB2.o | exact HBr.o)).mono ?_;first|(rintro e w2 ⟨rfl,hb2⟩;rw [h1];have HX2:=Zab (HXr.o.on hb2);have HY2:=Zab (HYr.o.on hb2);have HB2:=Zab (bt HBr.o hb2);have x2:=HX2.o.cell;have y2:=HY2.o.cell)|(rintro e w3 ⟨rfl,hb3⟩;rw [h3];have HX3:=Zab (HX2.o.on hb3);have HY3:=Zab (HY2.o.on hb3);have HB3:=Zab (bt HB2.o hb3)));go_roundw
       case measure=>simp [intOf];omega
       case rel=>exact⟨m+1,by go_num,by omega,HE.o,HB3.o,HX3.o,HY3.o⟩
  . have hme:m=B.os.length:=by omega
    rw [hme] at HNO;go_wp2;go_ret;exact⟨Zaa HNO.o.symm,HBr.o⟩
end
theorem ZlD (lo hi:Nat) (v:Value) (Xl:List Le) (k:Int) (w:World) (hv:Zck lo hi w v Xl) (hn:ZeO Xl) (h0:0<=k) (hk:k<=2000000000000000000) :
 Calls prog 57 #[v,.int .i64 k] w fun e w'=>e=.returned (.int .i64 (k+(Zd6 Xl Xl.length:Int)))/\Zag lo hi w w'/\Zck lo hi w' v (Znu k Xl):=by
 rcases hv with ⟨a,cap,rfl,rfl⟩ | ⟨b,off,cap,c,X,rfl,hne,hm,hcap,hX,hR⟩
 . go_enter func57,ntmps57
   go_wp2
   go_loop [5,1] (fun i q=>i=.int .i64 0/\q=.int .i64 k) (fun _ _=>0)
   case atStart=>exact⟨rfl,rfl⟩
   case round=>
    obtain⟨rfl,rfl⟩:=hrel;go_wp2;go_ret;exact⟨by simp [Zd6],Zag.refl _ _ _,Or.inl ⟨_,_,rfl,rfl⟩⟩
 . have hlen:=hn.1
   have HN:=Zab hn;have HX:=Zab hX;have HR0:=Zab hR;have HM:=Zab hm;have HC:=Zab hcap;have HNE:=Zab hne;clear hn hX hR hm hcap hne;go_enter func57,ntmps57;go_wp2
   go_loopw [5,1] (fun i q wr=>∃ j:Nat,i=.int .i64 j/\q=.int .i64 (k+(Zd6 Xl j:Int))/\j<=Xl.length/\Zag lo hi w wr/\Ze2 lo hi wr b off Xl.length c (fun i=>if i < j then ZsP (k+(Zd6 Xl i:Int)) (X i) else X i)) (fun i _ _=>Xl.length - (intOf i).toNat)
   case atStart=>exact⟨0,rfl,by simp [Zd6],by omega,Zag.refl _ _ _,HR0.o.to (fun i _=>by simp)⟩
   case round=>
    obtain⟨j,rfl,rfl,hj,ht,hr⟩:=hrel;have HT:=Zab ht;have HR:=Zab hr;clear ht hr HR0
    by_cases hlt:j < Xl.length
    . have hpos:=Zms HN.o (i:=j) (by omega)
      have HP:=Zab (ZiH hlt)
      have hone:Zf4 b (off+j*4) (c j) (c (j+1)) wr (X j):=by
       have:=HR.o.row j hlt;simp only [Nat.lt_irrefl,if_false] at this;exact this
      have hxj:X j=Xl[j]:=HX.o j hlt;obtain⟨x,hx⟩:∃ x,x=X j:=⟨_,rfl⟩
      rw [<- hx] at hone;obtain⟨hs,hc⟩:=hone;have HXJ:=Zab hxj;have HXX:=Zab hx;obtain⟨K,hK⟩:∃ K,K=k+(Zd6 Xl j:Int):=⟨_,rfl⟩
      rw [<- hK];have hK0:0<=K:=by omega
      have hK1:K<=2500000000000000000:=by omega
      have HK:=Zab hK;have HBC:Hd (b < c j):=Zk_ HR.o.bc (HR.o.le Zz_ (by omega));have HS:Hd (ZjN wr b (off+j*4) (c j) (c (j+1)) wr x):=⟨ZbT.refl _ _ _ _ _ _,HBC.o,hc,HR.o.frz,HR.o.lt⟩;clear hpos hxj hx hs hc hK;obtain⟨d0,d1,d2,d3⟩:=HS.o.cells;have fz:=HS.o.frz;go_wp2_with fail;clear d0 d1 d2 d3 fz;refine (Zal _ _ (by omega)).mono ?_;rintro e v1 ⟨rfl,hb⟩;have HS1:=Zab (HS.o.below hb);clear hb HS;obtain⟨d0,d1,d2,d3⟩:=HS1.o.cells;have fz:=HS1.o.frz;go_wp2_with fail;clear d0 d1 d2 d3 fz;obtain⟨v2,hv2,HS2⟩:∃ v',v'=(v1.setCell ⟨b,off+j*4,none⟩ (.string (mtB (K))))/\Hd (ZjN wr b (off+j*4) (c j) (c (j+1)) v' ⟨mtB (K),x.re,x.mo,x.fr⟩):=⟨_,rfl,(HS1.o.s0 (mtB (K)))⟩
      rw [<- hv2];clear hv2 HS1;refine (Zal _ _ (by omega)).mono ?_;rintro e v3 ⟨rfl,hb⟩;have HS3:=Zab (HS2.o.below hb);clear hb HS2;obtain⟨d0,d1,d2,d3⟩:=HS3.o.cells;have fz:=HS3.o.frz;go_wp2;clear d0 d1 d2 d3 fz;obtain⟨v4,hv4,HS4⟩:∃ v',v'=(((v3.setCell ⟨b,off+j*4+1,none⟩ (.string (mtB (K+1)))).setCell ⟨b,off+j*4+2,none⟩ (.int .i64 (K+1+1))).setCell ⟨b,off+j*4+3,none⟩ (.int .i64 (K+1+1+1)))/\Hd (ZjN wr b (off+j*4) (c j) (c (j+1)) v' ⟨mtB (K),mtB (K+1),K+1+1,K+1+1+1⟩):=⟨_,rfl,(((HS3.o.s1 (mtB (K+1))).s2 (K+1+1)).s3 (K+1+1+1))⟩
      rw [<- hv4];clear hv4 HS3;have HW:Hd (Ztj Xl[j]=4):=by unfold Hd;rw [<- HXJ.o,<- HXX.o];rfl
      have HQ:Hd ((K+1+1+1+1:Int)=k+(Zd6 Xl (j+1):Int)):=by
       have h1:=HP.o;have h2:=HW.o;have h3:=HK.o;unfold Hd
       omega
      have HRN:=Zab (HR.o.near hlt HS4.o.near (show Zf4 b (off+j*4) (c j) (c (j+1)) v4 (ZsP K x) from ⟨⟨Zb2 _ (by omega),Zb2 _ (by omega)⟩,HS4.o.cells⟩));have HTN:=Zab (HS4.o.near.wide HR.o.lt (lo':=lo) (hi':=hi) (by have:=HBC.o;have:=HR.o.low;omega) (Nat.le_trans (HR.o.le (by omega) Zl_) HR.o.top) ⟨HR.o.low,HR.o.bh⟩);go_roundw
      . 
       refine⟨j+1,by go_num,congrArg (Value.int .i64) HQ.o,by omega,HT.o.trans HTN.o,HRN.o.to (fun i hi'=>?_)⟩
       by_cases e:i=j
       . subst e
         rw [if_pos rfl,if_pos (by omega),<- HK.o,HXX.o]
       . rw [if_neg e]
         by_cases e2:i < j
         . rw [if_pos e2,if_pos (by omega)]
         . rw [if_neg e2,if_neg (by omega)]
      . simp [intOf];omega
    . have e:j=Xl.length:=by omega
      subst e;go_wp2;go_ret;refine⟨rfl,HT.o,Or.inr ⟨b,off,cap,c,fun i=>ZsP (k+(Zd6 Xl i:Int)) (X i),by rw [ZdJ],?_,by rw [ZdJ];exact HM.o,by rw [ZdJ];exact HC.o,fun i h=>?_,?_⟩⟩
      . intro e
        have:=congrArg List.length e;rw [ZdJ] at this;exact HNE.o (List.length_eq_zero_iff.1 (by simpa using this))
      . have h':i < Xl.length:=by rw [ZdJ] at h;exact h
        rw [ZpC _ _ _ _ h',<- HX.o i h']
      . rw [ZdJ]
        exact HR.o.to (fun i hi'=>by rw [if_pos hi'])
end Go.Proofs.YtmappejlmapboaaGreat
