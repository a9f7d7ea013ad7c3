import Derived.Test.YtmappejlmapboaaGreatV26
set_option maxHeartbeats 16000000
set_option maxRecDepth 100000
open Go.Proofs.Tryz
namespace Go.Proofs.YtmappejlmapboaaGreat
section
open Go.RowKit Go.Deep Go.Maps
theorem Zrl {lo:Nat}{w:World}{sv:Value}{Ss:List Sh} (hS:ZaH lo w sv Ss) {Os:List Ob} (hO:∀ o ∈ Os,ZcO o):Zqj (Zcj Ss Os):=by
 intro p hp;obtain⟨o,ho,hq⟩:=List.mem_flatMap.1 hp;obtain⟨q,hq',rfl⟩:=List.mem_map.1 hq;exact⟨(hO o ho).s2,Zh5 hS (hO o ho).s0 q hq'⟩
theorem Zbg.sizes {lo:Nat}{w:World}{ov:Value}{Os:List Ob} (h:Zbg lo w ov Os):∀ o ∈ Os,ZcO o:=by
 intro o ho;obtain⟨i,hi,rfl⟩:=List.getElem_of_mem ho
 rcases h with ⟨_,_,_,rfl⟩ | ⟨b,off,cap,h1,h2,h3,h4,h5,h6,h7⟩
 . simp at hi
 . exact (h7 i hi).1
theorem Zhq (lo:Nat) (v:Value) (Ts:List Tm) (a b:Zy_) (w:World) (hv:Zbh lo w v Ts) :
 Calls prog 151 #[v,.string a,.string b] w fun e w'=>e=.returned (.bool (Za6 Ts a b))/\w'=w:=by
 have HV:=Zab hv;obtain⟨ta,tcap,rfl⟩:=hv.form;clear hv
 cases hab:(a.toList == b.toList) with
 | true=>
  go_enter func151,ntmps151;go_wp2;go_ret;exact⟨Zaa (by simp [Za6,hab]),rfl⟩
 | false=>
  have HU:Hd (Za6 Ts a b=ZeK Ts b 4 a):=by unfold Hd Za6;rw [hab];rfl
  go_enter func151,ntmps151;go_wp2;clear hab
  go_loopw [1,7] (fun x n wr=>∃ (k:Nat) (a':Zy_),x=.string a'/\n=.int .i64 k/\k<=4/\Za6 Ts a b=ZeK Ts b (4 - k) a'/\wr=w) (fun _ n _=>4 - (intOf n).toNat)
  case atStart=>exact⟨0,a,rfl,rfl,by omega,HU.o,rfl⟩
  case round=>
   obtain⟨k,a',rfl,rfl,hk,hu,hb⟩:=hrel;have HU:=Zab hu;subst hb;clear hu
   by_cases hlt:k < 4
   . have HS:Hd (Za6 Ts a b=if (ovB Ts a').toList.isEmpty then false else if (ovB Ts a').toList == b.toList then true else ZeK Ts b (4 - (k+1)) (ovB Ts a')):=by
      unfold Hd;rw [HU.o,show 4 - k=(4 - (k+1))+1 from by omega]
      rfl
     clear HU;go_wp2_with fail;refine (Zdk lo _ Ts a' _ HV.o).mono ?_;rintro e w1 ⟨rfl,rfl⟩
     cases he:(ovB Ts a').toList.isEmpty with
     | true=>
      have HR:Hd (Za6 Ts a b=false):=by unfold Hd;rw [HS.o,if_pos he]
      go_wp2;go_ret;exact⟨Zaa HR.o.symm,rfl⟩
     | false=>
      cases he2:((ovB Ts a').toList == b.toList) with
      | true=>
       have HR:Hd (Za6 Ts a b=true):=by unfold Hd;rw [HS.o,if_neg (by simp [he]),if_pos he2]
       go_wp2;go_ret;exact⟨Zaa HR.o.symm,rfl⟩
      | false=>
       have HR:Hd (Za6 Ts a b=ZeK Ts b (4 - (k+1)) (ovB Ts a')):=by unfold Hd;rw [HS.o,if_neg (by simp [he]),if_neg (by simp [he2])]
       go_wp2;go_roundw
       . exact⟨k+1,_,rfl,by go_num,by omega,HR.o,trivial⟩
       . simp [intOf];omega
   . have HR:Hd (Za6 Ts a b=false):=by unfold Hd;rw [HU.o,show 4 - k=0 from by omega];rfl
     go_wp2;go_ret;exact⟨Zaa HR.o.symm,rfl⟩
section
variable (lo:Nat) (sv mv tv ov gv lv pv:Value) (Ss:List Sh) (Ms:List Md) (Ts:List Tm) (Os:List Ob) (now tick given:Int) (team r:Zy_) (w:World)
theorem Zf9 (h:Zbw lo w sv mv tv Ss Ms Ts) (hO:Zbg lo w ov Os) (hn:Zbv Os) (ga:Option Addr) (gn gc:Nat) (la:Option Addr) (ln lc:Nat) (pa:Option Addr) (pn pc:Nat) :
 Calls prog 136 #[.agg #[sv,mv,tv],.agg #[.int .i64 now,.int .i64 tick,.int .i64 given,ov,.slice ga gn gc,.slice la ln lc,.slice pa pn pc],.string team,.string r] w
  fun e w'=>e=.returned (.int .i64 (wrap64 (Zc2 Ss Ts Os team r)))/\Zw_ w w':=by
 have HL:=Zab h;have HO:=Zab hO;obtain⟨a,cap,rfl⟩:=h.shs.form;obtain⟨a1,cap1,rfl⟩:=h.mds.form;obtain⟨a2,cap2,rfl⟩:=h.tms.form;obtain⟨oa,ocap,rfl⟩:=hO.form;have hm:=hO.max;unfold maxLen at hm;clear h hO;go_enter func136,ntmps136;go_wp2_with fail
 obtain⟨wz,hwz,HX,HY,HB⟩:∃ wz,wz=(w.alloc (.cells #[.slice a Ss.length cap,.slice a1 Ms.length cap1,.slice a2 Ts.length cap2] 41)).alloc (.cells #[.int .i64 now,.int .i64 tick,.int .i64 given,.slice oa Os.length ocap,.slice ga gn gc,.slice la ln lc,.slice pa pn pc] 48)/\
  Hd (Box wz w.heap.size #[.slice a Ss.length cap,.slice a1 Ms.length cap1,.slice a2 Ts.length cap2])/\Hd (Box wz (w.heap.size+1) #[.int .i64 now,.int .i64 tick,.int .i64 given,.slice oa Os.length ocap,.slice ga gn gc,.slice la ln lc,.slice pa pn pc])/\Hd (Zw_ w wz):=
  ⟨_,rfl,(Box.new _ _ _ _ rfl).on (Zac _ _),Box.new _ _ _ _ (by simp),(Zac _ _).trans ((Zac _ _).mono (by simp))⟩
 rw [<- hwz];clear hwz
 go_loopw [9,10] (fun n i wr=>∃ k:Nat,n=.int .i64 (wrap64 (Zc2 Ss Ts (Os.take k) team r))/\i=.int .i64 k/\k<=Os.length/\Zw_ w wr/\Box wr w.heap.size #[.slice a Ss.length cap,.slice a1 Ms.length cap1,.slice a2 Ts.length cap2]/\Box wr (w.heap.size+1) #[.int .i64 now,.int .i64 tick,.int .i64 given,.slice oa Os.length ocap,.slice ga gn gc,.slice la ln lc,.slice pa pn pc])
  (fun _ i _=>Os.length - (intOf i).toNat)
 case atStart=>exact⟨0,by simp [Zc2,wrap64],rfl,by omega,HB.o,HX.o,HY.o⟩
 case round=>
  obtain⟨k,rfl,rfl,hk,hb,hx,hy⟩:=hrel;have HBr:=Zab hb;have HXr:=Zab hx;have HYr:=Zab hy;have y3:=hy.cell 3;have x0:=hx.cell 0;have x1:=hx.cell 1;have x2:=hx.cell 2;simp at y3 x0 x1 x2;clear hb hx hy
  by_cases hlt:k < Os.length
  . obtain⟨b,off,rfl,hbw,-,hc⟩:=HO.o.full' (by omega)
    obtain⟨hs,vv0,vv1,hcell,hv0,hv1⟩:=hc k hlt;obtain⟨c0,c1,c2,c3,c4,c5,c6⟩:=hcell.below HBr.o hbw;have HV:=Zab hv0.at;have HH:=Zab hv1.at;obtain⟨va,vcap,rfl⟩:=hv0.at.form';obtain⟨ha,hcap,rfl⟩:=hv1.at.form';have HN:Hd (Os[k].vs.length<=1048576):=(hn.2 k hlt).1;have HU:=Zab (ZmX Ss Ts (Os.take k) Os[k] team r);have HTK:=Zab (List.take_succ_eq_append_getElem hlt);have HC:=Zab hcell;clear hc hcell hv0 hv1 hs;go_wp2
    go_quiet ((go_at_call 151;exact Calls.quiet_of_same (Zhq lo _ Ts Os[k].tm team _ (HL.o.below (below_drewN HBr.o _)).tms)))
    have HBd:Hd (Zw_ w (wr.drewN nq)):=below_drewN HBr.o _;have HXd:=Zab (HXr.o.on (below_drewN Zb_ nq));have HYd:=Zab (HYr.o.on (below_drewN Zb_ nq));generalize wr.drewN nq=wd at*
    cases hu:Za6 Ts Os[k].tm team with
    | false=>
     have HE:Hd (Zc2 Ss Ts (Os.take (k+1)) team r=Zc2 Ss Ts (Os.take k) team r):=by unfold Hd;rw [HTK.o,HU.o,hu];simp
     go_wp2;go_roundw
     . exact⟨k+1,by rw [HE.o],by go_num,by omega,HBd.o,HXd.o,HYd.o⟩
     . simp [intOf];omega
    | true=>
     have HE:Hd (Zc2 Ss Ts (Os.take (k+1)) team r=Zc2 Ss Ts (Os.take k) team r+Zdu Ss Os[k].kd Os[k].vs r):=by unfold Hd;rw [HTK.o,HU.o,hu];simp
     clear c0 c1 c2 c3 c4 c5 c6 x0 x1 x2 y3;obtain⟨c0,c1,c2,c3,c4,c5,c6⟩:=HC.o.below HBd.o hbw;have y3:=HYd.o.cell 3;have x0:=HXd.o.cell 0;have x1:=HXd.o.cell 1;have x2:=HXd.o.cell 2;simp at y3 x0 x1 x2;have HBD:Hd (Zw_ w wd.drew):=HBd.o.drew;go_wp2
     go_region_with (go_at_call 152;refine (Zhr lo _ _ _ Ss Ms Ts Os[k].kd Os[k].nm Os[k].tm _ _ Os[k].en Os[k].ver Os[k].vs Os[k].hs r _ (HL.o.below HBD.o) (HV.o.below HBD.o) (HH.o.below HBD.o) HN.o).mono ?_;rintro e w2 ⟨rfl,hb2⟩;have hb3:Hd (Below wd.heap.size wd w2):=(Zb_.drew).trans hb2;clear hb2)
     all_goals go_wp2
     all_goals go_roundw
     all_goals first
      | (case rel=>exact⟨k+1,by rw [HE.o,Zfu],by go_num,by omega,HBd.o.trans (hb3.o.mono HBd.o.size),HXd.o.on hb3.o,HYd.o.on hb3.o⟩)
      | (case measure=>simp [intOf];omega)
  . have he:k=Os.length:=by omega
    subst he;have HE:Hd (Zc2 Ss Ts (Os.take Os.length) team r=Zc2 Ss Ts Os team r):=by unfold Hd;rw [List.take_length]
    go_wp2;go_ret;exact⟨ZaB (by rw [HE.o]),HBr.o⟩
end
end
section
open Go.RowKit Go.Deep
variable {Ls:List Le}
def Zdc (t r:Zy_) (x:Le):Bool:=x.tm.toList == t.toList&&x.re.toList == r.toList
def Zkh (Ls:List Le) (t r:Zy_):Nat:=Ls.findIdx (Zdc t r)
def Zpe (Ls:List Le) (t r:Zy_):Int:=if Zkh Ls t r < Ls.length then (Zkh Ls t r:Int) else -1
theorem Zpg {t r:Zy_}{k:Nat} (hk:k < Ls.length) (h:Zdc t r Ls[k]=true) (hall:∀ i (h:i < Ls.length),i < k->Zdc t r Ls[i]=false):Zpe Ls t r=k:=by
 have e:Zkh Ls t r=k:=by
  unfold Zkh;rw [List.findIdx_eq hk];exact⟨h,fun j hj=>hall j (by omega) hj⟩
 unfold Zpe;rw [e,if_pos hk]
theorem ZqL {t r:Zy_} (hall:∀ i (h:i < Ls.length),Zdc t r Ls[i]=false):Zpe Ls t r= -1:=by
 have e:Zkh Ls t r=Ls.length:=by
  unfold Zkh;rw [List.findIdx_eq_length];intro x hx;obtain⟨i,hi,rfl⟩:=List.getElem_of_mem hx;exact hall i hi
 unfold Zpe;rw [e,if_neg (Nat.lt_irrefl _)]
theorem Zpf (Ls:List Le) (t r:Zy_):decide (Zpe Ls t r < 0)=!Ls.any (Zdc t r):=by
 unfold Zpe Zkh
 cases h:Ls.any (Zdc t r) with
 | true=>
  obtain⟨x,hx,hp⟩:=List.any_eq_true.1 h;rw [if_pos (List.findIdx_lt_length_of_exists ⟨x,hx,hp⟩)];simp
 | false=>
  have e:Ls.findIdx (Zdc t r)=Ls.length:=List.findIdx_eq_length.2 (fun x hx=>by
   have:=List.any_eq_false.1 h x hx
   simpa using this)
  rw [e,if_neg (Nat.lt_irrefl _)]
  rfl
def Zla (t r:Zy_) (p:Pu):Int:=if (p.tm.toList == t.toList&&p.re.toList == r.toList)=true then p.am else 0
def Ze0 (Ps:List Pu) (t r:Zy_):Int:=(Ps.map (Zla t r)).sum
theorem Zn7 (A:List Pu) (p:Pu) (t r:Zy_):Ze0 (A ++ [p]) t r=Ze0 A t r+Zla t r p:=by simp [Ze0]
def Zdt (B:Bk):Bool:=inB 0 1000000 B.now&&inB 0 1000000 B.tick&&inB 0 B.now B.given
section
variable (lo:Nat) (ov gv lv pv:Value) (B:Bk) (t r:Zy_) (w:World)
theorem ZaU (h:ZaX lo w ov gv lv pv B) :
 Calls prog 134 #[.agg #[.int .i64 B.now,.int .i64 B.tick,.int .i64 B.given,ov,gv,lv,pv],.string t,.string r] w fun e w'=>e=.returned (.int .i64 (Zpe B.ls t r))/\Zw_ w w':=by
 have HL:=Zab h.les;have hm:=h.les.max;unfold maxLen at hm;obtain⟨a0,k0,rfl⟩:=h.obs.form;obtain⟨a1,k1,rfl⟩:=h.grs.form;obtain⟨a2,k2,rfl⟩:=h.les.form;obtain⟨a3,k3,rfl⟩:=h.pus.form;clear h;go_enter func134,ntmps134;go_wp2_with fail;generalize hWa:w.alloc _=Wa;have HB:Hd (Zw_ w Wa):=by rw [<- hWa];exact Zac w _
 have HX:Hd (Box Wa w.heap.size #[.int .i64 B.now,.int .i64 B.tick,.int .i64 B.given,.slice a0 B.os.length k0,.slice a1 B.gs.length k1,.slice a2 B.ls.length k2,.slice a3 B.ps.length k3]):=by rw [<- hWa];exact Box.new _ _ _ _ rfl
 clear hWa;have x5:=HX.o.cell 5;simp at x5
 go_loop [7] (fun i=>∃ k:Nat,i=.int .i64 k/\k<=B.ls.length/\∀ j (h:j < B.ls.length),j < k->Zdc t r B.ls[j]=false) (fun i=>B.ls.length - (intOf i).toNat)
 case atStart=>exact⟨0,rfl,Nat.zero_le _,fun j _ h=>by omega⟩
 case round=>
  obtain⟨k,rfl,hk,hall⟩:=hrel;have HA:=Zab hall;clear hall
  by_cases hlt:k < B.ls.length
  . obtain⟨b,off,rfl,hbw,-,hc⟩:=HL.o.full' (by omega)
    obtain⟨hs,hcell⟩:=hc k hlt;obtain⟨c0,c1,c2,c3⟩:=hcell.below HB.o hbw;have HI:Hd (Zdc t r B.ls[k]=(B.ls[k].tm.toList == t.toList&&B.ls[k].re.toList == r.toList)):=rfl;clear hc hcell hs
    cases h1:(B.ls[k].tm.toList == t.toList) with
    | false=>
     have HE:Hd (Zdc t r B.ls[k]=false):=by unfold Hd;rw [HI.o,h1];rfl
     go_wp2
     go_round
     case rel=>exact⟨k+1,by go_num,by omega,fun j hj hjk=>by
                by_cases e:j=k
                . subst e;exact HE.o
                . exact HA.o j hj (by omega)⟩
     . simp [intOf];omega
    | true=>
     cases h2:(B.ls[k].re.toList == r.toList) with
     | false=>
      have HE:Hd (Zdc t r B.ls[k]=false):=by unfold Hd;rw [HI.o,h1,h2];rfl
      go_wp2
      go_round
      case rel=>exact⟨k+1,by go_num,by omega,fun j hj hjk=>by
                 by_cases e:j=k
                 . subst e;exact HE.o
                 . exact HA.o j hj (by omega)⟩
      . simp [intOf];omega
     | true=>
      have HE:Hd (Zpe B.ls t r=k):=Zpg hlt (by rw [HI.o,h1,h2];rfl) HA.o;go_wp2;go_ret;exact⟨ZaB HE.o.symm,HB.o⟩
  . have HE:Hd (Zpe B.ls t r= -1):=ZqL (fun i hi=>HA.o i hi (by omega))
    go_wp2;go_ret;exact⟨ZaB HE.o.symm,HB.o⟩
theorem Zjp (h:ZaX lo w ov gv lv pv B) :
 Calls prog 137 #[.agg #[.int .i64 B.now,.int .i64 B.tick,.int .i64 B.given,ov,gv,lv,pv],.string t,.string r] w fun e w'=>e=.returned (.int .i64 (wrap64 (Ze0 B.ps t r)))/\Zw_ w w':=by
 have HL:=Zab h.pus;have hm:=h.pus.max;unfold maxLen at hm;obtain⟨a0,k0,rfl⟩:=h.obs.form;obtain⟨a1,k1,rfl⟩:=h.grs.form;obtain⟨a2,k2,rfl⟩:=h.les.form;obtain⟨a3,k3,rfl⟩:=h.pus.form;clear h;go_enter func137,ntmps137;go_wp2_with fail;generalize hWa:w.alloc _=Wa;have HB:Hd (Zw_ w Wa):=by rw [<- hWa];exact Zac w _
 have HX:Hd (Box Wa w.heap.size #[.int .i64 B.now,.int .i64 B.tick,.int .i64 B.given,.slice a0 B.os.length k0,.slice a1 B.gs.length k1,.slice a2 B.ls.length k2,.slice a3 B.ps.length k3]):=by rw [<- hWa];exact Box.new _ _ _ _ rfl
 clear hWa;have x5:=HX.o.cell 6;simp at x5
 go_loop [7,8] (fun n i=>∃ k:Nat,n=.int .i64 (wrap64 (Ze0 (B.ps.take k) t r))/\i=.int .i64 k/\k<=B.ps.length) (fun _ i=>B.ps.length - (intOf i).toNat)
 case atStart=>exact⟨0,by simp [Ze0,wrap64],rfl,Nat.zero_le _⟩
 case round=>
  obtain⟨k,rfl,rfl,hk⟩:=hrel
  by_cases hlt:k < B.ps.length
  . obtain⟨b,off,rfl,hbw,-,hc⟩:=HL.o.full' (by omega)
    obtain⟨hs,hcell⟩:=hc k hlt;obtain⟨c0,c1,c2,c3,c4⟩:=hcell.below HB.o hbw;have HI:Hd (Zla t r B.ps[k]=if (B.ps[k].tm.toList == t.toList&&B.ps[k].re.toList == r.toList)=true then B.ps[k].am else 0):=rfl;have HU:=Zab (Zn7 (B.ps.take k) B.ps[k] t r);have HT:=Zab (List.take_succ_eq_append_getElem hlt);clear hc hcell hs
    cases h1:(B.ps[k].tm.toList == t.toList) with
    | false=>
     have HE:Hd (Ze0 (B.ps.take (k+1)) t r=Ze0 (B.ps.take k) t r):=by unfold Hd;rw [HT.o,HU.o,HI.o,h1];simp
     go_wp2
     go_round
     . exact⟨k+1,by rw [HE.o],by go_num,by omega⟩
     . simp [intOf];omega
    | true=>
     cases h2:(B.ps[k].re.toList == r.toList) with
     | false=>
      have HE:Hd (Ze0 (B.ps.take (k+1)) t r=Ze0 (B.ps.take k) t r):=by unfold Hd;rw [HT.o,HU.o,HI.o,h1,h2];simp
      go_wp2
      go_round
      . exact⟨k+1,by rw [HE.o],by go_num,by omega⟩
      . simp [intOf];omega
     | true=>
      have HE:Hd (Ze0 (B.ps.take (k+1)) t r=Ze0 (B.ps.take k) t r+B.ps[k].am):=by unfold Hd;rw [HT.o,HU.o,HI.o,h1,h2];simp
      go_wp2
      go_round
      . exact⟨k+1,by rw [HE.o,Zfu],by go_num,by omega⟩
      . simp [intOf];omega
  . have he:k=B.ps.length:=by omega
    subst he;have HE:Hd (Ze0 (B.ps.take B.ps.length) t r=Ze0 B.ps t r):=by unfold Hd;rw [List.take_length]
    go_wp2;go_ret;exact⟨ZaB (by first | rw [HE.o] | rfl),HB.o⟩
theorem ZkO (h:ZaX lo w ov gv lv pv B) :
 Calls prog 180 #[.agg #[.int .i64 B.now,.int .i64 B.tick,.int .i64 B.given,ov,gv,lv,pv]] w fun e w'=>e=.returned (.bool (Zdt B))/\Zw_ w w':=by
 obtain⟨a0,k0,rfl⟩:=h.obs.form;obtain⟨a1,k1,rfl⟩:=h.grs.form;obtain⟨a2,k2,rfl⟩:=h.les.form;obtain⟨a3,k3,rfl⟩:=h.pus.form;clear h;have HI:Hd (Zdt B=(inB 0 1000000 B.now&&inB 0 1000000 B.tick&&inB 0 B.now B.given)):=rfl
 cases h1:inB 0 1000000 B.now with
 | false=>
  have HE:Hd (Zdt B=false):=by unfold Hd;rw [HI.o,h1];rfl
  go_enter func180,ntmps180;go_wp2_with (go_at_call 209;refine (ZaP _ _ _ _).mono ?_;rintro e w' ⟨rfl,rfl⟩);go_ret;exact⟨Zaa HE.o.symm,Zac _ _⟩
 | true=>
  cases h2:inB 0 1000000 B.tick with
  | false=>
   have HE:Hd (Zdt B=false):=by unfold Hd;rw [HI.o,h1,h2];rfl
   go_enter func180,ntmps180;go_wp2_with (go_at_call 209;refine (ZaP _ _ _ _).mono ?_;rintro e w' ⟨rfl,rfl⟩);go_ret;exact⟨Zaa HE.o.symm,Zac _ _⟩
  | true=>
   have HE:Hd (Zdt B=inB 0 B.now B.given):=by unfold Hd;rw [HI.o,h1,h2];rfl
   go_enter func180,ntmps180;go_wp2_with (go_at_call 209;refine (ZaP _ _ _ _).mono ?_;rintro e w' ⟨rfl,rfl⟩);go_ret;exact⟨Zaa HE.o.symm,Zac _ _⟩
end
end
section
open Go.RowKit Go.Deep Go.Maps
variable {Os:List Ob}
theorem Zaf.max' {w:World}{v:Value}{L:List Zy_} (h:Zaf w v L):L.length<=maxLen:=by
 rcases h with ⟨_,_,_,rfl⟩ | ⟨b,off,cap,_,_,h3,_⟩
 . exact Nat.zero_le _
 . exact h3
theorem ZkJ (v v':Value) (A C:List Zy_) (w:World) (hA:Zaf w v A) (hC:Zaf w v' C) :
 Calls prog 242 #[v,v'] w fun e w'=>e=.returned (.bool (decide (A=C)))/\Zw_ w w':=by
 have HA:=Zab hA;have HC:=Zab hC;obtain⟨a,cap,rfl⟩:=hA.form';obtain⟨c,ccap,rfl⟩:=hC.form';have hm:=hA.max';unfold maxLen at hm;clear hA hC
 by_cases hl:A.length=C.length
 case neg=>
  have HE:Hd (decide (A=C)=false):=decide_eq_false (fun e=>hl (by rw [e]));have hne:((A.length:Int) != (C.length:Int))=true:=by simp;omega
  go_enter func242,ntmps242;go_wp2;go_ret;exact⟨Zaa HE.o.symm,Below.refl _ _⟩
 have hne:((A.length:Int) != (C.length:Int))=false:=by rw [hl];simp
 have HLEN:=Zab hl;clear hl;go_enter func242,ntmps242;go_wp2
 go_loopw [13] (fun i wr=>∃ k:Nat,i=.int .i64 k/\k<=A.length/\Zw_ w wr/\∀ j (h:j < A.length) (h':j < C.length),j < k->A[j]=C[j]) (fun i _=>A.length - (intOf i).toNat)
 case atStart=>exact⟨0,rfl,Nat.zero_le _,Below.refl _ _,fun j _ _ h=>by omega⟩
 case round=>
  obtain⟨k,rfl,hk,hb,hall⟩:=hrel;have HB:=Zab hb;have HL:=Zab hall;clear hb hall
  by_cases hlt:k < A.length
  . have hlc:k < C.length:=by have:=HLEN.o;omega
    obtain⟨ab,aoff,rfl,hab,hac,-⟩:=HA.o.spread (by omega);obtain⟨cb,coff,rfl,hcb,hcc,-⟩:=HC.o.spread (by omega);have ca:wr.cell? ⟨ab,aoff+k,none⟩=some (.string A[k]):=(HB.o.cell (p:=⟨ab,aoff+k,none⟩) hab).trans (hac k hlt);have cc:wr.cell? ⟨cb,coff+k,none⟩=some (.string C[k]):=(HB.o.cell (p:=⟨cb,coff+k,none⟩) hcb).trans (hcc k hlc);have hkc:(k:Int) < (C.length:Int):=by omega
    clear hac hcc
    cases hq:(A[k].toList == C[k].toList) with
    | true=>
     have HT:Hd (A[k]=C[k]):=ZaF.1 hq;go_wp2
     go_quiet (fail)
     go_wp2;go_roundw
     case rel=>exact⟨k+1,by go_num,by omega,below_drewN HB.o _,fun j hj hj' hjk=>by
                by_cases e:j=k
                . subst e;exact HT.o
                . exact HL.o j hj hj' (by omega)⟩
     . simp [intOf];omega
    | false=>
     have HN:Hd (decide (A=C)=false):=decide_eq_false (fun e=>Ze9.1 hq (by simp [e]));go_wp2
     go_quiet (fail)
     go_wp2;go_ret;exact⟨Zaa HN.o.symm,below_drewN HB.o _⟩
  . have HT:Hd (decide (A=C)=true):=decide_eq_true (List.ext_getElem HLEN.o (fun i h1 h2=>HL.o i h1 h2 (by omega)))
    go_wp2;go_ret;exact⟨Zaa HT.o.symm,HB.o⟩
theorem ZiH (v v':Value) (A C:List Zy_) (w:World) (hA:Zaf w v A) (hC:Zaf w v' C) :
 Calls prog 129 #[v,v'] w fun e w'=>e=.returned (.bool (decide (A=C)))/\Zw_ w w':=by
 have HA:=Zab hA;have HC:=Zab hC;obtain⟨a,cap,rfl⟩:=hA.form';obtain⟨c,ccap,rfl⟩:=hC.form';have hm:=hA.max';unfold maxLen at hm;clear hA hC
 by_cases hl:A.length=C.length
 case neg=>
  have HE:Hd (decide (A=C)=false):=decide_eq_false (fun e=>hl (by rw [e]));have hne:((A.length:Int) != (C.length:Int))=true:=by simp;omega
  go_enter func129,ntmps129;go_wp2;go_ret;exact⟨Zaa HE.o.symm,Below.refl _ _⟩
 have hne:((A.length:Int) != (C.length:Int))=false:=by rw [hl];simp
 have HLEN:=Zab hl;clear hl;go_enter func129,ntmps129;go_wp2
 go_loopw [5] (fun i wr=>∃ k:Nat,i=.int .i64 k/\k<=A.length/\Zw_ w wr/\∀ j (h:j < A.length) (h':j < C.length),j < k->A[j]=C[j]) (fun i _=>A.length - (intOf i).toNat)
 case atStart=>exact⟨0,rfl,Nat.zero_le _,Below.refl _ _,fun j _ _ h=>by omega⟩
 case round=>
  obtain⟨k,rfl,hk,hb,hall⟩:=hrel;have HB:=Zab hb;have HL:=Zab hall;clear hb hall
  by_cases hlt:k < A.length
  . have hlc:k < C.length:=by have:=HLEN.o;omega
    obtain⟨ab,aoff,rfl,hab,hac,-⟩:=HA.o.spread (by omega);obtain⟨cb,coff,rfl,hcb,hcc,-⟩:=HC.o.spread (by omega);have ca:wr.cell? ⟨ab,aoff+k,none⟩=some (.string A[k]):=(HB.o.cell (p:=⟨ab,aoff+k,none⟩) hab).trans (hac k hlt);have cc:wr.cell? ⟨cb,coff+k,none⟩=some (.string C[k]):=(HB.o.cell (p:=⟨cb,coff+k,none⟩) hcb).trans (hcc k hlc);have hkc:(k:Int) < (C.length:Int):=by omega
    clear hac hcc
    cases hq:(A[k].toList == C[k].toList) with
    | true=>
     have HT:Hd (A[k]=C[k]):=ZaF.1 hq;go_wp2
     go_quiet (fail)
     go_wp2;go_roundw
     case rel=>exact⟨k+1,by go_num,by omega,below_drewN HB.o _,fun j hj hj' hjk=>by
                by_cases e:j=k
                . subst e;exact HT.o
                . exact HL.o j hj hj' (by omega)⟩
     . simp [intOf];omega
    | false=>
     have HN:Hd (decide (A=C)=false):=decide_eq_false (fun e=>Ze9.1 hq (by simp [e]));go_wp2
     go_quiet (fail)
     go_wp2;go_ret;exact⟨Zaa HN.o.symm,below_drewN HB.o _⟩
  . have HT:Hd (decide (A=C)=true):=decide_eq_true (List.ext_getElem HLEN.o (fun i h1 h2=>HL.o i h1 h2 (by omega)))
    go_wp2;go_ret;exact⟨Zaa HT.o.symm,HB.o⟩
def Zgo (k n:Zy_) (x:Ob):Bool:=x.kd.toList == k.toList&&x.nm.toList == n.toList
def obP (Os:List Ob) (k n:Zy_):Int:=if Os.findIdx (Zgo k n) < Os.length then (Os.findIdx (Zgo k n):Int) else -1
theorem Zq1 {k n:Zy_}{i:Nat} (hi:i < Os.length) (h:Zgo k n Os[i]=true) (hall:∀ j (h:j < Os.length),j < i->Zgo k n Os[j]=false):obP Os k n=i:=by
 have e:Os.findIdx (Zgo k n)=i:=by
  rw [List.findIdx_eq hi];exact⟨h,fun j hj=>hall j (by omega) hj⟩
 unfold obP;rw [e,if_pos hi]
theorem ZrO {k n:Zy_} (hall:∀ j (h:j < Os.length),Zgo k n Os[j]=false):obP Os k n= -1:=by
 have e:Os.findIdx (Zgo k n)=Os.length:=by
  rw [List.findIdx_eq_length];intro x hx;obtain⟨i,hi,rfl⟩:=List.getElem_of_mem hx;exact hall i hi
 unfold obP;rw [e,if_neg (Nat.lt_irrefl _)]
theorem Zq0 (Os:List Ob) (k n:Zy_):decide (obP Os k n < 0)=!Os.any (Zgo k n):=by
 unfold obP
 cases h:Os.any (Zgo k n) with
 | true=>
  obtain⟨x,hx,hp⟩:=List.any_eq_true.1 h;rw [if_pos (List.findIdx_lt_length_of_exists ⟨x,hx,hp⟩)];simp
 | false=>
  have e:Os.findIdx (Zgo k n)=Os.length:=List.findIdx_eq_length.2 (fun x hx=>by
   have:=List.any_eq_false.1 h x hx
   simpa using this)
  rw [e,if_neg (Nat.lt_irrefl _)]
  rfl
section
variable (lo:Nat) (ov gv lv pv:Value) (B:Bk) (t r:Zy_) (w:World)
theorem Zgm (h:ZaX lo w ov gv lv pv B) :
 Calls prog 131 #[.agg #[.int .i64 B.now,.int .i64 B.tick,.int .i64 B.given,ov,gv,lv,pv],.string t,.string r] w fun e w'=>e=.returned (.int .i64 (obP B.os t r))/\Zw_ w w':=by
 have HL:=Zab h.obs;have hm:=h.obs.max;unfold maxLen at hm;obtain⟨a0,k0,rfl⟩:=h.obs.form;obtain⟨a1,k1,rfl⟩:=h.grs.form;obtain⟨a2,k2,rfl⟩:=h.les.form;obtain⟨a3,k3,rfl⟩:=h.pus.form;clear h;go_enter func131,ntmps131;go_wp2_with fail;generalize hWa:w.alloc _=Wa;have HB:Hd (Zw_ w Wa):=by rw [<- hWa];exact Zac w _
 have HX:Hd (Box Wa w.heap.size #[.int .i64 B.now,.int .i64 B.tick,.int .i64 B.given,.slice a0 B.os.length k0,.slice a1 B.gs.length k1,.slice a2 B.ls.length k2,.slice a3 B.ps.length k3]):=by rw [<- hWa];exact Box.new _ _ _ _ rfl
 clear hWa;have x5:=HX.o.cell 3;simp at x5
 go_loop [7] (fun i=>∃ k:Nat,i=.int .i64 k/\k<=B.os.length/\∀ j (h:j < B.os.length),j < k->Zgo t r B.os[j]=false) (fun i=>B.os.length - (intOf i).toNat)
 case atStart=>exact⟨0,rfl,Nat.zero_le _,fun j _ h=>by omega⟩
 case round=>
  obtain⟨k,rfl,hk,hall⟩:=hrel;have HA:=Zab hall;clear hall
  by_cases hlt:k < B.os.length
  . obtain⟨b,off,rfl,hbw,-,hc⟩:=HL.o.full' (by omega)
    obtain⟨hs,vv0,vv1,hcell,-,-⟩:=hc k hlt;obtain⟨c0,c1,c2,c3,c4,c5,c6⟩:=hcell.below HB.o hbw;have HI:Hd (Zgo t r B.os[k]=(B.os[k].kd.toList == t.toList&&B.os[k].nm.toList == r.toList)):=rfl;clear hc hcell hs
    cases h1:(B.os[k].kd.toList == t.toList) with
    | false=>
     have HE:Hd (Zgo t r B.os[k]=false):=by unfold Hd;rw [HI.o,h1];rfl
     go_wp2
     go_round
     case rel=>exact⟨k+1,by go_num,by omega,fun j hj hjk=>by
                by_cases e:j=k
                . subst e;exact HE.o
                . exact HA.o j hj (by omega)⟩
     . simp [intOf];omega
    | true=>
     cases h2:(B.os[k].nm.toList == r.toList) with
     | false=>
      have HE:Hd (Zgo t r B.os[k]=false):=by unfold Hd;rw [HI.o,h1,h2];rfl
      go_wp2
      go_round
      case rel=>exact⟨k+1,by go_num,by omega,fun j hj hjk=>by
                 by_cases e:j=k
                 . subst e;exact HE.o
                 . exact HA.o j hj (by omega)⟩
      . simp [intOf];omega
     | true=>
      have HE:Hd (obP B.os t r=k):=Zq1 hlt (by rw [HI.o,h1,h2];rfl) HA.o;go_wp2;go_ret;exact⟨ZaB HE.o.symm,HB.o⟩
  . have HE:Hd (obP B.os t r= -1):=ZrO (fun i hi=>HA.o i hi (by omega))
    go_wp2;go_ret;exact⟨ZaB HE.o.symm,HB.o⟩
end
end
section
open Go.RowKit Go.Deep Go.Maps
theorem Zff:ZdY prog 153 9:=
 ⟨⟨_,_,underlying153,rfl,rfl,rfl,rfl,by decide,by decide⟩,by kernel_rfl,by kernel_rfl,underlying9,by kernel_rfl,of_decide_eq_true (by kernel_rfl)⟩
theorem ZrH:(153:TypeId) < prog.types.size:=of_decide_eq_true (by kernel_rfl)
theorem Zsc:prog.keyTypeAt 2 153=true:=by kernel_rfl
theorem ZnM:WideMaps.KeyLaw prog 153:=deep_law_laid Zng (by decide) ZrH Zsc Zff.wide
theorem Zeo:Keyed prog 153:=Keyed.of_law ZnM
structure Zo0 {H:Type} (Os:List Ob) (D:DataW H):Prop where
 isMap:IsMap D
 has:∀ a b:Zy_,a.size<=maxLen->b.size<=maxLen->Maps.has D (ZbY a b)=Os.any (Zgo a b)
theorem Zo0.start {H:Type}:Zo0 [] (.map []:DataW H):=⟨⟨[],rfl⟩,fun _ _ _ _=>rfl⟩
theorem Zo0.step {H:Type}{Os:List Ob}{D:DataW H} (h:Zo0 Os D) (o:Ob) (hz:ZcO o) (d:DataW H):Zo0 (Os ++ [o]) (D.put (ZbY o.kd o.nm) d):=by
 refine⟨h.isMap.put _ _,fun a b ha hb=>?_⟩;rw [List.any_append]
 by_cases e:a=o.kd/\b=o.nm
 . obtain⟨rfl,rfl⟩:=e
   rw [has_put_same h.isMap (Zeb _ _)];unfold Zgo;simp
 . have hne:ZbY a b≠ZbY o.kd o.nm:=fun e'=>e (Zff.inj ZnM ha hb hz.s0 hz.s1 e')
   have hn:Zgo a b o=false:=by
    unfold Zgo
    cases h1:(o.kd.toList == a.toList) with
    | false=>rfl
    | true=>
     cases h2:(o.nm.toList == b.toList) with
     | false=>rfl
     | true=>exact absurd ⟨(ZaF.1 h1).symm,(ZaF.1 h2).symm⟩ e
   rw [has_put_other hne,h.has a b ha hb];simp [hn]
theorem ZgQ (x:Ob) (va:Option Addr) (vn vc:Nat) (ha:Option Addr) (hn hc:Nat) (w:World) :
 Calls prog 96 #[.agg #[.string x.kd,.string x.nm,.string x.tm,.slice va vn vc,.bool x.en,.slice ha hn hc,.int .i64 x.ver]] w
  fun e w'=>e=.returned (.agg #[.string x.kd,.string x.nm])/\Zw_ w w':=by
 go_enter func96,ntmps96;go_wp2;refine bodyPost_ret (v:=.agg #[.string x.kd,.string x.nm]) (by simp [results,results96,go_sem]) rfl ⟨rfl,?_⟩
 repeat (refine Below.setCell ?_ (by simp) _)
 exact (Zb_.alloc Zl_ _).alloc (by simp) _
theorem Zmm (lo:Nat) (v:Value) (Os:List Ob) (w:World) (hv:Zbg lo w v Os) (hn:Os.length<=1048576) :
 Calls prog 192 #[v] w
  fun e w'=>e=.returned (.map (some w.heap.size))/\Zw_ w w'/\∃ D:DataW Unit,w'.ownsMap prog 153 (plainElem prog 3) w.heap.size Os.length D/\Zo0 Os D:=by
 have HV:=Zab hv;obtain⟨a,cap,rfl⟩:=hv.form;clear hv;have hmm:∀ (n:Nat) (w:World),(Instr.makeMap 146 (some (.int .i64 n))).run prog w=.ok (.map (some w.heap.size)) (w.alloc (.map #[] 0)):=fun n w=>by simp [Instr.makeMap,go_sem,run_underlying underlying146,Result.andThen]
 go_enter func192,ntmps192;go_wp2;clear hmm
 go_loopw [11] (fun i wr=>∃ k:Nat,i=.int .i64 k/\k<=Os.length/\Zw_ w wr/\∃ D:DataW Unit,wr.ownsMap prog 153 (plainElem prog 3) w.heap.size k D/\Zo0 (Os.take k) D) (fun i _=>Os.length - (intOf i).toNat)
 case atStart=>exact⟨0,rfl,Nat.zero_le _,Zac _ _,.map [],World.ownsMap_made _ _ _ _,Zo0.start⟩
 case round=>
  obtain⟨k,rfl,hk,hb,D,ho,hsum⟩:=hrel;have HB:=Zab hb;have HSUM:=Zab hsum;clear hb hsum
  by_cases hlt:k < Os.length
  . obtain⟨b,off,rfl,hbw,-,hc⟩:=HV.o.full' (by omega)
    obtain⟨hs,vv0,vv1,hcell,hv0,hv1⟩:=hc k hlt;obtain⟨c0,c1,c2,c3,c4,c5,c6⟩:=hcell.below HB.o hbw;obtain⟨va,vc,rfl⟩:=hv0.at.form';obtain⟨ha,hc',rfl⟩:=hv1.at.form';have HZ:=Zab hs;have HO:=Zab ho;have HTK:=Zab (List.take_succ_eq_append_getElem hlt);clear hc hcell hs hv0 hv1 ho;go_wp2_with fail;refine (ZgQ Os[k] _ _ _ _ _ _ _).mono ?_;rintro e w1 ⟨rfl,hb1⟩;have HB1:Hd (Zw_ w w1):=(HB.o.trans ((Zac _ _).mono HB.o.size)).trans (hb1.mono (HB.o.trans ((Zac _ _).mono HB.o.size)).size);have ho1:w1.ownsMap prog 153 (plainElem prog 3) w.heap.size k D:=(HO.o.alloc _).kept (ZaI hb1) (by simp);clear hb1
    go_wp2_with (at_mapUpdate;refine wpList_mapUpdate_own _ rfl _ _ _ 146 rfl 153 3 Zeo underlying146 _ w.heap.size k _ rfl ho1 (by unfold maxLen;omega) _ _ _ rfl rfl (Zff.mk' HZ.o.s0 HZ.o.s1) _ [] (plainElem_int underlying3 (WalkArith.wf_i64 (by omega))) ?_;intro w2 ho2 hg2;have HO2:=Zab ho2;have HG2:=Zab hg2;clear ho2 hg2);go_roundw
    . exact⟨k+1,by go_num,by omega,Zcn HB1.o HG2.o Zl_,_,HO2.o,by rw [HTK.o];exact HSUM.o.step _ HZ.o _⟩
    . simp [intOf];omega
  . have he:k=Os.length:=by omega
    subst he;have HT:Hd (Os.take Os.length=Os):=List.take_length;have HO:=Zab ho;clear ho;go_wp2;go_ret;exact⟨rfl,HB.o,D,HO.o,HT.o ▸ HSUM.o⟩
end
section
open Go.RowKit Go.Deep
variable {wr w1:World} {B k:Nat} {Xl:List Le}
def Za2 (wr:World) (B:Nat) (Xl:List Le) (k:Nat) (c:Nat->Nat):Prop:=
 B < c 0/\(∀ i,i < k->c i<=c (i+1))/\c k<=wr.heap.size/\∃ f,wr.rowIs B 142 (Xl.length*4) f/\∀ i (h:i < Xl.length),i < k->ZdU Xl[i]/\f (i*4)=.string Xl[i].tm/\f (i*4+1)=.string Xl[i].re/\f (i*4+2)=.int .i64 Xl[i].mo/\f (i*4+3)=.int .i64 Xl[i].fr
theorem Za2.le {c:Nat->Nat} (h:Za2 wr B Xl k c) {i:Nat}:∀ {j:Nat},i<=j->j<=k->c i<=c j:=by
 intro j
 induction j with
 | zero=>intro hij _;have:i=0:=by omega
         subst this;exact Nat.le_refl _
 | succ j ih=>
  intro hij hjn
  by_cases e:i=j+1
  . subst e;exact Nat.le_refl _
  . exact Nat.le_trans (ih (by omega) (by omega)) (h.2.1 j (by omega))
theorem Za2.below {c:Nat->Nat} (h:Za2 wr B Xl k c) (hb:Below wr.heap.size wr w1):Za2 w1 B Xl k c:=by
 obtain⟨g1,g2,g3,f,hr,hall⟩:=h;refine⟨g1,g2,Nat.le_trans g3 hb.size,f,hr.of_block (hb.block B hr.lt),fun i hi hik=>?_⟩;obtain⟨hz,h0,h1,h2,h3⟩:=hall i hi hik;exact⟨hz,h0,h1,h2,h3⟩
theorem Za2.free {c:Nat->Nat} (h:Za2 wr B Xl k c) (i:Nat):wr.frozen? ⟨B,i,none⟩=false:=by
 obtain⟨_,_,_,f,hr,_⟩:=h;exact hr.frozen i
theorem Za2.there {c:Nat->Nat} (h:Za2 wr B Xl k c) (i:Nat) (hi:i < Xl.length*4):∃ v,wr.cell? ⟨B,i,none⟩=some v:=by
 obtain⟨_,_,_,f,hr,_⟩:=h;exact⟨_,hr.cell hi⟩
theorem Za2.step {c:Nat->Nat} (h:Za2 w1 B Xl k c) (hk:k < Xl.length) (hz:ZdU Xl[k]) (d:Nat) (hd0:c k<=d) (hd:d<=w1.heap.size) :
 Za2 ((((w1.setCell ⟨B,k*4,none⟩ (.string Xl[k].tm)).setCell ⟨B,k*4+1,none⟩ (.string Xl[k].re)).setCell ⟨B,k*4+2,none⟩ (.int .i64 Xl[k].mo)).setCell ⟨B,k*4+3,none⟩ (.int .i64 Xl[k].fr)) B Xl (k+1) (fun j=>if j<=k then c j else d):=by
 have hle:=fun i (hi:i<=k)=>h.le (i:=0) (j:=i) Zz_ hi
 have hle2:=fun i (hi:i < k)=>h.le (i:=i+1) (j:=k) (by omega) Zl_
 obtain⟨g1,g2,g3,f,hr,hall⟩:=h;have hts:Zag B (B+1) w1 ((((w1.setCell ⟨B,k*4,none⟩ (.string Xl[k].tm)).setCell ⟨B,k*4+1,none⟩ (.string Xl[k].re)).setCell ⟨B,k*4+2,none⟩ (.int .i64 Xl[k].mo)).setCell ⟨B,k*4+3,none⟩ (.int .i64 Xl[k].fr)):=(((Zag.setB B _ _ _).trans (Zag.setB B _ _ _)).trans (Zag.setB B _ _ _)).trans (Zag.setB B _ _ _);refine⟨by simpa using g1,fun i hi=>?_,?_,_,((((hr.set _ _).set _ _).set _ _).set _ _),fun i hi hik=>?_⟩
 . dsimp only
   by_cases e:i=k
   . subst e;rw [if_pos Zl_,if_neg (by omega)];exact hd0
   . rw [if_pos (by omega),if_pos (by omega)];exact g2 i (by omega)
 . dsimp only;rw [if_neg (by omega)];exact Nat.le_trans hd hts.size
 by_cases e:i=k
 . subst e
   have hb0:=hle i Zl_;exact⟨hz,by simp,by simp,by simp,by simp⟩
 . have hb0:=hle i (by omega)
   obtain⟨hz,h0,h1,h2,h3⟩:=hall i hi (by omega);refine⟨hz,?_,?_,?_,?_⟩
   . rw [if_neg (by omega),if_neg (by omega),if_neg (by omega),if_neg (by omega)];exact h0
   . rw [if_neg (by omega),if_neg (by omega),if_neg (by omega),if_neg (by omega)];exact h1
   . rw [if_neg (by omega),if_neg (by omega),if_neg (by omega),if_neg (by omega)];exact h2
   . rw [if_neg (by omega),if_neg (by omega),if_neg (by omega),if_neg (by omega)];exact h3
theorem Za2.own {c:Nat->Nat} (h:Za2 wr B Xl k c) (hk:k=Xl.length) (hne:Xl≠[]) (hm:Xl.length<=maxLen):Zb5 B wr.heap.size wr (.slice (some ⟨B,0,none⟩) Xl.length Xl.length) Xl:=by
 subst hk;obtain⟨g1,g2,g3,f,hr,hall⟩:=h;have h0:0 < Xl.length:=List.length_pos_iff.2 hne
 refine Or.inr ⟨B,0,Xl.length,c,fun i=>if h:i < Xl.length then Xl[i] else Xl[0],rfl,hne,hm,Nat.le_refl _,fun i hi=>by simp [hi],hr.lt,Nat.le_refl _,g1,hr.lt,g2,g3,fun i=>hr.frozen i,fun i hi=>?_⟩;obtain⟨hz,h0,h1,h2,h3⟩:=hall i hi hi;simp only [hi,dif_pos];rw [Nat.zero_add];exact⟨hz,⟨by rw [hr.cell (by omega),h0],by rw [hr.cell (by omega),h1],by rw [hr.cell (by omega),h2],by rw [hr.cell (by omega),h3]⟩⟩
theorem Za2.new (w:World) (Xl:List Le) (z:Array Value):Za2 (w.alloc (.cells (madeCells z (Xl.length*4)) 142)) w.heap.size Xl 0 (fun _=>w.heap.size+1):=by
 refine⟨Nat.lt_succ_self _,fun i hi=>by omega,by simp,fun i=>(madeCells z (Xl.length*4)).getD i default,?_,fun i _ h=>by omega⟩;have:=World.rowIs_alloc w (madeCells z (Xl.length*4)) 142 (fun i=>(madeCells z (Xl.length*4)).getD i default) (fun i hi=>by simp [Array.getD,hi])
 rwa [size_madeCells] at this
theorem ZmO (lo:Nat) (v:Value) (Xl:List Le) (w:World) (hv:Zbx lo w v Xl) (hn:Zej Xl) :
 Calls prog 41 #[v] w fun e w'=>∃ v',e=.returned v'/\Zw_ w w'/\Zb5 w.heap.size w'.heap.size w' v' Xl:=by
 obtain⟨i0,hi,hz0,hz1,hz2⟩:=info_parts Tryz.info142;have HSM:=Zab hn.2;have hn1:=hn.1;clear hn
 by_cases hL:Xl=[]
 . subst hL
   obtain⟨a,cap,rfl⟩:=hv.form;clear hv
   have hmk:∀ u:World,(Instr.makeSlice 45 (.int .i64 0) (.int .i64 0)).run prog u=.ok (.slice (some ⟨u.heap.size,0,none⟩) 0 0) (u.alloc (.cells (madeCells (Value.cells (.agg #[.string ⟨#[]⟩,.string ⟨#[]⟩,.int .i64 0,.int .i64 0])) 0) 142)):=fun u=>by
    have h:=run_make (P:=prog) u 45 142 i0 _ underlying45 hi hz0 .i64 .i64 0 0 (by omega) (by omega) (by omega) (by omega)
    simpa [hz1] using h
   go_enter func41,ntmps41;go_wp2
   go_loop [4] (fun i=>i=.int .i64 0) (fun _=>0)
   case atStart=>rfl
   case round=>
    subst hrel;go_wp2;go_ret;exact⟨_,rfl,Zb_.alloc Zl_ _,Or.inl ⟨_,_,rfl,rfl⟩⟩
 . obtain⟨b,off,cap,rfl,hm,hbw,_,hc⟩:=hv.full hL
   clear hv;have HM:Hd (Xl.length<=maxLen):=hm;unfold maxLen at hm
   have hmk:∀ u:World,(Instr.makeSlice 45 (.int .i64 (Xl.length:Int)) (.int .i64 (Xl.length:Int))).run prog u=.ok (.slice (some ⟨u.heap.size,0,none⟩) Xl.length Xl.length) (u.alloc (.cells (madeCells (Value.cells (.agg #[.string ⟨#[]⟩,.string ⟨#[]⟩,.int .i64 0,.int .i64 0])) (Xl.length*4)) 142)):=fun u=>by
    have h:=run_make (P:=prog) u 45 142 i0 _ underlying45 hi hz0 .i64 .i64 Xl.length Xl.length (by omega) (by omega) (by rw [hz2];omega) (by omega);rw [hz1] at h
    simpa using h
   clear hi hz0 hz1 hz2;go_enter func41,ntmps41;go_wp2;clear hmk
   go_loopw [4] (fun i wr=>∃ (k:Nat) (c:Nat->Nat),i=.int .i64 k/\k<=Xl.length/\Zw_ w wr/\Za2 wr w.heap.size Xl k c) (fun i _=>Xl.length - (intOf i).toNat)
   case atStart=>exact⟨0,_,rfl,by omega,Zb_.alloc Zl_ _,Za2.new w Xl _⟩
   case round=>
    obtain⟨k,c,rfl,hk,hb,hf⟩:=hrel
    by_cases hlt:k < Xl.length
    . obtain⟨hs,hc⟩:=hc k hlt
      have HB:=Zab hb;have HF:=Zab hf;have HSZ:=Zab hs;obtain⟨c0,c1,c2,c3⟩:=hc.below hb hbw;clear hc hb hf hs;go_wp2_with fail;refine (Zlo _ _).mono ?_;rintro e w1 ⟨rfl,hb1⟩;have hf1:=HF.o.below hb1;have hB:Hd (Zw_ w w1):=HB.o.trans (hb1.mono HB.o.size);have HST:=Zab (hf1.step hlt HSZ.o w1.heap.size (Nat.le_trans HF.o.2.2.1 hb1.size) Zl_);have hfr:=hf1.free;obtain⟨o0,ho0⟩:=hf1.there (k*4) (by omega);obtain⟨o1,ho1⟩:=hf1.there (k*4+1) (by omega);obtain⟨o2,ho2⟩:=hf1.there (k*4+2) (by omega);obtain⟨o3,ho3⟩:=hf1.there (k*4+3) (by omega);clear hf1 hb1 HF HB c0 c1 c2 c3;go_wp2;go_roundw
      . 
       exact⟨k+1,_,by go_num,by omega,((((hB.o.setCell Zl_ _).setCell Zl_ _).setCell Zl_ _).setCell Zl_ _),HST.o⟩
      . simp [intOf];omega
    . have e:k=Xl.length:=by omega
      go_wp2;go_ret;exact⟨_,rfl,hb,hf.own e hL HM.o⟩
end
open Go.RowKit Go.Deep
theorem ZoO {L:List Int} (h:vAt L 0=true):∀ i,i < 1->vAt L i=true:=fun i hi=>by
 have e:i=0:=by omega
 subst e;exact h
theorem ZkV (lo:Nat) (v:Value) (L:List Int) (w:World) (hv:Zat lo w v L) :
 Calls prog 245 #[v] w fun e w'=>e=.returned (.bool (Znb L))/\w'=w:=by
 by_cases hL:L=[]
 . subst hL
   obtain⟨a,cap,rfl⟩:=hv.form;clear hv;go_enter func245,ntmps245;go_wp2
   go_loop [7] (fun i=>i=.int .i64 0) (fun _=>0)
   case atStart=>rfl
   case round=>
    subst hrel;go_wp2;go_ret;exact⟨rfl,rfl⟩
 . obtain⟨b,off,cap,rfl,hm,hbw,hc⟩:=hv.full hL
   clear hv;unfold maxLen at hm;go_enter func245,ntmps245;go_wp2
   go_loop [7] (fun i=>∃ k:Nat,i=.int .i64 k/\k<=L.length/\∀ i,i < k->vAt L i=true) (fun i=>L.length - (intOf i).toNat)
   case atStart=>exact⟨0,rfl,by omega,fun i h=>by omega⟩
   case round=>
    obtain⟨k,rfl,hk,hall⟩:=hrel;have HA:=Zab hall;clear hall
    by_cases hlt:k < L.length
    . have c0:=hc k hlt
      by_cases h1:L[k] < 1
      . have HR:Hd (Znb L=false):=Zeg hlt (Zh4 hlt (by unfold inB;simp;omega))
        go_wp2;go_ret;exact⟨Zaa HR.o.symm,rfl⟩
      by_cases h5:5 < L[k]
      . have HR:Hd (Znb L=false):=Zeg hlt (Zh4 hlt (by unfold inB;simp;omega))
        go_wp2;go_ret;exact⟨Zaa HR.o.symm,rfl⟩
      have HI:Hd (inB 1 5 L[k]=true):=by unfold Hd inB;simp;omega
      cases k with
      | zero=>
       have c0:w.cell? ⟨b,off,none⟩=some (.int .i64 L[0]):=by simpa using c0
       have HX:Hd (vAt L 0=true):=by unfold Hd;rw [Zft hlt];exact HI.o
       go_wp2
       go_round
       . exact⟨1,by go_num,by omega,ZoO HX.o⟩
       . simp [intOf];omega
      | succ j=>
       have cj:=hc j (by omega)
       by_cases hls:L[j] < L[j+1]
       . have HX:Hd (vAt L (j+1)=true):=by unfold Hd;rw [Zcq hlt,HI.o,decide_eq_true hls];rfl
         go_wp2
         go_round
         case rel=>exact⟨j+2,by go_num,by omega,fun i hi=>by
                    by_cases e:i=j+1
                    . subst e;exact HX.o
                    . exact HA.o i (by omega)⟩
         . simp [intOf];omega
       . have HR:Hd (Znb L=false):=Zeg hlt (by rw [Zcq hlt,decide_eq_false hls];simp)
         go_wp2;go_ret;exact⟨Zaa HR.o.symm,rfl⟩
    . have HR:Hd (Znb L=decide (0 < L.length)):=Zg9 (by omega) HA.o
      have hpos:0 < L.length:=List.length_pos_iff.2 hL
      have HT:Hd (decide (0 < L.length)=true):=by unfold Hd;simpa using hpos
      go_wp2;go_ret;exact⟨Zaa (by rw [HR.o,HT.o]),rfl⟩
theorem Zji (lo:Nat) (r:Ru) (vv:Value) (w:World) (hv:Zat lo w vv r.vb) (hz:Zgw r) :
 Calls prog 217 #[.agg #[vv,.string r.kd,.string r.tm,.string r.pf]] w fun e w'=>e=.returned (.bool (ZaT r))/\Zw_ w w':=by
 have HV:=Zab hv;have HZ:=Zab hz;obtain⟨a,cap,rfl⟩:=hv.form;clear hv hz;have hsz:=HZ.o.s3;unfold maxLen at hsz;go_enter func217,ntmps217;go_wp2_with fail;generalize hWa:w.alloc _=Wa;have HBa:Hd (Zw_ w Wa):=by rw [<- hWa];exact Zac _ _
 have FA:Hd (Box Wa w.heap.size #[.slice a r.vb.length cap,.string r.kd,.string r.tm,.string r.pf]):=by rw [<- hWa];exact Box.new _ _ _ _ rfl
 clear hWa;refine (ZkV lo _ r.vb _ (HV.o.below HBa.o)).mono ?_;rintro e w1 ⟨rfl,rfl⟩;have a1:w1.cell? ⟨w.heap.size,1,none⟩=some (.string r.kd):=FA.o.cell 1;have a2:w1.cell? ⟨w.heap.size,2,none⟩=some (.string r.tm):=FA.o.cell 2;have a3:w1.cell? ⟨w.heap.size,3,none⟩=some (.string r.pf):=FA.o.cell 3
 cases q1:Znb r.vb with
 | false=>
  have HR:Hd (ZaT r=false):=by unfold Hd ZaT;rw [q1];rfl
  go_wp2;go_ret;exact⟨Zaa HR.o.symm,HBa.o⟩
 | true=>
  go_wp2_with fail;refine (Zbz r.kd _ HZ.o.s1).mono ?_;rintro e w2 ⟨rfl,rfl⟩
  cases q2:Zai r.kd with
  | false=>
   have HR:Hd (ZaT r=false):=by unfold Hd ZaT;rw [q1,q2];rfl
   go_wp2;go_ret;exact⟨Zaa HR.o.symm,HBa.o⟩
  | true=>
   go_wp2_with fail;refine (Zbz r.tm _ HZ.o.s2).mono ?_;rintro e w3 ⟨rfl,rfl⟩
   cases q3:Zai r.tm with
   | false=>
    have HR:Hd (ZaT r=false):=by unfold Hd ZaT;rw [q1,q2,q3];rfl
    go_wp2;go_ret;exact⟨Zaa HR.o.symm,HBa.o⟩
   | true=>
    by_cases q4:(r.pf.size:Int)<=16
    . have HR:Hd (ZaT r=Zfv Zav r.pf):=by unfold Hd ZaT;rw [q1,q2,q3,decide_eq_true q4];rfl
      go_wp2_with fail;refine (Zfl r.pf _ HZ.o.s3).mono ?_;rintro e w4 ⟨rfl,rfl⟩;generalize Zfv Zav r.pf=Q at*;go_wp2;go_ret;exact⟨Zaa HR.o.symm,HBa.o⟩
    . have HR:Hd (ZaT r=false):=by unfold Hd ZaT;rw [decide_eq_false q4];simp
      go_wp2;go_ret;exact⟨Zaa HR.o.symm,HBa.o⟩
end Go.Proofs.YtmappejlmapboaaGreat
