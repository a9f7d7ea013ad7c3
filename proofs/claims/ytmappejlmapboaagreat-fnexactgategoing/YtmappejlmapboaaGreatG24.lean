import Derived.Test.YtmappejlmapboaaGreatG23
set_option maxHeartbeats 16000000
set_option maxRecDepth 100000
open Go.Proofs.Tryz
namespace Go.Proofs.YtmappejlmapboaaGreat
section
open Go.RowKit Go.Deep Go.Maps
theorem ZsK {lo:Nat}{w:World}{sv:Value}{Ss:List Sh} (hS:ZaI lo w sv Ss) {Os:List Ob} (hO:∀ o ∈ Os,Zc5 o):ZrS (Zcw Ss Os):=by
 intro p hp;obtain⟨o,ho,hq⟩:=List.mem_flatMap.1 hp;obtain⟨q,hq',rfl⟩:=List.mem_map.1 hq;exact⟨(hO o ho).s2,ZiV hS (hO o ho).s0 q hq'⟩
theorem Za2.sizes {lo:Nat}{w:World}{ov:Value}{Os:List Ob} (h:Za2 lo w ov Os):∀ o ∈ Os,Zc5 o:=by
 intro o ho;obtain⟨i,hi,rfl⟩:=List.getElem_of_mem ho
 rcases h with ⟨_,_,_,rfl⟩ | ⟨b,off,cap,h1,h2,h3,h4,h5,h6,h7⟩
 . simp at hi
 . exact (h7 i hi).1
theorem Zh8 (lo:Nat) (v:Value) (Ts:List Tm) (a b:Zy_) (w:World) (hv:Zbk lo w v Ts) :
 Calls prog 151 #[v,.string a,.string b] w fun e w'=>e=.returned (.bool (Zbb Ts a b))/\w'=w:=by
 have HV:=Zab hv;obtain⟨ta,tcap,rfl⟩:=hv.form;clear hv
 cases hab:(a.toList == b.toList) with
 | true=>
  go_enter func151,ntmps151;go_wp2;go_ret;exact⟨Zaa (by simp [Zbb,hab]),rfl⟩
 | false=>
  have HU:Hd (Zbb Ts a b=Zfh Ts b 4 a):=by unfold Hd Zbb;rw [hab];rfl
  go_enter func151,ntmps151;go_wp2;clear hab
  go_loopw [1,7] (fun x n wr=>∃ (k:Nat) (a':Zy_),x=.string a'/\n=.int .i64 k/\k<=4/\Zbb Ts a b=Zfh Ts b (4 - k) a'/\wr=w) (fun _ n _=>4 - (intOf n).toNat)
  case atStart=>exact⟨0,a,rfl,rfl,by omega,HU.o,rfl⟩
  case round=>
   obtain⟨k,a',rfl,rfl,hk,hu,hb⟩:=hrel;have HU:=Zab hu;subst hb;clear hu
   by_cases hlt:k < 4
   . have HS:Hd (Zbb Ts a b=if (ovB Ts a').toList.isEmpty then false else if (ovB Ts a').toList == b.toList then true else Zfh Ts b (4 - (k+1)) (ovB Ts a')):=by
      unfold Hd;rw [HU.o,show 4 - k=(4 - (k+1))+1 from by omega]
      rfl
     clear HU;go_wp2_with fail;refine (ZdH lo _ Ts a' _ HV.o).mono ?_;rintro e w1 ⟨rfl,rfl⟩
     cases he:(ovB Ts a').toList.isEmpty with
     | true=>
      have HR:Hd (Zbb Ts a b=false):=by unfold Hd;rw [HS.o,if_pos he]
      go_wp2;go_ret;exact⟨Zaa HR.o.symm,rfl⟩
     | false=>
      cases he2:((ovB Ts a').toList == b.toList) with
      | true=>
       have HR:Hd (Zbb Ts a b=true):=by unfold Hd;rw [HS.o,if_neg (by simp [he]),if_pos he2]
       go_wp2;go_ret;exact⟨Zaa HR.o.symm,rfl⟩
      | false=>
       have HR:Hd (Zbb Ts a b=Zfh Ts b (4 - (k+1)) (ovB Ts a')):=by unfold Hd;rw [HS.o,if_neg (by simp [he]),if_neg (by simp [he2])]
       go_wp2;go_roundw
       . exact⟨k+1,_,rfl,by go_num,by omega,HR.o,trivial⟩
       . simp [intOf];omega
   . have HR:Hd (Zbb Ts a b=false):=by unfold Hd;rw [HU.o,show 4 - k=0 from by omega];rfl
     go_wp2;go_ret;exact⟨Zaa HR.o.symm,rfl⟩
section
variable (lo:Nat) (sv mv tv ov gv lv pv:Value) (Ss:List Sh) (Ms:List Md) (Ts:List Tm) (Os:List Ob) (now tick given:Int) (team r:Zy_) (w:World)
theorem ZgK (h:ZbF lo w sv mv tv Ss Ms Ts) (hO:Za2 lo w ov Os) (hn:Zbl Os) (ga:Option Addr) (gn gc:Nat) (la:Option Addr) (ln lc:Nat) (pa:Option Addr) (pn pc:Nat) :
 Calls prog 136 #[.agg #[sv,mv,tv],.agg #[.int .i64 now,.int .i64 tick,.int .i64 given,ov,.slice ga gn gc,.slice la ln lc,.slice pa pn pc],.string team,.string r] w
  fun e w'=>e=.returned (.int .i64 (wrap64 (Zdk Ss Ts Os team r)))/\Zw_ w w':=by
 have HL:=Zab h;have HO:=Zab hO;obtain⟨a,cap,rfl⟩:=h.shs.form;obtain⟨a1,cap1,rfl⟩:=h.mds.form;obtain⟨a2,cap2,rfl⟩:=h.tms.form;obtain⟨oa,ocap,rfl⟩:=hO.form;have hm:=hO.max;unfold maxLen at hm;clear h hO;go_enter func136,ntmps136;go_wp2_with fail
 obtain⟨wz,hwz,HX,HY,HB⟩:∃ wz,wz=(w.alloc (.cells #[.slice a Ss.length cap,.slice a1 Ms.length cap1,.slice a2 Ts.length cap2] 41)).alloc (.cells #[.int .i64 now,.int .i64 tick,.int .i64 given,.slice oa Os.length ocap,.slice ga gn gc,.slice la ln lc,.slice pa pn pc] 48)/\
  Hd (Box wz w.heap.size #[.slice a Ss.length cap,.slice a1 Ms.length cap1,.slice a2 Ts.length cap2])/\Hd (Box wz (w.heap.size+1) #[.int .i64 now,.int .i64 tick,.int .i64 given,.slice oa Os.length ocap,.slice ga gn gc,.slice la ln lc,.slice pa pn pc])/\Hd (Zw_ w wz):=
  ⟨_,rfl,(Box.new _ _ _ _ rfl).on (Zac _ _),Box.new _ _ _ _ (by simp),(Zac _ _).trans ((Zac _ _).mono (by simp))⟩
 rw [<- hwz];clear hwz
 go_loopw [9,10] (fun n i wr=>∃ k:Nat,n=.int .i64 (wrap64 (Zdk Ss Ts (Os.take k) team r))/\i=.int .i64 k/\k<=Os.length/\Zw_ w wr/\Box wr w.heap.size #[.slice a Ss.length cap,.slice a1 Ms.length cap1,.slice a2 Ts.length cap2]/\Box wr (w.heap.size+1) #[.int .i64 now,.int .i64 tick,.int .i64 given,.slice oa Os.length ocap,.slice ga gn gc,.slice la ln lc,.slice pa pn pc])
  (fun _ i _=>Os.length - (intOf i).toNat)
 case atStart=>exact⟨0,by simp [Zdk,wrap64],rfl,by omega,HB.o,HX.o,HY.o⟩
 case round=>
  obtain⟨k,rfl,rfl,hk,hb,hx,hy⟩:=hrel;have HBr:=Zab hb;have HXr:=Zab hx;have HYr:=Zab hy;have y3:=hy.cell 3;have x0:=hx.cell 0;have x1:=hx.cell 1;have x2:=hx.cell 2;simp at y3 x0 x1 x2;clear hb hx hy
  by_cases hlt:k < Os.length
  . obtain⟨b,off,rfl,hbw,-,hc⟩:=HO.o.full' (by omega)
    obtain⟨hs,vv0,vv1,hcell,hv0,hv1⟩:=hc k hlt;obtain⟨c0,c1,c2,c3,c4,c5,c6⟩:=hcell.below HBr.o hbw;have HV:=Zab hv0.at;have HH:=Zab hv1.at;obtain⟨va,vcap,rfl⟩:=hv0.at.form';obtain⟨ha,hcap,rfl⟩:=hv1.at.form';have HN:Hd (Os[k].vs.length<=1048576):=(hn.2 k hlt).1;have HU:=Zab (Zog Ss Ts (Os.take k) Os[k] team r);have HTK:=Zab (List.take_succ_eq_append_getElem hlt);have HC:=Zab hcell;clear hc hcell hv0 hv1 hs;go_wp2
    go_quiet ((go_at_call 151;exact Calls.quiet_of_same (Zh8 lo _ Ts Os[k].tm team _ (HL.o.below (below_drewN HBr.o _)).tms)))
    have HBd:Hd (Zw_ w (wr.drewN nq)):=below_drewN HBr.o _;have HXd:=Zab (HXr.o.on (below_drewN Zb_ nq));have HYd:=Zab (HYr.o.on (below_drewN Zb_ nq));generalize wr.drewN nq=wd at*
    cases hu:Zbb Ts Os[k].tm team with
    | false=>
     have HE:Hd (Zdk Ss Ts (Os.take (k+1)) team r=Zdk Ss Ts (Os.take k) team r):=by unfold Hd;rw [HTK.o,HU.o,hu];simp
     go_wp2;go_roundw
     . exact⟨k+1,by rw [HE.o],by go_num,by omega,HBd.o,HXd.o,HYd.o⟩
     . simp [intOf];omega
    | true=>
     have HE:Hd (Zdk Ss Ts (Os.take (k+1)) team r=Zdk Ss Ts (Os.take k) team r+ZdT Ss Os[k].kd Os[k].vs r):=by unfold Hd;rw [HTK.o,HU.o,hu];simp
     clear c0 c1 c2 c3 c4 c5 c6 x0 x1 x2 y3;obtain⟨c0,c1,c2,c3,c4,c5,c6⟩:=HC.o.below HBd.o hbw;have y3:=HYd.o.cell 3;have x0:=HXd.o.cell 0;have x1:=HXd.o.cell 1;have x2:=HXd.o.cell 2;simp at y3 x0 x1 x2;have HBD:Hd (Zw_ w wd.drew):=HBd.o.drew;go_wp2
     go_region_with (go_at_call 152;refine (Zh9 lo _ _ _ Ss Ms Ts Os[k].kd Os[k].nm Os[k].tm _ _ Os[k].en Os[k].ver Os[k].vs Os[k].hs r _ (HL.o.below HBD.o) (HV.o.below HBD.o) (HH.o.below HBD.o) HN.o).mono ?_;rintro e w2 ⟨rfl,hb2⟩;have hb3:Hd (Below wd.heap.size wd w2):=(Zb_.drew).trans hb2;clear hb2)
     all_goals go_wp2
     all_goals go_roundw
     all_goals first
      | (case rel=>exact⟨k+1,by rw [HE.o,Zf0],by go_num,by omega,HBd.o.trans (hb3.o.mono HBd.o.size),HXd.o.on hb3.o,HYd.o.on hb3.o⟩)
      | (case measure=>simp [intOf];omega)
  . have he:k=Os.length:=by omega
    subst he;have HE:Hd (Zdk Ss Ts (Os.take Os.length) team r=Zdk Ss Ts Os team r):=by unfold Hd;rw [List.take_length]
    go_wp2;go_ret;exact⟨ZaD (by rw [HE.o]),HBr.o⟩
end
end
section
open Go.RowKit Go.Deep
variable {Ls:List Le}
def Zdz (t r:Zy_) (x:Le):Bool:=x.tm.toList == t.toList&&x.re.toList == r.toList
def Zlu (Ls:List Le) (t r:Zy_):Nat:=Ls.findIdx (Zdz t r)
def Zq7 (Ls:List Le) (t r:Zy_):Int:=if Zlu Ls t r < Ls.length then (Zlu Ls t r:Int) else -1
theorem Zq9 {t r:Zy_}{k:Nat} (hk:k < Ls.length) (h:Zdz t r Ls[k]=true) (hall:∀ i (h:i < Ls.length),i < k->Zdz t r Ls[i]=false):Zq7 Ls t r=k:=by
 have e:Zlu Ls t r=k:=by
  unfold Zlu;rw [List.findIdx_eq hk];exact⟨h,fun j hj=>hall j (by omega) hj⟩
 unfold Zq7;rw [e,if_pos hk]
theorem Zsk {t r:Zy_} (hall:∀ i (h:i < Ls.length),Zdz t r Ls[i]=false):Zq7 Ls t r= -1:=by
 have e:Zlu Ls t r=Ls.length:=by
  unfold Zlu;rw [List.findIdx_eq_length];intro x hx;obtain⟨i,hi,rfl⟩:=List.getElem_of_mem hx;exact hall i hi
 unfold Zq7;rw [e,if_neg (Nat.lt_irrefl _)]
theorem Zq8 (Ls:List Le) (t r:Zy_):decide (Zq7 Ls t r < 0)=!Ls.any (Zdz t r):=by
 unfold Zq7 Zlu
 cases h:Ls.any (Zdz t r) with
 | true=>
  obtain⟨x,hx,hp⟩:=List.any_eq_true.1 h;rw [if_pos (List.findIdx_lt_length_of_exists ⟨x,hx,hp⟩)];simp
 | false=>
  have e:Ls.findIdx (Zdz t r)=Ls.length:=List.findIdx_eq_length.2 (fun x hx=>by
   have:=List.any_eq_false.1 h x hx
   simpa using this)
  rw [e,if_neg (Nat.lt_irrefl _)]
  rfl
def Zmo (t r:Zy_) (p:Pu):Int:=if (p.tm.toList == t.toList&&p.re.toList == r.toList)=true then p.am else 0
def Zfx (Ps:List Pu) (t r:Zy_):Int:=(Ps.map (Zmo t r)).sum
theorem ZpP (A:List Pu) (p:Pu) (t r:Zy_):Zfx (A ++ [p]) t r=Zfx A t r+Zmo t r p:=by simp [Zfx]
def ZdS (B:Bk):Bool:=inB 0 1000000 B.now&&inB 0 1000000 B.tick&&inB 0 B.now B.given
section
variable (lo:Nat) (ov gv lv pv:Value) (B:Bk) (t r:Zy_) (w:World)
theorem ZaY (h:ZaU lo w ov gv lv pv B) :
 Calls prog 134 #[.agg #[.int .i64 B.now,.int .i64 B.tick,.int .i64 B.given,ov,gv,lv,pv],.string t,.string r] w fun e w'=>e=.returned (.int .i64 (Zq7 B.ls t r))/\Zw_ w w':=by
 have HL:=Zab h.les;have hm:=h.les.max;unfold maxLen at hm;obtain⟨a0,k0,rfl⟩:=h.obs.form;obtain⟨a1,k1,rfl⟩:=h.grs.form;obtain⟨a2,k2,rfl⟩:=h.les.form;obtain⟨a3,k3,rfl⟩:=h.pus.form;clear h;go_enter func134,ntmps134;go_wp2_with fail;generalize hWa:w.alloc _=Wa;have HB:Hd (Zw_ w Wa):=by rw [<- hWa];exact Zac w _
 have HX:Hd (Box Wa w.heap.size #[.int .i64 B.now,.int .i64 B.tick,.int .i64 B.given,.slice a0 B.os.length k0,.slice a1 B.gs.length k1,.slice a2 B.ls.length k2,.slice a3 B.ps.length k3]):=by rw [<- hWa];exact Box.new _ _ _ _ rfl
 clear hWa;have x5:=HX.o.cell 5;simp at x5
 go_loop [7] (fun i=>∃ k:Nat,i=.int .i64 k/\k<=B.ls.length/\∀ j (h:j < B.ls.length),j < k->Zdz t r B.ls[j]=false) (fun i=>B.ls.length - (intOf i).toNat)
 case atStart=>exact⟨0,rfl,Nat.zero_le _,fun j _ h=>by omega⟩
 case round=>
  obtain⟨k,rfl,hk,hall⟩:=hrel;have HA:=Zab hall;clear hall
  by_cases hlt:k < B.ls.length
  . obtain⟨b,off,rfl,hbw,-,hc⟩:=HL.o.full' (by omega)
    obtain⟨hs,hcell⟩:=hc k hlt;obtain⟨c0,c1,c2,c3⟩:=hcell.below HB.o hbw;have HI:Hd (Zdz t r B.ls[k]=(B.ls[k].tm.toList == t.toList&&B.ls[k].re.toList == r.toList)):=rfl;clear hc hcell hs
    cases h1:(B.ls[k].tm.toList == t.toList) with
    | false=>
     have HE:Hd (Zdz t r B.ls[k]=false):=by unfold Hd;rw [HI.o,h1];rfl
     go_wp2
     go_round
     case rel=>exact⟨k+1,by go_num,by omega,fun j hj hjk=>by
                by_cases e:j=k
                . subst e;exact HE.o
                . exact HA.o j hj (by omega)⟩
     . simp [intOf];omega
    | true=>
     cases h2:(B.ls[k].re.toList == r.toList) with
     | false=>
      have HE:Hd (Zdz t r B.ls[k]=false):=by unfold Hd;rw [HI.o,h1,h2];rfl
      go_wp2
      go_round
      case rel=>exact⟨k+1,by go_num,by omega,fun j hj hjk=>by
                 by_cases e:j=k
                 . subst e;exact HE.o
                 . exact HA.o j hj (by omega)⟩
      . simp [intOf];omega
     | true=>
      have HE:Hd (Zq7 B.ls t r=k):=Zq9 hlt (by rw [HI.o,h1,h2];rfl) HA.o;go_wp2;go_ret;exact⟨ZaD HE.o.symm,HB.o⟩
  . have HE:Hd (Zq7 B.ls t r= -1):=Zsk (fun i hi=>HA.o i hi (by omega))
    go_wp2;go_ret;exact⟨ZaD HE.o.symm,HB.o⟩
theorem Zks (h:ZaU lo w ov gv lv pv B) :
 Calls prog 137 #[.agg #[.int .i64 B.now,.int .i64 B.tick,.int .i64 B.given,ov,gv,lv,pv],.string t,.string r] w fun e w'=>e=.returned (.int .i64 (wrap64 (Zfx B.ps t r)))/\Zw_ w w':=by
 have HL:=Zab h.pus;have hm:=h.pus.max;unfold maxLen at hm;obtain⟨a0,k0,rfl⟩:=h.obs.form;obtain⟨a1,k1,rfl⟩:=h.grs.form;obtain⟨a2,k2,rfl⟩:=h.les.form;obtain⟨a3,k3,rfl⟩:=h.pus.form;clear h;go_enter func137,ntmps137;go_wp2_with fail;generalize hWa:w.alloc _=Wa;have HB:Hd (Zw_ w Wa):=by rw [<- hWa];exact Zac w _
 have HX:Hd (Box Wa w.heap.size #[.int .i64 B.now,.int .i64 B.tick,.int .i64 B.given,.slice a0 B.os.length k0,.slice a1 B.gs.length k1,.slice a2 B.ls.length k2,.slice a3 B.ps.length k3]):=by rw [<- hWa];exact Box.new _ _ _ _ rfl
 clear hWa;have x5:=HX.o.cell 6;simp at x5
 go_loop [7,8] (fun n i=>∃ k:Nat,n=.int .i64 (wrap64 (Zfx (B.ps.take k) t r))/\i=.int .i64 k/\k<=B.ps.length) (fun _ i=>B.ps.length - (intOf i).toNat)
 case atStart=>exact⟨0,by simp [Zfx,wrap64],rfl,Nat.zero_le _⟩
 case round=>
  obtain⟨k,rfl,rfl,hk⟩:=hrel
  by_cases hlt:k < B.ps.length
  . obtain⟨b,off,rfl,hbw,-,hc⟩:=HL.o.full' (by omega)
    obtain⟨hs,hcell⟩:=hc k hlt;obtain⟨c0,c1,c2,c3,c4⟩:=hcell.below HB.o hbw;have HI:Hd (Zmo t r B.ps[k]=if (B.ps[k].tm.toList == t.toList&&B.ps[k].re.toList == r.toList)=true then B.ps[k].am else 0):=rfl;have HU:=Zab (ZpP (B.ps.take k) B.ps[k] t r);have HT:=Zab (List.take_succ_eq_append_getElem hlt);clear hc hcell hs
    cases h1:(B.ps[k].tm.toList == t.toList) with
    | false=>
     have HE:Hd (Zfx (B.ps.take (k+1)) t r=Zfx (B.ps.take k) t r):=by unfold Hd;rw [HT.o,HU.o,HI.o,h1];simp
     go_wp2
     go_round
     . exact⟨k+1,by rw [HE.o],by go_num,by omega⟩
     . simp [intOf];omega
    | true=>
     cases h2:(B.ps[k].re.toList == r.toList) with
     | false=>
      have HE:Hd (Zfx (B.ps.take (k+1)) t r=Zfx (B.ps.take k) t r):=by unfold Hd;rw [HT.o,HU.o,HI.o,h1,h2];simp
      go_wp2
      go_round
      . exact⟨k+1,by rw [HE.o],by go_num,by omega⟩
      . simp [intOf];omega
     | true=>
      have HE:Hd (Zfx (B.ps.take (k+1)) t r=Zfx (B.ps.take k) t r+B.ps[k].am):=by unfold Hd;rw [HT.o,HU.o,HI.o,h1,h2];simp
      go_wp2
      go_round
      . exact⟨k+1,by rw [HE.o,Zf0],by go_num,by omega⟩
      . simp [intOf];omega
  . have he:k=B.ps.length:=by omega
    subst he;have HE:Hd (Zfx (B.ps.take B.ps.length) t r=Zfx B.ps t r):=by unfold Hd;rw [List.take_length]
    go_wp2;go_ret;exact⟨ZaD (by first | rw [HE.o] | rfl),HB.o⟩
theorem Zl1 (h:ZaU lo w ov gv lv pv B) :
 Calls prog 180 #[.agg #[.int .i64 B.now,.int .i64 B.tick,.int .i64 B.given,ov,gv,lv,pv]] w fun e w'=>e=.returned (.bool (ZdS B))/\Zw_ w w':=by
 obtain⟨a0,k0,rfl⟩:=h.obs.form;obtain⟨a1,k1,rfl⟩:=h.grs.form;obtain⟨a2,k2,rfl⟩:=h.les.form;obtain⟨a3,k3,rfl⟩:=h.pus.form;clear h;have HI:Hd (ZdS B=(inB 0 1000000 B.now&&inB 0 1000000 B.tick&&inB 0 B.now B.given)):=rfl
 cases h1:inB 0 1000000 B.now with
 | false=>
  have HE:Hd (ZdS B=false):=by unfold Hd;rw [HI.o,h1];rfl
  go_enter func180,ntmps180;go_wp2_with (go_at_call 209;refine (ZaQ _ _ _ _).mono ?_;rintro e w' ⟨rfl,rfl⟩);go_ret;exact⟨Zaa HE.o.symm,Zac _ _⟩
 | true=>
  cases h2:inB 0 1000000 B.tick with
  | false=>
   have HE:Hd (ZdS B=false):=by unfold Hd;rw [HI.o,h1,h2];rfl
   go_enter func180,ntmps180;go_wp2_with (go_at_call 209;refine (ZaQ _ _ _ _).mono ?_;rintro e w' ⟨rfl,rfl⟩);go_ret;exact⟨Zaa HE.o.symm,Zac _ _⟩
  | true=>
   have HE:Hd (ZdS B=inB 0 B.now B.given):=by unfold Hd;rw [HI.o,h1,h2];rfl
   go_enter func180,ntmps180;go_wp2_with (go_at_call 209;refine (ZaQ _ _ _ _).mono ?_;rintro e w' ⟨rfl,rfl⟩);go_ret;exact⟨Zaa HE.o.symm,Zac _ _⟩
end
end
section
open Go.RowKit Go.Deep Go.Maps
variable {Os:List Ob}
theorem Zaf.max' {w:World}{v:Value}{L:List Zy_} (h:Zaf w v L):L.length<=maxLen:=by
 rcases h with ⟨_,_,_,rfl⟩ | ⟨b,off,cap,_,_,h3,_⟩
 . exact Nat.zero_le _
 . exact h3
theorem ZlW (v v':Value) (A C:List Zy_) (w:World) (hA:Zaf w v A) (hC:Zaf w v' C) :
 Calls prog 242 #[v,v'] w fun e w'=>e=.returned (.bool (decide (A=C)))/\Zw_ w w':=by
 have HA:=Zab hA;have HC:=Zab hC;obtain⟨a,cap,rfl⟩:=hA.form';obtain⟨c,ccap,rfl⟩:=hC.form';have hm:=hA.max';unfold maxLen at hm;clear hA hC
 by_cases hl:A.length=C.length
 case neg=>
  have HE:Hd (decide (A=C)=false):=decide_eq_false (fun e=>hl (by rw [e]));have hne:((A.length:Int) != (C.length:Int))=true:=by simp;omega
  go_enter func242,ntmps242;go_wp2;go_ret;exact⟨Zaa HE.o.symm,Below.refl _ _⟩
 have hne:((A.length:Int) != (C.length:Int))=false:=by rw [hl];simp
 have HLEN:=Zab hl;clear hl;go_enter func242,ntmps242;go_wp2
 go_loopw [13] (fun i wr=>∃ k:Nat,i=.int .i64 k/\k<=A.length/\Zw_ w wr/\∀ j (h:j < A.length) (h':j < C.length),j < k->A[j]=C[j]) (fun i _=>A.length - (intOf i).toNat)
 case atStart=>exact⟨0,rfl,Nat.zero_le _,Below.refl _ _,fun j _ _ h=>by omega⟩
 case round=>
  obtain⟨k,rfl,hk,hb,hall⟩:=hrel;have HB:=Zab hb;have HL:=Zab hall;clear hb hall
  by_cases hlt:k < A.length
  . have hlc:k < C.length:=by have:=HLEN.o;omega
    obtain⟨ab,aoff,rfl,hab,hac,-⟩:=HA.o.spread (by omega);obtain⟨cb,coff,rfl,hcb,hcc,-⟩:=HC.o.spread (by omega);have ca:wr.cell? ⟨ab,aoff+k,none⟩=some (.string A[k]):=(HB.o.cell (p:=⟨ab,aoff+k,none⟩) hab).trans (hac k hlt);have cc:wr.cell? ⟨cb,coff+k,none⟩=some (.string C[k]):=(HB.o.cell (p:=⟨cb,coff+k,none⟩) hcb).trans (hcc k hlc);have hkc:(k:Int) < (C.length:Int):=by omega
    clear hac hcc
    cases hq:(A[k].toList == C[k].toList) with
    | true=>
     have HT:Hd (A[k]=C[k]):=ZaA.1 hq;go_wp2
     go_quiet (fail)
     go_wp2;go_roundw
     case rel=>exact⟨k+1,by go_num,by omega,below_drewN HB.o _,fun j hj hj' hjk=>by
                by_cases e:j=k
                . subst e;exact HT.o
                . exact HL.o j hj hj' (by omega)⟩
     . simp [intOf];omega
    | false=>
     have HN:Hd (decide (A=C)=false):=decide_eq_false (fun e=>ZfH.1 hq (by simp [e]));go_wp2
     go_quiet (fail)
     go_wp2;go_ret;exact⟨Zaa HN.o.symm,below_drewN HB.o _⟩
  . have HT:Hd (decide (A=C)=true):=decide_eq_true (List.ext_getElem HLEN.o (fun i h1 h2=>HL.o i h1 h2 (by omega)))
    go_wp2;go_ret;exact⟨Zaa HT.o.symm,HB.o⟩
theorem Zjz (v v':Value) (A C:List Zy_) (w:World) (hA:Zaf w v A) (hC:Zaf w v' C) :
 Calls prog 129 #[v,v'] w fun e w'=>e=.returned (.bool (decide (A=C)))/\Zw_ w w':=by
 have HA:=Zab hA;have HC:=Zab hC;obtain⟨a,cap,rfl⟩:=hA.form';obtain⟨c,ccap,rfl⟩:=hC.form';have hm:=hA.max';unfold maxLen at hm;clear hA hC
 by_cases hl:A.length=C.length
 case neg=>
  have HE:Hd (decide (A=C)=false):=decide_eq_false (fun e=>hl (by rw [e]));have hne:((A.length:Int) != (C.length:Int))=true:=by simp;omega
  go_enter func129,ntmps129;go_wp2;go_ret;exact⟨Zaa HE.o.symm,Below.refl _ _⟩
 have hne:((A.length:Int) != (C.length:Int))=false:=by rw [hl];simp
 have HLEN:=Zab hl;clear hl;go_enter func129,ntmps129;go_wp2
 go_loopw [5] (fun i wr=>∃ k:Nat,i=.int .i64 k/\k<=A.length/\Zw_ w wr/\∀ j (h:j < A.length) (h':j < C.length),j < k->A[j]=C[j]) (fun i _=>A.length - (intOf i).toNat)
 case atStart=>exact⟨0,rfl,Nat.zero_le _,Below.refl _ _,fun j _ _ h=>by omega⟩
 case round=>
  obtain⟨k,rfl,hk,hb,hall⟩:=hrel;have HB:=Zab hb;have HL:=Zab hall;clear hb hall
  by_cases hlt:k < A.length
  . have hlc:k < C.length:=by have:=HLEN.o;omega
    obtain⟨ab,aoff,rfl,hab,hac,-⟩:=HA.o.spread (by omega);obtain⟨cb,coff,rfl,hcb,hcc,-⟩:=HC.o.spread (by omega);have ca:wr.cell? ⟨ab,aoff+k,none⟩=some (.string A[k]):=(HB.o.cell (p:=⟨ab,aoff+k,none⟩) hab).trans (hac k hlt);have cc:wr.cell? ⟨cb,coff+k,none⟩=some (.string C[k]):=(HB.o.cell (p:=⟨cb,coff+k,none⟩) hcb).trans (hcc k hlc);have hkc:(k:Int) < (C.length:Int):=by omega
    clear hac hcc
    cases hq:(A[k].toList == C[k].toList) with
    | true=>
     have HT:Hd (A[k]=C[k]):=ZaA.1 hq;go_wp2
     go_quiet (fail)
     go_wp2;go_roundw
     case rel=>exact⟨k+1,by go_num,by omega,below_drewN HB.o _,fun j hj hj' hjk=>by
                by_cases e:j=k
                . subst e;exact HT.o
                . exact HL.o j hj hj' (by omega)⟩
     . simp [intOf];omega
    | false=>
     have HN:Hd (decide (A=C)=false):=decide_eq_false (fun e=>ZfH.1 hq (by simp [e]));go_wp2
     go_quiet (fail)
     go_wp2;go_ret;exact⟨Zaa HN.o.symm,below_drewN HB.o _⟩
  . have HT:Hd (decide (A=C)=true):=decide_eq_true (List.ext_getElem HLEN.o (fun i h1 h2=>HL.o i h1 h2 (by omega)))
    go_wp2;go_ret;exact⟨Zaa HT.o.symm,HB.o⟩
def ZgS (k n:Zy_) (x:Ob):Bool:=x.kd.toList == k.toList&&x.nm.toList == n.toList
def obP (Os:List Ob) (k n:Zy_):Int:=if Os.findIdx (ZgS k n) < Os.length then (Os.findIdx (ZgS k n):Int) else -1
theorem Zsq {k n:Zy_}{i:Nat} (hi:i < Os.length) (h:ZgS k n Os[i]=true) (hall:∀ j (h:j < Os.length),j < i->ZgS k n Os[j]=false):obP Os k n=i:=by
 have e:Os.findIdx (ZgS k n)=i:=by
  rw [List.findIdx_eq hi];exact⟨h,fun j hj=>hall j (by omega) hj⟩
 unfold obP;rw [e,if_pos hi]
theorem Ztc {k n:Zy_} (hall:∀ j (h:j < Os.length),ZgS k n Os[j]=false):obP Os k n= -1:=by
 have e:Os.findIdx (ZgS k n)=Os.length:=by
  rw [List.findIdx_eq_length];intro x hx;obtain⟨i,hi,rfl⟩:=List.getElem_of_mem hx;exact hall i hi
 unfold obP;rw [e,if_neg (Nat.lt_irrefl _)]
theorem Zsp (Os:List Ob) (k n:Zy_):decide (obP Os k n < 0)=!Os.any (ZgS k n):=by
 unfold obP
 cases h:Os.any (ZgS k n) with
 | true=>
  obtain⟨x,hx,hp⟩:=List.any_eq_true.1 h;rw [if_pos (List.findIdx_lt_length_of_exists ⟨x,hx,hp⟩)];simp
 | false=>
  have e:Os.findIdx (ZgS k n)=Os.length:=List.findIdx_eq_length.2 (fun x hx=>by
   have:=List.any_eq_false.1 h x hx
   simpa using this)
  rw [e,if_neg (Nat.lt_irrefl _)]
  rfl
section
variable (lo:Nat) (ov gv lv pv:Value) (B:Bk) (t r:Zy_) (w:World)
theorem ZgX (h:ZaU lo w ov gv lv pv B) :
 Calls prog 131 #[.agg #[.int .i64 B.now,.int .i64 B.tick,.int .i64 B.given,ov,gv,lv,pv],.string t,.string r] w fun e w'=>e=.returned (.int .i64 (obP B.os t r))/\Zw_ w w':=by
 have HL:=Zab h.obs;have hm:=h.obs.max;unfold maxLen at hm;obtain⟨a0,k0,rfl⟩:=h.obs.form;obtain⟨a1,k1,rfl⟩:=h.grs.form;obtain⟨a2,k2,rfl⟩:=h.les.form;obtain⟨a3,k3,rfl⟩:=h.pus.form;clear h;go_enter func131,ntmps131;go_wp2_with fail;generalize hWa:w.alloc _=Wa;have HB:Hd (Zw_ w Wa):=by rw [<- hWa];exact Zac w _
 have HX:Hd (Box Wa w.heap.size #[.int .i64 B.now,.int .i64 B.tick,.int .i64 B.given,.slice a0 B.os.length k0,.slice a1 B.gs.length k1,.slice a2 B.ls.length k2,.slice a3 B.ps.length k3]):=by rw [<- hWa];exact Box.new _ _ _ _ rfl
 clear hWa;have x5:=HX.o.cell 3;simp at x5
 go_loop [7] (fun i=>∃ k:Nat,i=.int .i64 k/\k<=B.os.length/\∀ j (h:j < B.os.length),j < k->ZgS t r B.os[j]=false) (fun i=>B.os.length - (intOf i).toNat)
 case atStart=>exact⟨0,rfl,Nat.zero_le _,fun j _ h=>by omega⟩
 case round=>
  obtain⟨k,rfl,hk,hall⟩:=hrel;have HA:=Zab hall;clear hall
  by_cases hlt:k < B.os.length
  . obtain⟨b,off,rfl,hbw,-,hc⟩:=HL.o.full' (by omega)
    obtain⟨hs,vv0,vv1,hcell,-,-⟩:=hc k hlt;obtain⟨c0,c1,c2,c3,c4,c5,c6⟩:=hcell.below HB.o hbw;have HI:Hd (ZgS t r B.os[k]=(B.os[k].kd.toList == t.toList&&B.os[k].nm.toList == r.toList)):=rfl;clear hc hcell hs
    cases h1:(B.os[k].kd.toList == t.toList) with
    | false=>
     have HE:Hd (ZgS t r B.os[k]=false):=by unfold Hd;rw [HI.o,h1];rfl
     go_wp2
     go_round
     case rel=>exact⟨k+1,by go_num,by omega,fun j hj hjk=>by
                by_cases e:j=k
                . subst e;exact HE.o
                . exact HA.o j hj (by omega)⟩
     . simp [intOf];omega
    | true=>
     cases h2:(B.os[k].nm.toList == r.toList) with
     | false=>
      have HE:Hd (ZgS t r B.os[k]=false):=by unfold Hd;rw [HI.o,h1,h2];rfl
      go_wp2
      go_round
      case rel=>exact⟨k+1,by go_num,by omega,fun j hj hjk=>by
                 by_cases e:j=k
                 . subst e;exact HE.o
                 . exact HA.o j hj (by omega)⟩
      . simp [intOf];omega
     | true=>
      have HE:Hd (obP B.os t r=k):=Zsq hlt (by rw [HI.o,h1,h2];rfl) HA.o;go_wp2;go_ret;exact⟨ZaD HE.o.symm,HB.o⟩
  . have HE:Hd (obP B.os t r= -1):=Ztc (fun i hi=>HA.o i hi (by omega))
    go_wp2;go_ret;exact⟨ZaD HE.o.symm,HB.o⟩
end
end
open Go.RowKit Go.Deep
theorem ZlF (lo hi:Nat) (v:Value) (Xl:List Ob) (k:Int) (w:World) (hv:ZbU lo hi w v Xl) (hn:Zbl Xl) (h0:0<=k) (hk:k<=2000000000000000000) :
 Calls prog 55 #[v,.int .i64 k] w fun e w'=>e=.returned (.int .i64 (k+(ZdB Xl Xl.length:Int)))/\Zag lo hi w w'/\ZbU lo hi w' v (Znv k Xl):=by
 rcases hv with ⟨a,cap,rfl,rfl⟩ | ⟨b,off,cap,c,X,rfl,hne,hm,hcap,hX,hR⟩
 . go_enter func55,ntmps55
   go_wp2
   go_loop [5,1] (fun i q=>i=.int .i64 0/\q=.int .i64 k) (fun _ _=>0)
   case atStart=>exact⟨rfl,rfl⟩
   case round=>
    obtain⟨rfl,rfl⟩:=hrel;go_wp2;go_ret;exact⟨by simp [ZdB],Zag.refl _ _ _,Or.inl ⟨_,_,rfl,rfl⟩⟩
 . have hlen:=hn.1
   have HN:=Zab hn;have HX:=Zab hX;have HR0:=Zab hR;have HM:=Zab hm;have HC:=Zab hcap;have HNE:=Zab hne;clear hn hX hR hm hcap hne;go_enter func55,ntmps55;go_wp2
   go_loopw [5,1] (fun i q wr=>∃ j:Nat,i=.int .i64 j/\q=.int .i64 (k+(ZdB Xl j:Int))/\j<=Xl.length/\Zag lo hi w wr/\ZfC lo hi wr b off Xl.length c (fun i=>if i < j then ZsQ (k+(ZdB Xl i:Int)) (X i) else X i)) (fun i _ _=>Xl.length - (intOf i).toNat)
   case atStart=>exact⟨0,rfl,by simp [ZdB],by omega,Zag.refl _ _ _,HR0.o.to (fun i _=>by simp)⟩
   case round=>
    obtain⟨j,rfl,rfl,hj,ht,hr⟩:=hrel;have HT:=Zab ht;have HR:=Zab hr;clear ht hr HR0
    by_cases hlt:j < Xl.length
    . have hpos:=Zmt HN.o (i:=j) (by omega)
      have HP:=Zab (ZiI hlt)
      have hone:Zf5 b (off+j*7) (c j).1 (c j).2 wr (X j):=by
       have:=HR.o.row j hlt;simp only [Nat.lt_irrefl,if_false] at this;exact this
      have hxj:X j=Xl[j]:=HX.o j hlt;obtain⟨x,hx⟩:∃ x,x=X j:=⟨_,rfl⟩
      rw [<- hx] at hone;obtain⟨hs,vv0,vv1,m1,q0,q1,hc,l0,l1⟩:=hone;have hs0:x.vs.length<=1048576:=by have:=HN.o.2 j hlt;rw [hx,hxj];unfold Zeq at this;omega
      have hs1:x.hs.length<=1048576:=by have:=HN.o.2 j hlt;rw [hx,hxj];unfold Zeq at this;omega
      have HXJ:=Zab hxj;have HXX:=Zab hx;obtain⟨K,hK⟩:∃ K,K=k+(ZdB Xl j:Int):=⟨_,rfl⟩
      rw [<- hK];have hK0:0<=K:=by omega
      have hK1:K<=2500000000000000000:=by omega
      have HK:=Zab hK;have HBC:Hd (b < (c j).1\/(c j).2<=b):=(HR.o.seg j hlt).2.2;have HS:Hd (Zfa wr b (off+j*7) (c j).1 (c j).2 m1 vv0 vv1 wr x):=⟨ZbT.refl _ _ _ _ _ _,HBC.o,q0,q1,hc,l0,l1,HR.o.frz,HR.o.lt⟩;clear hpos hxj hx hs hc l0 l1 q0 q1 hK;obtain⟨d0,d1,d2,d3,d4,d5,d6⟩:=HS.o.cells;have fz:=HS.o.frz;go_wp2_with fail;clear d0 d1 d2 d3 d4 d5 d6 fz;refine (Zal _ _ (by omega)).mono ?_;rintro e v1 ⟨rfl,hb⟩;have HS1:=Zab (HS.o.below hb);clear hb HS;obtain⟨d0,d1,d2,d3,d4,d5,d6⟩:=HS1.o.cells;have fz:=HS1.o.frz;go_wp2_with fail;clear d0 d1 d2 d3 d4 d5 d6 fz;obtain⟨v2,hv2,HS2⟩:∃ v',v'=(v1.setCell ⟨b,off+j*7,none⟩ (.string (mtB (K))))/\Hd (Zfa wr b (off+j*7) (c j).1 (c j).2 m1 vv0 vv1 v' ⟨mtB (K),x.nm,x.tm,x.vs,x.en,x.hs,x.ver⟩):=⟨_,rfl,(HS1.o.s0 (mtB (K)))⟩
      rw [<- hv2];clear hv2 HS1;refine (Zal _ _ (by omega)).mono ?_;rintro e v3 ⟨rfl,hb⟩;have HS3:=Zab (HS2.o.below hb);clear hb HS2;obtain⟨d0,d1,d2,d3,d4,d5,d6⟩:=HS3.o.cells;have fz:=HS3.o.frz;go_wp2_with fail;clear d0 d1 d2 d3 d4 d5 d6 fz;obtain⟨v4,hv4,HS4⟩:∃ v',v'=(v3.setCell ⟨b,off+j*7+1,none⟩ (.string (mtB (K+1))))/\Hd (Zfa wr b (off+j*7) (c j).1 (c j).2 m1 vv0 vv1 v' ⟨mtB (K),mtB (K+1),x.tm,x.vs,x.en,x.hs,x.ver⟩):=⟨_,rfl,(HS3.o.s1 (mtB (K+1)))⟩
      rw [<- hv4];clear hv4 HS3;refine (Zal _ _ (by omega)).mono ?_;rintro e v5 ⟨rfl,hb⟩;have HS5:=Zab (HS4.o.below hb);clear hb HS4;obtain⟨d0,d1,d2,d3,d4,d5,d6⟩:=HS5.o.cells;have fz:=HS5.o.frz;go_wp2_with fail;clear d0 d1 d2 d3 d4 d5 d6 fz;obtain⟨v6,hv6,HS6⟩:∃ v',v'=(v5.setCell ⟨b,off+j*7+2,none⟩ (.string (mtB (K+1+1))))/\Hd (Zfa wr b (off+j*7) (c j).1 (c j).2 m1 vv0 vv1 v' ⟨mtB (K),mtB (K+1),mtB (K+1+1),x.vs,x.en,x.hs,x.ver⟩):=⟨_,rfl,(HS5.o.s2 (mtB (K+1+1)))⟩
      rw [<- hv6];clear hv6 HS5;refine (ZgG _ _ _ x.vs _ _ HS6.o.l0 (by omega) (by omega)).mono ?_;rintro e v7 ⟨rfl,ht,hl⟩;have HS7:Hd (Zfa wr b (off+j*7) (c j).1 (c j).2 m1 vv0 vv1 v7 ⟨mtB (K),mtB (K+1),mtB (K+1+1),ZfO (K+1+1+1) x.vs.length,x.en,x.hs,x.ver⟩):=HS6.o.m0' ht hl;clear ht hl HS6;obtain⟨d0,d1,d2,d3,d4,d5,d6⟩:=HS7.o.cells;have fz:=HS7.o.frz;go_wp2_with fail;clear d0 d1 d2 d3 d4 d5 d6 fz;obtain⟨v8,hv8,HS8⟩:∃ v',v'=(v7.setCell ⟨b,off+j*7+4,none⟩ (.bool (((K+1+1+1+(x.vs.length:Int)) % 3 == 0))))/\Hd (Zfa wr b (off+j*7) (c j).1 (c j).2 m1 vv0 vv1 v' ⟨mtB (K),mtB (K+1),mtB (K+1+1),ZfO (K+1+1+1) x.vs.length,((K+1+1+1+(x.vs.length:Int)) % 3 == 0),x.hs,x.ver⟩):=⟨_,rfl,(HS7.o.s4 (((K+1+1+1+(x.vs.length:Int)) % 3 == 0)))⟩
      rw [<- hv8];clear hv8 HS7;refine (ZgG _ _ _ x.hs _ _ HS8.o.l1 (by omega) (by omega)).mono ?_;rintro e v9 ⟨rfl,ht,hl⟩;have HS9:Hd (Zfa wr b (off+j*7) (c j).1 (c j).2 m1 vv0 vv1 v9 ⟨mtB (K),mtB (K+1),mtB (K+1+1),ZfO (K+1+1+1) x.vs.length,((K+1+1+1+(x.vs.length:Int)) % 3 == 0),ZfO (K+1+1+1+(x.vs.length:Int)+1) x.hs.length,x.ver⟩):=HS8.o.m1' ht hl;clear ht hl HS8;obtain⟨d0,d1,d2,d3,d4,d5,d6⟩:=HS9.o.cells;have fz:=HS9.o.frz;go_wp2;clear d0 d1 d2 d3 d4 d5 d6 fz
      obtain⟨v10,hv10,HS10⟩:∃ v',v'=(v9.setCell ⟨b,off+j*7+6,none⟩ (.int .i64 (K+1+1+1+(x.vs.length:Int)+1+(x.hs.length:Int))))/\Hd (Zfa wr b (off+j*7) (c j).1 (c j).2 m1 vv0 vv1 v' ⟨mtB (K),mtB (K+1),mtB (K+1+1),ZfO (K+1+1+1) x.vs.length,((K+1+1+1+(x.vs.length:Int)) % 3 == 0),ZfO (K+1+1+1+(x.vs.length:Int)+1) x.hs.length,K+1+1+1+(x.vs.length:Int)+1+(x.hs.length:Int)⟩):=⟨_,rfl,(HS9.o.s6 (K+1+1+1+(x.vs.length:Int)+1+(x.hs.length:Int)))⟩
      rw [<- hv10];clear hv10 HS9;have HW:Hd (Ztk Xl[j]=5+x.vs.length+x.hs.length):=by unfold Hd;rw [<- HXJ.o,<- HXX.o];rfl
      have HQ:Hd ((K+1+1+1+(x.vs.length:Int)+1+(x.hs.length:Int)+1:Int)=k+(ZdB Xl (j+1):Int)):=by
       have h1:=HP.o;have h2:=HW.o;have h3:=HK.o;unfold Hd
       omega
      have HRN:=Zab (HR.o.near hlt HS10.o.near (show Zf5 b (off+j*7) (c j).1 (c j).2 v10 (ZsQ K x) from ⟨⟨Zb2 _ (by omega),Zb2 _ (by omega),Zb2 _ (by omega)⟩,_,_,_,HS10.o.q0,HS10.o.q1,HS10.o.cells,HS10.o.l0,HS10.o.l1⟩));have HTN:=Zab (HS10.o.near.wide HR.o.lt (lo':=lo) (hi':=hi) (HR.o.seg j hlt).1 (HR.o.seg j hlt).2.1 ⟨HR.o.low,HR.o.bh⟩);go_roundw
      . 
       refine⟨j+1,by go_num,congrArg (Value.int .i64) HQ.o,by omega,HT.o.trans HTN.o,HRN.o.to (fun i hi'=>?_)⟩
       by_cases e:i=j
       . subst e
         rw [if_pos rfl,if_pos (by omega),<- HK.o,HXX.o]
       . rw [if_neg e]
         by_cases e2:i < j
         . rw [if_pos e2,if_pos (by omega)]
         . rw [if_neg e2,if_neg (by omega)]
      . simp [intOf];omega
    . have e:j=Xl.length:=by omega
      subst e;go_wp2;go_ret;refine⟨rfl,HT.o,Or.inr ⟨b,off,cap,c,fun i=>ZsQ (k+(ZdB Xl i:Int)) (X i),by rw [ZdK],?_,by rw [ZdK];exact HM.o,by rw [ZdK];exact HC.o,fun i h=>?_,?_⟩⟩
      . intro e
        have:=congrArg List.length e;rw [ZdK] at this;exact HNE.o (List.length_eq_zero_iff.1 (by simpa using this))
      . have h':i < Xl.length:=by rw [ZdK] at h;exact h
        rw [ZpD _ _ _ _ h',<- HX.o i h']
      . rw [ZdK]
        exact HR.o.to (fun i hi'=>by rw [if_pos hi'])
end Go.Proofs.YtmappejlmapboaaGreat
