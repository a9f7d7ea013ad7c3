import Derived.Test.YtbdhbihhgfpnnaaGreatV19
import Derived.Test.YtbdhbihhgfpnnaaGreatV21
set_option maxHeartbeats 16000000
set_option maxRecDepth 100000
open Go.Proofs.Tryz
namespace Go.Proofs.YtbdhbihhgfpnnaaGreat
section
open Go.RowKit Go.Deep Go.Maps
theorem ZrD {lo:Nat}{w:World}{sv:Value}{Ss:List Sh} (hS:Zba lo w sv Ss) {Os:List Ob} (hO:∀ o ∈ Os,ZdN o):Zqa (Zcj Ss Os):=by
 intro p hp;obtain⟨o,ho,hq⟩:=List.mem_flatMap.1 hp;obtain⟨q,hq',rfl⟩:=List.mem_map.1 hq;exact⟨(hO o ho).s2,ZhU hS (hO o ho).s0 q hq'⟩
theorem Zbv.sizes {lo:Nat}{w:World}{ov:Value}{Os:List Ob} (h:Zbv lo w ov Os):∀ o ∈ Os,ZdN o:=by
 intro o ho;obtain⟨i,hi,rfl⟩:=List.getElem_of_mem ho
 rcases h with ⟨_,_,_,rfl⟩ | ⟨b,off,cap,h1,h2,h3,h4,h5,h6,h7⟩
 . simp at hi
 . exact (h7 i hi).1
theorem Zhm (lo:Nat) (v:Value) (Ts:List Tm) (a b:Zy_) (w:World) (hv:ZaZ lo w v Ts) :
 Calls prog 157 #[v,.string a,.string b] w fun e w'=>e=.returned (.bool (Zbe Ts a b))/\w'=w:=by
 have HV:=Zab hv;obtain⟨ta,tcap,rfl⟩:=hv.form;clear hv
 cases hab:(a.toList == b.toList) with
 | true=>
  go_enter func157,ntmps157;go_wp2;go_ret;exact⟨Zaa (by simp [Zbe,hab]),rfl⟩
 | false=>
  have HU:Hd (Zbe Ts a b=ZeE Ts b 4 a):=by unfold Hd Zbe;rw [hab];rfl
  go_enter func157,ntmps157;go_wp2;clear hab
  go_loopw [1,7] (fun x n wr=>∃ (k:Nat) (a':Zy_),x=.string a'/\n=.int .i64 k/\k<=4/\Zbe Ts a b=ZeE Ts b (4 - k) a'/\wr=w) (fun _ n _=>4 - (intOf n).toNat)
  case atStart=>exact⟨0,a,rfl,rfl,by omega,HU.o,rfl⟩
  case round=>
   obtain⟨k,a',rfl,rfl,hk,hu,hb⟩:=hrel;have HU:=Zab hu;subst hb;clear hu
   by_cases hlt:k < 4
   . have HS:Hd (Zbe Ts a b=if (ovB Ts a').toList.isEmpty then false else if (ovB Ts a').toList == b.toList then true else ZeE Ts b (4 - (k+1)) (ovB Ts a')):=by
      unfold Hd;rw [HU.o,show 4 - k=(4 - (k+1))+1 from by omega]
      rfl
     clear HU;go_wp2_with fail;refine (Zdo lo _ Ts a' _ HV.o).mono ?_;rintro e w1 ⟨rfl,rfl⟩
     cases he:(ovB Ts a').toList.isEmpty with
     | true=>
      have HR:Hd (Zbe Ts a b=false):=by unfold Hd;rw [HS.o,if_pos he]
      go_wp2;go_ret;exact⟨Zaa HR.o.symm,rfl⟩
     | false=>
      cases he2:((ovB Ts a').toList == b.toList) with
      | true=>
       have HR:Hd (Zbe Ts a b=true):=by unfold Hd;rw [HS.o,if_neg (by simp [he]),if_pos he2]
       go_wp2;go_ret;exact⟨Zaa HR.o.symm,rfl⟩
      | false=>
       have HR:Hd (Zbe Ts a b=ZeE Ts b (4 - (k+1)) (ovB Ts a')):=by unfold Hd;rw [HS.o,if_neg (by simp [he]),if_neg (by simp [he2])]
       go_wp2;go_roundw
       . exact⟨k+1,_,rfl,by go_num,by omega,HR.o,trivial⟩
       . simp [intOf];omega
   . have HR:Hd (Zbe Ts a b=false):=by unfold Hd;rw [HU.o,show 4 - k=0 from by omega];rfl
     go_wp2;go_ret;exact⟨Zaa HR.o.symm,rfl⟩
section
variable (lo:Nat) (sv mv tv ov gv lv pv:Value) (Ss:List Sh) (Ms:List Md) (Ts:List Tm) (Os:List Ob) (now tick given:Int) (team r:Zy_) (w:World)
theorem ZfL (h:ZdQ lo w sv mv tv Ss Ms Ts) (hO:Zbv lo w ov Os) (hn:ZcG Os) (ga:Option Addr) (gn gc:Nat) (la:Option Addr) (ln lc:Nat) (pa:Option Addr) (pn pc:Nat) :
 Calls prog 107 #[.agg #[sv,mv,tv],.agg #[.int .i64 now,.int .i64 tick,.int .i64 given,ov,.slice ga gn gc,.slice la ln lc,.slice pa pn pc],.string team,.string r] w
  fun e w'=>e=.returned (.int .i64 (wrap64 (Zc7 Ss Ts Os team r)))/\Zw_ w w':=by
 have HL:=Zab h;have HO:=Zab hO;obtain⟨a,cap,rfl⟩:=h.shs.form;obtain⟨a1,cap1,rfl⟩:=h.mds.form;obtain⟨a2,cap2,rfl⟩:=h.tms.form;obtain⟨oa,ocap,rfl⟩:=hO.form;have hm:=hO.max;unfold maxLen at hm;clear h hO;go_enter func107,ntmps107;go_wp2_with fail
 obtain⟨wz,hwz,HX,HY,HB⟩:∃ wz,wz=(w.alloc (.cells #[.slice a Ss.length cap,.slice a1 Ms.length cap1,.slice a2 Ts.length cap2] 71)).alloc (.cells #[.int .i64 now,.int .i64 tick,.int .i64 given,.slice oa Os.length ocap,.slice ga gn gc,.slice la ln lc,.slice pa pn pc] 50)/\
  Hd (Box wz w.heap.size #[.slice a Ss.length cap,.slice a1 Ms.length cap1,.slice a2 Ts.length cap2])/\Hd (Box wz (w.heap.size+1) #[.int .i64 now,.int .i64 tick,.int .i64 given,.slice oa Os.length ocap,.slice ga gn gc,.slice la ln lc,.slice pa pn pc])/\Hd (Zw_ w wz):=
  ⟨_,rfl,(Box.new _ _ _ _ rfl).on (Zac _ _),Box.new _ _ _ _ (by simp),(Zac _ _).trans ((Zac _ _).mono (by simp))⟩
 rw [<- hwz];clear hwz
 go_loopw [9,10] (fun n i wr=>∃ k:Nat,n=.int .i64 (wrap64 (Zc7 Ss Ts (Os.take k) team r))/\i=.int .i64 k/\k<=Os.length/\Zw_ w wr/\Box wr w.heap.size #[.slice a Ss.length cap,.slice a1 Ms.length cap1,.slice a2 Ts.length cap2]/\Box wr (w.heap.size+1) #[.int .i64 now,.int .i64 tick,.int .i64 given,.slice oa Os.length ocap,.slice ga gn gc,.slice la ln lc,.slice pa pn pc])
  (fun _ i _=>Os.length - (intOf i).toNat)
 case atStart=>exact⟨0,by simp [Zc7,wrap64],rfl,by omega,HB.o,HX.o,HY.o⟩
 case round=>
  obtain⟨k,rfl,rfl,hk,hb,hx,hy⟩:=hrel;have HBr:=Zab hb;have HXr:=Zab hx;have HYr:=Zab hy;have y3:=hy.cell 3;have x0:=hx.cell 0;have x1:=hx.cell 1;have x2:=hx.cell 2;simp at y3 x0 x1 x2;clear hb hx hy
  by_cases hlt:k < Os.length
  . obtain⟨b,off,rfl,hbw,-,hc⟩:=HO.o.full' (by omega)
    obtain⟨hs,vv0,vv1,hcell,hv0,hv1⟩:=hc k hlt;obtain⟨c0,c1,c2,c3,c4,c5,c6⟩:=hcell.below HBr.o hbw;have HV:=Zab hv0.at;have HH:=Zab hv1.at;obtain⟨va,vcap,rfl⟩:=hv0.at.form';obtain⟨ha,hcap,rfl⟩:=hv1.at.form';have HN:Hd (Os[k].vs.length<=1048576):=(hn.2 k hlt).1;have HU:=Zab (ZmM Ss Ts (Os.take k) Os[k] team r);have HTK:=Zab (List.take_succ_eq_append_getElem hlt);have HC:=Zab hcell;clear hc hcell hv0 hv1 hs;go_wp2
    go_quiet ((go_at_call 157;exact Calls.quiet_of_same (Zhm lo _ Ts Os[k].tm team _ (HL.o.below (below_drewN HBr.o _)).tms)))
    have HBd:Hd (Zw_ w (wr.drewN nq)):=below_drewN HBr.o _;have HXd:=Zab (HXr.o.on (below_drewN Zb_ nq));have HYd:=Zab (HYr.o.on (below_drewN Zb_ nq));generalize wr.drewN nq=wd at*
    cases hu:Zbe Ts Os[k].tm team with
    | false=>
     have HE:Hd (Zc7 Ss Ts (Os.take (k+1)) team r=Zc7 Ss Ts (Os.take k) team r):=by unfold Hd;rw [HTK.o,HU.o,hu];simp
     go_wp2;go_roundw
     . exact⟨k+1,by rw [HE.o],by go_num,by omega,HBd.o,HXd.o,HYd.o⟩
     . simp [intOf];omega
    | true=>
     have HE:Hd (Zc7 Ss Ts (Os.take (k+1)) team r=Zc7 Ss Ts (Os.take k) team r+Zdu Ss Os[k].kd Os[k].vs r):=by unfold Hd;rw [HTK.o,HU.o,hu];simp
     clear c0 c1 c2 c3 c4 c5 c6 x0 x1 x2 y3;obtain⟨c0,c1,c2,c3,c4,c5,c6⟩:=HC.o.below HBd.o hbw;have y3:=HYd.o.cell 3;have x0:=HXd.o.cell 0;have x1:=HXd.o.cell 1;have x2:=HXd.o.cell 2;simp at y3 x0 x1 x2;have HBD:Hd (Zw_ w wd.drew):=HBd.o.drew;go_wp2
     go_region_with (go_at_call 158;refine (Zhn lo _ _ _ Ss Ms Ts Os[k].kd Os[k].nm Os[k].tm _ _ Os[k].en Os[k].ver Os[k].vs Os[k].hs r _ (HL.o.below HBD.o) (HV.o.below HBD.o) (HH.o.below HBD.o) HN.o).mono ?_;rintro e w2 ⟨rfl,hb2⟩;have hb3:Hd (Below wd.heap.size wd w2):=(Zb_.drew).trans hb2;clear hb2)
     all_goals go_wp2
     all_goals go_roundw
     all_goals first
      | (case rel=>exact⟨k+1,by rw [HE.o,Zfj],by go_num,by omega,HBd.o.trans (hb3.o.mono HBd.o.size),HXd.o.on hb3.o,HYd.o.on hb3.o⟩)
      | (case measure=>simp [intOf];omega)
  . have he:k=Os.length:=by omega
    subst he;have HE:Hd (Zc7 Ss Ts (Os.take Os.length) team r=Zc7 Ss Ts Os team r):=by unfold Hd;rw [List.take_length]
    go_wp2;go_ret;exact⟨ZaB (by rw [HE.o]),HBr.o⟩
end
end
open Go.RowKit Go.Deep
variable {Ls:List Le}
def Zdi (t r:Zy_) (x:Le):Bool:=x.tm.toList == t.toList&&x.re.toList == r.toList
def Zku (Ls:List Le) (t r:Zy_):Nat:=Ls.findIdx (Zdi t r)
def Zo4 (Ls:List Le) (t r:Zy_):Int:=if Zku Ls t r < Ls.length then (Zku Ls t r:Int) else -1
theorem Zo6 {t r:Zy_}{k:Nat} (hk:k < Ls.length) (h:Zdi t r Ls[k]=true) (hall:∀ i (h:i < Ls.length),i < k->Zdi t r Ls[i]=false):Zo4 Ls t r=k:=by
 have e:Zku Ls t r=k:=by
  unfold Zku;rw [List.findIdx_eq hk];exact⟨h,fun j hj=>hall j (by omega) hj⟩
 unfold Zo4;rw [e,if_pos hk]
theorem Zq8 {t r:Zy_} (hall:∀ i (h:i < Ls.length),Zdi t r Ls[i]=false):Zo4 Ls t r= -1:=by
 have e:Zku Ls t r=Ls.length:=by
  unfold Zku;rw [List.findIdx_eq_length];intro x hx;obtain⟨i,hi,rfl⟩:=List.getElem_of_mem hx;exact hall i hi
 unfold Zo4;rw [e,if_neg (Nat.lt_irrefl _)]
theorem Zo5 (Ls:List Le) (t r:Zy_):decide (Zo4 Ls t r < 0)=!Ls.any (Zdi t r):=by
 unfold Zo4 Zku
 cases h:Ls.any (Zdi t r) with
 | true=>
  obtain⟨x,hx,hp⟩:=List.any_eq_true.1 h;rw [if_pos (List.findIdx_lt_length_of_exists ⟨x,hx,hp⟩)];simp
 | false=>
  have e:Ls.findIdx (Zdi t r)=Ls.length:=List.findIdx_eq_length.2 (fun x hx=>by
   have:=List.any_eq_false.1 h x hx
   simpa using this)
  rw [e,if_neg (Nat.lt_irrefl _)]
  rfl
def Zli (t r:Zy_) (p:Pu):Int:=if (p.tm.toList == t.toList&&p.re.toList == r.toList)=true then p.am else 0
def ZeU (Ps:List Pu) (t r:Zy_):Int:=(Ps.map (Zli t r)).sum
theorem ZnY (A:List Pu) (p:Pu) (t r:Zy_):ZeU (A ++ [p]) t r=ZeU A t r+Zli t r p:=by simp [ZeU]
def Zdt (B:Bk):Bool:=inB 0 1000000 B.now&&inB 0 1000000 B.tick&&inB 0 B.now B.given
section
variable (lo:Nat) (ov gv lv pv:Value) (B:Bk) (t r:Zy_) (w:World)
theorem Za1 (h:Za2 lo w ov gv lv pv B) :
 Calls prog 105 #[.agg #[.int .i64 B.now,.int .i64 B.tick,.int .i64 B.given,ov,gv,lv,pv],.string t,.string r] w fun e w'=>e=.returned (.int .i64 (Zo4 B.ls t r))/\Zw_ w w':=by
 have HL:=Zab h.les;have hm:=h.les.max;unfold maxLen at hm;obtain⟨a0,k0,rfl⟩:=h.obs.form;obtain⟨a1,k1,rfl⟩:=h.grs.form;obtain⟨a2,k2,rfl⟩:=h.les.form;obtain⟨a3,k3,rfl⟩:=h.pus.form;clear h;go_enter func105,ntmps105;go_wp2_with fail;generalize hWa:w.alloc _=Wa;have HB:Hd (Zw_ w Wa):=by rw [<- hWa];exact Zac w _
 have HX:Hd (Box Wa w.heap.size #[.int .i64 B.now,.int .i64 B.tick,.int .i64 B.given,.slice a0 B.os.length k0,.slice a1 B.gs.length k1,.slice a2 B.ls.length k2,.slice a3 B.ps.length k3]):=by rw [<- hWa];exact Box.new _ _ _ _ rfl
 clear hWa;have x5:=HX.o.cell 5;simp at x5
 go_loop [7] (fun i=>∃ k:Nat,i=.int .i64 k/\k<=B.ls.length/\∀ j (h:j < B.ls.length),j < k->Zdi t r B.ls[j]=false) (fun i=>B.ls.length - (intOf i).toNat)
 case atStart=>exact⟨0,rfl,Nat.zero_le _,fun j _ h=>by omega⟩
 case round=>
  obtain⟨k,rfl,hk,hall⟩:=hrel;have HA:=Zab hall;clear hall
  by_cases hlt:k < B.ls.length
  . obtain⟨b,off,rfl,hbw,-,hc⟩:=HL.o.full' (by omega)
    obtain⟨hs,hcell⟩:=hc k hlt;obtain⟨c0,c1,c2,c3⟩:=hcell.below HB.o hbw;have HI:Hd (Zdi t r B.ls[k]=(B.ls[k].tm.toList == t.toList&&B.ls[k].re.toList == r.toList)):=rfl;clear hc hcell hs
    cases h1:(B.ls[k].tm.toList == t.toList) with
    | false=>
     have HE:Hd (Zdi t r B.ls[k]=false):=by unfold Hd;rw [HI.o,h1];rfl
     go_wp2
     go_round
     case rel=>exact⟨k+1,by go_num,by omega,fun j hj hjk=>by
                by_cases e:j=k
                . subst e;exact HE.o
                . exact HA.o j hj (by omega)⟩
     . simp [intOf];omega
    | true=>
     cases h2:(B.ls[k].re.toList == r.toList) with
     | false=>
      have HE:Hd (Zdi t r B.ls[k]=false):=by unfold Hd;rw [HI.o,h1,h2];rfl
      go_wp2
      go_round
      case rel=>exact⟨k+1,by go_num,by omega,fun j hj hjk=>by
                 by_cases e:j=k
                 . subst e;exact HE.o
                 . exact HA.o j hj (by omega)⟩
      . simp [intOf];omega
     | true=>
      have HE:Hd (Zo4 B.ls t r=k):=Zo6 hlt (by rw [HI.o,h1,h2];rfl) HA.o;go_wp2;go_ret;exact⟨ZaB HE.o.symm,HB.o⟩
  . have HE:Hd (Zo4 B.ls t r= -1):=Zq8 (fun i hi=>HA.o i hi (by omega))
    go_wp2;go_ret;exact⟨ZaB HE.o.symm,HB.o⟩
theorem Zjw (h:Za2 lo w ov gv lv pv B) :
 Calls prog 108 #[.agg #[.int .i64 B.now,.int .i64 B.tick,.int .i64 B.given,ov,gv,lv,pv],.string t,.string r] w fun e w'=>e=.returned (.int .i64 (wrap64 (ZeU B.ps t r)))/\Zw_ w w':=by
 have HL:=Zab h.pus;have hm:=h.pus.max;unfold maxLen at hm;obtain⟨a0,k0,rfl⟩:=h.obs.form;obtain⟨a1,k1,rfl⟩:=h.grs.form;obtain⟨a2,k2,rfl⟩:=h.les.form;obtain⟨a3,k3,rfl⟩:=h.pus.form;clear h;go_enter func108,ntmps108;go_wp2_with fail;generalize hWa:w.alloc _=Wa;have HB:Hd (Zw_ w Wa):=by rw [<- hWa];exact Zac w _
 have HX:Hd (Box Wa w.heap.size #[.int .i64 B.now,.int .i64 B.tick,.int .i64 B.given,.slice a0 B.os.length k0,.slice a1 B.gs.length k1,.slice a2 B.ls.length k2,.slice a3 B.ps.length k3]):=by rw [<- hWa];exact Box.new _ _ _ _ rfl
 clear hWa;have x5:=HX.o.cell 6;simp at x5
 go_loop [7,8] (fun n i=>∃ k:Nat,n=.int .i64 (wrap64 (ZeU (B.ps.take k) t r))/\i=.int .i64 k/\k<=B.ps.length) (fun _ i=>B.ps.length - (intOf i).toNat)
 case atStart=>exact⟨0,by simp [ZeU,wrap64],rfl,Nat.zero_le _⟩
 case round=>
  obtain⟨k,rfl,rfl,hk⟩:=hrel
  by_cases hlt:k < B.ps.length
  . obtain⟨b,off,rfl,hbw,-,hc⟩:=HL.o.full' (by omega)
    obtain⟨hs,hcell⟩:=hc k hlt;obtain⟨c0,c1,c2,c3,c4⟩:=hcell.below HB.o hbw;have HI:Hd (Zli t r B.ps[k]=if (B.ps[k].tm.toList == t.toList&&B.ps[k].re.toList == r.toList)=true then B.ps[k].am else 0):=rfl;have HU:=Zab (ZnY (B.ps.take k) B.ps[k] t r);have HT:=Zab (List.take_succ_eq_append_getElem hlt);clear hc hcell hs
    cases h1:(B.ps[k].tm.toList == t.toList) with
    | false=>
     have HE:Hd (ZeU (B.ps.take (k+1)) t r=ZeU (B.ps.take k) t r):=by unfold Hd;rw [HT.o,HU.o,HI.o,h1];simp
     go_wp2
     go_round
     . exact⟨k+1,by rw [HE.o],by go_num,by omega⟩
     . simp [intOf];omega
    | true=>
     cases h2:(B.ps[k].re.toList == r.toList) with
     | false=>
      have HE:Hd (ZeU (B.ps.take (k+1)) t r=ZeU (B.ps.take k) t r):=by unfold Hd;rw [HT.o,HU.o,HI.o,h1,h2];simp
      go_wp2
      go_round
      . exact⟨k+1,by rw [HE.o],by go_num,by omega⟩
      . simp [intOf];omega
     | true=>
      have HE:Hd (ZeU (B.ps.take (k+1)) t r=ZeU (B.ps.take k) t r+B.ps[k].am):=by unfold Hd;rw [HT.o,HU.o,HI.o,h1,h2];simp
      go_wp2
      go_round
      . exact⟨k+1,by rw [HE.o,Zfj],by go_num,by omega⟩
      . simp [intOf];omega
  . have he:k=B.ps.length:=by omega
    subst he;have HE:Hd (ZeU (B.ps.take B.ps.length) t r=ZeU B.ps t r):=by unfold Hd;rw [List.take_length]
    go_wp2;go_ret;exact⟨ZaB (by first | rw [HE.o] | rfl),HB.o⟩
theorem ZkP (h:Za2 lo w ov gv lv pv B) :
 Calls prog 124 #[.agg #[.int .i64 B.now,.int .i64 B.tick,.int .i64 B.given,ov,gv,lv,pv]] w fun e w'=>e=.returned (.bool (Zdt B))/\Zw_ w w':=by
 obtain⟨a0,k0,rfl⟩:=h.obs.form;obtain⟨a1,k1,rfl⟩:=h.grs.form;obtain⟨a2,k2,rfl⟩:=h.les.form;obtain⟨a3,k3,rfl⟩:=h.pus.form;clear h;have HI:Hd (Zdt B=(inB 0 1000000 B.now&&inB 0 1000000 B.tick&&inB 0 B.now B.given)):=rfl
 cases h1:inB 0 1000000 B.now with
 | false=>
  have HE:Hd (Zdt B=false):=by unfold Hd;rw [HI.o,h1];rfl
  go_enter func124,ntmps124;go_wp2_with (go_at_call 167;refine (Zah _ _ _ _).mono ?_;rintro e w' ⟨rfl,rfl⟩);go_ret;exact⟨Zaa HE.o.symm,Zac _ _⟩
 | true=>
  cases h2:inB 0 1000000 B.tick with
  | false=>
   have HE:Hd (Zdt B=false):=by unfold Hd;rw [HI.o,h1,h2];rfl
   go_enter func124,ntmps124;go_wp2_with (go_at_call 167;refine (Zah _ _ _ _).mono ?_;rintro e w' ⟨rfl,rfl⟩);go_ret;exact⟨Zaa HE.o.symm,Zac _ _⟩
  | true=>
   have HE:Hd (Zdt B=inB 0 B.now B.given):=by unfold Hd;rw [HI.o,h1,h2];rfl
   go_enter func124,ntmps124;go_wp2_with (go_at_call 167;refine (Zah _ _ _ _).mono ?_;rintro e w' ⟨rfl,rfl⟩);go_ret;exact⟨Zaa HE.o.symm,Zac _ _⟩
end
end Go.Proofs.YtbdhbihhgfpnnaaGreat
