import Derived.Test.YtmappejlmapboaaGreatD21
set_option maxHeartbeats 16000000
set_option maxRecDepth 100000
open Go.Proofs.Tryz
namespace Go.Proofs.YtmappejlmapboaaGreat
section
open Go.RowKit Go.Deep
variable {p n:Nat}
section
variable {S:Nat->List Nat} {R:Nat->Prop}
structure Met (S:Nat->List Nat) (R:Nat->Prop) (M M':Nat->Bool):Prop where
 mono:∀ x,M x=true->M' x=true
 new:∀ x,M' x=true->M x=true\/R x
 closed:∀ x,M' x=true->M x=true\/∀ y ∈ S x,M' y=true
theorem Met.refl (M:Nat->Bool):Met S R M M:=⟨fun _ h=>h,fun _ h=>Or.inl h,fun _ h=>Or.inl h⟩
theorem Met.trans {A B C:Nat->Bool} (h:Met S R A B) (h':Met S R B C):Met S R A C:=
 ⟨fun x hx=>h'.mono x (h.mono x hx),fun x hx=>(h'.new x hx).elim (h.new x) Or.inr,fun x hx=>(h'.closed x hx).elim (fun hb=>(h.closed x hb).imp id fun hy y hy'=>h'.mono y (hy y hy')) Or.inr⟩
structure Zd8 (S:Nat->List Nat) (R:Nat->Prop) (M:Nat->Bool) (p:Nat) (done:List Nat) (M':Nat->Bool):Prop where
 mono:∀ x,M x=true->M' x=true
 self:M' p=true
 new:∀ x,M' x=true->M x=true\/R x
 closed:∀ x,M' x=true->M x=true\/x=p\/∀ y ∈ S x,M' y=true
 got:∀ y ∈ done,M' y=true
theorem Zd8.start {M:Nat->Bool} (hp:R p):Zd8 S R M p [] (fun x=>M x || x == p):=
 ⟨fun x h=>by simp [h],by simp,fun x h=>by
  rw [Bool.or_eq_true,beq_iff_eq] at h
  rcases h with h | rfl
  . exact Or.inl h
  . exact Or.inr hp,fun x h=>by
  rw [Bool.or_eq_true,beq_iff_eq] at h;exact h.imp id Or.inl,fun y hy=>absurd hy List.not_mem_nil⟩
theorem Zd8.step {M A B:Nat->Bool}{y:Nat}{done:List Nat} (h:Zd8 S R M p done A) (h':Met S R A B) (hy:B y=true):Zd8 S R M p (done ++ [y]) B:=
 ⟨fun x hx=>h'.mono x (h.mono x hx),h'.mono p h.self,fun x hx=>(h'.new x hx).elim (h.new x) Or.inr,fun x hx=>(h'.closed x hx).elim (fun ha=>(h.closed x ha).imp id (Or.imp id fun hz z hz'=>h'.mono z (hz z hz'))) (fun hz=>Or.inr (Or.inr hz)),fun z hz=>by
  rcases List.mem_append.1 hz with hz | hz
  . exact h'.mono z (h.got z hz)
  . rw [List.mem_singleton.1 hz];exact hy⟩
theorem Zd8.end {M M':Nat->Bool} (h:Zd8 S R M p (S p) M'):Met S R M M'/\M' p=true:=
 ⟨⟨h.mono,h.new,fun x hx=>(h.closed x hx).imp id fun hz=>by
  rcases hz with rfl | hz
  . exact h.got
  . exact hz⟩,h.self⟩
def Least (n:Nat) (Wa:Nat->Bool) (S:Nat->List Nat) (i:Nat):Prop:=∀ P:Nat->Prop,(∀ i,i < n->Wa i=true->P i)->(∀ k i,P k->i ∈ S k->P i)->P i
theorem Least.base {Wa:Nat->Bool} (i:Nat) (hi:i < n) (h:Wa i=true):Least n Wa S i:=fun _ b _=>b i hi h
theorem Least.step {Wa:Nat->Bool} (k i:Nat) (hk:Least n Wa S k) (h:i ∈ S k):Least n Wa S i:=fun P b s=>s k i (hk P b s) h
theorem Zqt {Wa M:Nat->Bool} (h:Met S (Least n Wa S) (fun _=>false) M) (hw:∀ i,i < n->Wa i=true->M i=true) (i:Nat):M i=true↔Least n Wa S i:=by
 constructor
 . intro hi
   rcases h.new i hi with h1 | h1
   . cases h1
   . exact h1
 . intro hi
   refine hi (M ·=true) hw fun k i ih hs=>?_
   rcases h.closed k ih with h1 | h1
   . cases h1
   . exact h1 i hs
def ZeD (n:Nat) (M:Nat->Bool):Nat:=(List.range n).countP fun i=>!M i
theorem Zpi {M M':Nat->Bool} (h:∀ x,M x=true->M' x=true):ZeD n M'<=ZeD n M:=by
 unfold ZeD;refine List.countP_mono_left fun i _ hi=>?_
 cases hm:M i with
 | false=>rfl
 | true=>rw [h i hm] at hi;exact hi
theorem ZhI {p q:Nat->Bool} (h:∀ x,p x=true->q x=true) {a:Nat} (h1:p a=false) (h2:q a=true):∀ L:List Nat,a ∈ L->L.countP p < L.countP q
 | [],h=>by cases h
 | b :: L,hL=>by
  have hle:L.countP p<=L.countP q:=List.countP_mono_left fun x _ hx=>h x hx
  rw [List.countP_cons,List.countP_cons]
  by_cases e:b=a
  . subst e
    rw [if_pos h2,if_neg (by rw [h1];exact Bool.false_ne_true)]
    omega
  . have ih:=ZhI h h1 h2 L ((List.mem_cons.1 hL).resolve_left (fun e'=>e e'.symm))
    have hb:=h b
    by_cases hp:p b=true
    . rw [if_pos hp,if_pos (hb hp)];omega
    . rw [if_neg hp]
      split <;> omega
theorem Zph {M:Nat->Bool} (hp:p < n) (hm:M p=false):ZeD n (fun x=>M x || x == p) < ZeD n M:=by
 unfold ZeD;refine ZhI (a:=p) (fun x hx=>?_) (by simp) (by simp [hm]) _ (List.mem_range.2 hp)
 cases h:M x with
 | false=>rfl
 | true=>simp [h] at hx
theorem ZmD {So Ho:Nat->Bool}{E:Nat->Nat->Bool} (hS:∀ k,k < n->∀ i,i ∈ S k↔i < n/\E k i=true) {i:Nat}:Stays n So Ho E i↔Least n (fun j=>!So j || Ho j) S i:=by
 constructor
 . intro h
   exact (h (fun i=>i < n/\Least n (fun j=>!So j || Ho j) S i) (fun i hi h=>⟨hi,.base i hi (by rcases h with h | h <;> simp [h])⟩) fun k i ih hi he=>⟨hi,.step k i ih.2 ((hS k ih.1 i).2 ⟨hi,he⟩)⟩).2
 . intro h
   have hlt:∀ j,Least n (fun j=>!So j || Ho j) S j->Stays n So Ho E j:=fun j hj=>by
    refine hj (Stays n So Ho E) (fun i hi h=>.base i hi ?_) fun k i ih hs=>?_
    . rw [Bool.or_eq_true,Bool.not_eq_true'] at h;exact h
    . obtain⟨h1,h2⟩:=(hS k ih.lt i).1 hs;exact .step k i ih h1 h2
   exact hlt i h
end
end
section
open Go.RowKit Go.Deep Go.Maps
theorem ZbT {w wr w1:World}{r:Nat} (h:Zw_ w wr) (hg:wr.grownBy w1 (some r)) (hr:w.heap.size<=r):Zw_ w w1:=by
 have hz:=h.size;exact h.trans ⟨hg.os,hg.tape,hg.output,hg.size,fun k hk=>hg.block k (by omega) (fun e=>by have:=Option.some.inj e;omega)⟩
theorem ZaC {w w':World} (h:Zw_ w w'):w.grownBy w' none:=
 ⟨h.os,h.tape,h.output,h.size,fun k hk _=>h.block k hk⟩
section
variable (lo:Nat) (tv:Value) (Ts:List Tm) (team r:Zy_) (T:List Tri) (w:World)
theorem Zkk {D:DataW Unit}{b n:Nat} (hT:Zbn lo w tv Ts) (hown:w.ownsMap prog 251 (plainElem prog 3) b n D) (hs:ZfZ T D) (hok:ZsD T) :
 Calls prog 160 #[.map (some b),tv,.string team,.string r] w
  fun e w'=>e=.returned (.int .i64 (wrap64 (T.map (Zij Ts team r)).sum))/\Zw_ w w':=by
 have HT:=Zab hT;have HS:=Zab hs;have HK:=Zab hok;obtain⟨ta,tcap,rfl⟩:=hT.form;clear hT hs hok;go_enter func160,ntmps160
 go_wp2_with (first
  | (at_range;refine wpList_range_own _ rfl _ 218 rfl 251 3 ZjA underlying218 _ b n _ rfl hown ?_;intro w0 hrg0 hg0 hs0)
  | go_in)
 go_frame
 go_loopw [9] (fun s wr=>∃ (left:Lit->Bool) (cnt:Nat),wr.ranges prog 251 (plainElem prog 3) b w.heap.size n D left cnt/\s=.int .i64 (wrap64 (ZlE Ts team r T left))/\Zw_ w wr)
  (fun _ wr=>wr.rangeLeft b w.heap.size)
 case atStart=>exact⟨_,_,hrg0,by rw [Zpm HS.o];simp [wrap64],⟨hg0.os,hg0.tape,hg0.output,hg0.size,fun k hk=>hg0.block k hk (by simp)⟩⟩
 case round=>
  obtain⟨left,cnt,hrg,rfl,hb⟩:=hrel;have HB:=Zab hb;clear hb
  go_wp2_with (first
   | (at_next;refine wpList_next_ranges _ rfl _ rfl 251 ZjA (plainElem prog 3) (fun p:Zy_×Zy_=>.agg #[.string p.1,.string p.2]) (Value.int .i64) (fun key kl h=>by obtain⟨x,y,rfl,_⟩:=Zet.inv h;exact⟨(x,y),rfl⟩) (fun v y hv=>by obtain⟨c,rfl,_⟩:=plainElem_int_inv underlying3 hv;exact⟨c,rfl⟩) b w.heap.size n _ _ _ rfl hrg ?_ ?_)
   | go_in)
  . intro _ hl0
    go_wp2;go_ret;exact⟨ZaE (by rw [Zsq hl0]),HB.o⟩
  . intro xa xb c kl yd yp w1 cnt1 hkey hlk hv hat hrg1 hlt hg1 hs1 hen
    obtain⟨xa',xb',exy,rfl,sa,sb⟩:=Zet.inv hkey;have e12:xa=xa'/\xb=xb':=by simpa using exy
    obtain⟨rfl,rfl⟩:=e12;clear exy hkey;have hbo:=hrg1.owns.lt;obtain⟨c',ec,ey,hwc⟩:=plainElem_int_inv underlying3 hv
    have hcc:c=wrap64 (Zl4 T xa xb):=by
     have h1:=hat (.lit (.int .i64 0));rw [HS.o.sums xa xb sa sb] at h1;have h2:yd=.lit (.int .i64 c'):=congrArg Prod.fst ey;rw [h2] at h1;injection h1 with h1
     injection h1 with _ h1
     injection ec with _ ec
     rw [ec,h1]
    have HST:=Zab (Zlw Ts team r sa sb hlk T HK.o);have HB1:Hd (Zw_ w w1):=ZbT HB.o hg1 Zl_;have HRG1:=Zab hrg1;clear hv hat ec ey hwc hlk hrg1 hg1
    cases hq:(xb.toList == r.toList) with
    | false=>
     have HE:Hd (ZlE Ts team r T (fun z=>left z&&!z.sameKey (ZbI xa xb))=ZlE Ts team r T left):=by unfold Hd;rw [HST.o,hq];simp
     go_wp2;go_roundw
     . exact⟨_,cnt1,HRG1.o.alloc _,by rw [HE.o],HB1.o.trans ((Zac _ _).mono HB1.o.size)⟩
     . rw [(HRG1.o.alloc _).left_eq,hrg.left_eq];exact hlt
    | true=>
     go_wp2_with fail;refine (ZjV lo _ Ts xa team _ ((HT.o.below HB1.o).below (Zac _ _))).mono ?_;rintro e w2 ⟨rfl,hb2⟩;have HRG2:=Zab (HRG1.o.kept (((World.grownBy_alloc w1 _ none)).trans (ZaC hb2)) (by simp) (by simp));have HB2:Hd (Zw_ w w2):=(HB1.o.trans ((Zac _ _).mono HB1.o.size)).trans (hb2.mono ((HB1.o.trans ((Zac _ _).mono HB1.o.size)).size));clear hb2
     cases hu:Zbd Ts xa team with
     | false=>
      have HE:Hd (ZlE Ts team r T (fun z=>left z&&!z.sameKey (ZbI xa xb))=ZlE Ts team r T left):=by unfold Hd;rw [HST.o,hq,hu];simp
      go_wp2;go_roundw
      . exact⟨_,cnt1,HRG2.o,by rw [HE.o],HB2.o⟩
      . rw [HRG2.o.left_eq,hrg.left_eq];exact hlt
     | true=>
      have HE:Hd (ZlE Ts team r T (fun z=>left z&&!z.sameKey (ZbI xa xb))=ZlE Ts team r T left+Zl4 T xa xb):=by unfold Hd;rw [HST.o,hq,hu];simp
      go_wp2;go_roundw
      . exact⟨_,cnt1,HRG2.o,by rw [HE.o,Zin],HB2.o⟩
      . rw [HRG2.o.left_eq,hrg.left_eq];exact hlt
end
end
section
open Go.RowKit Go.Deep Go.Maps
theorem Ztw {lo:Nat}{w:World}{sv:Value}{Ss:List Sh} (hS:ZaI lo w sv Ss) {Os:List Ob} (hO:∀ o ∈ Os,Zdg o):ZsD (ZcE Ss Os):=by
 intro p hp;obtain⟨o,ho,hq⟩:=List.mem_flatMap.1 hp;obtain⟨q,hq',rfl⟩:=List.mem_map.1 hq;exact⟨(hO o ho).s2,Zjt hS (hO o ho).s0 q hq'⟩
theorem Za3.sizes {lo:Nat}{w:World}{ov:Value}{Os:List Ob} (h:Za3 lo w ov Os):∀ o ∈ Os,Zdg o:=by
 intro o ho;obtain⟨i,hi,rfl⟩:=List.getElem_of_mem ho
 rcases h with ⟨_,_,_,rfl⟩ | ⟨b,off,cap,h1,h2,h3,h4,h5,h6,h7⟩
 . simp at hi
 . exact (h7 i hi).1
theorem ZiH (lo:Nat) (v:Value) (Ts:List Tm) (a b:Zy_) (w:World) (hv:Zbn lo w v Ts) :
 Calls prog 151 #[v,.string a,.string b] w fun e w'=>e=.returned (.bool (Zbd Ts a b))/\w'=w:=by
 have HV:=Zab hv;obtain⟨ta,tcap,rfl⟩:=hv.form;clear hv
 cases hab:(a.toList == b.toList) with
 | true=>
  go_enter func151,ntmps151;go_wp2;go_ret;exact⟨Zaa (by simp [Zbd,hab]),rfl⟩
 | false=>
  have HU:Hd (Zbd Ts a b=Zfx Ts b 4 a):=by unfold Hd Zbd;rw [hab];rfl
  go_enter func151,ntmps151;go_wp2;clear hab
  go_loopw [1,7] (fun x n wr=>∃ (k:Nat) (a':Zy_),x=.string a'/\n=.int .i64 k/\k<=4/\Zbd Ts a b=Zfx Ts b (4 - k) a'/\wr=w) (fun _ n _=>4 - (intOf n).toNat)
  case atStart=>exact⟨0,a,rfl,rfl,by omega,HU.o,rfl⟩
  case round=>
   obtain⟨k,a',rfl,rfl,hk,hu,hb⟩:=hrel;have HU:=Zab hu;subst hb;clear hu
   by_cases hlt:k < 4
   . have HS:Hd (Zbd Ts a b=if (ovB Ts a').toList.isEmpty then false else if (ovB Ts a').toList == b.toList then true else Zfx Ts b (4 - (k+1)) (ovB Ts a')):=by
      unfold Hd;rw [HU.o,show 4 - k=(4 - (k+1))+1 from by omega]
      rfl
     clear HU;go_wp2_with fail;refine (ZdT lo _ Ts a' _ HV.o).mono ?_;rintro e w1 ⟨rfl,rfl⟩
     cases he:(ovB Ts a').toList.isEmpty with
     | true=>
      have HR:Hd (Zbd Ts a b=false):=by unfold Hd;rw [HS.o,if_pos he]
      go_wp2;go_ret;exact⟨Zaa HR.o.symm,rfl⟩
     | false=>
      cases he2:((ovB Ts a').toList == b.toList) with
      | true=>
       have HR:Hd (Zbd Ts a b=true):=by unfold Hd;rw [HS.o,if_neg (by simp [he]),if_pos he2]
       go_wp2;go_ret;exact⟨Zaa HR.o.symm,rfl⟩
      | false=>
       have HR:Hd (Zbd Ts a b=Zfx Ts b (4 - (k+1)) (ovB Ts a')):=by unfold Hd;rw [HS.o,if_neg (by simp [he]),if_neg (by simp [he2])]
       go_wp2;go_roundw
       . exact⟨k+1,_,rfl,by go_num,by omega,HR.o,trivial⟩
       . simp [intOf];omega
   . have HR:Hd (Zbd Ts a b=false):=by unfold Hd;rw [HU.o,show 4 - k=0 from by omega];rfl
     go_wp2;go_ret;exact⟨Zaa HR.o.symm,rfl⟩
section
variable (lo:Nat) (sv mv tv ov gv lv pv:Value) (Ss:List Sh) (Ms:List Md) (Ts:List Tm) (Os:List Ob) (now tick given:Int) (team r:Zy_) (w:World)
theorem Zhb (h:ZbH lo w sv mv tv Ss Ms Ts) (hO:Za3 lo w ov Os) (hn:Zbg Os) (ga:Option Addr) (gn gc:Nat) (la:Option Addr) (ln lc:Nat) (pa:Option Addr) (pn pc:Nat) :
 Calls prog 136 #[.agg #[sv,mv,tv],.agg #[.int .i64 now,.int .i64 tick,.int .i64 given,ov,.slice ga gn gc,.slice la ln lc,.slice pa pn pc],.string team,.string r] w
  fun e w'=>e=.returned (.int .i64 (wrap64 (Zdv Ss Ts Os team r)))/\Zw_ w w':=by
 have HL:=Zab h;have HO:=Zab hO;obtain⟨a,cap,rfl⟩:=h.shs.form;obtain⟨a1,cap1,rfl⟩:=h.mds.form;obtain⟨a2,cap2,rfl⟩:=h.tms.form;obtain⟨oa,ocap,rfl⟩:=hO.form;have hm:=hO.max;unfold maxLen at hm;clear h hO;go_enter func136,ntmps136;go_wp2_with fail
 obtain⟨wz,hwz,HX,HY,HB⟩:∃ wz,wz=(w.alloc (.cells #[.slice a Ss.length cap,.slice a1 Ms.length cap1,.slice a2 Ts.length cap2] 41)).alloc (.cells #[.int .i64 now,.int .i64 tick,.int .i64 given,.slice oa Os.length ocap,.slice ga gn gc,.slice la ln lc,.slice pa pn pc] 48)/\
  Hd (Box wz w.heap.size #[.slice a Ss.length cap,.slice a1 Ms.length cap1,.slice a2 Ts.length cap2])/\Hd (Box wz (w.heap.size+1) #[.int .i64 now,.int .i64 tick,.int .i64 given,.slice oa Os.length ocap,.slice ga gn gc,.slice la ln lc,.slice pa pn pc])/\Hd (Zw_ w wz):=
  ⟨_,rfl,(Box.new _ _ _ _ rfl).on (Zac _ _),Box.new _ _ _ _ (by simp),(Zac _ _).trans ((Zac _ _).mono (by simp))⟩
 rw [<- hwz];clear hwz
 go_loopw [9,10] (fun n i wr=>∃ k:Nat,n=.int .i64 (wrap64 (Zdv Ss Ts (Os.take k) team r))/\i=.int .i64 k/\k<=Os.length/\Zw_ w wr/\Box wr w.heap.size #[.slice a Ss.length cap,.slice a1 Ms.length cap1,.slice a2 Ts.length cap2]/\Box wr (w.heap.size+1) #[.int .i64 now,.int .i64 tick,.int .i64 given,.slice oa Os.length ocap,.slice ga gn gc,.slice la ln lc,.slice pa pn pc])
  (fun _ i _=>Os.length - (intOf i).toNat)
 case atStart=>exact⟨0,by simp [Zdv,wrap64],rfl,by omega,HB.o,HX.o,HY.o⟩
 case round=>
  obtain⟨k,rfl,rfl,hk,hb,hx,hy⟩:=hrel;have HBr:=Zab hb;have HXr:=Zab hx;have HYr:=Zab hy;have y3:=hy.cell 3;have x0:=hx.cell 0;have x1:=hx.cell 1;have x2:=hx.cell 2;simp at y3 x0 x1 x2;clear hb hx hy
  by_cases hlt:k < Os.length
  . obtain⟨b,off,rfl,hbw,-,hc⟩:=HO.o.full' (by omega)
    obtain⟨hs,vv0,vv1,hcell,hv0,hv1⟩:=hc k hlt;obtain⟨c0,c1,c2,c3,c4,c5,c6⟩:=hcell.below HBr.o hbw;have HV:=Zab hv0.at;have HH:=Zab hv1.at;obtain⟨va,vcap,rfl⟩:=hv0.at.form';obtain⟨ha,hcap,rfl⟩:=hv1.at.form';have HN:Hd (Os[k].vs.length<=1048576):=(hn.2 k hlt).1;have HU:=Zab (Zpk Ss Ts (Os.take k) Os[k] team r);have HTK:=Zab (List.take_succ_eq_append_getElem hlt);have HC:=Zab hcell;clear hc hcell hv0 hv1 hs;go_wp2
    go_quiet ((go_at_call 151;exact Calls.quiet_of_same (ZiH lo _ Ts Os[k].tm team _ (HL.o.below (below_drewN HBr.o _)).tms)))
    have HBd:Hd (Zw_ w (wr.drewN nq)):=below_drewN HBr.o _;have HXd:=Zab (HXr.o.on (below_drewN Zb_ nq));have HYd:=Zab (HYr.o.on (below_drewN Zb_ nq));generalize wr.drewN nq=wd at*
    cases hu:Zbd Ts Os[k].tm team with
    | false=>
     have HE:Hd (Zdv Ss Ts (Os.take (k+1)) team r=Zdv Ss Ts (Os.take k) team r):=by unfold Hd;rw [HTK.o,HU.o,hu];simp
     go_wp2;go_roundw
     . exact⟨k+1,by rw [HE.o],by go_num,by omega,HBd.o,HXd.o,HYd.o⟩
     . simp [intOf];omega
    | true=>
     have HE:Hd (Zdv Ss Ts (Os.take (k+1)) team r=Zdv Ss Ts (Os.take k) team r+Zd5 Ss Os[k].kd Os[k].vs r):=by unfold Hd;rw [HTK.o,HU.o,hu];simp
     clear c0 c1 c2 c3 c4 c5 c6 x0 x1 x2 y3;obtain⟨c0,c1,c2,c3,c4,c5,c6⟩:=HC.o.below HBd.o hbw;have y3:=HYd.o.cell 3;have x0:=HXd.o.cell 0;have x1:=HXd.o.cell 1;have x2:=HXd.o.cell 2;simp at y3 x0 x1 x2;have HBD:Hd (Zw_ w wd.drew):=HBd.o.drew;go_wp2
     go_region_with (go_at_call 152;refine (ZiI lo _ _ _ Ss Ms Ts Os[k].kd Os[k].nm Os[k].tm _ _ Os[k].en Os[k].ver Os[k].vs Os[k].hs r _ (HL.o.below HBD.o) (HV.o.below HBD.o) (HH.o.below HBD.o) HN.o).mono ?_;rintro e w2 ⟨rfl,hb2⟩;have hb3:Hd (Below wd.heap.size wd w2):=(Zb_.drew).trans hb2;clear hb2)
     all_goals go_wp2
     all_goals go_roundw
     all_goals first
      | (case rel=>exact⟨k+1,by rw [HE.o,Zgm],by go_num,by omega,HBd.o.trans (hb3.o.mono HBd.o.size),HXd.o.on hb3.o,HYd.o.on hb3.o⟩)
      | (case measure=>simp [intOf];omega)
  . have he:k=Os.length:=by omega
    subst he;have HE:Hd (Zdv Ss Ts (Os.take Os.length) team r=Zdv Ss Ts Os team r):=by unfold Hd;rw [List.take_length]
    go_wp2;go_ret;exact⟨ZaE (by rw [HE.o]),HBr.o⟩
end
end
open Go.RowKit Go.Deep
variable {wr w1:World} {B k:Nat} {Xl:List Le}
def Za8 (wr:World) (B:Nat) (Xl:List Le) (k:Nat) (c:Nat->Nat):Prop:=
 B < c 0/\(∀ i,i < k->c i<=c (i+1))/\c k<=wr.heap.size/\∃ f,wr.rowIs B 142 (Xl.length*4) f/\∀ i (h:i < Xl.length),i < k->ZeG Xl[i]/\f (i*4)=.string Xl[i].tm/\f (i*4+1)=.string Xl[i].re/\f (i*4+2)=.int .i64 Xl[i].mo/\f (i*4+3)=.int .i64 Xl[i].fr
theorem Za8.le {c:Nat->Nat} (h:Za8 wr B Xl k c) {i:Nat}:∀ {j:Nat},i<=j->j<=k->c i<=c j:=by
 intro j
 induction j with
 | zero=>intro hij _;have:i=0:=by omega
         subst this;exact Nat.le_refl _
 | succ j ih=>
  intro hij hjn
  by_cases e:i=j+1
  . subst e;exact Nat.le_refl _
  . exact Nat.le_trans (ih (by omega) (by omega)) (h.2.1 j (by omega))
theorem Za8.below {c:Nat->Nat} (h:Za8 wr B Xl k c) (hb:Below wr.heap.size wr w1):Za8 w1 B Xl k c:=by
 obtain⟨g1,g2,g3,f,hr,hall⟩:=h;refine⟨g1,g2,Nat.le_trans g3 hb.size,f,hr.of_block (hb.block B hr.lt),fun i hi hik=>?_⟩;obtain⟨hz,h0,h1,h2,h3⟩:=hall i hi hik;exact⟨hz,h0,h1,h2,h3⟩
theorem Za8.free {c:Nat->Nat} (h:Za8 wr B Xl k c) (i:Nat):wr.frozen? ⟨B,i,none⟩=false:=by
 obtain⟨_,_,_,f,hr,_⟩:=h;exact hr.frozen i
theorem Za8.there {c:Nat->Nat} (h:Za8 wr B Xl k c) (i:Nat) (hi:i < Xl.length*4):∃ v,wr.cell? ⟨B,i,none⟩=some v:=by
 obtain⟨_,_,_,f,hr,_⟩:=h;exact⟨_,hr.cell hi⟩
theorem Za8.step {c:Nat->Nat} (h:Za8 w1 B Xl k c) (hk:k < Xl.length) (hz:ZeG Xl[k]) (d:Nat) (hd0:c k<=d) (hd:d<=w1.heap.size) :
 Za8 ((((w1.setCell ⟨B,k*4,none⟩ (.string Xl[k].tm)).setCell ⟨B,k*4+1,none⟩ (.string Xl[k].re)).setCell ⟨B,k*4+2,none⟩ (.int .i64 Xl[k].mo)).setCell ⟨B,k*4+3,none⟩ (.int .i64 Xl[k].fr)) B Xl (k+1) (fun j=>if j<=k then c j else d):=by
 have hle:=fun i (hi:i<=k)=>h.le (i:=0) (j:=i) Zz_ hi
 have hle2:=fun i (hi:i < k)=>h.le (i:=i+1) (j:=k) (by omega) Zl_
 obtain⟨g1,g2,g3,f,hr,hall⟩:=h;have hts:Zag B (B+1) w1 ((((w1.setCell ⟨B,k*4,none⟩ (.string Xl[k].tm)).setCell ⟨B,k*4+1,none⟩ (.string Xl[k].re)).setCell ⟨B,k*4+2,none⟩ (.int .i64 Xl[k].mo)).setCell ⟨B,k*4+3,none⟩ (.int .i64 Xl[k].fr)):=(((Zag.setB B _ _ _).trans (Zag.setB B _ _ _)).trans (Zag.setB B _ _ _)).trans (Zag.setB B _ _ _);refine⟨by simpa using g1,fun i hi=>?_,?_,_,((((hr.set _ _).set _ _).set _ _).set _ _),fun i hi hik=>?_⟩
 . dsimp only
   by_cases e:i=k
   . subst e;rw [if_pos Zl_,if_neg (by omega)];exact hd0
   . rw [if_pos (by omega),if_pos (by omega)];exact g2 i (by omega)
 . dsimp only;rw [if_neg (by omega)];exact Nat.le_trans hd hts.size
 by_cases e:i=k
 . subst e
   have hb0:=hle i Zl_;exact⟨hz,by simp,by simp,by simp,by simp⟩
 . have hb0:=hle i (by omega)
   obtain⟨hz,h0,h1,h2,h3⟩:=hall i hi (by omega);refine⟨hz,?_,?_,?_,?_⟩
   . rw [if_neg (by omega),if_neg (by omega),if_neg (by omega),if_neg (by omega)];exact h0
   . rw [if_neg (by omega),if_neg (by omega),if_neg (by omega),if_neg (by omega)];exact h1
   . rw [if_neg (by omega),if_neg (by omega),if_neg (by omega),if_neg (by omega)];exact h2
   . rw [if_neg (by omega),if_neg (by omega),if_neg (by omega),if_neg (by omega)];exact h3
theorem Za8.own {c:Nat->Nat} (h:Za8 wr B Xl k c) (hk:k=Xl.length) (hne:Xl≠[]) (hm:Xl.length<=maxLen):Zco B wr.heap.size wr (.slice (some ⟨B,0,none⟩) Xl.length Xl.length) Xl:=by
 subst hk;obtain⟨g1,g2,g3,f,hr,hall⟩:=h;have h0:0 < Xl.length:=List.length_pos_iff.2 hne
 refine Or.inr ⟨B,0,Xl.length,c,fun i=>if h:i < Xl.length then Xl[i] else Xl[0],rfl,hne,hm,Nat.le_refl _,fun i hi=>by simp [hi],hr.lt,Nat.le_refl _,g1,hr.lt,g2,g3,fun i=>hr.frozen i,fun i hi=>?_⟩;obtain⟨hz,h0,h1,h2,h3⟩:=hall i hi hi;simp only [hi,dif_pos];rw [Nat.zero_add];exact⟨hz,⟨by rw [hr.cell (by omega),h0],by rw [hr.cell (by omega),h1],by rw [hr.cell (by omega),h2],by rw [hr.cell (by omega),h3]⟩⟩
theorem Za8.new (w:World) (Xl:List Le) (z:Array Value):Za8 (w.alloc (.cells (madeCells z (Xl.length*4)) 142)) w.heap.size Xl 0 (fun _=>w.heap.size+1):=by
 refine⟨Nat.lt_succ_self _,fun i hi=>by omega,by simp,fun i=>(madeCells z (Xl.length*4)).getD i default,?_,fun i _ h=>by omega⟩;have:=World.rowIs_alloc w (madeCells z (Xl.length*4)) 142 (fun i=>(madeCells z (Xl.length*4)).getD i default) (fun i hi=>by simp [Array.getD,hi])
 rwa [size_madeCells] at this
theorem Zo8 (lo:Nat) (v:Value) (Xl:List Le) (w:World) (hv:ZbJ lo w v Xl) (hn:Ze4 Xl) :
 Calls prog 41 #[v] w fun e w'=>∃ v',e=.returned v'/\Zw_ w w'/\Zco w.heap.size w'.heap.size w' v' Xl:=by
 obtain⟨i0,hi,hz0,hz1,hz2⟩:=info_parts Tryz.info142;have HSM:=Zab hn.2;have hn1:=hn.1;clear hn
 by_cases hL:Xl=[]
 . subst hL
   obtain⟨a,cap,rfl⟩:=hv.form;clear hv
   have hmk:∀ u:World,(Instr.makeSlice 45 (.int .i64 0) (.int .i64 0)).run prog u=.ok (.slice (some ⟨u.heap.size,0,none⟩) 0 0) (u.alloc (.cells (madeCells (Value.cells (.agg #[.string ⟨#[]⟩,.string ⟨#[]⟩,.int .i64 0,.int .i64 0])) 0) 142)):=fun u=>by
    have h:=run_make (P:=prog) u 45 142 i0 _ underlying45 hi hz0 .i64 .i64 0 0 (by omega) (by omega) (by omega) (by omega)
    simpa [hz1] using h
   go_enter func41,ntmps41;go_wp2
   go_loop [4] (fun i=>i=.int .i64 0) (fun _=>0)
   case atStart=>rfl
   case round=>
    subst hrel;go_wp2;go_ret;exact⟨_,rfl,Zb_.alloc Zl_ _,Or.inl ⟨_,_,rfl,rfl⟩⟩
 . obtain⟨b,off,cap,rfl,hm,hbw,_,hc⟩:=hv.full hL
   clear hv;have HM:Hd (Xl.length<=maxLen):=hm;unfold maxLen at hm
   have hmk:∀ u:World,(Instr.makeSlice 45 (.int .i64 (Xl.length:Int)) (.int .i64 (Xl.length:Int))).run prog u=.ok (.slice (some ⟨u.heap.size,0,none⟩) Xl.length Xl.length) (u.alloc (.cells (madeCells (Value.cells (.agg #[.string ⟨#[]⟩,.string ⟨#[]⟩,.int .i64 0,.int .i64 0])) (Xl.length*4)) 142)):=fun u=>by
    have h:=run_make (P:=prog) u 45 142 i0 _ underlying45 hi hz0 .i64 .i64 Xl.length Xl.length (by omega) (by omega) (by rw [hz2];omega) (by omega);rw [hz1] at h
    simpa using h
   clear hi hz0 hz1 hz2;go_enter func41,ntmps41;go_wp2;clear hmk
   go_loopw [4] (fun i wr=>∃ (k:Nat) (c:Nat->Nat),i=.int .i64 k/\k<=Xl.length/\Zw_ w wr/\Za8 wr w.heap.size Xl k c) (fun i _=>Xl.length - (intOf i).toNat)
   case atStart=>exact⟨0,_,rfl,by omega,Zb_.alloc Zl_ _,Za8.new w Xl _⟩
   case round=>
    obtain⟨k,c,rfl,hk,hb,hf⟩:=hrel
    by_cases hlt:k < Xl.length
    . obtain⟨hs,hc⟩:=hc k hlt
      have HB:=Zab hb;have HF:=Zab hf;have HSZ:=Zab hs;obtain⟨c0,c1,c2,c3⟩:=hc.below hb hbw;clear hc hb hf hs;go_wp2_with fail;refine (Znm _ _).mono ?_;rintro e w1 ⟨rfl,hb1⟩;have hf1:=HF.o.below hb1;have hB:Hd (Zw_ w w1):=HB.o.trans (hb1.mono HB.o.size);have HST:=Zab (hf1.step hlt HSZ.o w1.heap.size (Nat.le_trans HF.o.2.2.1 hb1.size) Zl_);have hfr:=hf1.free;obtain⟨o0,ho0⟩:=hf1.there (k*4) (by omega);obtain⟨o1,ho1⟩:=hf1.there (k*4+1) (by omega);obtain⟨o2,ho2⟩:=hf1.there (k*4+2) (by omega);obtain⟨o3,ho3⟩:=hf1.there (k*4+3) (by omega);clear hf1 hb1 HF HB c0 c1 c2 c3;go_wp2;go_roundw
      . 
       exact⟨k+1,_,by go_num,by omega,((((hB.o.setCell Zl_ _).setCell Zl_ _).setCell Zl_ _).setCell Zl_ _),HST.o⟩
      . simp [intOf];omega
    . have e:k=Xl.length:=by omega
      go_wp2;go_ret;exact⟨_,rfl,hb,hf.own e hL HM.o⟩
end Go.Proofs.YtmappejlmapboaaGreat
