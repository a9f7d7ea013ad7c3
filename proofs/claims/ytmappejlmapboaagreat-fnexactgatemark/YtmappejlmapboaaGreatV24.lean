import Derived.Test.YtmappejlmapboaaGreatV19
import Derived.Test.YtmappejlmapboaaGreatV23
set_option maxHeartbeats 16000000
set_option maxRecDepth 100000
open Go.Proofs.Tryz
namespace Go.Proofs.YtmappejlmapboaaGreat
open Go.RowKit Go.Deep
section
variable {L:List Int} {k:Nat}
def orL:List Int->Int
 | []=>0
 | x :: r=>if x=0 then orL r else x
theorem Zqm {a b c d e f:Zy_} (h:a≠d):ZlA a b c d e f=Zcs a d:=by
 unfold ZlA orI;rw [if_neg (fun h0=>h (Zd1.1 h0))]
theorem Zql {a b c d e f:Zy_} (h:a=d):ZlA a b c d e f=ZeI b c e f:=by
 unfold ZlA ZeI;rw [Zd1.2 h]
 rfl
theorem ZpR (hk:k < L.length) (h:L[k]=0):orL (L.drop k)=orL (L.drop (k+1)):=by
 rw [List.drop_eq_getElem_cons hk,orL,if_pos h]
theorem ZpS (hk:k < L.length) (h:L[k]≠0):orL (L.drop k)=L[k]:=by
 rw [List.drop_eq_getElem_cons hk,orL,if_neg h]
theorem Zn6 (a b:Int):orL [a,b]=orI a b:=by simp only [orL];unfold orI;split <;> (try split) <;> omega
theorem Zn5 (a b c:Int):orL [a,b,c]=orI a (orI b c):=by simp only [orL];unfold orI;split <;> (try split) <;> (try split) <;> omega
theorem ZgE (w:World) (b off cap:Nat) (L:List Int) (hm:L.length<=1000) (hc:∀ i (h:i < L.length),w.cell? ⟨b,off+i,none⟩=some (.int .i64 L[i])) :
 Calls prog 239 #[.slice (some ⟨b,off,none⟩) L.length cap] w fun e w'=>e=.returned (.int .i64 (orL L))/\w'=w:=by
 go_enter func239,ntmps239;go_wp2
 go_loop [8] (fun i=>∃ k:Nat,i=.int .i64 k/\k<=L.length/\orL L=orL (L.drop k)) (fun i=>L.length - (intOf i).toNat)
 case atStart=>exact⟨0,rfl,by omega,by simp⟩
 case round=>
  obtain⟨k,rfl,hk,he⟩:=hrel;have HE:=Zab he;clear he
  by_cases hlt:k < L.length
  . have c:=hc k hlt
    by_cases h0:L[k]=0
    . have HS:=Zab (ZpR hlt h0)
      have h0':(L[k] != 0)=false:=by simp [h0]
      clear h0;go_wp2
      go_round
      . exact⟨k+1,by go_num,by omega,HE.o.trans HS.o⟩
      . simp [intOf];omega
    . have HS:=Zab (ZpS hlt h0)
      have h0':(L[k] != 0)=true:=by simp [h0]
      clear h0;go_wp2;go_ret;exact⟨ZaB (by rw [HE.o,HS.o]),rfl⟩
  . have HS:Hd (orL (L.drop k)=0):=by unfold Hd;rw [List.drop_of_length_le (by omega)];rfl
    go_wp2;go_ret;exact⟨ZaB (by rw [HE.o,HS.o]),rfl⟩
theorem Zj0 (x y:Ob) (va:Option Addr) (vn vc:Nat) (ha:Option Addr) (hn hc:Nat) (va':Option Addr) (vn' vc':Nat) (ha':Option Addr) (hn' hc':Nat) (w:World) :
 Calls prog 211 #[.agg #[.string x.kd,.string x.nm,.string x.tm,.slice va vn vc,.bool x.en,.slice ha hn hc,.int .i64 x.ver],.agg #[.string y.kd,.string y.nm,.string y.tm,.slice va' vn' vc',.bool y.en,.slice ha' hn' hc',.int .i64 y.ver]] w fun e w'=>e=.returned (.int .i64 (ZeI x.kd x.nm y.kd y.nm))/\Zw_ w w':=by
 have HO:Hd (orL [Zcs x.kd y.kd,Zcs x.nm y.nm]=ZeI x.kd x.nm y.kd y.nm):=Zn6 _ _;go_enter func211,ntmps211;go_wp2;generalize hWa:(World.alloc (w.alloc _) _)=Wa;have HBa:Hd (Zw_ w Wa):=by rw [<- hWa];exact (Zac w _).alloc (by simp) _
 have FA:Hd (Box Wa w.heap.size #[.string x.kd,.string x.nm,.string x.tm,.slice va vn vc,.bool x.en,.slice ha hn hc,.int .i64 x.ver]):=by rw [<- hWa];exact (Box.new _ _ _ _ rfl).on (Zac _ _)
 have FB:Hd (Box Wa (w.heap.size+1) #[.string y.kd,.string y.nm,.string y.tm,.slice va' vn' vc',.bool y.en,.slice ha' hn' hc',.int .i64 y.ver]):=by rw [<- hWa];exact Box.new _ _ _ _ (by simp)
 clear hWa
 go_region_held3 (Zbp Wa w.heap.size #[.string x.kd,.string x.nm,.string x.tm,.slice va vn vc,.bool x.en,.slice ha hn hc,.int .i64 x.ver] (w.heap.size+1) #[.string y.kd,.string y.nm,.string y.tm,.slice va' vn' vc',.bool y.en,.slice ha' hn' hc',.int .i64 y.ver])
  (first
    | (with_reducible exact Zbp.drew FA.o FB.o)
    | (with_reducible exact Zbp.on (by assumption) Zb_)
    | (with_reducible exact Zbp.on (by assumption) (Zac _ _))
    | (with_reducible exact Zbp.on (by assumption) (by assumption)))
  (first
    | (go_at_call 240
       refine (ZfF _ _ _).mono ?_;rintro e w1 ⟨rfl,rfl⟩)
    | (go_at_call 239
       refine (ZgE _ _ _ _ [Zcs x.kd y.kd,Zcs x.nm y.nm] (by simp) ?_).mono ?_
       . intro i hi
         have hi':i=0\/i=1:=by simp at hi;omega
         rcases hi' with rfl | rfl <;> simp
       rintro e w2 ⟨rfl,rfl⟩))
 go_wp2;go_ret;exact⟨ZaB HO.o,(HBa.o.trans ((Zac _ _).mono HBa.o.size)).drew⟩
theorem ZfE (x y:Le) (w:World) :
 Calls prog 219 #[.agg #[.string x.tm,.string x.re,.int .i64 x.mo,.int .i64 x.fr],.agg #[.string y.tm,.string y.re,.int .i64 y.mo,.int .i64 y.fr]] w fun e w'=>e=.returned (.int .i64 (ZeI x.tm x.re y.tm y.re))/\Zw_ w w':=by
 have HO:Hd (orL [Zcs x.tm y.tm,Zcs x.re y.re]=ZeI x.tm x.re y.tm y.re):=Zn6 _ _;go_enter func219,ntmps219;go_wp2;generalize hWa:(World.alloc (w.alloc _) _)=Wa;have HBa:Hd (Zw_ w Wa):=by rw [<- hWa];exact (Zac w _).alloc (by simp) _
 have FA:Hd (Box Wa w.heap.size #[.string x.tm,.string x.re,.int .i64 x.mo,.int .i64 x.fr]):=by rw [<- hWa];exact (Box.new _ _ _ _ rfl).on (Zac _ _)
 have FB:Hd (Box Wa (w.heap.size+1) #[.string y.tm,.string y.re,.int .i64 y.mo,.int .i64 y.fr]):=by rw [<- hWa];exact Box.new _ _ _ _ (by simp)
 clear hWa
 go_region_held3 (Zbp Wa w.heap.size #[.string x.tm,.string x.re,.int .i64 x.mo,.int .i64 x.fr] (w.heap.size+1) #[.string y.tm,.string y.re,.int .i64 y.mo,.int .i64 y.fr])
  (first
    | (with_reducible exact Zbp.drew FA.o FB.o)
    | (with_reducible exact Zbp.on (by assumption) Zb_)
    | (with_reducible exact Zbp.on (by assumption) (Zac _ _))
    | (with_reducible exact Zbp.on (by assumption) (by assumption)))
  (first
    | (go_at_call 240
       refine (ZfF _ _ _).mono ?_;rintro e w1 ⟨rfl,rfl⟩)
    | (go_at_call 239
       refine (ZgE _ _ _ _ [Zcs x.tm y.tm,Zcs x.re y.re] (by simp) ?_).mono ?_
       . intro i hi
         have hi':i=0\/i=1:=by simp at hi;omega
         rcases hi' with rfl | rfl <;> simp
       rintro e w2 ⟨rfl,rfl⟩))
 go_wp2;go_ret;exact⟨ZaB HO.o,(HBa.o.trans ((Zac _ _).mono HBa.o.size)).drew⟩
theorem ZlD (x y:Pu) (w:World) :
 Calls prog 221 #[.agg #[.string x.dr,.string x.tm,.string x.re,.int .i64 x.am,.int .i64 x.un],.agg #[.string y.dr,.string y.tm,.string y.re,.int .i64 y.am,.int .i64 y.un]] w fun e w'=>e=.returned (.int .i64 (ZlA x.dr x.tm x.re y.dr y.tm y.re))/\Zw_ w w':=by
 have HO:Hd (orL [Zcs x.dr y.dr,Zcs x.tm y.tm,Zcs x.re y.re]=ZlA x.dr x.tm x.re y.dr y.tm y.re):=Zn5 _ _ _;go_enter func221,ntmps221;go_wp2;generalize hWa:(World.alloc (w.alloc _) _)=Wa;have HBa:Hd (Zw_ w Wa):=by rw [<- hWa];exact (Zac w _).alloc (by simp) _
 have FA:Hd (Box Wa w.heap.size #[.string x.dr,.string x.tm,.string x.re,.int .i64 x.am,.int .i64 x.un]):=by rw [<- hWa];exact (Box.new _ _ _ _ rfl).on (Zac _ _)
 have FB:Hd (Box Wa (w.heap.size+1) #[.string y.dr,.string y.tm,.string y.re,.int .i64 y.am,.int .i64 y.un]):=by rw [<- hWa];exact Box.new _ _ _ _ (by simp)
 clear hWa
 go_region_held3 (Zbp Wa w.heap.size #[.string x.dr,.string x.tm,.string x.re,.int .i64 x.am,.int .i64 x.un] (w.heap.size+1) #[.string y.dr,.string y.tm,.string y.re,.int .i64 y.am,.int .i64 y.un])
  (first
    | (with_reducible exact Zbp.drew FA.o FB.o)
    | (with_reducible exact Zbp.on (by assumption) Zb_)
    | (with_reducible exact Zbp.on (by assumption) (Zac _ _))
    | (with_reducible exact Zbp.on (by assumption) (by assumption)))
  (first
    | (go_at_call 240
       refine (ZfF _ _ _).mono ?_;rintro e w1 ⟨rfl,rfl⟩)
    | (go_at_call 239
       refine (ZgE _ _ _ _ [Zcs x.dr y.dr,Zcs x.tm y.tm,Zcs x.re y.re] (by simp) ?_).mono ?_
       . intro i hi
         have hi':i=0\/i=1\/i=2:=by simp at hi;omega
         rcases hi' with rfl | rfl | rfl <;> simp
       rintro e w2 ⟨rfl,rfl⟩))
 go_wp2;go_ret;exact⟨ZaB HO.o,(HBa.o.trans ((Zac _ _).mono HBa.o.size)).drew⟩
theorem Zb9 (x y:Pu) (w:World) :
 Calls prog 135 #[.agg #[.string x.dr,.string x.tm,.string x.re,.int .i64 x.am,.int .i64 x.un],.agg #[.string y.dr,.string y.tm,.string y.re,.int .i64 y.am,.int .i64 y.un]] w fun e w'=>e=.returned (.int .i64 (ZlA x.dr x.tm x.re y.dr y.tm y.re))/\Zw_ w w':=by
 have HW:∀ o o',Hd (Zw_ w ((w.alloc o).alloc o')):=fun o o'=>(Zb_.alloc Zl_ _).alloc (by simp) _
 cases h:(x.dr.toList == y.dr.toList) with
 | true=>
  have HE:=Zab (Zql (b:=x.tm) (c:=x.re) (e:=y.tm) (f:=y.re) (ZaF.1 h));go_enter func135,ntmps135;go_wp2_with (go_at_call 128;refine (ZcS _ _ _ _ _).mono ?_;rintro e w' ⟨rfl,rfl⟩);go_ret;exact⟨ZaB HE.o.symm,(HW _ _).o⟩
 | false=>
  have HE:=Zab (Zqm (b:=x.tm) (c:=x.re) (e:=y.tm) (f:=y.re) (Ze9.1 h));go_enter func135,ntmps135;go_wp2_with (go_at_call 172;refine (ZgT _ _ _).mono ?_;rintro e w' ⟨rfl,rfl⟩);go_ret;exact⟨ZaB HE.o.symm,(HW _ _).o⟩
end
def Znq (a b:Int):Int:=if a < b then -1 else if b < a then 1 else 0
theorem Zo6 {a b:Int}:Znq a b < 0↔a < b:=by unfold Znq;split <;> (try split) <;> omega
theorem Ziv (a:Int) (w:World):Calls prog 274 #[.int .i64 a] w fun e w'=>e=.returned (.bool false)/\w'=w:=by
 go_enter func274,ntmps274;go_wp2;go_ret;exact⟨rfl,rfl⟩
theorem ZlC (a b:Int) (w:World) :
 Calls prog 244 #[.int .i64 a,.int .i64 b] w fun e w'=>e=.returned (.int .i64 (Znq a b))/\w'=w:=by
 by_cases h1:a < b
 . have HE:Hd (Znq a b= -1):=if_pos h1
   go_enter func244,ntmps244;go_wp2_with (go_at_call 274;refine (Ziv _ _).mono ?_;rintro e w' ⟨rfl,rfl⟩);go_ret;exact⟨ZaB HE.o.symm,rfl⟩
 . by_cases h2:b < a
   . have HE:Hd (Znq a b=1):=by unfold Hd Znq;rw [if_neg h1,if_pos h2]
     go_enter func244,ntmps244;go_wp2_with (go_at_call 274;refine (Ziv _ _).mono ?_;rintro e w' ⟨rfl,rfl⟩);go_ret;exact⟨ZaB HE.o.symm,rfl⟩
   . have HE:Hd (Znq a b=0):=by unfold Hd Znq;rw [if_neg h1,if_neg h2]
     go_enter func244,ntmps244;go_wp2_with (go_at_call 274;refine (Ziv _ _).mono ?_;rintro e w' ⟨rfl,rfl⟩);go_ret;exact⟨ZaB HE.o.symm,rfl⟩
theorem ZlB (x y:Gr) (va:Option Addr) (vn vc:Nat) (va':Option Addr) (vn' vc':Nat) (w:World) :
 Calls prog 215 #[.agg #[.int .i64 x.nu,.string x.tw,.string x.gb,.slice va vn vc,.string x.kd,.string x.tm,.string x.pf],.agg #[.int .i64 y.nu,.string y.tw,.string y.gb,.slice va' vn' vc',.string y.kd,.string y.tm,.string y.pf]] w fun e w'=>e=.returned (.int .i64 (Znq x.nu y.nu))/\Zw_ w w':=by
 go_enter func215,ntmps215;go_wp2_with (go_at_call 244;refine (ZlC _ _ _).mono ?_;rintro e w' ⟨rfl,rfl⟩);go_ret;exact⟨rfl,(Zb_.alloc Zl_ _).alloc (by simp) _⟩
theorem ZaP (n lo hi:Int) (w:World) :
 Calls prog 209 #[.int .i64 n,.int .i64 lo,.int .i64 hi] w fun e w'=>e=.returned (.bool (inB lo hi n))/\w'=w:=by
 rw [Zf2]
 by_cases h:lo<=n
 . by_cases h2:n<=hi
   . go_enter func209,ntmps209
     go_wp2;go_ret;exact⟨by rw [decide_eq_true h,decide_eq_true h2];rfl,rfl⟩
   . go_enter func209,ntmps209
     go_wp2;go_ret;exact⟨by simp [h2],rfl⟩
 . go_enter func209,ntmps209
   go_wp2;go_ret;exact⟨by rw [decide_eq_false (show ¬ lo<=n by omega)];rfl,rfl⟩
def Zcu {X:Type} (c:X->X->Int) (L:List X):Nat->Bool
 | 0=>true
 | j+1=>match L[j]?,L[j+1]? with
  | some x,some y=>decide (c x y < 0)
  | _,_=>true
def Zdf {X:Type} (c:X->X->Int) (L:List X):Bool:=(List.range L.length).all (Zcu c L)
theorem ZdH {X:Type}{c:X->X->Int}{L:List X}{j:Nat} (h:j+1 < L.length):Zcu c L (j+1)=decide (c L[j] L[j+1] < 0):=by
 show (match L[j]?,L[j+1]? with | some x,some y=>decide (c x y < 0) | _,_=>true)=_
 rw [List.getElem?_eq_getElem (by omega),List.getElem?_eq_getElem h]
def ZfD (x y:Ob):Int:=ZeI x.kd x.nm y.kd y.nm
def Zgj (x y:Gr):Int:=Znq x.nu y.nu
def Zc0 (x y:Le):Int:=ZeI x.tm x.re y.tm y.re
def Zgz (x y:Pu):Int:=ZlA x.dr x.tm x.re y.dr y.tm y.re
theorem Zly (lo:Nat) (v:Value) (Xl:List Ob) (w:World) (hv:Zbg lo w v Xl) :
 Calls prog 210 #[v,.func (.func 211) #[] #[]] w fun e w'=>e=.returned (.bool (Zdf ZfD Xl))/\Zw_ w w':=by
 have HV:=Zab hv;have hm:=hv.max;unfold maxLen at hm;obtain⟨a,cap,rfl⟩:=hv.form;clear hv;go_enter func210,ntmps210;go_wp2
 go_loopw [5] (fun i wr=>∃ m:Nat,i=.int .i64 m/\1<=m/\(m<=Xl.length\/m=1)/\Zw_ w wr/\∀ j,j < m->Zcu ZfD Xl j=true) (fun i _=>Xl.length+1 - (intOf i).toNat)
 case atStart=>exact⟨1,rfl,Nat.le_refl _,Or.inr rfl,Below.refl _ _,fun j hj=>by rw [show j=0 by omega];rfl⟩
 case round=>
  obtain⟨m,rfl,hm1,hk,hb,hall⟩:=hrel;have HB:=Zab hb;have HA:=Zab hall;clear hb hall
  by_cases hlt:m < Xl.length
  . obtain⟨k,hkm⟩:∃ k,m=k+1:=⟨m - 1,by omega⟩
    have hlt0:k < Xl.length:=by omega
    obtain⟨b,off,rfl,hbw,-,hc⟩:=HV.o.full' (by omega);obtain⟨hs,vv0,vv1,hcell,hv0,hv1⟩:=hc k hlt0;obtain⟨ht,vv0',vv1',hdell,hw0,hw1⟩:=hc m hlt;obtain⟨va0,vc0,rfl⟩:=hv0.at.form';obtain⟨va1,vc1,rfl⟩:=hv1.at.form';obtain⟨vb0,vd0,rfl⟩:=hw0.at.form';obtain⟨vb1,vd1,rfl⟩:=hw1.at.form';obtain⟨c0,c1,c2,c3,c4,c5,c6⟩:=hcell.below HB.o hbw;obtain⟨d0,d1,d2,d3,d4,d5,d6⟩:=hdell.below HB.o hbw
    have HS:Hd (Zcu ZfD Xl m=decide (ZfD Xl[k] Xl[m] < 0)):=by
     subst hkm;exact ZdH hlt
    have e2:IntKind.i64.wrap ((m:Int) - 1)=k:=by rw [IntWalk.i64_left];unfold wrap64;omega
    have HKM:=Zab hkm;clear hc hcell hdell hs ht hkm hk hv0 hw0 hv1 hw1;go_wp2
    go_region_with (go_at_call 211;refine (Zj0 Xl[k] Xl[m] _ _ _ _ _ _ _ _ _ _ _ _ _).mono ?_;rintro e w1 ⟨rfl,hb1⟩;have hB:Hd (Zw_ w w1):=(HB.o.drew).trans (hb1.mono HB.o.size);clear hb1)
    all_goals by_cases hq:0<=ZeI Xl[k].kd Xl[k].nm Xl[m].kd Xl[m].nm
    all_goals first
     | (have HN:Hd (Zdf ZfD Xl=false):=ZaV hlt (HS.o.trans (decide_eq_false (by unfold ZfD;omega)))
        go_wp2;go_ret;exact⟨Zaa HN.o.symm,hB.o⟩)
     | (have HT:Hd (Zcu ZfD Xl m=true):=HS.o.trans (decide_eq_true (by unfold ZfD;omega))
        go_wp2;go_roundw
        case rel=>exact⟨m+1,by go_num,by omega,by omega,hB.o,fun j hj=>by
                   by_cases e:j=m
                   . rw [e];exact HT.o
                   . exact HA.o j (by omega)⟩
        . simp [intOf];omega)
  . have HT:Hd (Zdf ZfD Xl=true):=ZaY (fun i hi=>HA.o i (by omega))
    go_wp2;go_ret;exact⟨Zaa HT.o.symm,HB.o⟩
theorem Zlw (lo:Nat) (v:Value) (Xl:List Gr) (w:World) (hv:ZbK lo w v Xl) :
 Calls prog 214 #[v,.func (.func 215) #[] #[]] w fun e w'=>e=.returned (.bool (Zdf Zgj Xl))/\Zw_ w w':=by
 have HV:=Zab hv;have hm:=hv.max;unfold maxLen at hm;obtain⟨a,cap,rfl⟩:=hv.form;clear hv;go_enter func214,ntmps214;go_wp2
 go_loopw [5] (fun i wr=>∃ m:Nat,i=.int .i64 m/\1<=m/\(m<=Xl.length\/m=1)/\Zw_ w wr/\∀ j,j < m->Zcu Zgj Xl j=true) (fun i _=>Xl.length+1 - (intOf i).toNat)
 case atStart=>exact⟨1,rfl,Nat.le_refl _,Or.inr rfl,Below.refl _ _,fun j hj=>by rw [show j=0 by omega];rfl⟩
 case round=>
  obtain⟨m,rfl,hm1,hk,hb,hall⟩:=hrel;have HB:=Zab hb;have HA:=Zab hall;clear hb hall
  by_cases hlt:m < Xl.length
  . obtain⟨k,hkm⟩:∃ k,m=k+1:=⟨m - 1,by omega⟩
    have hlt0:k < Xl.length:=by omega
    obtain⟨b,off,rfl,hbw,-,hc⟩:=HV.o.full' (by omega);obtain⟨hs,vv0,hcell,hv0⟩:=hc k hlt0;obtain⟨ht,vv0',hdell,hw0⟩:=hc m hlt;obtain⟨va0,vc0,rfl⟩:=hv0.form;obtain⟨vb0,vd0,rfl⟩:=hw0.form;obtain⟨c0,c1,c2,c3,c4,c5,c6⟩:=hcell.below HB.o hbw;obtain⟨d0,d1,d2,d3,d4,d5,d6⟩:=hdell.below HB.o hbw
    have HS:Hd (Zcu Zgj Xl m=decide (Zgj Xl[k] Xl[m] < 0)):=by
     subst hkm;exact ZdH hlt
    have e2:IntKind.i64.wrap ((m:Int) - 1)=k:=by rw [IntWalk.i64_left];unfold wrap64;omega
    have HKM:=Zab hkm;clear hc hcell hdell hs ht hkm hk hv0 hw0;go_wp2
    go_region_with (go_at_call 215;refine (ZlB Xl[k] Xl[m] _ _ _ _ _ _ _).mono ?_;rintro e w1 ⟨rfl,hb1⟩;have hB:Hd (Zw_ w w1):=(HB.o.drew).trans (hb1.mono HB.o.size);clear hb1)
    all_goals by_cases hq:0<=Znq Xl[k].nu Xl[m].nu
    all_goals first
     | (have HN:Hd (Zdf Zgj Xl=false):=ZaV hlt (HS.o.trans (decide_eq_false (by unfold Zgj;omega)))
        go_wp2;go_ret;exact⟨Zaa HN.o.symm,hB.o⟩)
     | (have HT:Hd (Zcu Zgj Xl m=true):=HS.o.trans (decide_eq_true (by unfold Zgj;omega))
        go_wp2;go_roundw
        case rel=>exact⟨m+1,by go_num,by omega,by omega,hB.o,fun j hj=>by
                   by_cases e:j=m
                   . rw [e];exact HT.o
                   . exact HA.o j (by omega)⟩
        . simp [intOf];omega)
  . have HT:Hd (Zdf Zgj Xl=true):=ZaY (fun i hi=>HA.o i (by omega))
    go_wp2;go_ret;exact⟨Zaa HT.o.symm,HB.o⟩
theorem Zlx (lo:Nat) (v:Value) (Xl:List Le) (w:World) (hv:Zbx lo w v Xl) :
 Calls prog 218 #[v,.func (.func 219) #[] #[]] w fun e w'=>e=.returned (.bool (Zdf Zc0 Xl))/\Zw_ w w':=by
 have HV:=Zab hv;have hm:=hv.max;unfold maxLen at hm;obtain⟨a,cap,rfl⟩:=hv.form;clear hv;go_enter func218,ntmps218;go_wp2
 go_loopw [5] (fun i wr=>∃ m:Nat,i=.int .i64 m/\1<=m/\(m<=Xl.length\/m=1)/\Zw_ w wr/\∀ j,j < m->Zcu Zc0 Xl j=true) (fun i _=>Xl.length+1 - (intOf i).toNat)
 case atStart=>exact⟨1,rfl,Nat.le_refl _,Or.inr rfl,Below.refl _ _,fun j hj=>by rw [show j=0 by omega];rfl⟩
 case round=>
  obtain⟨m,rfl,hm1,hk,hb,hall⟩:=hrel;have HB:=Zab hb;have HA:=Zab hall;clear hb hall
  by_cases hlt:m < Xl.length
  . obtain⟨k,hkm⟩:∃ k,m=k+1:=⟨m - 1,by omega⟩
    have hlt0:k < Xl.length:=by omega
    obtain⟨b,off,rfl,hbw,-,hc⟩:=HV.o.full' (by omega);obtain⟨hs,hcell⟩:=hc k hlt0;obtain⟨ht,hdell⟩:=hc m hlt;obtain⟨c0,c1,c2,c3⟩:=hcell.below HB.o hbw;obtain⟨d0,d1,d2,d3⟩:=hdell.below HB.o hbw
    have HS:Hd (Zcu Zc0 Xl m=decide (Zc0 Xl[k] Xl[m] < 0)):=by
     subst hkm;exact ZdH hlt
    have e2:IntKind.i64.wrap ((m:Int) - 1)=k:=by rw [IntWalk.i64_left];unfold wrap64;omega
    have HKM:=Zab hkm;clear hc hcell hdell hs ht hkm hk;go_wp2
    go_region_with (go_at_call 219;refine (ZfE Xl[k] Xl[m] _).mono ?_;rintro e w1 ⟨rfl,hb1⟩;have hB:Hd (Zw_ w w1):=(HB.o.drew).trans (hb1.mono HB.o.size);clear hb1)
    all_goals by_cases hq:0<=ZeI Xl[k].tm Xl[k].re Xl[m].tm Xl[m].re
    all_goals first
     | (have HN:Hd (Zdf Zc0 Xl=false):=ZaV hlt (HS.o.trans (decide_eq_false (by unfold Zc0;omega)))
        go_wp2;go_ret;exact⟨Zaa HN.o.symm,hB.o⟩)
     | (have HT:Hd (Zcu Zc0 Xl m=true):=HS.o.trans (decide_eq_true (by unfold Zc0;omega))
        go_wp2;go_roundw
        case rel=>exact⟨m+1,by go_num,by omega,by omega,hB.o,fun j hj=>by
                   by_cases e:j=m
                   . rw [e];exact HT.o
                   . exact HA.o j (by omega)⟩
        . simp [intOf];omega)
  . have HT:Hd (Zdf Zc0 Xl=true):=ZaY (fun i hi=>HA.o i (by omega))
    go_wp2;go_ret;exact⟨Zaa HT.o.symm,HB.o⟩
theorem Zlz (lo:Nat) (v:Value) (Xl:List Pu) (w:World) (hv:ZbV lo w v Xl) :
 Calls prog 220 #[v,.func (.func 221) #[] #[]] w fun e w'=>e=.returned (.bool (Zdf Zgz Xl))/\Zw_ w w':=by
 have HV:=Zab hv;have hm:=hv.max;unfold maxLen at hm;obtain⟨a,cap,rfl⟩:=hv.form;clear hv;go_enter func220,ntmps220;go_wp2
 go_loopw [5] (fun i wr=>∃ m:Nat,i=.int .i64 m/\1<=m/\(m<=Xl.length\/m=1)/\Zw_ w wr/\∀ j,j < m->Zcu Zgz Xl j=true) (fun i _=>Xl.length+1 - (intOf i).toNat)
 case atStart=>exact⟨1,rfl,Nat.le_refl _,Or.inr rfl,Below.refl _ _,fun j hj=>by rw [show j=0 by omega];rfl⟩
 case round=>
  obtain⟨m,rfl,hm1,hk,hb,hall⟩:=hrel;have HB:=Zab hb;have HA:=Zab hall;clear hb hall
  by_cases hlt:m < Xl.length
  . obtain⟨k,hkm⟩:∃ k,m=k+1:=⟨m - 1,by omega⟩
    have hlt0:k < Xl.length:=by omega
    obtain⟨b,off,rfl,hbw,-,hc⟩:=HV.o.full' (by omega);obtain⟨hs,hcell⟩:=hc k hlt0;obtain⟨ht,hdell⟩:=hc m hlt;obtain⟨c0,c1,c2,c3,c4⟩:=hcell.below HB.o hbw;obtain⟨d0,d1,d2,d3,d4⟩:=hdell.below HB.o hbw
    have HS:Hd (Zcu Zgz Xl m=decide (Zgz Xl[k] Xl[m] < 0)):=by
     subst hkm;exact ZdH hlt
    have e2:IntKind.i64.wrap ((m:Int) - 1)=k:=by rw [IntWalk.i64_left];unfold wrap64;omega
    have HKM:=Zab hkm;clear hc hcell hdell hs ht hkm hk;go_wp2
    go_region_with (go_at_call 221;refine (ZlD Xl[k] Xl[m] _).mono ?_;rintro e w1 ⟨rfl,hb1⟩;have hB:Hd (Zw_ w w1):=(HB.o.drew).trans (hb1.mono HB.o.size);clear hb1)
    all_goals by_cases hq:0<=ZlA Xl[k].dr Xl[k].tm Xl[k].re Xl[m].dr Xl[m].tm Xl[m].re
    all_goals first
     | (have HN:Hd (Zdf Zgz Xl=false):=ZaV hlt (HS.o.trans (decide_eq_false (by unfold Zgz;omega)))
        go_wp2;go_ret;exact⟨Zaa HN.o.symm,hB.o⟩)
     | (have HT:Hd (Zcu Zgz Xl m=true):=HS.o.trans (decide_eq_true (by unfold Zgz;omega))
        go_wp2;go_roundw
        case rel=>exact⟨m+1,by go_num,by omega,by omega,hB.o,fun j hj=>by
                   by_cases e:j=m
                   . rw [e];exact HT.o
                   . exact HA.o j (by omega)⟩
        . simp [intOf];omega)
  . have HT:Hd (Zdf Zgz Xl=true):=ZaY (fun i hi=>HA.o i (by omega))
    go_wp2;go_ret;exact⟨Zaa HT.o.symm,HB.o⟩
section
variable {b o c0 c1 lo hi off n lo' hi':Nat} {w w' v wr:World} {x y:Le} {Xl:List Le}
def Zfy (b o _c0 _c1:Nat) (w:World) (x:Le):Prop:=ZdU x/\Zcy w b o x
theorem Zfy.near {o1 d0 d1:Nat} (h:Zfy b o c0 c1 w x) (hn:ZbI b o1 4 d0 d1 w w') (ho:o+4<=o1\/o1+4<=o) (hi:c1<=d0\/d1<=c0) (hb:b < c0\/c1<=b):Zfy b o c0 c1 w' x:=by
 obtain⟨hs,hc⟩:=h;obtain⟨h0,h1,h2,h3⟩:=hc;have e:∀ t,t < 4->w'.cell? ⟨b,o+t,none⟩=w.cell? ⟨b,o+t,none⟩:=fun t ht=>hn.cell _ (by omega)
 have e0:w'.cell? ⟨b,o,none⟩=w.cell? ⟨b,o,none⟩:=hn.cell _ (by omega);exact⟨hs,⟨e0.trans h0,(e 1 (by omega)).trans h1,(e 2 (by omega)).trans h2,(e 3 (by omega)).trans h3⟩⟩
theorem Zfy.touch (h:Zfy b o c0 c1 w x) (ht:Zag lo hi w w') (hlt:b < w.heap.size) (hb:b < lo\/hi<=b) (_hi:c1<=lo\/hi<=c0):Zfy b o c0 c1 w' x:=by
 obtain⟨hs,hc⟩:=h;obtain⟨h0,h1,h2,h3⟩:=hc;exact⟨hs,⟨(ht.cell (p:=⟨b,o,none⟩) hlt hb).trans h0,(ht.cell (p:=⟨b,o+1,none⟩) hlt hb).trans h1,(ht.cell (p:=⟨b,o+2,none⟩) hlt hb).trans h2,(ht.cell (p:=⟨b,o+3,none⟩) hlt hb).trans h3⟩⟩
theorem Zfy.below (h:Zfy b o c0 c1 w x) (ht:Zw_ w w') (hlt:b < w.heap.size):Zfy b o c0 c1 w' x:=by
 obtain⟨hs,hc⟩:=h;obtain⟨h0,h1,h2,h3⟩:=hc;exact⟨hs,⟨(ht.cell (p:=⟨b,o,none⟩) hlt).trans h0,(ht.cell (p:=⟨b,o+1,none⟩) hlt).trans h1,(ht.cell (p:=⟨b,o+2,none⟩) hlt).trans h2,(ht.cell (p:=⟨b,o+3,none⟩) hlt).trans h3⟩⟩
structure Zew (lo hi:Nat) (w:World) (b off n:Nat) (c:Nat->Nat) (X:Nat->Le):Prop where
 lt:b < w.heap.size
 low:lo<=b
 bc:b < c 0
 bh:b < hi
 mono:∀ i,i < n->c i<=c (i+1)
 top:c n<=hi
 frz:∀ i,w.frozen? ⟨b,i,none⟩=false
 row:∀ i,i < n->Zfy b (off+i*4) (c i) (c (i+1)) w (X i)
theorem Zew.le {c:Nat->Nat}{X:Nat->Le} (h:Zew lo hi w b off n c X) {i:Nat}:∀ {j:Nat},i<=j->j<=n->c i<=c j:=by
 intro j
 induction j with
 | zero=>intro hij _;have:i=0:=by omega
         subst this;exact Nat.le_refl _
 | succ j ih=>
  intro hij hjn
  by_cases e:i=j+1
  . subst e;exact Nat.le_refl _
  . exact Nat.le_trans (ih (by omega) (by omega)) (h.mono j (by omega))
theorem Zew.near {c:Nat->Nat}{X:Nat->Le} (h:Zew lo hi w b off n c X) {j:Nat} (hj:j < n) (hn:ZbI b (off+j*4) 4 (c j) (c (j+1)) w w') {x:Le} (hx:Zfy b (off+j*4) (c j) (c (j+1)) w' x):Zew lo hi w' b off n c (fun i=>if i=j then x else X i):=by
 refine⟨Zk_ h.lt hn.size,h.low,h.bc,h.bh,h.mono,h.top,fun i=>(hn.frz i).trans (h.frz i),fun i hi'=>?_⟩
 by_cases e:i=j
 . subst e;rw [if_pos rfl];exact hx
 . rw [if_neg e]
   have h0:=h.le (Nat.zero_le i) (by omega);have hbc:=h.bc;refine (h.row i hi').near hn (by omega) ?_ (by omega)
   rcases Nat.lt_or_ge i j with hij | hij
   . exact Or.inl (h.le (by omega) (by omega))
   . exact Or.inr (h.le (by omega) (by omega))
theorem Zew.touch {c:Nat->Nat}{X:Nat->Le} (h:Zew lo hi w b off n c X) (ht:Zag lo' hi' w w') (ho:hi<=lo'\/hi'<=lo):Zew lo hi w' b off n c X:=by
 have h1:=h.low;have h2:=h.bh;have h3:=h.top;have h4:=h.bc;refine⟨Zk_ h.lt ht.size,h.low,h.bc,h.bh,h.mono,h.top,fun i=>(ht.frozen (p:=⟨b,i,none⟩) h.lt (by simp only [];omega)).trans (h.frz i),fun i hi'=>?_⟩;have h5:=h.le (Nat.zero_le i) (by omega);have h6:=h.le (i:=i+1) (j:=n) (by omega) Zl_;exact (h.row i hi').touch ht h.lt (by omega) (by omega)
theorem Zew.below {c:Nat->Nat}{X:Nat->Le} (h:Zew lo hi w b off n c X) (ht:Zw_ w w'):Zew lo hi w' b off n c X:=
 ⟨Zk_ h.lt ht.size,h.low,h.bc,h.bh,h.mono,h.top,fun i=>(ht.frozen (p:=⟨b,i,none⟩) h.lt).trans (h.frz i),fun i hi'=>(h.row i hi').below ht h.lt⟩
theorem Zew.to {c:Nat->Nat}{X Y:Nat->Le} (h:Zew lo hi w b off n c X) (e:∀ i,i < n->X i=Y i):Zew lo hi w b off n c Y:=
 ⟨h.lt,h.low,h.bc,h.bh,h.mono,h.top,h.frz,fun i hi'=>e i hi' ▸ h.row i hi'⟩
def Zb5 (lo hi:Nat) (w:World) (v:Value) (Xl:List Le):Prop:=
 (∃ (a:Option Addr) (cap:Nat),v=.slice a 0 cap/\Xl=[])\/
 ∃ (b off cap:Nat) (c:Nat->Nat) (X:Nat->Le),v=.slice (some ⟨b,off,none⟩) Xl.length cap/\Xl≠[]/\Xl.length<=maxLen/\Xl.length<=cap/\(∀ i (h:i < Xl.length),X i=Xl[i])/\Zew lo hi w b off Xl.length c X
theorem Zb5.touch {v:Value} (h:Zb5 lo hi w v Xl) (ht:Zag lo' hi' w w') (ho:hi<=lo'\/hi'<=lo):Zb5 lo hi w' v Xl:=by
 rcases h with h | ⟨b,off,cap,c,X,h1,h2,h3,h4,h5,h6⟩
 . exact Or.inl h
 . exact Or.inr ⟨b,off,cap,c,X,h1,h2,h3,h4,h5,h6.touch ht ho⟩
theorem Zb5.below {v:Value} (h:Zb5 lo hi w v Xl) (ht:Zw_ w w'):Zb5 lo hi w' v Xl:=by
 rcases h with h | ⟨b,off,cap,c,X,h1,h2,h3,h4,h5,h6⟩
 . exact Or.inl h
 . exact Or.inr ⟨b,off,cap,c,X,h1,h2,h3,h4,h5,h6.below ht⟩
theorem Zb5.form {v:Value} (h:Zb5 lo hi w v Xl):∃ a cap,v=.slice a Xl.length cap:=by
 rcases h with ⟨a,cap,h,rfl⟩ | ⟨b,off,cap,c,X,h1,_⟩
 . exact⟨a,cap,h⟩
 . exact⟨_,cap,h1⟩
theorem Zb5.at {v:Value} (h:Zb5 lo hi w v Xl):Zbx lo w v Xl:=by
 rcases h with h | ⟨b,off,cap,c,X,h1,h2,h3,h4,h5,h6⟩
 . exact Or.inl h
 . refine Or.inr ⟨b,off,cap,h1,h2,h3,h6.lt,h6.low,h4,fun i hi'=>?_⟩
   have hr:=h6.row i hi';rw [h5 i hi'] at hr;obtain⟨hs,hc⟩:=hr;exact⟨hs,hc⟩
def Zrr (k:Int) (_x:Le):Le:=⟨mtB (k),mtB (k+1),k+1+1,k+1+1+1⟩
def ZrV (_x:Le):Nat:=4
def ZdF (Xl:List Le) (i:Nat):Nat:=((Xl.take i).map ZrV).sum
def Zmh (k:Int) (Xl:List Le):List Le:=Xl.mapIdx (fun i x=>Zrr (k+(ZdF Xl i:Int)) x)
theorem Zdm (k:Int) (Xl:List Le):(Zmh k Xl).length=Xl.length:=by unfold Zmh;simp
theorem ZnV (k:Int) (Xl:List Le) (i:Nat) (h:i < (Zmh k Xl).length) (h':i < Xl.length):(Zmh k Xl)[i]=Zrr (k+(ZdF Xl i:Int)) Xl[i]:=List.getElem_mapIdx (f:=fun i x=>Zrr (k+(ZdF Xl i:Int)) x) (h:=h)
theorem ZhT {i:Nat} (h:i < Xl.length):ZdF Xl (i+1)=ZdF Xl i+ZrV Xl[i]:=by
 unfold ZdF;rw [List.take_succ_eq_append_getElem h,List.map_append,List.sum_append];simp
theorem Zle (hn:Zej Xl):∀ {i:Nat},i<=Xl.length->ZdF Xl i<=i*3000000:=by
 intro i
 induction i with
 | zero=>intro _;simp [ZdF]
 | succ i ih=>
  intro hi';have h1:=ih (by omega);rw [ZhT (by omega)]
  have h2:ZrV Xl[i]<=3000000:=by
   have hsm:=hn.2 i (by omega);unfold Zgu at hsm;unfold ZrV
   omega
  omega
structure ZiU (wr:World) (b o c0 c1:Nat) (v:World) (y:Le):Prop where
 near:ZbI b o 4 c0 c1 wr v
 bc:b < c0
 cells:Zcy v b o y
 frz:∀ i,v.frozen? ⟨b,i,none⟩=false
 lt:b < v.heap.size
theorem ZiU.below {v':World} (h:ZiU wr b o c0 c1 v y) (hb:Below v.heap.size v v'):ZiU wr b o c0 c1 v' y:=
 ⟨h.near.trans (ZbI.below hb h.lt),h.bc,h.cells.below hb h.lt,fun i=>(hb.frozen (p:=⟨b,i,none⟩) h.lt).trans (h.frz i),Zk_ h.lt hb.size⟩
theorem ZiU.s0 (h:ZiU wr b o c0 c1 v y) (u:Zy_):ZiU wr b o c0 c1 (v.setCell ⟨b,o,none⟩ (.string u)) { y with tm:=u }:=by
 obtain⟨h0,h1,h2,h3⟩:=h.cells;have ht:Zag b (b+1) v (v.setCell ⟨b,o,none⟩ (.string u)):=Zag.setCell _ _ _ _ _ ⟨Nat.le_refl _,by simp only [];omega⟩;have hbc:=h.bc;exact⟨h.near.trans (ZbI.set _ _ _ _ _ _ _ _ (by omega) (by omega)),h.bc,⟨World.cell?_setCell_same' _ _ _ (by rw [h0];rfl),(cne (by omega)).trans h1,(cne (by omega)).trans h2,(cne (by omega)).trans h3⟩,fun i=>by rw [World.frozen?_setCell];exact h.frz i,by simpa [World.setCell] using h.lt⟩
theorem ZiU.s1 (h:ZiU wr b o c0 c1 v y) (u:Zy_):ZiU wr b o c0 c1 (v.setCell ⟨b,o+1,none⟩ (.string u)) { y with re:=u }:=by
 obtain⟨h0,h1,h2,h3⟩:=h.cells;have ht:Zag b (b+1) v (v.setCell ⟨b,o+1,none⟩ (.string u)):=Zag.setCell _ _ _ _ _ ⟨Nat.le_refl _,by simp only [];omega⟩;have hbc:=h.bc;exact⟨h.near.trans (ZbI.set _ _ _ _ _ _ _ _ (by omega) (by omega)),h.bc,⟨(cne (by omega)).trans h0,World.cell?_setCell_same' _ _ _ (by rw [h1];rfl),(cne (by omega)).trans h2,(cne (by omega)).trans h3⟩,fun i=>by rw [World.frozen?_setCell];exact h.frz i,by simpa [World.setCell] using h.lt⟩
theorem ZiU.s2 (h:ZiU wr b o c0 c1 v y) (u:Int):ZiU wr b o c0 c1 (v.setCell ⟨b,o+2,none⟩ (.int .i64 u)) { y with mo:=u }:=by
 obtain⟨h0,h1,h2,h3⟩:=h.cells;have ht:Zag b (b+1) v (v.setCell ⟨b,o+2,none⟩ (.int .i64 u)):=Zag.setCell _ _ _ _ _ ⟨Nat.le_refl _,by simp only [];omega⟩;have hbc:=h.bc;exact⟨h.near.trans (ZbI.set _ _ _ _ _ _ _ _ (by omega) (by omega)),h.bc,⟨(cne (by omega)).trans h0,(cne (by omega)).trans h1,World.cell?_setCell_same' _ _ _ (by rw [h2];rfl),(cne (by omega)).trans h3⟩,fun i=>by rw [World.frozen?_setCell];exact h.frz i,by simpa [World.setCell] using h.lt⟩
theorem ZiU.s3 (h:ZiU wr b o c0 c1 v y) (u:Int):ZiU wr b o c0 c1 (v.setCell ⟨b,o+3,none⟩ (.int .i64 u)) { y with fr:=u }:=by
 obtain⟨h0,h1,h2,h3⟩:=h.cells;have ht:Zag b (b+1) v (v.setCell ⟨b,o+3,none⟩ (.int .i64 u)):=Zag.setCell _ _ _ _ _ ⟨Nat.le_refl _,by simp only [];omega⟩;have hbc:=h.bc;exact⟨h.near.trans (ZbI.set _ _ _ _ _ _ _ _ (by omega) (by omega)),h.bc,⟨(cne (by omega)).trans h0,(cne (by omega)).trans h1,(cne (by omega)).trans h2,World.cell?_setCell_same' _ _ _ (by rw [h3];rfl)⟩,fun i=>by rw [World.frozen?_setCell];exact h.frz i,by simpa [World.setCell] using h.lt⟩
end
section
variable {b o c0 c1 lo hi off n lo' hi':Nat} {w w' v wr v':World} {x y:Gr} {Xl:List Gr} {vv0:Value}
def Zfw (b o c0 c1:Nat) (w:World) (x:Gr):Prop:=ZdS x/\∃ (vv0:Value),c0<=c1/\Zcx w b o x vv0/\Zaw c0 c1 w vv0 x.vb
theorem Zfw.near {o1 d0 d1:Nat} (h:Zfw b o c0 c1 w x) (hn:ZbI b o1 7 d0 d1 w w') (ho:o+7<=o1\/o1+7<=o) (hi:c1<=d0\/d1<=c0) (hb:b < c0\/c1<=b):Zfw b o c0 c1 w' x:=by
 obtain⟨hs,vv0,q0,hc,l0⟩:=h;obtain⟨h0,h1,h2,h3,h4,h5,h6⟩:=hc;have e:∀ t,t < 7->w'.cell? ⟨b,o+t,none⟩=w.cell? ⟨b,o+t,none⟩:=fun t ht=>hn.cell _ (by omega)
 have e0:w'.cell? ⟨b,o,none⟩=w.cell? ⟨b,o,none⟩:=hn.cell _ (by omega);exact⟨hs,vv0,q0,⟨e0.trans h0,(e 1 (by omega)).trans h1,(e 2 (by omega)).trans h2,(e 3 (by omega)).trans h3,(e 4 (by omega)).trans h4,(e 5 (by omega)).trans h5,(e 6 (by omega)).trans h6⟩,l0.near hn (by omega) (by omega)⟩
theorem Zfw.touch (h:Zfw b o c0 c1 w x) (ht:Zag lo hi w w') (hlt:b < w.heap.size) (hb:b < lo\/hi<=b) (hi':c1<=lo\/hi<=c0):Zfw b o c0 c1 w' x:=by
 obtain⟨hs,vv0,q0,hc,l0⟩:=h;obtain⟨h0,h1,h2,h3,h4,h5,h6⟩:=hc;exact⟨hs,vv0,q0,⟨(ht.cell (p:=⟨b,o,none⟩) hlt hb).trans h0,(ht.cell (p:=⟨b,o+1,none⟩) hlt hb).trans h1,(ht.cell (p:=⟨b,o+2,none⟩) hlt hb).trans h2,(ht.cell (p:=⟨b,o+3,none⟩) hlt hb).trans h3,(ht.cell (p:=⟨b,o+4,none⟩) hlt hb).trans h4,(ht.cell (p:=⟨b,o+5,none⟩) hlt hb).trans h5,(ht.cell (p:=⟨b,o+6,none⟩) hlt hb).trans h6⟩,l0.touch ht (by omega)⟩
theorem Zfw.below (h:Zfw b o c0 c1 w x) (ht:Zw_ w w') (hlt:b < w.heap.size):Zfw b o c0 c1 w' x:=by
 obtain⟨hs,vv0,q0,hc,l0⟩:=h;obtain⟨h0,h1,h2,h3,h4,h5,h6⟩:=hc;exact⟨hs,vv0,q0,⟨(ht.cell (p:=⟨b,o,none⟩) hlt).trans h0,(ht.cell (p:=⟨b,o+1,none⟩) hlt).trans h1,(ht.cell (p:=⟨b,o+2,none⟩) hlt).trans h2,(ht.cell (p:=⟨b,o+3,none⟩) hlt).trans h3,(ht.cell (p:=⟨b,o+4,none⟩) hlt).trans h4,(ht.cell (p:=⟨b,o+5,none⟩) hlt).trans h5,(ht.cell (p:=⟨b,o+6,none⟩) hlt).trans h6⟩,l0.below ht⟩
structure Ze2 (lo hi:Nat) (w:World) (b off n:Nat) (c:Nat->Nat×Nat) (X:Nat->Gr):Prop where
 lt:b < w.heap.size
 low:lo<=b
 bh:b < hi
 seg:∀ i,i < n->lo<=(c i).1/\(c i).2<=hi/\(b < (c i).1\/(c i).2<=b)
 mono:∀ i j,i < j->j < n->(c i).2<=(c j).1
 frz:∀ i,w.frozen? ⟨b,i,none⟩=false
 row:∀ i,i < n->Zfw b (off+i*7) (c i).1 (c i).2 w (X i)
theorem Ze2.near {c:Nat->Nat×Nat}{X:Nat->Gr} (h:Ze2 lo hi w b off n c X) {j:Nat} (hj:j < n) (hn:ZbI b (off+j*7) 7 (c j).1 (c j).2 w w') {x:Gr} (hx:Zfw b (off+j*7) (c j).1 (c j).2 w' x):Ze2 lo hi w' b off n c (fun i=>if i=j then x else X i):=by
 refine⟨Zk_ h.lt hn.size,h.low,h.bh,h.seg,h.mono,fun i=>(hn.frz i).trans (h.frz i),fun i hi'=>?_⟩
 by_cases e:i=j
 . subst e;rw [if_pos rfl];exact hx
 . rw [if_neg e]
   refine (h.row i hi').near hn (by omega) ?_ (h.seg i hi').2.2
   rcases Nat.lt_or_ge i j with hij | hij
   . exact Or.inl (h.mono i j hij hj)
   . exact Or.inr (h.mono j i (by omega) hi')
theorem Ze2.touch {c:Nat->Nat×Nat}{X:Nat->Gr} (h:Ze2 lo hi w b off n c X) (ht:Zag lo' hi' w w') (ho:hi<=lo'\/hi'<=lo):Ze2 lo hi w' b off n c X:=by
 have h1:=h.low;have h2:=h.bh;refine⟨Zk_ h.lt ht.size,h.low,h.bh,h.seg,h.mono,fun i=>(ht.frozen (p:=⟨b,i,none⟩) h.lt (by simp only [];omega)).trans (h.frz i),fun i hi'=>?_⟩;have h5:=h.seg i hi';exact (h.row i hi').touch ht h.lt (by omega) (by omega)
theorem Ze2.below {c:Nat->Nat×Nat}{X:Nat->Gr} (h:Ze2 lo hi w b off n c X) (ht:Zw_ w w'):Ze2 lo hi w' b off n c X:=
 ⟨Zk_ h.lt ht.size,h.low,h.bh,h.seg,h.mono,fun i=>(ht.frozen (p:=⟨b,i,none⟩) h.lt).trans (h.frz i),fun i hi'=>(h.row i hi').below ht h.lt⟩
theorem Ze2.to {c:Nat->Nat×Nat}{X Y:Nat->Gr} (h:Ze2 lo hi w b off n c X) (e:∀ i,i < n->X i=Y i):Ze2 lo hi w b off n c Y:=
 ⟨h.lt,h.low,h.bh,h.seg,h.mono,h.frz,fun i hi'=>e i hi' ▸ h.row i hi'⟩
def ZbU (lo hi:Nat) (w:World) (v:Value) (Xl:List Gr):Prop:=
 (∃ (a:Option Addr) (cap:Nat),v=.slice a 0 cap/\Xl=[])\/
 ∃ (b off cap:Nat) (c:Nat->Nat×Nat) (X:Nat->Gr),v=.slice (some ⟨b,off,none⟩) Xl.length cap/\Xl≠[]/\Xl.length<=maxLen/\Xl.length<=cap/\(∀ i (h:i < Xl.length),X i=Xl[i])/\Ze2 lo hi w b off Xl.length c X
theorem ZbU.touch {v:Value} (h:ZbU lo hi w v Xl) (ht:Zag lo' hi' w w') (ho:hi<=lo'\/hi'<=lo):ZbU lo hi w' v Xl:=by
 rcases h with h | ⟨b,off,cap,c,X,h1,h2,h3,h4,h5,h6⟩
 . exact Or.inl h
 . exact Or.inr ⟨b,off,cap,c,X,h1,h2,h3,h4,h5,h6.touch ht ho⟩
theorem ZbU.below {v:Value} (h:ZbU lo hi w v Xl) (ht:Zw_ w w'):ZbU lo hi w' v Xl:=by
 rcases h with h | ⟨b,off,cap,c,X,h1,h2,h3,h4,h5,h6⟩
 . exact Or.inl h
 . exact Or.inr ⟨b,off,cap,c,X,h1,h2,h3,h4,h5,h6.below ht⟩
theorem ZbU.form {v:Value} (h:ZbU lo hi w v Xl):∃ a cap,v=.slice a Xl.length cap:=by
 rcases h with ⟨a,cap,h,rfl⟩ | ⟨b,off,cap,c,X,h1,_⟩
 . exact⟨a,cap,h⟩
 . exact⟨_,cap,h1⟩
theorem ZbU.at {v:Value} (h:ZbU lo hi w v Xl):ZbK lo w v Xl:=by
 rcases h with h | ⟨b,off,cap,c,X,h1,h2,h3,h4,h5,h6⟩
 . exact Or.inl h
 . refine Or.inr ⟨b,off,cap,h1,h2,h3,h6.lt,h6.low,h4,fun i hi'=>?_⟩
   have hr:=h6.row i hi';have g0:=h6.seg i hi';rw [h5 i hi'] at hr;obtain⟨hs,vv0,q0,hc,l0⟩:=hr;exact⟨hs,vv0,hc,(l0.in').mono (by omega)⟩
def Zrq (k:Int) (x:Gr):Gr:=⟨k,mtB (k+1),mtB (k+1+1),ZdM (k+1+1+1) x.vb.length,mtB (k+1+1+1+x.vb.length),mtB (k+1+1+1+x.vb.length+1),mtB (k+1+1+1+x.vb.length+1+1)⟩
def ZrU (x:Gr):Nat:=6+x.vb.length
def Zds (Xl:List Gr) (i:Nat):Nat:=((Xl.take i).map ZrU).sum
def Zmg (k:Int) (Xl:List Gr):List Gr:=Xl.mapIdx (fun i x=>Zrq (k+(Zds Xl i:Int)) x)
theorem Zdl (k:Int) (Xl:List Gr):(Zmg k Xl).length=Xl.length:=by unfold Zmg;simp
theorem ZnU (k:Int) (Xl:List Gr) (i:Nat) (h:i < (Zmg k Xl).length) (h':i < Xl.length):(Zmg k Xl)[i]=Zrq (k+(Zds Xl i:Int)) Xl[i]:=List.getElem_mapIdx (f:=fun i x=>Zrq (k+(Zds Xl i:Int)) x) (h:=h)
theorem ZhS {i:Nat} (h:i < Xl.length):Zds Xl (i+1)=Zds Xl i+ZrU Xl[i]:=by
 unfold Zds;rw [List.take_succ_eq_append_getElem h,List.map_append,List.sum_append];simp
theorem Zld (hn:Zei Xl):∀ {i:Nat},i<=Xl.length->Zds Xl i<=i*3000000:=by
 intro i
 induction i with
 | zero=>intro _;simp [Zds]
 | succ i ih=>
  intro hi';have h1:=ih (by omega);rw [ZhS (by omega)]
  have h2:ZrU Xl[i]<=3000000:=by
   have hsm:=hn.2 i (by omega);unfold ZdT at hsm;unfold ZrU
   omega
  omega
structure ZeE (wr:World) (b o c0 c1:Nat) (vv0:Value) (v:World) (y:Gr):Prop where
 near:ZbI b o 7 c0 c1 wr v
 bc:b < c0\/c1<=b
 q0:c0<=c1
 cells:Zcx v b o y vv0
 l0:Zaw c0 c1 v vv0 y.vb
 frz:∀ i,v.frozen? ⟨b,i,none⟩=false
 lt:b < v.heap.size
theorem ZeE.below (h:ZeE wr b o c0 c1 vv0 v y) (hb:Below v.heap.size v v'):ZeE wr b o c0 c1 vv0 v' y:=
 ⟨h.near.trans (ZbI.below hb h.lt),h.bc,h.q0,h.cells.below hb h.lt,h.l0.below hb,fun i=>(hb.frozen (p:=⟨b,i,none⟩) h.lt).trans (h.frz i),Zk_ h.lt hb.size⟩
theorem ZeE.s0 (h:ZeE wr b o c0 c1 vv0 v y) (u:Int):ZeE wr b o c0 c1 vv0 (v.setCell ⟨b,o,none⟩ (.int .i64 u)) { y with nu:=u }:=by
 obtain⟨h0,h1,h2,h3,h4,h5,h6⟩:=h.cells;have ht:Zag b (b+1) v (v.setCell ⟨b,o,none⟩ (.int .i64 u)):=Zag.setCell _ _ _ _ _ ⟨Nat.le_refl _,by simp only [];omega⟩;have hbc:=h.bc;have hq0:=h.q0;exact⟨h.near.trans (ZbI.set _ _ _ _ _ _ _ _ (by omega) (by omega)),h.bc,h.q0,⟨World.cell?_setCell_same' _ _ _ (by rw [h0];rfl),(cne (by omega)).trans h1,(cne (by omega)).trans h2,(cne (by omega)).trans h3,(cne (by omega)).trans h4,(cne (by omega)).trans h5,(cne (by omega)).trans h6⟩,h.l0.touch ht (by omega),fun i=>by rw [World.frozen?_setCell];exact h.frz i,by simpa [World.setCell] using h.lt⟩
theorem ZeE.s1 (h:ZeE wr b o c0 c1 vv0 v y) (u:Zy_):ZeE wr b o c0 c1 vv0 (v.setCell ⟨b,o+1,none⟩ (.string u)) { y with tw:=u }:=by
 obtain⟨h0,h1,h2,h3,h4,h5,h6⟩:=h.cells;have ht:Zag b (b+1) v (v.setCell ⟨b,o+1,none⟩ (.string u)):=Zag.setCell _ _ _ _ _ ⟨Nat.le_refl _,by simp only [];omega⟩;have hbc:=h.bc;have hq0:=h.q0;exact⟨h.near.trans (ZbI.set _ _ _ _ _ _ _ _ (by omega) (by omega)),h.bc,h.q0,⟨(cne (by omega)).trans h0,World.cell?_setCell_same' _ _ _ (by rw [h1];rfl),(cne (by omega)).trans h2,(cne (by omega)).trans h3,(cne (by omega)).trans h4,(cne (by omega)).trans h5,(cne (by omega)).trans h6⟩,h.l0.touch ht (by omega),fun i=>by rw [World.frozen?_setCell];exact h.frz i,by simpa [World.setCell] using h.lt⟩
theorem ZeE.s2 (h:ZeE wr b o c0 c1 vv0 v y) (u:Zy_):ZeE wr b o c0 c1 vv0 (v.setCell ⟨b,o+2,none⟩ (.string u)) { y with gb:=u }:=by
 obtain⟨h0,h1,h2,h3,h4,h5,h6⟩:=h.cells;have ht:Zag b (b+1) v (v.setCell ⟨b,o+2,none⟩ (.string u)):=Zag.setCell _ _ _ _ _ ⟨Nat.le_refl _,by simp only [];omega⟩;have hbc:=h.bc;have hq0:=h.q0;exact⟨h.near.trans (ZbI.set _ _ _ _ _ _ _ _ (by omega) (by omega)),h.bc,h.q0,⟨(cne (by omega)).trans h0,(cne (by omega)).trans h1,World.cell?_setCell_same' _ _ _ (by rw [h2];rfl),(cne (by omega)).trans h3,(cne (by omega)).trans h4,(cne (by omega)).trans h5,(cne (by omega)).trans h6⟩,h.l0.touch ht (by omega),fun i=>by rw [World.frozen?_setCell];exact h.frz i,by simpa [World.setCell] using h.lt⟩
theorem ZeE.s4 (h:ZeE wr b o c0 c1 vv0 v y) (u:Zy_):ZeE wr b o c0 c1 vv0 (v.setCell ⟨b,o+4,none⟩ (.string u)) { y with kd:=u }:=by
 obtain⟨h0,h1,h2,h3,h4,h5,h6⟩:=h.cells;have ht:Zag b (b+1) v (v.setCell ⟨b,o+4,none⟩ (.string u)):=Zag.setCell _ _ _ _ _ ⟨Nat.le_refl _,by simp only [];omega⟩;have hbc:=h.bc;have hq0:=h.q0;exact⟨h.near.trans (ZbI.set _ _ _ _ _ _ _ _ (by omega) (by omega)),h.bc,h.q0,⟨(cne (by omega)).trans h0,(cne (by omega)).trans h1,(cne (by omega)).trans h2,(cne (by omega)).trans h3,World.cell?_setCell_same' _ _ _ (by rw [h4];rfl),(cne (by omega)).trans h5,(cne (by omega)).trans h6⟩,h.l0.touch ht (by omega),fun i=>by rw [World.frozen?_setCell];exact h.frz i,by simpa [World.setCell] using h.lt⟩
theorem ZeE.s5 (h:ZeE wr b o c0 c1 vv0 v y) (u:Zy_):ZeE wr b o c0 c1 vv0 (v.setCell ⟨b,o+5,none⟩ (.string u)) { y with tm:=u }:=by
 obtain⟨h0,h1,h2,h3,h4,h5,h6⟩:=h.cells;have ht:Zag b (b+1) v (v.setCell ⟨b,o+5,none⟩ (.string u)):=Zag.setCell _ _ _ _ _ ⟨Nat.le_refl _,by simp only [];omega⟩;have hbc:=h.bc;have hq0:=h.q0;exact⟨h.near.trans (ZbI.set _ _ _ _ _ _ _ _ (by omega) (by omega)),h.bc,h.q0,⟨(cne (by omega)).trans h0,(cne (by omega)).trans h1,(cne (by omega)).trans h2,(cne (by omega)).trans h3,(cne (by omega)).trans h4,World.cell?_setCell_same' _ _ _ (by rw [h5];rfl),(cne (by omega)).trans h6⟩,h.l0.touch ht (by omega),fun i=>by rw [World.frozen?_setCell];exact h.frz i,by simpa [World.setCell] using h.lt⟩
theorem ZeE.s6 (h:ZeE wr b o c0 c1 vv0 v y) (u:Zy_):ZeE wr b o c0 c1 vv0 (v.setCell ⟨b,o+6,none⟩ (.string u)) { y with pf:=u }:=by
 obtain⟨h0,h1,h2,h3,h4,h5,h6⟩:=h.cells;have ht:Zag b (b+1) v (v.setCell ⟨b,o+6,none⟩ (.string u)):=Zag.setCell _ _ _ _ _ ⟨Nat.le_refl _,by simp only [];omega⟩;have hbc:=h.bc;have hq0:=h.q0;exact⟨h.near.trans (ZbI.set _ _ _ _ _ _ _ _ (by omega) (by omega)),h.bc,h.q0,⟨(cne (by omega)).trans h0,(cne (by omega)).trans h1,(cne (by omega)).trans h2,(cne (by omega)).trans h3,(cne (by omega)).trans h4,(cne (by omega)).trans h5,World.cell?_setCell_same' _ _ _ (by rw [h6];rfl)⟩,h.l0.touch ht (by omega),fun i=>by rw [World.frozen?_setCell];exact h.frz i,by simpa [World.setCell] using h.lt⟩
theorem ZeE.m0' (h:ZeE wr b o c0 c1 vv0 v y) (ht:Zag c0 c1 v v') {L:List Int} (hl:Zaw c0 c1 v' vv0 L):ZeE wr b o c0 c1 vv0 v' { y with vb:=L }:=by
 obtain⟨h0,h1,h2,h3,h4,h5,h6⟩:=h.cells;have hbc:=h.bc;have hq0:=h.q0;have hlt:=h.lt;have e:∀ i,v'.cell? ⟨b,i,none⟩=v.cell? ⟨b,i,none⟩:=fun i=>ht.cell (p:=⟨b,i,none⟩) h.lt (by simp only [];omega)
 exact⟨h.near.trans (ZbI.touch ht h.lt (by omega) (by omega) (by omega)),h.bc,h.q0,⟨(e _).trans h0,(e _).trans h1,(e _).trans h2,(e _).trans h3,(e _).trans h4,(e _).trans h5,(e _).trans h6⟩,hl,fun i=>(ht.frozen (p:=⟨b,i,none⟩) h.lt (by simp only [];omega)).trans (h.frz i),Zk_ h.lt ht.size⟩
end
theorem Zko (lo hi:Nat) (v:Value) (Xl:List Gr) (k:Int) (w:World) (hv:ZbU lo hi w v Xl) (hn:Zei Xl) (h0:0<=k) (hk:k<=2000000000000000000) :
 Calls prog 56 #[v,.int .i64 k] w fun e w'=>e=.returned (.int .i64 (k+(Zds Xl Xl.length:Int)))/\Zag lo hi w w'/\ZbU lo hi w' v (Zmg k Xl):=by
 rcases hv with ⟨a,cap,rfl,rfl⟩ | ⟨b,off,cap,c,X,rfl,hne,hm,hcap,hX,hR⟩
 . go_enter func56,ntmps56
   go_wp2
   go_loop [5,1] (fun i q=>i=.int .i64 0/\q=.int .i64 k) (fun _ _=>0)
   case atStart=>exact⟨rfl,rfl⟩
   case round=>
    obtain⟨rfl,rfl⟩:=hrel;go_wp2;go_ret;exact⟨by simp [Zds],Zag.refl _ _ _,Or.inl ⟨_,_,rfl,rfl⟩⟩
 . have hlen:=hn.1
   have HN:=Zab hn;have HX:=Zab hX;have HR0:=Zab hR;have HM:=Zab hm;have HC:=Zab hcap;have HNE:=Zab hne;clear hn hX hR hm hcap hne;go_enter func56,ntmps56;go_wp2
   go_loopw [5,1] (fun i q wr=>∃ j:Nat,i=.int .i64 j/\q=.int .i64 (k+(Zds Xl j:Int))/\j<=Xl.length/\Zag lo hi w wr/\Ze2 lo hi wr b off Xl.length c (fun i=>if i < j then Zrq (k+(Zds Xl i:Int)) (X i) else X i)) (fun i _ _=>Xl.length - (intOf i).toNat)
   case atStart=>exact⟨0,rfl,by simp [Zds],by omega,Zag.refl _ _ _,HR0.o.to (fun i _=>by simp)⟩
   case round=>
    obtain⟨j,rfl,rfl,hj,ht,hr⟩:=hrel;have HT:=Zab ht;have HR:=Zab hr;clear ht hr HR0
    by_cases hlt:j < Xl.length
    . have hpos:=Zld HN.o (i:=j) (by omega)
      have HP:=Zab (ZhS hlt)
      have hone:Zfw b (off+j*7) (c j).1 (c j).2 wr (X j):=by
       have:=HR.o.row j hlt;simp only [Nat.lt_irrefl,if_false] at this;exact this
      have hxj:X j=Xl[j]:=HX.o j hlt;obtain⟨x,hx⟩:∃ x,x=X j:=⟨_,rfl⟩
      rw [<- hx] at hone;obtain⟨hs,vv0,q0,hc,l0⟩:=hone;have hs0:x.vb.length<=1048576:=by have:=HN.o.2 j hlt;rw [hx,hxj];unfold ZdT at this;omega
      have HXJ:=Zab hxj;have HXX:=Zab hx;obtain⟨K,hK⟩:∃ K,K=k+(Zds Xl j:Int):=⟨_,rfl⟩
      rw [<- hK];have hK0:0<=K:=by omega
      have hK1:K<=2500000000000000000:=by omega
      have HK:=Zab hK;have HBC:Hd (b < (c j).1\/(c j).2<=b):=(HR.o.seg j hlt).2.2;have HS:Hd (ZeE wr b (off+j*7) (c j).1 (c j).2 vv0 wr x):=⟨ZbI.refl _ _ _ _ _ _,HBC.o,q0,hc,l0,HR.o.frz,HR.o.lt⟩;clear hpos hxj hx hs hc l0 q0 hK;obtain⟨d0,d1,d2,d3,d4,d5,d6⟩:=HS.o.cells;have fz:=HS.o.frz;go_wp2_with fail;clear d0 d1 d2 d3 d4 d5 d6 fz;obtain⟨v1,hv1,HS1⟩:∃ v',v'=(wr.setCell ⟨b,off+j*7,none⟩ (.int .i64 (K)))/\Hd (ZeE wr b (off+j*7) (c j).1 (c j).2 vv0 v' ⟨K,x.tw,x.gb,x.vb,x.kd,x.tm,x.pf⟩):=⟨_,rfl,(HS.o.s0 (K))⟩
      rw [<- hv1];clear hv1 HS;refine (Zal _ _ (by omega)).mono ?_;rintro e v2 ⟨rfl,hb⟩;have HS2:=Zab (HS1.o.below hb);clear hb HS1;obtain⟨d0,d1,d2,d3,d4,d5,d6⟩:=HS2.o.cells;have fz:=HS2.o.frz;go_wp2_with fail;clear d0 d1 d2 d3 d4 d5 d6 fz;obtain⟨v3,hv3,HS3⟩:∃ v',v'=(v2.setCell ⟨b,off+j*7+1,none⟩ (.string (mtB (K+1))))/\Hd (ZeE wr b (off+j*7) (c j).1 (c j).2 vv0 v' ⟨K,mtB (K+1),x.gb,x.vb,x.kd,x.tm,x.pf⟩):=⟨_,rfl,(HS2.o.s1 (mtB (K+1)))⟩
      rw [<- hv3];clear hv3 HS2;refine (Zal _ _ (by omega)).mono ?_;rintro e v4 ⟨rfl,hb⟩;have HS4:=Zab (HS3.o.below hb);clear hb HS3;obtain⟨d0,d1,d2,d3,d4,d5,d6⟩:=HS4.o.cells;have fz:=HS4.o.frz;go_wp2_with fail;clear d0 d1 d2 d3 d4 d5 d6 fz;obtain⟨v5,hv5,HS5⟩:∃ v',v'=(v4.setCell ⟨b,off+j*7+2,none⟩ (.string (mtB (K+1+1))))/\Hd (ZeE wr b (off+j*7) (c j).1 (c j).2 vv0 v' ⟨K,mtB (K+1),mtB (K+1+1),x.vb,x.kd,x.tm,x.pf⟩):=⟨_,rfl,(HS4.o.s2 (mtB (K+1+1)))⟩
      rw [<- hv5];clear hv5 HS4;refine (Zf5 _ _ _ x.vb _ _ HS5.o.l0 (by omega) (by omega)).mono ?_;rintro e v6 ⟨rfl,ht,hl⟩;have HS6:Hd (ZeE wr b (off+j*7) (c j).1 (c j).2 vv0 v6 ⟨K,mtB (K+1),mtB (K+1+1),ZdM (K+1+1+1) x.vb.length,x.kd,x.tm,x.pf⟩):=HS5.o.m0' ht hl;clear ht hl HS5;obtain⟨d0,d1,d2,d3,d4,d5,d6⟩:=HS6.o.cells;have fz:=HS6.o.frz;go_wp2_with fail;clear d0 d1 d2 d3 d4 d5 d6 fz;refine (Zal _ _ (by omega)).mono ?_;rintro e v7 ⟨rfl,hb⟩;have HS7:=Zab (HS6.o.below hb);clear hb HS6;obtain⟨d0,d1,d2,d3,d4,d5,d6⟩:=HS7.o.cells;have fz:=HS7.o.frz;go_wp2_with fail;clear d0 d1 d2 d3 d4 d5 d6 fz
      obtain⟨v8,hv8,HS8⟩:∃ v',v'=(v7.setCell ⟨b,off+j*7+4,none⟩ (.string (mtB (K+1+1+1+(x.vb.length:Int)))))/\Hd (ZeE wr b (off+j*7) (c j).1 (c j).2 vv0 v' ⟨K,mtB (K+1),mtB (K+1+1),ZdM (K+1+1+1) x.vb.length,mtB (K+1+1+1+(x.vb.length:Int)),x.tm,x.pf⟩):=⟨_,rfl,(HS7.o.s4 (mtB (K+1+1+1+(x.vb.length:Int))))⟩
      rw [<- hv8];clear hv8 HS7;refine (Zal _ _ (by omega)).mono ?_;rintro e v9 ⟨rfl,hb⟩;have HS9:=Zab (HS8.o.below hb);clear hb HS8;obtain⟨d0,d1,d2,d3,d4,d5,d6⟩:=HS9.o.cells;have fz:=HS9.o.frz;go_wp2_with fail;clear d0 d1 d2 d3 d4 d5 d6 fz;obtain⟨v10,hv10,HS10⟩:∃ v',v'=(v9.setCell ⟨b,off+j*7+5,none⟩ (.string (mtB (K+1+1+1+(x.vb.length:Int)+1))))/\Hd (ZeE wr b (off+j*7) (c j).1 (c j).2 vv0 v' ⟨K,mtB (K+1),mtB (K+1+1),ZdM (K+1+1+1) x.vb.length,mtB (K+1+1+1+(x.vb.length:Int)),mtB (K+1+1+1+(x.vb.length:Int)+1),x.pf⟩):=⟨_,rfl,(HS9.o.s5 (mtB (K+1+1+1+(x.vb.length:Int)+1)))⟩
      rw [<- hv10];clear hv10 HS9;refine (Zal _ _ (by omega)).mono ?_;rintro e v11 ⟨rfl,hb⟩;have HS11:=Zab (HS10.o.below hb);clear hb HS10;obtain⟨d0,d1,d2,d3,d4,d5,d6⟩:=HS11.o.cells;have fz:=HS11.o.frz;go_wp2;clear d0 d1 d2 d3 d4 d5 d6 fz;obtain⟨v12,hv12,HS12⟩:∃ v',v'=(v11.setCell ⟨b,off+j*7+6,none⟩ (.string (mtB (K+1+1+1+(x.vb.length:Int)+1+1))))/\Hd (ZeE wr b (off+j*7) (c j).1 (c j).2 vv0 v' ⟨K,mtB (K+1),mtB (K+1+1),ZdM (K+1+1+1) x.vb.length,mtB (K+1+1+1+(x.vb.length:Int)),mtB (K+1+1+1+(x.vb.length:Int)+1),mtB (K+1+1+1+(x.vb.length:Int)+1+1)⟩):=⟨_,rfl,(HS11.o.s6 (mtB (K+1+1+1+(x.vb.length:Int)+1+1)))⟩
      rw [<- hv12];clear hv12 HS11;have HW:Hd (ZrU Xl[j]=6+x.vb.length):=by unfold Hd;rw [<- HXJ.o,<- HXX.o];rfl
      have HQ:Hd ((K+1+1+1+(x.vb.length:Int)+1+1+1:Int)=k+(Zds Xl (j+1):Int)):=by
       have h1:=HP.o;have h2:=HW.o;have h3:=HK.o;unfold Hd
       omega
      have HRN:=Zab (HR.o.near hlt HS12.o.near (show Zfw b (off+j*7) (c j).1 (c j).2 v12 (Zrq K x) from ⟨⟨ZbR _ (by omega),ZbR _ (by omega),ZbR _ (by omega),ZbR _ (by omega),ZbR _ (by omega)⟩,_,HS12.o.q0,HS12.o.cells,HS12.o.l0⟩));have HTN:=Zab (HS12.o.near.wide HR.o.lt (lo':=lo) (hi':=hi) (HR.o.seg j hlt).1 (HR.o.seg j hlt).2.1 ⟨HR.o.low,HR.o.bh⟩);go_roundw
      . 
       refine⟨j+1,by go_num,congrArg (Value.int .i64) HQ.o,by omega,HT.o.trans HTN.o,HRN.o.to (fun i hi'=>?_)⟩
       by_cases e:i=j
       . subst e
         rw [if_pos rfl,if_pos (by omega),<- HK.o,HXX.o]
       . rw [if_neg e]
         by_cases e2:i < j
         . rw [if_pos e2,if_pos (by omega)]
         . rw [if_neg e2,if_neg (by omega)]
      . simp [intOf];omega
    . have e:j=Xl.length:=by omega
      subst e;go_wp2;go_ret;refine⟨rfl,HT.o,Or.inr ⟨b,off,cap,c,fun i=>Zrq (k+(Zds Xl i:Int)) (X i),by rw [Zdl],?_,by rw [Zdl];exact HM.o,by rw [Zdl];exact HC.o,fun i h=>?_,?_⟩⟩
      . intro e
        have:=congrArg List.length e;rw [Zdl] at this;exact HNE.o (List.length_eq_zero_iff.1 (by simpa using this))
      . have h':i < Xl.length:=by rw [Zdl] at h;exact h
        rw [ZnU _ _ _ _ h',<- HX.o i h']
      . rw [Zdl]
        exact HR.o.to (fun i hi'=>by rw [if_pos hi'])
variable {Xl:List Tm} {b o c0 c1 lo hi off n lo' hi':Nat} {w w' wr:World} {x y:Tm} {v:Value}
def Znf (_:Tm):Prop:=True
def Zc4 (Xl:List Tm):Prop:=Xl.length<=1048576/\∀ i (h:i < Xl.length),Znf Xl[i]
theorem Zc4.of (h:Xl.length<=1048576):Zc4 Xl:=⟨h,fun _ _=>trivial⟩
def ZfB (b o _c0 _c1:Nat) (w:World) (x:Tm):Prop:=ZeG x/\Zdy w b o x
theorem ZfB.near {o1 d0 d1:Nat} (h:ZfB b o c0 c1 w x) (hn:ZbI b o1 2 d0 d1 w w') (ho:o+2<=o1\/o1+2<=o) (hi:c1<=d0\/d1<=c0) (hb:b < c0\/c1<=b):ZfB b o c0 c1 w' x:=by
 obtain⟨hs,hc⟩:=h;obtain⟨h0,h1⟩:=hc;have e:∀ t,t < 2->w'.cell? ⟨b,o+t,none⟩=w.cell? ⟨b,o+t,none⟩:=fun t ht=>hn.cell _ (by omega)
 have e0:w'.cell? ⟨b,o,none⟩=w.cell? ⟨b,o,none⟩:=hn.cell _ (by omega);exact⟨hs,⟨e0.trans h0,(e 1 (by omega)).trans h1⟩⟩
theorem ZfB.touch (h:ZfB b o c0 c1 w x) (ht:Zag lo hi w w') (hlt:b < w.heap.size) (hb:b < lo\/hi<=b) (_hi:c1<=lo\/hi<=c0):ZfB b o c0 c1 w' x:=by
 obtain⟨hs,hc⟩:=h;obtain⟨h0,h1⟩:=hc;exact⟨hs,⟨(ht.cell (p:=⟨b,o,none⟩) hlt hb).trans h0,(ht.cell (p:=⟨b,o+1,none⟩) hlt hb).trans h1⟩⟩
theorem ZfB.below (h:ZfB b o c0 c1 w x) (ht:Zw_ w w') (hlt:b < w.heap.size):ZfB b o c0 c1 w' x:=by
 obtain⟨hs,hc⟩:=h;obtain⟨h0,h1⟩:=hc;exact⟨hs,⟨(ht.cell (p:=⟨b,o,none⟩) hlt).trans h0,(ht.cell (p:=⟨b,o+1,none⟩) hlt).trans h1⟩⟩
structure Zey (lo hi:Nat) (w:World) (b off n:Nat) (c:Nat->Nat) (X:Nat->Tm):Prop where
 lt:b < w.heap.size
 low:lo<=b
 bc:b < c 0
 bh:b < hi
 mono:∀ i,i < n->c i<=c (i+1)
 top:c n<=hi
 frz:∀ i,w.frozen? ⟨b,i,none⟩=false
 row:∀ i,i < n->ZfB b (off+i*2) (c i) (c (i+1)) w (X i)
theorem Zey.le {c:Nat->Nat}{X:Nat->Tm} (h:Zey lo hi w b off n c X) {i:Nat}:∀ {j:Nat},i<=j->j<=n->c i<=c j:=by
 intro j
 induction j with
 | zero=>intro hij _;have:i=0:=by omega
         subst this;exact Nat.le_refl _
 | succ j ih=>
  intro hij hjn
  by_cases e:i=j+1
  . subst e;exact Nat.le_refl _
  . exact Nat.le_trans (ih (by omega) (by omega)) (h.mono j (by omega))
theorem Zey.near {c:Nat->Nat}{X:Nat->Tm} (h:Zey lo hi w b off n c X) {j:Nat} (hj:j < n) (hn:ZbI b (off+j*2) 2 (c j) (c (j+1)) w w') {x:Tm} (hx:ZfB b (off+j*2) (c j) (c (j+1)) w' x):Zey lo hi w' b off n c (fun i=>if i=j then x else X i):=by
 refine⟨Zk_ h.lt hn.size,h.low,h.bc,h.bh,h.mono,h.top,fun i=>(hn.frz i).trans (h.frz i),fun i hi'=>?_⟩
 by_cases e:i=j
 . subst e;rw [if_pos rfl];exact hx
 . rw [if_neg e]
   have h0:=h.le (Nat.zero_le i) (by omega);have hbc:=h.bc;refine (h.row i hi').near hn (by omega) ?_ (by omega)
   rcases Nat.lt_or_ge i j with hij | hij
   . exact Or.inl (h.le (by omega) (by omega))
   . exact Or.inr (h.le (by omega) (by omega))
theorem Zey.touch {c:Nat->Nat}{X:Nat->Tm} (h:Zey lo hi w b off n c X) (ht:Zag lo' hi' w w') (ho:hi<=lo'\/hi'<=lo):Zey lo hi w' b off n c X:=by
 have h1:=h.low;have h2:=h.bh;have h3:=h.top;have h4:=h.bc;refine⟨Zk_ h.lt ht.size,h.low,h.bc,h.bh,h.mono,h.top,fun i=>(ht.frozen (p:=⟨b,i,none⟩) h.lt (by simp only [];omega)).trans (h.frz i),fun i hi'=>?_⟩;have h5:=h.le (Nat.zero_le i) (by omega);have h6:=h.le (i:=i+1) (j:=n) (by omega) Zl_;exact (h.row i hi').touch ht h.lt (by omega) (by omega)
theorem Zey.below {c:Nat->Nat}{X:Nat->Tm} (h:Zey lo hi w b off n c X) (ht:Zw_ w w'):Zey lo hi w' b off n c X:=
 ⟨Zk_ h.lt ht.size,h.low,h.bc,h.bh,h.mono,h.top,fun i=>(ht.frozen (p:=⟨b,i,none⟩) h.lt).trans (h.frz i),fun i hi'=>(h.row i hi').below ht h.lt⟩
theorem Zey.to {c:Nat->Nat}{X Y:Nat->Tm} (h:Zey lo hi w b off n c X) (e:∀ i,i < n->X i=Y i):Zey lo hi w b off n c Y:=
 ⟨h.lt,h.low,h.bc,h.bh,h.mono,h.top,h.frz,fun i hi'=>e i hi' ▸ h.row i hi'⟩
def Zb6 (lo hi:Nat) (w:World) (v:Value) (Xl:List Tm):Prop:=
 (∃ (a:Option Addr) (cap:Nat),v=.slice a 0 cap/\Xl=[])\/
 ∃ (b off cap:Nat) (c:Nat->Nat) (X:Nat->Tm),v=.slice (some ⟨b,off,none⟩) Xl.length cap/\Xl≠[]/\Xl.length<=maxLen/\Xl.length<=cap/\(∀ i (h:i < Xl.length),X i=Xl[i])/\Zey lo hi w b off Xl.length c X
theorem Zb6.touch (h:Zb6 lo hi w v Xl) (ht:Zag lo' hi' w w') (ho:hi<=lo'\/hi'<=lo):Zb6 lo hi w' v Xl:=by
 rcases h with h | ⟨b,off,cap,c,X,h1,h2,h3,h4,h5,h6⟩
 . exact Or.inl h
 . exact Or.inr ⟨b,off,cap,c,X,h1,h2,h3,h4,h5,h6.touch ht ho⟩
theorem Zb6.below (h:Zb6 lo hi w v Xl) (ht:Zw_ w w'):Zb6 lo hi w' v Xl:=by
 rcases h with h | ⟨b,off,cap,c,X,h1,h2,h3,h4,h5,h6⟩
 . exact Or.inl h
 . exact Or.inr ⟨b,off,cap,c,X,h1,h2,h3,h4,h5,h6.below ht⟩
theorem Zb6.form (h:Zb6 lo hi w v Xl):∃ a cap,v=.slice a Xl.length cap:=by
 rcases h with ⟨a,cap,h,rfl⟩ | ⟨b,off,cap,c,X,h1,_⟩
 . exact⟨a,cap,h⟩
 . exact⟨_,cap,h1⟩
theorem Zb6.at (h:Zb6 lo hi w v Xl):Zbh lo w v Xl:=by
 rcases h with h | ⟨b,off,cap,c,X,h1,h2,h3,h4,h5,h6⟩
 . exact Or.inl h
 . refine Or.inr ⟨b,off,cap,h1,h2,h3,h6.lt,h6.low,h4,fun i hi'=>?_⟩
   have hr:=h6.row i hi';rw [h5 i hi'] at hr;obtain⟨hs,hc⟩:=hr;exact⟨hs,hc⟩
def Zru (k:Int) (_x:Tm):Tm:=⟨mtB (k),mtB (k+1)⟩
def ZrY (_x:Tm):Nat:=2
def ZeC (Xl:List Tm) (i:Nat):Nat:=((Xl.take i).map ZrY).sum
def ZnY (k:Int) (Xl:List Tm):List Tm:=Xl.mapIdx (fun i x=>Zru (k+(ZeC Xl i:Int)) x)
theorem Zdp (k:Int) (Xl:List Tm):(ZnY k Xl).length=Xl.length:=by unfold ZnY;simp
theorem ZnZ (k:Int) (Xl:List Tm) (i:Nat) (h:i < (ZnY k Xl).length) (h':i < Xl.length):(ZnY k Xl)[i]=Zru (k+(ZeC Xl i:Int)) Xl[i]:=List.getElem_mapIdx (f:=fun i x=>Zru (k+(ZeC Xl i:Int)) x) (h:=h)
theorem ZhW {i:Nat} (h:i < Xl.length):ZeC Xl (i+1)=ZeC Xl i+ZrY Xl[i]:=by
 unfold ZeC;rw [List.take_succ_eq_append_getElem h,List.map_append,List.sum_append];simp
theorem Zlh (hn:Zc4 Xl):∀ {i:Nat},i<=Xl.length->ZeC Xl i<=i*3000000:=by
 intro i
 induction i with
 | zero=>intro _;simp [ZeC]
 | succ i ih=>
  intro hi';have h1:=ih (by omega);rw [ZhW (by omega)]
  have h2:ZrY Xl[i]<=3000000:=by
   have hsm:=hn.2 i (by omega);unfold Znf at hsm;unfold ZrY
   omega
  omega
structure Zm7 (wr:World) (b o c0 c1:Nat) (v:World) (y:Tm):Prop where
 near:ZbI b o 2 c0 c1 wr v
 bc:b < c0
 cells:Zdy v b o y
 frz:∀ i,v.frozen? ⟨b,i,none⟩=false
 lt:b < v.heap.size
theorem Zm7.below {v v':World} (h:Zm7 wr b o c0 c1 v y) (hb:Below v.heap.size v v'):Zm7 wr b o c0 c1 v' y:=
 ⟨h.near.trans (ZbI.below hb h.lt),h.bc,h.cells.below hb h.lt,fun i=>(hb.frozen (p:=⟨b,i,none⟩) h.lt).trans (h.frz i),Zk_ h.lt hb.size⟩
theorem Zm7.s0 {v:World} (h:Zm7 wr b o c0 c1 v y) (u:Zy_):Zm7 wr b o c0 c1 (v.setCell ⟨b,o,none⟩ (.string u)) { y with nm:=u }:=by
 obtain⟨h0,h1⟩:=h.cells;have ht:Zag b (b+1) v (v.setCell ⟨b,o,none⟩ (.string u)):=Zag.setCell _ _ _ _ _ ⟨Nat.le_refl _,by simp only [];omega⟩;have hbc:=h.bc;exact⟨h.near.trans (ZbI.set _ _ _ _ _ _ _ _ (by omega) (by omega)),h.bc,⟨World.cell?_setCell_same' _ _ _ (by rw [h0];rfl),(cne (by omega)).trans h1⟩,fun i=>by rw [World.frozen?_setCell];exact h.frz i,by simpa [World.setCell] using h.lt⟩
theorem Zm7.s1 {v:World} (h:Zm7 wr b o c0 c1 v y) (u:Zy_):Zm7 wr b o c0 c1 (v.setCell ⟨b,o+1,none⟩ (.string u)) { y with ov:=u }:=by
 obtain⟨h0,h1⟩:=h.cells;have ht:Zag b (b+1) v (v.setCell ⟨b,o+1,none⟩ (.string u)):=Zag.setCell _ _ _ _ _ ⟨Nat.le_refl _,by simp only [];omega⟩;have hbc:=h.bc;exact⟨h.near.trans (ZbI.set _ _ _ _ _ _ _ _ (by omega) (by omega)),h.bc,⟨(cne (by omega)).trans h0,World.cell?_setCell_same' _ _ _ (by rw [h1];rfl)⟩,fun i=>by rw [World.frozen?_setCell];exact h.frz i,by simpa [World.setCell] using h.lt⟩
end Go.Proofs.YtmappejlmapboaaGreat
