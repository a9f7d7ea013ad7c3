import Derived.Test.YtmappejlmapboaaGreatG20
import Derived.Test.YtmappejlmapboaaGreatG21
set_option maxHeartbeats 16000000
set_option maxRecDepth 100000
open Go.Proofs.Tryz
namespace Go.Proofs.YtmappejlmapboaaGreat
section
open Go.RowKit Go.Deep
def ZoL (a b:Int):Int:=if a < b then -1 else if b < a then 1 else 0
theorem ZqP {a b:Int}:ZoL a b < 0↔a < b:=by unfold ZoL;split <;> (try split) <;> omega
theorem Zjp (a:Int) (w:World):Calls prog 274 #[.int .i64 a] w fun e w'=>e=.returned (.bool false)/\w'=w:=by
 go_enter func274,ntmps274;go_wp2;go_ret;exact⟨rfl,rfl⟩
theorem ZmR (a b:Int) (w:World) :
 Calls prog 244 #[.int .i64 a,.int .i64 b] w fun e w'=>e=.returned (.int .i64 (ZoL a b))/\w'=w:=by
 by_cases h1:a < b
 . have HE:Hd (ZoL a b= -1):=if_pos h1
   go_enter func244,ntmps244;go_wp2_with (go_at_call 274;refine (Zjp _ _).mono ?_;rintro e w' ⟨rfl,rfl⟩);go_ret;exact⟨ZaD HE.o.symm,rfl⟩
 . by_cases h2:b < a
   . have HE:Hd (ZoL a b=1):=by unfold Hd ZoL;rw [if_neg h1,if_pos h2]
     go_enter func244,ntmps244;go_wp2_with (go_at_call 274;refine (Zjp _ _).mono ?_;rintro e w' ⟨rfl,rfl⟩);go_ret;exact⟨ZaD HE.o.symm,rfl⟩
   . have HE:Hd (ZoL a b=0):=by unfold Hd ZoL;rw [if_neg h1,if_neg h2]
     go_enter func244,ntmps244;go_wp2_with (go_at_call 274;refine (Zjp _ _).mono ?_;rintro e w' ⟨rfl,rfl⟩);go_ret;exact⟨ZaD HE.o.symm,rfl⟩
theorem ZmQ (x y:Gr) (va:Option Addr) (vn vc:Nat) (va':Option Addr) (vn' vc':Nat) (w:World) :
 Calls prog 215 #[.agg #[.int .i64 x.nu,.string x.tw,.string x.gb,.slice va vn vc,.string x.kd,.string x.tm,.string x.pf],.agg #[.int .i64 y.nu,.string y.tw,.string y.gb,.slice va' vn' vc',.string y.kd,.string y.tm,.string y.pf]] w fun e w'=>e=.returned (.int .i64 (ZoL x.nu y.nu))/\Zw_ w w':=by
 go_enter func215,ntmps215;go_wp2_with (go_at_call 244;refine (ZmR _ _ _).mono ?_;rintro e w' ⟨rfl,rfl⟩);go_ret;exact⟨rfl,(Zb_.alloc Zl_ _).alloc (by simp) _⟩
theorem ZaQ (n lo hi:Int) (w:World) :
 Calls prog 209 #[.int .i64 n,.int .i64 lo,.int .i64 hi] w fun e w'=>e=.returned (.bool (inB lo hi n))/\w'=w:=by
 rw [ZgC]
 by_cases h:lo<=n
 . by_cases h2:n<=hi
   . go_enter func209,ntmps209
     go_wp2;go_ret;exact⟨by rw [decide_eq_true h,decide_eq_true h2];rfl,rfl⟩
   . go_enter func209,ntmps209
     go_wp2;go_ret;exact⟨by simp [h2],rfl⟩
 . go_enter func209,ntmps209
   go_wp2;go_ret;exact⟨by rw [decide_eq_false (show ¬ lo<=n by omega)];rfl,rfl⟩
def ZcI {X:Type} (c:X->X->Int) (L:List X):Nat->Bool
 | 0=>true
 | j+1=>match L[j]?,L[j+1]? with
  | some x,some y=>decide (c x y < 0)
  | _,_=>true
def ZdC {X:Type} (c:X->X->Int) (L:List X):Bool:=(List.range L.length).all (ZcI c L)
theorem Zd7 {X:Type}{c:X->X->Int}{L:List X}{j:Nat} (h:j+1 < L.length):ZcI c L (j+1)=decide (c L[j] L[j+1] < 0):=by
 show (match L[j]?,L[j+1]? with | some x,some y=>decide (c x y < 0) | _,_=>true)=_
 rw [List.getElem?_eq_getElem (by omega),List.getElem?_eq_getElem h]
def Zf9 (x y:Ob):Int:=Zfd x.kd x.nm y.kd y.nm
def ZgU (x y:Gr):Int:=ZoL x.nu y.nu
def Zdj (x y:Le):Int:=Zfd x.tm x.re y.tm y.re
def Zg9 (x y:Pu):Int:=ZmP x.dr x.tm x.re y.dr y.tm y.re
theorem ZmN (lo:Nat) (v:Value) (Xl:List Ob) (w:World) (hv:Za2 lo w v Xl) :
 Calls prog 210 #[v,.func (.func 211) #[] #[]] w fun e w'=>e=.returned (.bool (ZdC Zf9 Xl))/\Zw_ w w':=by
 have HV:=Zab hv;have hm:=hv.max;unfold maxLen at hm;obtain⟨a,cap,rfl⟩:=hv.form;clear hv;go_enter func210,ntmps210;go_wp2
 go_loopw [5] (fun i wr=>∃ m:Nat,i=.int .i64 m/\1<=m/\(m<=Xl.length\/m=1)/\Zw_ w wr/\∀ j,j < m->ZcI Zf9 Xl j=true) (fun i _=>Xl.length+1 - (intOf i).toNat)
 case atStart=>exact⟨1,rfl,Nat.le_refl _,Or.inr rfl,Below.refl _ _,fun j hj=>by rw [show j=0 by omega];rfl⟩
 case round=>
  obtain⟨m,rfl,hm1,hk,hb,hall⟩:=hrel;have HB:=Zab hb;have HA:=Zab hall;clear hb hall
  by_cases hlt:m < Xl.length
  . obtain⟨k,hkm⟩:∃ k,m=k+1:=⟨m - 1,by omega⟩
    have hlt0:k < Xl.length:=by omega
    obtain⟨b,off,rfl,hbw,-,hc⟩:=HV.o.full' (by omega);obtain⟨hs,vv0,vv1,hcell,hv0,hv1⟩:=hc k hlt0;obtain⟨ht,vv0',vv1',hdell,hw0,hw1⟩:=hc m hlt;obtain⟨va0,vc0,rfl⟩:=hv0.at.form';obtain⟨va1,vc1,rfl⟩:=hv1.at.form';obtain⟨vb0,vd0,rfl⟩:=hw0.at.form';obtain⟨vb1,vd1,rfl⟩:=hw1.at.form';obtain⟨c0,c1,c2,c3,c4,c5,c6⟩:=hcell.below HB.o hbw;obtain⟨d0,d1,d2,d3,d4,d5,d6⟩:=hdell.below HB.o hbw
    have HS:Hd (ZcI Zf9 Xl m=decide (Zf9 Xl[k] Xl[m] < 0)):=by
     subst hkm;exact Zd7 hlt
    have e2:IntKind.i64.wrap ((m:Int) - 1)=k:=by rw [IntWalk.i64_left];unfold wrap64;omega
    have HKM:=Zab hkm;clear hc hcell hdell hs ht hkm hk hv0 hw0 hv1 hw1;go_wp2
    go_region_with (go_at_call 211;refine (Zk6 Xl[k] Xl[m] _ _ _ _ _ _ _ _ _ _ _ _ _).mono ?_;rintro e w1 ⟨rfl,hb1⟩;have hB:Hd (Zw_ w w1):=(HB.o.drew).trans (hb1.mono HB.o.size);clear hb1)
    all_goals by_cases hq:0<=Zfd Xl[k].kd Xl[k].nm Xl[m].kd Xl[m].nm
    all_goals first
     | (have HN:Hd (ZdC Zf9 Xl=false):=ZaZ hlt (HS.o.trans (decide_eq_false (by unfold Zf9;omega)))
        go_wp2;go_ret;exact⟨Zaa HN.o.symm,hB.o⟩)
     | (have HT:Hd (ZcI Zf9 Xl m=true):=HS.o.trans (decide_eq_true (by unfold Zf9;omega))
        go_wp2;go_roundw
        case rel=>exact⟨m+1,by go_num,by omega,by omega,hB.o,fun j hj=>by
                   by_cases e:j=m
                   . rw [e];exact HT.o
                   . exact HA.o j (by omega)⟩
        . simp [intOf];omega)
  . have HT:Hd (ZdC Zf9 Xl=true):=Za1 (fun i hi=>HA.o i (by omega))
    go_wp2;go_ret;exact⟨Zaa HT.o.symm,HB.o⟩
theorem ZmL (lo:Nat) (v:Value) (Xl:List Gr) (w:World) (hv:ZbV lo w v Xl) :
 Calls prog 214 #[v,.func (.func 215) #[] #[]] w fun e w'=>e=.returned (.bool (ZdC ZgU Xl))/\Zw_ w w':=by
 have HV:=Zab hv;have hm:=hv.max;unfold maxLen at hm;obtain⟨a,cap,rfl⟩:=hv.form;clear hv;go_enter func214,ntmps214;go_wp2
 go_loopw [5] (fun i wr=>∃ m:Nat,i=.int .i64 m/\1<=m/\(m<=Xl.length\/m=1)/\Zw_ w wr/\∀ j,j < m->ZcI ZgU Xl j=true) (fun i _=>Xl.length+1 - (intOf i).toNat)
 case atStart=>exact⟨1,rfl,Nat.le_refl _,Or.inr rfl,Below.refl _ _,fun j hj=>by rw [show j=0 by omega];rfl⟩
 case round=>
  obtain⟨m,rfl,hm1,hk,hb,hall⟩:=hrel;have HB:=Zab hb;have HA:=Zab hall;clear hb hall
  by_cases hlt:m < Xl.length
  . obtain⟨k,hkm⟩:∃ k,m=k+1:=⟨m - 1,by omega⟩
    have hlt0:k < Xl.length:=by omega
    obtain⟨b,off,rfl,hbw,-,hc⟩:=HV.o.full' (by omega);obtain⟨hs,vv0,hcell,hv0⟩:=hc k hlt0;obtain⟨ht,vv0',hdell,hw0⟩:=hc m hlt;obtain⟨va0,vc0,rfl⟩:=hv0.form;obtain⟨vb0,vd0,rfl⟩:=hw0.form;obtain⟨c0,c1,c2,c3,c4,c5,c6⟩:=hcell.below HB.o hbw;obtain⟨d0,d1,d2,d3,d4,d5,d6⟩:=hdell.below HB.o hbw
    have HS:Hd (ZcI ZgU Xl m=decide (ZgU Xl[k] Xl[m] < 0)):=by
     subst hkm;exact Zd7 hlt
    have e2:IntKind.i64.wrap ((m:Int) - 1)=k:=by rw [IntWalk.i64_left];unfold wrap64;omega
    have HKM:=Zab hkm;clear hc hcell hdell hs ht hkm hk hv0 hw0;go_wp2
    go_region_with (go_at_call 215;refine (ZmQ Xl[k] Xl[m] _ _ _ _ _ _ _).mono ?_;rintro e w1 ⟨rfl,hb1⟩;have hB:Hd (Zw_ w w1):=(HB.o.drew).trans (hb1.mono HB.o.size);clear hb1)
    all_goals by_cases hq:0<=ZoL Xl[k].nu Xl[m].nu
    all_goals first
     | (have HN:Hd (ZdC ZgU Xl=false):=ZaZ hlt (HS.o.trans (decide_eq_false (by unfold ZgU;omega)))
        go_wp2;go_ret;exact⟨Zaa HN.o.symm,hB.o⟩)
     | (have HT:Hd (ZcI ZgU Xl m=true):=HS.o.trans (decide_eq_true (by unfold ZgU;omega))
        go_wp2;go_roundw
        case rel=>exact⟨m+1,by go_num,by omega,by omega,hB.o,fun j hj=>by
                   by_cases e:j=m
                   . rw [e];exact HT.o
                   . exact HA.o j (by omega)⟩
        . simp [intOf];omega)
  . have HT:Hd (ZdC ZgU Xl=true):=Za1 (fun i hi=>HA.o i (by omega))
    go_wp2;go_ret;exact⟨Zaa HT.o.symm,HB.o⟩
theorem ZmM (lo:Nat) (v:Value) (Xl:List Le) (w:World) (hv:ZbH lo w v Xl) :
 Calls prog 218 #[v,.func (.func 219) #[] #[]] w fun e w'=>e=.returned (.bool (ZdC Zdj Xl))/\Zw_ w w':=by
 have HV:=Zab hv;have hm:=hv.max;unfold maxLen at hm;obtain⟨a,cap,rfl⟩:=hv.form;clear hv;go_enter func218,ntmps218;go_wp2
 go_loopw [5] (fun i wr=>∃ m:Nat,i=.int .i64 m/\1<=m/\(m<=Xl.length\/m=1)/\Zw_ w wr/\∀ j,j < m->ZcI Zdj Xl j=true) (fun i _=>Xl.length+1 - (intOf i).toNat)
 case atStart=>exact⟨1,rfl,Nat.le_refl _,Or.inr rfl,Below.refl _ _,fun j hj=>by rw [show j=0 by omega];rfl⟩
 case round=>
  obtain⟨m,rfl,hm1,hk,hb,hall⟩:=hrel;have HB:=Zab hb;have HA:=Zab hall;clear hb hall
  by_cases hlt:m < Xl.length
  . obtain⟨k,hkm⟩:∃ k,m=k+1:=⟨m - 1,by omega⟩
    have hlt0:k < Xl.length:=by omega
    obtain⟨b,off,rfl,hbw,-,hc⟩:=HV.o.full' (by omega);obtain⟨hs,hcell⟩:=hc k hlt0;obtain⟨ht,hdell⟩:=hc m hlt;obtain⟨c0,c1,c2,c3⟩:=hcell.below HB.o hbw;obtain⟨d0,d1,d2,d3⟩:=hdell.below HB.o hbw
    have HS:Hd (ZcI Zdj Xl m=decide (Zdj Xl[k] Xl[m] < 0)):=by
     subst hkm;exact Zd7 hlt
    have e2:IntKind.i64.wrap ((m:Int) - 1)=k:=by rw [IntWalk.i64_left];unfold wrap64;omega
    have HKM:=Zab hkm;clear hc hcell hdell hs ht hkm hk;go_wp2
    go_region_with (go_at_call 219;refine (Zga Xl[k] Xl[m] _).mono ?_;rintro e w1 ⟨rfl,hb1⟩;have hB:Hd (Zw_ w w1):=(HB.o.drew).trans (hb1.mono HB.o.size);clear hb1)
    all_goals by_cases hq:0<=Zfd Xl[k].tm Xl[k].re Xl[m].tm Xl[m].re
    all_goals first
     | (have HN:Hd (ZdC Zdj Xl=false):=ZaZ hlt (HS.o.trans (decide_eq_false (by unfold Zdj;omega)))
        go_wp2;go_ret;exact⟨Zaa HN.o.symm,hB.o⟩)
     | (have HT:Hd (ZcI Zdj Xl m=true):=HS.o.trans (decide_eq_true (by unfold Zdj;omega))
        go_wp2;go_roundw
        case rel=>exact⟨m+1,by go_num,by omega,by omega,hB.o,fun j hj=>by
                   by_cases e:j=m
                   . rw [e];exact HT.o
                   . exact HA.o j (by omega)⟩
        . simp [intOf];omega)
  . have HT:Hd (ZdC Zdj Xl=true):=Za1 (fun i hi=>HA.o i (by omega))
    go_wp2;go_ret;exact⟨Zaa HT.o.symm,HB.o⟩
theorem ZmO (lo:Nat) (v:Value) (Xl:List Pu) (w:World) (hv:Zb7 lo w v Xl) :
 Calls prog 220 #[v,.func (.func 221) #[] #[]] w fun e w'=>e=.returned (.bool (ZdC Zg9 Xl))/\Zw_ w w':=by
 have HV:=Zab hv;have hm:=hv.max;unfold maxLen at hm;obtain⟨a,cap,rfl⟩:=hv.form;clear hv;go_enter func220,ntmps220;go_wp2
 go_loopw [5] (fun i wr=>∃ m:Nat,i=.int .i64 m/\1<=m/\(m<=Xl.length\/m=1)/\Zw_ w wr/\∀ j,j < m->ZcI Zg9 Xl j=true) (fun i _=>Xl.length+1 - (intOf i).toNat)
 case atStart=>exact⟨1,rfl,Nat.le_refl _,Or.inr rfl,Below.refl _ _,fun j hj=>by rw [show j=0 by omega];rfl⟩
 case round=>
  obtain⟨m,rfl,hm1,hk,hb,hall⟩:=hrel;have HB:=Zab hb;have HA:=Zab hall;clear hb hall
  by_cases hlt:m < Xl.length
  . obtain⟨k,hkm⟩:∃ k,m=k+1:=⟨m - 1,by omega⟩
    have hlt0:k < Xl.length:=by omega
    obtain⟨b,off,rfl,hbw,-,hc⟩:=HV.o.full' (by omega);obtain⟨hs,hcell⟩:=hc k hlt0;obtain⟨ht,hdell⟩:=hc m hlt;obtain⟨c0,c1,c2,c3,c4⟩:=hcell.below HB.o hbw;obtain⟨d0,d1,d2,d3,d4⟩:=hdell.below HB.o hbw
    have HS:Hd (ZcI Zg9 Xl m=decide (Zg9 Xl[k] Xl[m] < 0)):=by
     subst hkm;exact Zd7 hlt
    have e2:IntKind.i64.wrap ((m:Int) - 1)=k:=by rw [IntWalk.i64_left];unfold wrap64;omega
    have HKM:=Zab hkm;clear hc hcell hdell hs ht hkm hk;go_wp2
    go_region_with (go_at_call 221;refine (ZmS Xl[k] Xl[m] _).mono ?_;rintro e w1 ⟨rfl,hb1⟩;have hB:Hd (Zw_ w w1):=(HB.o.drew).trans (hb1.mono HB.o.size);clear hb1)
    all_goals by_cases hq:0<=ZmP Xl[k].dr Xl[k].tm Xl[k].re Xl[m].dr Xl[m].tm Xl[m].re
    all_goals first
     | (have HN:Hd (ZdC Zg9 Xl=false):=ZaZ hlt (HS.o.trans (decide_eq_false (by unfold Zg9;omega)))
        go_wp2;go_ret;exact⟨Zaa HN.o.symm,hB.o⟩)
     | (have HT:Hd (ZcI Zg9 Xl m=true):=HS.o.trans (decide_eq_true (by unfold Zg9;omega))
        go_wp2;go_roundw
        case rel=>exact⟨m+1,by go_num,by omega,by omega,hB.o,fun j hj=>by
                   by_cases e:j=m
                   . rw [e];exact HT.o
                   . exact HA.o j (by omega)⟩
        . simp [intOf];omega)
  . have HT:Hd (ZdC Zg9 Xl=true):=Za1 (fun i hi=>HA.o i (by omega))
    go_wp2;go_ret;exact⟨Zaa HT.o.symm,HB.o⟩
end
section
open Go.RowKit Go.Deep Go.Maps
theorem Zf0 (a b:Int):wrap64 (wrap64 a+b)=wrap64 (a+b):=by unfold wrap64;omega
theorem ZhQ (a b:Int):wrap64 (wrap64 a+wrap64 b)=wrap64 (a+b):=by unfold wrap64;omega
abbrev Tri:=Zy_×Zy_×Int
variable {T:List Tri}
def ZrS (T:List Tri):Prop:=∀ p ∈ T,p.1.size<=maxLen/\p.2.1.size<=maxLen
def Zlo (T:List Tri) (a b:Zy_):Int:=(T.map fun p=>if (p.1=a/\p.2.1=b) then p.2.2 else 0).sum
theorem Zht (A B:List Tri) (a b:Zy_):Zlo (A ++ B) a b=Zlo A a b+Zlo B a b:=by simp [Zlo]
theorem Zmh (p:Tri) (a b:Zy_):Zlo [p] a b=if (p.1=a/\p.2.1=b) then p.2.2 else 0:=by simp [Zlo]
structure ZfF {H:Type} (T:List Tri) (D:DataW H):Prop where
 isMap:IsMap D
 sums:∀ a b:Zy_,a.size<=maxLen->b.size<=maxLen->D.atKey (ZbG a b) (.lit (.int .i64 0))=.lit (.int .i64 (wrap64 (Zlo T a b)))
 has:∀ p ∈ T,Maps.has D (ZbG p.1 p.2.1)=true
theorem ZeG (a b:Zy_):WideAt.IsKeyLit (ZbG a b):=trivial
theorem ZfF.start {H:Type}:ZfF [] (.map []:DataW H):=⟨⟨[],rfl⟩,fun a b _ _=>by simp [Zlo,wrap64];rfl,fun p hp=>by cases hp⟩
theorem ZrG {a b a' b':Zy_} (ha:a.size<=maxLen) (hb:b.size<=maxLen) (ha':a'.size<=maxLen) (hb':b'.size<=maxLen) (h:¬ (a=a'/\b=b')):ZbG a b≠ZbG a' b':=fun e=>h (Zeu.inj Zgt ha hb ha' hb' e)
theorem ZfF.step {H:Type}{D:DataW H} (h:ZfF T D) {t r:Zy_} (ht:t.size<=maxLen) (hr:r.size<=maxLen) {c:Int} (hat:D.atKey (ZbG t r) (.lit (.int .i64 0))=.lit (.int .i64 c)) (n:Int) :
 ZfF (T ++ [(t,r,n)]) (D.put (ZbG t r) (.lit (.int .i64 (wrap64 (c+n))))):=by
 have hc:=hat.symm.trans (h.sums t r ht hr);injection hc with hc
 injection hc with _ hc
 refine⟨h.isMap.put _ _,fun a b ha hb=>?_,fun p hp=>?_⟩
 . by_cases e:t=a/\r=b
   . obtain⟨rfl,rfl⟩:=e
     rw [atKey_put_same h.isMap (ZeG _ _),Zht,Zmh,if_pos ⟨rfl,rfl⟩,hc,Zf0]
   . rw [atKey_put_other (ZrG ha hb ht hr (fun e'=>e ⟨e'.1.symm,e'.2.symm⟩)),h.sums a b ha hb,Zht,Zmh,if_neg e,Int.add_zero]
 . by_cases e:ZbG p.1 p.2.1=ZbG t r
   . rw [e]
     exact has_put_same h.isMap (ZeG _ _) _
   . rw [has_put_other e]
     rcases List.mem_append.1 hp with hp | hp
     . exact h.has p hp
     . simp at hp
       subst hp;exact absurd rfl e
def ZhM (Ts:List Tm) (team r:Zy_) (p:Tri):Int:=if (p.2.1.toList == r.toList&&Zbb Ts p.1 team)=true then p.2.2 else 0
def Zk4 (Ts:List Tm) (team r:Zy_) (T:List Tri) (left:Lit->Bool):Int:=(T.map fun p=>if left (ZbG p.1 p.2.1)=true then 0 else ZhM Ts team r p).sum
theorem Zoi {H:Type}{D:DataW H} (h:ZfF T D) (Ts:List Tm) (team r:Zy_):Zk4 Ts team r T (Maps.has D)=0:=by
 have:∀ L:List Tri,(∀ p ∈ L,Maps.has D (ZbG p.1 p.2.1)=true)->Zk4 Ts team r L (Maps.has D)=0:=by
  intro L
  induction L with
  | nil=>intro _;rfl
  | cons p L ih=>
   intro hL;have h1:=hL p (List.mem_cons_self ..);have h2:=ih (fun q hq=>hL q (List.mem_cons_of_mem _ hq));unfold Zk4 at h2 |-;rw [List.map_cons,List.sum_cons,h2,if_pos h1]
   rfl
 exact this T h.has
theorem ZrE {left:Lit->Bool} (h:∀ kl,left kl=false) (Ts:List Tm) (team r:Zy_) (T:List Tri):Zk4 Ts team r T left=(T.map (ZhM Ts team r)).sum:=by
 unfold Zk4;simp [h]
theorem ZkW (Ts:List Tm) (team r:Zy_) {left:Lit->Bool} {a b:Zy_} (ha:a.size<=maxLen) (hb:b.size<=maxLen) (hl:left (ZbG a b)=true):∀ (T:List Tri),ZrS T->
 Zk4 Ts team r T (fun z=>left z&&!z.sameKey (ZbG a b))=Zk4 Ts team r T left+(if (b.toList == r.toList&&Zbb Ts a team)=true then Zlo T a b else 0)
 | [],_=>by simp [Zk4,Zlo]
 | p :: T,hT=>by
  have ih:=ZkW Ts team r ha hb hl T (fun q hq=>hT q (List.mem_cons_of_mem _ hq));obtain⟨s1,s2⟩:=hT p (List.mem_cons_self ..);unfold Zk4 Zlo at ih |-;simp only [List.map_cons,List.sum_cons];rw [ih]
  by_cases e:p.1=a/\p.2.1=b
  . obtain⟨e1,e2⟩:=e
    have hs:(ZbG a b).sameKey (ZbG a b)=true:=by unfold ZbG;simp [Lit.sameKey]
    unfold ZhM;simp only [hs,hl,Bool.not_true,Bool.and_false,Bool.false_eq_true,if_false,if_true,e1,e2,eq_self,and_self]
    cases hc:(b.toList == r.toList&&Zbb Ts a team)
    . simp only [Bool.false_eq_true,if_false];omega
    . simp only [if_true];omega
  . have hs:(ZbG p.1 p.2.1).sameKey (ZbG a b)=false:=sameKey_ne (ZrG s1 s2 ha hb e)
    simp only [hs,Bool.not_false,Bool.and_true,if_neg e]
    cases hc:(b.toList == r.toList&&Zbb Ts a team)
    . simp only [Bool.false_eq_true,if_false];omega
    . simp only [if_true];omega
def Zcw (Ss:List Sh) (Os:List Ob):List Tri:=Os.flatMap fun o=>(ZeM Ss o.kd o.vs).map fun p=>(o.tm,p.1,p.2)
theorem Zoo (Ss:List Sh) (A:List Ob) (o:Ob):Zcw Ss (A ++ [o])=Zcw Ss A ++ (ZeM Ss o.kd o.vs).map fun p=>(o.tm,p.1,p.2):=by simp [Zcw]
def Zdk (Ss:List Sh) (Ts:List Tm) (Os:List Ob) (team r:Zy_):Int:=(Os.map fun o=>if Zbb Ts o.tm team=true then ZdT Ss o.kd o.vs r else 0).sum
theorem Zoc (Ts:List Tm) (team r t:Zy_) (L:List (Zy_×Int)):((L.map fun p=>((t,p.1,p.2):Tri)).map (ZhM Ts team r)).sum=if Zbb Ts t team=true then ZnH r L else 0:=by
 induction L with
 | nil=>simp [ZnH]
 | cons p L ih=>
  rw [List.map_cons,List.map_cons,List.sum_cons,ih];unfold ZnH ZhM;rw [List.map_cons,List.sum_cons]
  cases h1:Zbb Ts t team <;> cases h2:(p.1.toList == r.toList) <;> simp
theorem Zoh (Ss:List Sh) (Ts:List Tm) (team r:Zy_) (Os:List Ob):((Zcw Ss Os).map (ZhM Ts team r)).sum=Zdk Ss Ts Os team r:=by
 induction Os with
 | nil=>rfl
 | cons o Os ih=>
  have e:Zcw Ss (o :: Os)=((ZeM Ss o.kd o.vs).map fun p=>(o.tm,p.1,p.2)) ++ Zcw Ss Os:=by simp [Zcw]
  rw [e,List.map_append,List.sum_append,ih,Zoc,ZnK]
  rfl
theorem Zog (Ss:List Sh) (Ts:List Tm) (A:List Ob) (o:Ob) (team r:Zy_):Zdk Ss Ts (A ++ [o]) team r=Zdk Ss Ts A team r+(if Zbb Ts o.tm team=true then ZdT Ss o.kd o.vs r else 0):=by simp [Zdk]
theorem ZqB (Ss:List Sh) (kind:Zy_) (V:List Zy_):(ZeM Ss kind V).length<=V.length+1:=by
 unfold ZeM
 split
 . split
   . rename_i x _ _
     have:=Zgq x.fields V V.length;have h1:(Zdy kind).length<=1:=by unfold Zdy;split <;> simp
     rw [List.length_append];omega
   . simp
 . simp
theorem Zk2 (Ss:List Sh):∀ Os:List Ob,(∀ o ∈ Os,o.vs.length<=1048576)->(Zcw Ss Os).length<=Os.length*1048577
 | [],_=>by simp [Zcw]
 | o :: Os,h=>by
  have ih:=Zk2 Ss Os (fun q hq=>h q (List.mem_cons_of_mem _ hq));have h1:=h o (List.mem_cons_self ..);have h2:=ZqB Ss o.kd o.vs;have e:Zcw Ss (o :: Os)=((ZeM Ss o.kd o.vs).map fun p=>(o.tm,p.1,p.2)) ++ Zcw Ss Os:=by simp [Zcw]
  rw [e,List.length_append,List.length_map,List.length_cons]
  omega
end
section
open Go.RowKit Go.Deep
variable {b o c0 c1 lo hi off n lo' hi' m1:Nat} {w w' v wr v':World} {x y:Ob} {Xl:List Ob} {vv0 vv1:Value}
def Zf5 (b o c0 c1:Nat) (w:World) (x:Ob):Prop:=Zc5 x/\∃ (vv0 vv1:Value) (m1:Nat),c0<=m1/\m1<=c1/\Zcf w b o x vv0 vv1/\Zad c0 m1 w vv0 x.vs/\Zad m1 c1 w vv1 x.hs
theorem Zf5.near {o1 d0 d1:Nat} (h:Zf5 b o c0 c1 w x) (hn:ZbT b o1 7 d0 d1 w w') (ho:o+7<=o1\/o1+7<=o) (hi:c1<=d0\/d1<=c0) (hb:b < c0\/c1<=b):Zf5 b o c0 c1 w' x:=by
 obtain⟨hs,vv0,vv1,m1,q0,q1,hc,l0,l1⟩:=h;obtain⟨h0,h1,h2,h3,h4,h5,h6⟩:=hc;have e:∀ t,t < 7->w'.cell? ⟨b,o+t,none⟩=w.cell? ⟨b,o+t,none⟩:=fun t ht=>hn.cell _ (by omega)
 have e0:w'.cell? ⟨b,o,none⟩=w.cell? ⟨b,o,none⟩:=hn.cell _ (by omega);exact⟨hs,vv0,vv1,m1,q0,q1,⟨e0.trans h0,(e 1 (by omega)).trans h1,(e 2 (by omega)).trans h2,(e 3 (by omega)).trans h3,(e 4 (by omega)).trans h4,(e 5 (by omega)).trans h5,(e 6 (by omega)).trans h6⟩,l0.near hn (by omega) (by omega),l1.near hn (by omega) (by omega)⟩
theorem Zf5.touch (h:Zf5 b o c0 c1 w x) (ht:Zag lo hi w w') (hlt:b < w.heap.size) (hb:b < lo\/hi<=b) (hi':c1<=lo\/hi<=c0):Zf5 b o c0 c1 w' x:=by
 obtain⟨hs,vv0,vv1,m1,q0,q1,hc,l0,l1⟩:=h;obtain⟨h0,h1,h2,h3,h4,h5,h6⟩:=hc;exact⟨hs,vv0,vv1,m1,q0,q1,⟨(ht.cell (p:=⟨b,o,none⟩) hlt hb).trans h0,(ht.cell (p:=⟨b,o+1,none⟩) hlt hb).trans h1,(ht.cell (p:=⟨b,o+2,none⟩) hlt hb).trans h2,(ht.cell (p:=⟨b,o+3,none⟩) hlt hb).trans h3,(ht.cell (p:=⟨b,o+4,none⟩) hlt hb).trans h4,(ht.cell (p:=⟨b,o+5,none⟩) hlt hb).trans h5,(ht.cell (p:=⟨b,o+6,none⟩) hlt hb).trans h6⟩,l0.touch ht (by omega),l1.touch ht (by omega)⟩
theorem Zf5.below (h:Zf5 b o c0 c1 w x) (ht:Zw_ w w') (hlt:b < w.heap.size):Zf5 b o c0 c1 w' x:=by
 obtain⟨hs,vv0,vv1,m1,q0,q1,hc,l0,l1⟩:=h;obtain⟨h0,h1,h2,h3,h4,h5,h6⟩:=hc;exact⟨hs,vv0,vv1,m1,q0,q1,⟨(ht.cell (p:=⟨b,o,none⟩) hlt).trans h0,(ht.cell (p:=⟨b,o+1,none⟩) hlt).trans h1,(ht.cell (p:=⟨b,o+2,none⟩) hlt).trans h2,(ht.cell (p:=⟨b,o+3,none⟩) hlt).trans h3,(ht.cell (p:=⟨b,o+4,none⟩) hlt).trans h4,(ht.cell (p:=⟨b,o+5,none⟩) hlt).trans h5,(ht.cell (p:=⟨b,o+6,none⟩) hlt).trans h6⟩,l0.below ht,l1.below ht⟩
structure ZfC (lo hi:Nat) (w:World) (b off n:Nat) (c:Nat->Nat×Nat) (X:Nat->Ob):Prop where
 lt:b < w.heap.size
 low:lo<=b
 bh:b < hi
 seg:∀ i,i < n->lo<=(c i).1/\(c i).2<=hi/\(b < (c i).1\/(c i).2<=b)
 mono:∀ i j,i < j->j < n->(c i).2<=(c j).1
 frz:∀ i,w.frozen? ⟨b,i,none⟩=false
 row:∀ i,i < n->Zf5 b (off+i*7) (c i).1 (c i).2 w (X i)
theorem ZfC.near {c:Nat->Nat×Nat}{X:Nat->Ob} (h:ZfC lo hi w b off n c X) {j:Nat} (hj:j < n) (hn:ZbT b (off+j*7) 7 (c j).1 (c j).2 w w') {x:Ob} (hx:Zf5 b (off+j*7) (c j).1 (c j).2 w' x):ZfC lo hi w' b off n c (fun i=>if i=j then x else X i):=by
 refine⟨Zk_ h.lt hn.size,h.low,h.bh,h.seg,h.mono,fun i=>(hn.frz i).trans (h.frz i),fun i hi'=>?_⟩
 by_cases e:i=j
 . subst e;rw [if_pos rfl];exact hx
 . rw [if_neg e]
   refine (h.row i hi').near hn (by omega) ?_ (h.seg i hi').2.2
   rcases Nat.lt_or_ge i j with hij | hij
   . exact Or.inl (h.mono i j hij hj)
   . exact Or.inr (h.mono j i (by omega) hi')
theorem ZfC.touch {c:Nat->Nat×Nat}{X:Nat->Ob} (h:ZfC lo hi w b off n c X) (ht:Zag lo' hi' w w') (ho:hi<=lo'\/hi'<=lo):ZfC lo hi w' b off n c X:=by
 have h1:=h.low;have h2:=h.bh;refine⟨Zk_ h.lt ht.size,h.low,h.bh,h.seg,h.mono,fun i=>(ht.frozen (p:=⟨b,i,none⟩) h.lt (by simp only [];omega)).trans (h.frz i),fun i hi'=>?_⟩;have h5:=h.seg i hi';exact (h.row i hi').touch ht h.lt (by omega) (by omega)
theorem ZfC.below {c:Nat->Nat×Nat}{X:Nat->Ob} (h:ZfC lo hi w b off n c X) (ht:Zw_ w w'):ZfC lo hi w' b off n c X:=
 ⟨Zk_ h.lt ht.size,h.low,h.bh,h.seg,h.mono,fun i=>(ht.frozen (p:=⟨b,i,none⟩) h.lt).trans (h.frz i),fun i hi'=>(h.row i hi').below ht h.lt⟩
theorem ZfC.to {c:Nat->Nat×Nat}{X Y:Nat->Ob} (h:ZfC lo hi w b off n c X) (e:∀ i,i < n->X i=Y i):ZfC lo hi w b off n c Y:=
 ⟨h.lt,h.low,h.bh,h.seg,h.mono,h.frz,fun i hi'=>e i hi' ▸ h.row i hi'⟩
def ZbU (lo hi:Nat) (w:World) (v:Value) (Xl:List Ob):Prop:=
 (∃ (a:Option Addr) (cap:Nat),v=.slice a 0 cap/\Xl=[])\/
 ∃ (b off cap:Nat) (c:Nat->Nat×Nat) (X:Nat->Ob),v=.slice (some ⟨b,off,none⟩) Xl.length cap/\Xl≠[]/\Xl.length<=maxLen/\Xl.length<=cap/\(∀ i (h:i < Xl.length),X i=Xl[i])/\ZfC lo hi w b off Xl.length c X
theorem ZbU.touch {v:Value} (h:ZbU lo hi w v Xl) (ht:Zag lo' hi' w w') (ho:hi<=lo'\/hi'<=lo):ZbU lo hi w' v Xl:=by
 rcases h with h | ⟨b,off,cap,c,X,h1,h2,h3,h4,h5,h6⟩
 . exact Or.inl h
 . exact Or.inr ⟨b,off,cap,c,X,h1,h2,h3,h4,h5,h6.touch ht ho⟩
theorem ZbU.below {v:Value} (h:ZbU lo hi w v Xl) (ht:Zw_ w w'):ZbU lo hi w' v Xl:=by
 rcases h with h | ⟨b,off,cap,c,X,h1,h2,h3,h4,h5,h6⟩
 . exact Or.inl h
 . exact Or.inr ⟨b,off,cap,c,X,h1,h2,h3,h4,h5,h6.below ht⟩
theorem ZbU.form {v:Value} (h:ZbU lo hi w v Xl):∃ a cap,v=.slice a Xl.length cap:=by
 rcases h with ⟨a,cap,h,rfl⟩ | ⟨b,off,cap,c,X,h1,_⟩
 . exact⟨a,cap,h⟩
 . exact⟨_,cap,h1⟩
theorem ZbU.at {v:Value} (h:ZbU lo hi w v Xl):Za2 lo w v Xl:=by
 rcases h with h | ⟨b,off,cap,c,X,h1,h2,h3,h4,h5,h6⟩
 . exact Or.inl h
 . refine Or.inr ⟨b,off,cap,h1,h2,h3,h6.lt,h6.low,h4,fun i hi'=>?_⟩
   have hr:=h6.row i hi';have g0:=h6.seg i hi';rw [h5 i hi'] at hr;obtain⟨hs,vv0,vv1,m1,q0,q1,hc,l0,l1⟩:=hr;exact⟨hs,vv0,vv1,hc,(l0.in').mono (by omega),(l1.in').mono (by omega)⟩
def ZsQ (k:Int) (x:Ob):Ob:=⟨mtB (k),mtB (k+1),mtB (k+1+1),ZfO (k+1+1+1) x.vs.length,((k+1+1+1+x.vs.length) % 3 == 0),ZfO (k+1+1+1+x.vs.length+1) x.hs.length,k+1+1+1+x.vs.length+1+x.hs.length⟩
def Ztk (x:Ob):Nat:=5+x.vs.length+x.hs.length
def ZdB (Xl:List Ob) (i:Nat):Nat:=((Xl.take i).map Ztk).sum
def Znv (k:Int) (Xl:List Ob):List Ob:=Xl.mapIdx (fun i x=>ZsQ (k+(ZdB Xl i:Int)) x)
theorem ZdK (k:Int) (Xl:List Ob):(Znv k Xl).length=Xl.length:=by unfold Znv;simp
theorem ZpD (k:Int) (Xl:List Ob) (i:Nat) (h:i < (Znv k Xl).length) (h':i < Xl.length):(Znv k Xl)[i]=ZsQ (k+(ZdB Xl i:Int)) Xl[i]:=List.getElem_mapIdx (f:=fun i x=>ZsQ (k+(ZdB Xl i:Int)) x) (h:=h)
theorem ZiI {i:Nat} (h:i < Xl.length):ZdB Xl (i+1)=ZdB Xl i+Ztk Xl[i]:=by
 unfold ZdB;rw [List.take_succ_eq_append_getElem h,List.map_append,List.sum_append];simp
theorem Zmt (hn:Zbl Xl):∀ {i:Nat},i<=Xl.length->ZdB Xl i<=i*3000000:=by
 intro i
 induction i with
 | zero=>intro _;simp [ZdB]
 | succ i ih=>
  intro hi';have h1:=ih (by omega);rw [ZiI (by omega)]
  have h2:Ztk Xl[i]<=3000000:=by
   have hsm:=hn.2 i (by omega);unfold Zeq at hsm;unfold Ztk
   omega
  omega
structure Zfa (wr:World) (b o c0 c1 m1:Nat) (vv0 vv1:Value) (v:World) (y:Ob):Prop where
 near:ZbT b o 7 c0 c1 wr v
 bc:b < c0\/c1<=b
 q0:c0<=m1
 q1:m1<=c1
 cells:Zcf v b o y vv0 vv1
 l0:Zad c0 m1 v vv0 y.vs
 l1:Zad m1 c1 v vv1 y.hs
 frz:∀ i,v.frozen? ⟨b,i,none⟩=false
 lt:b < v.heap.size
theorem Zfa.below (h:Zfa wr b o c0 c1 m1 vv0 vv1 v y) (hb:Below v.heap.size v v'):Zfa wr b o c0 c1 m1 vv0 vv1 v' y:=
 ⟨h.near.trans (ZbT.below hb h.lt),h.bc,h.q0,h.q1,h.cells.below hb h.lt,h.l0.below hb,h.l1.below hb,fun i=>(hb.frozen (p:=⟨b,i,none⟩) h.lt).trans (h.frz i),Zk_ h.lt hb.size⟩
theorem Zfa.s0 (h:Zfa wr b o c0 c1 m1 vv0 vv1 v y) (u:Zy_):Zfa wr b o c0 c1 m1 vv0 vv1 (v.setCell ⟨b,o,none⟩ (.string u)) { y with kd:=u }:=by
 obtain⟨h0,h1,h2,h3,h4,h5,h6⟩:=h.cells;have ht:Zag b (b+1) v (v.setCell ⟨b,o,none⟩ (.string u)):=Zag.setCell _ _ _ _ _ ⟨Nat.le_refl _,by simp only [];omega⟩;have hbc:=h.bc;have hq0:=h.q0;have hq1:=h.q1;exact⟨h.near.trans (ZbT.set _ _ _ _ _ _ _ _ (by omega) (by omega)),h.bc,h.q0,h.q1,⟨World.cell?_setCell_same' _ _ _ (by rw [h0];rfl),(cne (by omega)).trans h1,(cne (by omega)).trans h2,(cne (by omega)).trans h3,(cne (by omega)).trans h4,(cne (by omega)).trans h5,(cne (by omega)).trans h6⟩,h.l0.touch ht (by omega),h.l1.touch ht (by omega),fun i=>by rw [World.frozen?_setCell];exact h.frz i,by simpa [World.setCell] using h.lt⟩
theorem Zfa.s1 (h:Zfa wr b o c0 c1 m1 vv0 vv1 v y) (u:Zy_):Zfa wr b o c0 c1 m1 vv0 vv1 (v.setCell ⟨b,o+1,none⟩ (.string u)) { y with nm:=u }:=by
 obtain⟨h0,h1,h2,h3,h4,h5,h6⟩:=h.cells;have ht:Zag b (b+1) v (v.setCell ⟨b,o+1,none⟩ (.string u)):=Zag.setCell _ _ _ _ _ ⟨Nat.le_refl _,by simp only [];omega⟩;have hbc:=h.bc;have hq0:=h.q0;have hq1:=h.q1;exact⟨h.near.trans (ZbT.set _ _ _ _ _ _ _ _ (by omega) (by omega)),h.bc,h.q0,h.q1,⟨(cne (by omega)).trans h0,World.cell?_setCell_same' _ _ _ (by rw [h1];rfl),(cne (by omega)).trans h2,(cne (by omega)).trans h3,(cne (by omega)).trans h4,(cne (by omega)).trans h5,(cne (by omega)).trans h6⟩,h.l0.touch ht (by omega),h.l1.touch ht (by omega),fun i=>by rw [World.frozen?_setCell];exact h.frz i,by simpa [World.setCell] using h.lt⟩
theorem Zfa.s2 (h:Zfa wr b o c0 c1 m1 vv0 vv1 v y) (u:Zy_):Zfa wr b o c0 c1 m1 vv0 vv1 (v.setCell ⟨b,o+2,none⟩ (.string u)) { y with tm:=u }:=by
 obtain⟨h0,h1,h2,h3,h4,h5,h6⟩:=h.cells;have ht:Zag b (b+1) v (v.setCell ⟨b,o+2,none⟩ (.string u)):=Zag.setCell _ _ _ _ _ ⟨Nat.le_refl _,by simp only [];omega⟩;have hbc:=h.bc;have hq0:=h.q0;have hq1:=h.q1;exact⟨h.near.trans (ZbT.set _ _ _ _ _ _ _ _ (by omega) (by omega)),h.bc,h.q0,h.q1,⟨(cne (by omega)).trans h0,(cne (by omega)).trans h1,World.cell?_setCell_same' _ _ _ (by rw [h2];rfl),(cne (by omega)).trans h3,(cne (by omega)).trans h4,(cne (by omega)).trans h5,(cne (by omega)).trans h6⟩,h.l0.touch ht (by omega),h.l1.touch ht (by omega),fun i=>by rw [World.frozen?_setCell];exact h.frz i,by simpa [World.setCell] using h.lt⟩
theorem Zfa.s4 (h:Zfa wr b o c0 c1 m1 vv0 vv1 v y) (u:Bool):Zfa wr b o c0 c1 m1 vv0 vv1 (v.setCell ⟨b,o+4,none⟩ (.bool u)) { y with en:=u }:=by
 obtain⟨h0,h1,h2,h3,h4,h5,h6⟩:=h.cells;have ht:Zag b (b+1) v (v.setCell ⟨b,o+4,none⟩ (.bool u)):=Zag.setCell _ _ _ _ _ ⟨Nat.le_refl _,by simp only [];omega⟩;have hbc:=h.bc;have hq0:=h.q0;have hq1:=h.q1;exact⟨h.near.trans (ZbT.set _ _ _ _ _ _ _ _ (by omega) (by omega)),h.bc,h.q0,h.q1,⟨(cne (by omega)).trans h0,(cne (by omega)).trans h1,(cne (by omega)).trans h2,(cne (by omega)).trans h3,World.cell?_setCell_same' _ _ _ (by rw [h4];rfl),(cne (by omega)).trans h5,(cne (by omega)).trans h6⟩,h.l0.touch ht (by omega),h.l1.touch ht (by omega),fun i=>by rw [World.frozen?_setCell];exact h.frz i,by simpa [World.setCell] using h.lt⟩
theorem Zfa.s6 (h:Zfa wr b o c0 c1 m1 vv0 vv1 v y) (u:Int):Zfa wr b o c0 c1 m1 vv0 vv1 (v.setCell ⟨b,o+6,none⟩ (.int .i64 u)) { y with ver:=u }:=by
 obtain⟨h0,h1,h2,h3,h4,h5,h6⟩:=h.cells;have ht:Zag b (b+1) v (v.setCell ⟨b,o+6,none⟩ (.int .i64 u)):=Zag.setCell _ _ _ _ _ ⟨Nat.le_refl _,by simp only [];omega⟩;have hbc:=h.bc;have hq0:=h.q0;have hq1:=h.q1;exact⟨h.near.trans (ZbT.set _ _ _ _ _ _ _ _ (by omega) (by omega)),h.bc,h.q0,h.q1,⟨(cne (by omega)).trans h0,(cne (by omega)).trans h1,(cne (by omega)).trans h2,(cne (by omega)).trans h3,(cne (by omega)).trans h4,(cne (by omega)).trans h5,World.cell?_setCell_same' _ _ _ (by rw [h6];rfl)⟩,h.l0.touch ht (by omega),h.l1.touch ht (by omega),fun i=>by rw [World.frozen?_setCell];exact h.frz i,by simpa [World.setCell] using h.lt⟩
theorem Zfa.m0' (h:Zfa wr b o c0 c1 m1 vv0 vv1 v y) (ht:Zag c0 m1 v v') {L:List Zy_} (hl:Zad c0 m1 v' vv0 L):Zfa wr b o c0 c1 m1 vv0 vv1 v' { y with vs:=L }:=by
 obtain⟨h0,h1,h2,h3,h4,h5,h6⟩:=h.cells;have hbc:=h.bc;have hq0:=h.q0;have hq1:=h.q1;have hlt:=h.lt;have e:∀ i,v'.cell? ⟨b,i,none⟩=v.cell? ⟨b,i,none⟩:=fun i=>ht.cell (p:=⟨b,i,none⟩) h.lt (by simp only [];omega)
 exact⟨h.near.trans (ZbT.touch ht h.lt (by omega) (by omega) (by omega)),h.bc,h.q0,h.q1,⟨(e _).trans h0,(e _).trans h1,(e _).trans h2,(e _).trans h3,(e _).trans h4,(e _).trans h5,(e _).trans h6⟩,hl,h.l1.touch ht (by omega),fun i=>(ht.frozen (p:=⟨b,i,none⟩) h.lt (by simp only [];omega)).trans (h.frz i),Zk_ h.lt ht.size⟩
theorem Zfa.m1' (h:Zfa wr b o c0 c1 m1 vv0 vv1 v y) (ht:Zag m1 c1 v v') {L:List Zy_} (hl:Zad m1 c1 v' vv1 L):Zfa wr b o c0 c1 m1 vv0 vv1 v' { y with hs:=L }:=by
 obtain⟨h0,h1,h2,h3,h4,h5,h6⟩:=h.cells;have hbc:=h.bc;have hq0:=h.q0;have hq1:=h.q1;have hlt:=h.lt;have e:∀ i,v'.cell? ⟨b,i,none⟩=v.cell? ⟨b,i,none⟩:=fun i=>ht.cell (p:=⟨b,i,none⟩) h.lt (by simp only [];omega)
 exact⟨h.near.trans (ZbT.touch ht h.lt (by omega) (by omega) (by omega)),h.bc,h.q0,h.q1,⟨(e _).trans h0,(e _).trans h1,(e _).trans h2,(e _).trans h3,(e _).trans h4,(e _).trans h5,(e _).trans h6⟩,h.l0.touch ht (by omega),hl,fun i=>(ht.frozen (p:=⟨b,i,none⟩) h.lt (by simp only [];omega)).trans (h.frz i),Zk_ h.lt ht.size⟩
end
open Go.RowKit Go.Deep
variable {wr w1:World} {B k:Nat} {Xl:List Tm}
def Zba (wr:World) (B:Nat) (Xl:List Tm) (k:Nat) (c:Nat->Nat):Prop:=
 B < c 0/\(∀ i,i < k->c i<=c (i+1))/\c k<=wr.heap.size/\∃ f,wr.rowIs B 135 (Xl.length*2) f/\∀ i (h:i < Xl.length),i < k->Zfb Xl[i]/\f (i*2)=.string Xl[i].nm/\f (i*2+1)=.string Xl[i].ov
theorem Zba.le {c:Nat->Nat} (h:Zba wr B Xl k c) {i:Nat}:∀ {j:Nat},i<=j->j<=k->c i<=c j:=by
 intro j
 induction j with
 | zero=>intro hij _;have:i=0:=by omega
         subst this;exact Nat.le_refl _
 | succ j ih=>
  intro hij hjn
  by_cases e:i=j+1
  . subst e;exact Nat.le_refl _
  . exact Nat.le_trans (ih (by omega) (by omega)) (h.2.1 j (by omega))
theorem Zba.below {c:Nat->Nat} (h:Zba wr B Xl k c) (hb:Below wr.heap.size wr w1):Zba w1 B Xl k c:=by
 obtain⟨g1,g2,g3,f,hr,hall⟩:=h;refine⟨g1,g2,Nat.le_trans g3 hb.size,f,hr.of_block (hb.block B hr.lt),fun i hi hik=>?_⟩;obtain⟨hz,h0,h1⟩:=hall i hi hik;exact⟨hz,h0,h1⟩
theorem Zba.free {c:Nat->Nat} (h:Zba wr B Xl k c) (i:Nat):wr.frozen? ⟨B,i,none⟩=false:=by
 obtain⟨_,_,_,f,hr,_⟩:=h;exact hr.frozen i
theorem Zba.there {c:Nat->Nat} (h:Zba wr B Xl k c) (i:Nat) (hi:i < Xl.length*2):∃ v,wr.cell? ⟨B,i,none⟩=some v:=by
 obtain⟨_,_,_,f,hr,_⟩:=h;exact⟨_,hr.cell hi⟩
theorem Zba.step {c:Nat->Nat} (h:Zba w1 B Xl k c) (hk:k < Xl.length) (hz:Zfb Xl[k]) (d:Nat) (hd0:c k<=d) (hd:d<=w1.heap.size) :
 Zba ((w1.setCell ⟨B,k*2,none⟩ (.string Xl[k].nm)).setCell ⟨B,k*2+1,none⟩ (.string Xl[k].ov)) B Xl (k+1) (fun j=>if j<=k then c j else d):=by
 have hle:=fun i (hi:i<=k)=>h.le (i:=0) (j:=i) Zz_ hi
 have hle2:=fun i (hi:i < k)=>h.le (i:=i+1) (j:=k) (by omega) Zl_
 obtain⟨g1,g2,g3,f,hr,hall⟩:=h;have hts:Zag B (B+1) w1 ((w1.setCell ⟨B,k*2,none⟩ (.string Xl[k].nm)).setCell ⟨B,k*2+1,none⟩ (.string Xl[k].ov)):=(Zag.setB B _ _ _).trans (Zag.setB B _ _ _);refine⟨by simpa using g1,fun i hi=>?_,?_,_,((hr.set _ _).set _ _),fun i hi hik=>?_⟩
 . dsimp only
   by_cases e:i=k
   . subst e;rw [if_pos Zl_,if_neg (by omega)];exact hd0
   . rw [if_pos (by omega),if_pos (by omega)];exact g2 i (by omega)
 . dsimp only;rw [if_neg (by omega)];exact Nat.le_trans hd hts.size
 by_cases e:i=k
 . subst e
   have hb0:=hle i Zl_;exact⟨hz,by simp,by simp⟩
 . have hb0:=hle i (by omega)
   obtain⟨hz,h0,h1⟩:=hall i hi (by omega);refine⟨hz,?_,?_⟩
   . rw [if_neg (by omega),if_neg (by omega)];exact h0
   . rw [if_neg (by omega),if_neg (by omega)];exact h1
theorem Zba.own {c:Nat->Nat} (h:Zba wr B Xl k c) (hk:k=Xl.length) (hne:Xl≠[]) (hm:Xl.length<=maxLen):Zcl B wr.heap.size wr (.slice (some ⟨B,0,none⟩) Xl.length Xl.length) Xl:=by
 subst hk;obtain⟨g1,g2,g3,f,hr,hall⟩:=h;have h0:0 < Xl.length:=List.length_pos_iff.2 hne
 refine Or.inr ⟨B,0,Xl.length,c,fun i=>if h:i < Xl.length then Xl[i] else Xl[0],rfl,hne,hm,Nat.le_refl _,fun i hi=>by simp [hi],hr.lt,Nat.le_refl _,g1,hr.lt,g2,g3,fun i=>hr.frozen i,fun i hi=>?_⟩;obtain⟨hz,h0,h1⟩:=hall i hi hi;simp only [hi,dif_pos];rw [Nat.zero_add];exact⟨hz,⟨by rw [hr.cell (by omega),h0],by rw [hr.cell (by omega),h1]⟩⟩
theorem Zba.new (w:World) (Xl:List Tm) (z:Array Value):Zba (w.alloc (.cells (madeCells z (Xl.length*2)) 135)) w.heap.size Xl 0 (fun _=>w.heap.size+1):=by
 refine⟨Nat.lt_succ_self _,fun i hi=>by omega,by simp,fun i=>(madeCells z (Xl.length*2)).getD i default,?_,fun i _ h=>by omega⟩;have:=World.rowIs_alloc w (madeCells z (Xl.length*2)) 135 (fun i=>(madeCells z (Xl.length*2)).getD i default) (fun i hi=>by simp [Array.getD,hi])
 rwa [size_madeCells] at this
theorem Zob (lo:Nat) (v:Value) (Xl:List Tm) (w:World) (hv:Zbk lo w v Xl) (hn:Zdm Xl) :
 Calls prog 38 #[v] w fun e w'=>∃ v',e=.returned v'/\Zw_ w w'/\Zcl w.heap.size w'.heap.size w' v' Xl:=by
 obtain⟨i0,hi,hz0,hz1,hz2⟩:=info_parts Tryz.info135;have HSM:=Zab hn.2;have hn1:=hn.1;clear hn
 by_cases hL:Xl=[]
 . subst hL
   obtain⟨a,cap,rfl⟩:=hv.form;clear hv
   have hmk:∀ u:World,(Instr.makeSlice 39 (.int .i64 0) (.int .i64 0)).run prog u=.ok (.slice (some ⟨u.heap.size,0,none⟩) 0 0) (u.alloc (.cells (madeCells (Value.cells (.agg #[.string ⟨#[]⟩,.string ⟨#[]⟩])) 0) 135)):=fun u=>by
    have h:=run_make (P:=prog) u 39 135 i0 _ underlying39 hi hz0 .i64 .i64 0 0 (by omega) (by omega) (by omega) (by omega)
    simpa [hz1] using h
   go_enter func38,ntmps38;go_wp2
   go_loop [4] (fun i=>i=.int .i64 0) (fun _=>0)
   case atStart=>rfl
   case round=>
    subst hrel;go_wp2;go_ret;exact⟨_,rfl,Zb_.alloc Zl_ _,Or.inl ⟨_,_,rfl,rfl⟩⟩
 . obtain⟨b,off,cap,rfl,hm,hbw,_,hc⟩:=hv.full hL
   clear hv;have HM:Hd (Xl.length<=maxLen):=hm;unfold maxLen at hm
   have hmk:∀ u:World,(Instr.makeSlice 39 (.int .i64 (Xl.length:Int)) (.int .i64 (Xl.length:Int))).run prog u=.ok (.slice (some ⟨u.heap.size,0,none⟩) Xl.length Xl.length) (u.alloc (.cells (madeCells (Value.cells (.agg #[.string ⟨#[]⟩,.string ⟨#[]⟩])) (Xl.length*2)) 135)):=fun u=>by
    have h:=run_make (P:=prog) u 39 135 i0 _ underlying39 hi hz0 .i64 .i64 Xl.length Xl.length (by omega) (by omega) (by rw [hz2];omega) (by omega);rw [hz1] at h
    simpa using h
   clear hi hz0 hz1 hz2;go_enter func38,ntmps38;go_wp2;clear hmk
   go_loopw [4] (fun i wr=>∃ (k:Nat) (c:Nat->Nat),i=.int .i64 k/\k<=Xl.length/\Zw_ w wr/\Zba wr w.heap.size Xl k c) (fun i _=>Xl.length - (intOf i).toNat)
   case atStart=>exact⟨0,_,rfl,by omega,Zb_.alloc Zl_ _,Zba.new w Xl _⟩
   case round=>
    obtain⟨k,c,rfl,hk,hb,hf⟩:=hrel
    by_cases hlt:k < Xl.length
    . obtain⟨hs,hc⟩:=hc k hlt
      have HB:=Zab hb;have HF:=Zab hf;have HSZ:=Zab hs;obtain⟨c0,c1⟩:=hc.below hb hbw;clear hc hb hf hs;go_wp2_with fail;refine (ZiT _ _ _).mono ?_;rintro e w1 ⟨rfl,hb1⟩;have hf1:=HF.o.below hb1;have hB:Hd (Zw_ w w1):=HB.o.trans (hb1.mono HB.o.size);have HST:=Zab (hf1.step hlt HSZ.o w1.heap.size (Nat.le_trans HF.o.2.2.1 hb1.size) Zl_);have hfr:=hf1.free;obtain⟨o0,ho0⟩:=hf1.there (k*2) (by omega);obtain⟨o1,ho1⟩:=hf1.there (k*2+1) (by omega);clear hf1 hb1 HF HB c0 c1;go_wp2;go_roundw
      . 
       exact⟨k+1,_,by go_num,by omega,((hB.o.setCell Zl_ _).setCell Zl_ _),HST.o⟩
      . simp [intOf];omega
    . have e:k=Xl.length:=by omega
      go_wp2;go_ret;exact⟨_,rfl,hb,hf.own e hL HM.o⟩
end Go.Proofs.YtmappejlmapboaaGreat
