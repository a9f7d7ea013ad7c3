import Derived.Test.YtbdhbihhgfpnnaaGreatV06
set_option maxHeartbeats 16000000
set_option maxRecDepth 100000
open Go.Proofs.Tryz
namespace Go.Proofs.YtbdhbihhgfpnnaaGreat
open Go.RowKit Go.Deep
section
theorem Zdo (lo:Nat) (v:Value) (Ts:List Tm) (s:Zy_) (w:World) (hv:ZaZ lo w v Ts) :
 Calls prog 96 #[v,.string s] w fun e w'=>e=.returned (.string (ovB Ts s))/\w'=w:=by
 by_cases hL:Ts=[]
 . subst hL
   obtain⟨a,cap,rfl⟩:=hv.form;clear hv;go_enter func96,ntmps96;go_wp2
   go_loop [5] (fun i=>i=.int .i64 0) (fun _=>0)
   case atStart=>rfl
   case round=>
    subst hrel;go_wp2;go_ret;exact⟨rfl,rfl⟩
 . obtain⟨b,off,cap,rfl,hm,hbw,_,hc⟩:=hv.full hL
   clear hv;unfold maxLen at hm;go_enter func96,ntmps96;go_wp2
   go_loop [5] (fun i=>∃ k:Nat,i=.int .i64 k/\k<=Ts.length/\∀ j (hj:j < Ts.length),j < k->(Ts[j].nm.toList == s.toList)=false) (fun i=>Ts.length - (intOf i).toNat)
   case atStart=>exact⟨0,rfl,by omega,fun j _ h=>by omega⟩
   case round=>
    obtain⟨k,rfl,hk,hall⟩:=hrel;have HA:=Zab hall;clear hall
    by_cases hlt:k < Ts.length
    . obtain⟨_,hcell⟩:=hc k hlt
      obtain⟨c0,c1⟩:=hcell
      cases he:(Ts[k].nm.toList == s.toList) with
      | true=>
       go_wp2;go_ret;exact⟨ZiC (Zsf hlt he HA.o).symm,rfl⟩
      | false=>
       go_wp2
       go_round
       case rel=>exact⟨k+1,by go_num,by omega,fun j hj h=>by
                  by_cases e:j=k
                  . subst e;exact he
                  . exact HA.o j hj (by omega)⟩
       . simp [intOf];omega
    . go_wp2
      go_ret;exact⟨ZiC (Zsh fun j hj=>HA.o j hj (by omega)).symm,rfl⟩
theorem Zbf (lo:Nat) (v:Value) (Ts:List Tm) (s:Zy_) (w:World) (hv:ZaZ lo w v Ts) :
 Calls prog 95 #[v,.string s] w fun e w'=>e=.returned (.bool (Zfp Ts s))/\w'=w:=by
 by_cases hL:Ts=[]
 . subst hL
   obtain⟨a,cap,rfl⟩:=hv.form;clear hv;go_enter func95,ntmps95;go_wp2
   go_loop [5] (fun i=>i=.int .i64 0) (fun _=>0)
   case atStart=>rfl
   case round=>
    subst hrel;go_wp2;go_ret;exact⟨rfl,rfl⟩
 . obtain⟨b,off,cap,rfl,hm,hbw,_,hc⟩:=hv.full hL
   clear hv;unfold maxLen at hm;go_enter func95,ntmps95;go_wp2
   go_loop [5] (fun i=>∃ k:Nat,i=.int .i64 k/\k<=Ts.length/\∀ j (hj:j < Ts.length),j < k->(Ts[j].nm.toList == s.toList)=false) (fun i=>Ts.length - (intOf i).toNat)
   case atStart=>exact⟨0,rfl,by omega,fun j _ h=>by omega⟩
   case round=>
    obtain⟨k,rfl,hk,hall⟩:=hrel;have HA:=Zab hall;clear hall
    by_cases hlt:k < Ts.length
    . obtain⟨_,hcell⟩:=hc k hlt
      obtain⟨c0,c1⟩:=hcell
      cases he:(Ts[k].nm.toList == s.toList) with
      | true=>
       go_wp2;go_ret;exact⟨Zaa (Zjm hlt he).symm,rfl⟩
      | false=>
       go_wp2
       go_round
       case rel=>exact⟨k+1,by go_num,by omega,fun j hj h=>by
                  by_cases e:j=k
                  . subst e;exact he
                  . exact HA.o j hj (by omega)⟩
       . simp [intOf];omega
    . go_wp2
      go_ret;exact⟨Zaa (ZnG fun j hj=>HA.o j hj (by omega)).symm,rfl⟩
section
variable (nm ov:Zy_) (w:World)
theorem Zng (s:Zy_) (B:Nat) (hB:B < w.heap.size) (hs:w.cell? ⟨B,0,none⟩=some (.string s)) :
 Calls prog 163 #[.agg #[.string nm,.string ov],.pointer (some ⟨B,0,none⟩)] w
  fun e w'=>e=.returned (.bool (nm.toList == s.toList))/\Zw_ w w':=by
 go_enter func163,ntmps163;go_wp2;go_ret;exact⟨rfl,Zb_.alloc Zl_ _⟩
end
theorem Zhi (lo:Nat) (v:Value) (Ts:List Tm) (s:Zy_) (B:Nat) (w:World) (hv:ZaZ lo w v Ts) (hB:B < w.heap.size) (hs:w.cell? ⟨B,0,none⟩=some (.string s)) :
 Calls prog 162 #[v,.func (.func 163) #[] #[.pointer (some ⟨B,0,none⟩)]] w fun e w'=>e=.returned (.int .i64 (Zda Ts s))/\Zw_ w w':=by
 by_cases hL:Ts=[]
 . subst hL
   obtain⟨a,cap,rfl⟩:=hv.form;clear hv;go_enter func162,ntmps162;go_wp2
   go_loop [8] (fun i=>i=.int .i64 0) (fun _=>0)
   case atStart=>rfl
   case round=>
    subst hrel;go_wp2;go_ret;exact⟨rfl,Below.refl _ _⟩
 . obtain⟨b,off,cap,rfl,hm,hbw,_,hc⟩:=hv.full hL
   clear hv;unfold maxLen at hm;go_enter func162,ntmps162;go_wp2
   go_loopw [8] (fun i wr=>∃ k:Nat,i=.int .i64 k/\k<=Ts.length/\Zw_ w wr/\∀ j (hj:j < Ts.length),j < k->(Ts[j].nm.toList == s.toList)=false) (fun i _=>Ts.length - (intOf i).toNat)
   case atStart=>exact⟨0,rfl,by omega,Below.refl _ _,fun j _ h=>by omega⟩
   case round=>
    obtain⟨k,rfl,hk,hb,hall⟩:=hrel;have HA:=Zab hall;have HB:=Zab hb;clear hall hb
    by_cases hlt:k < Ts.length
    . obtain⟨_,hcell⟩:=hc k hlt
      obtain⟨c0,c1⟩:=hcell.below HB.o hbw;clear hcell;go_wp2_with fail;refine (Zng _ _ _ s B (Zk_ hB HB.o.size) (by rw [HB.o.cell (p:=⟨B,0,none⟩) hB];exact hs)).mono ?_;rintro e w1 ⟨rfl,hb1⟩;have HB1:Hd (Zw_ w w1):=HB.o.trans (hb1.mono HB.o.size);clear hb1 c0 c1
      cases he:(Ts[k].nm.toList == s.toList) with
      | true=>
       go_wp2;go_ret;exact⟨by rw [Zmi hlt he HA.o];rfl,HB1.o⟩
      | false=>
       go_wp2;go_roundw
       case rel=>exact⟨k+1,by go_num,by omega,HB1.o,fun j hj h=>by
                  by_cases e:j=k
                  . subst e;exact he
                  . exact HA.o j hj (by omega)⟩
       . simp [intOf];omega
    . go_wp2
      go_ret;exact⟨by rw [Zn0 fun j hj=>HA.o j hj (by omega)];rfl,HB.o⟩
theorem Zch (lo:Nat) (v:Value) (Ts:List Tm) (s:Zy_) (w:World) (hv:ZaZ lo w v Ts) :
 Calls prog 118 #[v,.string s] w fun e w'=>e=.returned (.int .i64 (Zda Ts s))/\Zw_ w w':=by
 have HV:=Zab hv;obtain⟨a,cap,rfl⟩:=hv.form;clear hv;have HW:∀ o,Hd (Zw_ w (w.alloc o)):=fun o=>Zac _ _
 go_enter func118,ntmps118;go_wp2_with fail;refine (Zhi lo _ Ts s _ _ (HV.o.below (HW _).o) (by simp) (by simp)).mono ?_;rintro e w1 ⟨rfl,hb⟩;have HB:Hd (Zw_ w w1):=(HW _).o.trans (hb.mono (by simp));clear hb;go_wp2;go_ret;exact⟨rfl,HB.o⟩
theorem ZhI (lo:Nat) (v:Value) (Ts:List Tm) (s:Zy_) (w:World) (hv:ZaZ lo w v Ts) :
 Calls prog 164 #[v,.string s] w fun e w'=>e=.returned (.string (ovB Ts s))/\Zw_ w w':=by
 have HV:=Zab hv;obtain⟨a,cap,rfl⟩:=hv.form;clear hv;go_enter func164,ntmps164;go_wp2_with fail;refine (Zch lo _ Ts s _ HV.o).mono ?_;rintro e w1 ⟨rfl,hb⟩;have HB:=Zab hb;clear hb
 by_cases hp:plT Ts s < Ts.length
 . rw [ZgO hp]
   have hmx:=HV.o.max;obtain⟨b,off,rfl,hbw,hc⟩:=HV.o.full' (by omega);obtain⟨_,hcell⟩:=hc _ hp;obtain⟨c0,c1⟩:=hcell.below HB.o hbw;have HO:=Zab (Zsg hp);unfold maxLen at hmx;clear hc hcell;generalize plT Ts s=p at*;go_wp2;go_ret;exact⟨ZiC HO.o.symm,HB.o⟩
 . rw [ZgN hp]
   have HO:=Zab (ZpZ hp);go_wp2;go_ret;exact⟨ZiC HO.o.symm,HB.o⟩
theorem Zin (lo:Nat) (v:Value) (Ts:List Tm) (a b:Zy_) (w:World) (hv:ZaZ lo w v Ts) :
 Calls prog 212 #[v,.string a,.string b] w fun e w'=>e=.returned (.bool (Zbe Ts a b))/\Zw_ w w':=by
 have HV:=Zab hv;obtain⟨ta,tcap,rfl⟩:=hv.form;clear hv
 cases hab:(a.toList == b.toList) with
 | true=>
  go_enter func212,ntmps212;go_wp2;go_ret;exact⟨Zaa (by simp [Zbe,hab]),Below.refl _ _⟩
 | false=>
  have HU:Hd (Zbe Ts a b=ZeE Ts b 4 a):=by unfold Hd Zbe;rw [hab];rfl
  go_enter func212,ntmps212;go_wp2;clear hab
  go_loopw [1,10] (fun x n wr=>∃ (k:Nat) (a':Zy_),x=.string a'/\n=.int .i64 k/\k<=4/\Zbe Ts a b=ZeE Ts b (4 - k) a'/\Zw_ w wr) (fun _ n _=>4 - (intOf n).toNat)
  case atStart=>exact⟨0,a,rfl,rfl,by omega,HU.o,Below.refl _ _⟩
  case round=>
   obtain⟨k,a',rfl,rfl,hk,hu,hb⟩:=hrel;have HU:=Zab hu;have HB:=Zab hb;clear hu hb
   by_cases hlt:k < 4
   . have HS:Hd (Zbe Ts a b=if (ovB Ts a').toList.isEmpty then false else if (ovB Ts a').toList == b.toList then true else ZeE Ts b (4 - (k+1)) (ovB Ts a')):=by
      unfold Hd;rw [HU.o,show 4 - k=(4 - (k+1))+1 from by omega]
      rfl
     clear HU;go_wp2_with fail;refine (ZhI lo _ Ts a' _ (HV.o.below HB.o)).mono ?_;rintro e w1 ⟨rfl,hb1⟩;have HB1:Hd (Zw_ w w1):=HB.o.trans (hb1.mono HB.o.size);clear hb1;clear HB
     cases he:(ovB Ts a').toList.isEmpty with
     | true=>
      have HR:Hd (Zbe Ts a b=false):=by unfold Hd;rw [HS.o,if_pos he]
      go_wp2;go_ret;exact⟨Zaa HR.o.symm,HB1.o⟩
     | false=>
      cases he2:((ovB Ts a').toList == b.toList) with
      | true=>
       have HR:Hd (Zbe Ts a b=true):=by unfold Hd;rw [HS.o,if_neg (by simp [he]),if_pos he2]
       go_wp2;go_ret;exact⟨Zaa HR.o.symm,HB1.o⟩
      | false=>
       have HR:Hd (Zbe Ts a b=ZeE Ts b (4 - (k+1)) (ovB Ts a')):=by unfold Hd;rw [HS.o,if_neg (by simp [he]),if_neg (by simp [he2])]
       go_wp2;go_roundw
       . exact⟨k+1,_,rfl,by go_num,by omega,HR.o,HB1.o⟩
       . simp [intOf];omega
   . have HR:Hd (Zbe Ts a b=false):=by unfold Hd;rw [HU.o,show 4 - k=0 from by omega];rfl
     go_wp2;go_ret;exact⟨Zaa HR.o.symm,HB.o⟩
theorem ZdL (lo:Nat) (v:Value) (Ts:List Tm) (a:Zy_) (w:World) (hv:ZaZ lo w v Ts) :
 Calls prog 119 #[v,.string a] w fun e w'=>e=.returned (.bool (ZaV Ts 5 a))/\Zw_ w w':=by
 have HV:=Zab hv;obtain⟨ta,tcap,rfl⟩:=hv.form;clear hv;go_enter func119,ntmps119;go_wp2
 go_loopw [1,5] (fun x n wr=>∃ (k:Nat) (a':Zy_),x=.string a'/\n=.int .i64 k/\k<=5/\ZaV Ts 5 a=ZaV Ts (5 - k) a'/\Zw_ w wr) (fun _ n _=>5 - (intOf n).toNat)
 case atStart=>exact⟨0,a,rfl,rfl,by omega,rfl,Below.refl _ _⟩
 case round=>
  obtain⟨k,a',rfl,rfl,hk,hu,hb⟩:=hrel;have HU:=Zab hu;have HB:=Zab hb;clear hu hb
  by_cases hlt:k < 5
  . have HS:Hd (ZaV Ts 5 a=if (ovB Ts a').toList.isEmpty then false else ZaV Ts (5 - (k+1)) (ovB Ts a')):=by
     unfold Hd;rw [HU.o,show 5 - k=(5 - (k+1))+1 from by omega]
     rfl
    clear HU;go_wp2_with fail;refine (ZhI lo _ Ts a' _ (HV.o.below HB.o)).mono ?_;rintro e w1 ⟨rfl,hb1⟩;have HB1:Hd (Zw_ w w1):=HB.o.trans (hb1.mono HB.o.size);clear hb1 HB
    cases he:(ovB Ts a').toList.isEmpty with
    | true=>
     have HR:Hd (ZaV Ts 5 a=false):=by unfold Hd;rw [HS.o,if_pos he]
     go_wp2;go_ret;exact⟨Zaa HR.o.symm,HB1.o⟩
    | false=>
     have HR:Hd (ZaV Ts 5 a=ZaV Ts (5 - (k+1)) (ovB Ts a')):=by unfold Hd;rw [HS.o,if_neg (by simp [he])]
     go_wp2;go_roundw
     . exact⟨k+1,_,rfl,by go_num,by omega,HR.o,HB1.o⟩
     . simp [intOf];omega
  . have HR:Hd (ZaV Ts 5 a=true):=by unfold Hd;rw [HU.o,show 5 - k=0 from by omega];rfl
    go_wp2;go_ret;exact⟨Zaa HR.o.symm,HB.o⟩
end
variable {k:Nat}
theorem Zm5 {L:List Zy_}{p:Zy_->Bool} (h:k < L.length) (hp:p L[k]=false):L.all p=false:=by
 rw [List.all_eq_false];exact⟨L[k],List.getElem_mem h,by simp [hp]⟩
theorem ZoT {L:List Zy_}{p:Zy_->Bool} (h:∀ i (h:i < L.length),p L[i]=true):L.all p=true:=by
 rw [List.all_eq_true];intro x hx;obtain⟨i,hi,rfl⟩:=List.getElem_of_mem hx;exact h i hi
theorem ZiU (rv wv:Value) (row L:List Zy_) (w:World) (hr:Zae w rv row) (hv:Zae w wv L) :
 Calls prog 260 #[rv,wv] w fun e w'=>e=.returned (.bool (L.all (ZdC row)))/\w'=w:=by
 have HR:=Zab hr;obtain⟨ra,rn,rcap,rfl⟩:=hr.form;clear hr
 rcases hv with ⟨a,cap,rfl,rfl⟩ | ⟨b,off,cap,rfl,hne,hm,hbw,hc,hsz⟩
 . go_enter func260,ntmps260
   go_wp2
   go_loop [9] (fun i=>i=.int .i64 0) (fun _=>0)
   case atStart=>rfl
   case round=>
    subst hrel;go_wp2;go_ret;exact⟨rfl,rfl⟩
 . unfold maxLen at hm
   go_enter func260,ntmps260;go_wp2
   go_loop [9] (fun i=>∃ k:Nat,i=.int .i64 k/\k<=L.length/\∀ i (h:i < L.length),i < k->ZdC row L[i]=true) (fun i=>L.length - (intOf i).toNat)
   case atStart=>exact⟨0,rfl,by omega,fun i _ h=>by omega⟩
   case round=>
    obtain⟨k,rfl,hk,hall⟩:=hrel;have HA:=Zab hall;clear hall
    by_cases hlt:k < L.length
    . have hck:=hc k hlt
      go_wp2_with fail;refine (Zc8 _ row L[k] _ HR.o).mono ?_;rintro e w1 ⟨rfl,rfl⟩
      cases hh:ZdC row L[k] with
      | false=>
       go_wp2;go_ret;exact⟨Zaa (Zm5 hlt hh).symm,rfl⟩
      | true=>
       go_wp2
       go_round
       case rel=>exact⟨k+1,by go_num,by omega,fun i h h'=>by
                  by_cases e:i=k
                  . subst e;exact hh
                  . exact HA.o i h (by omega)⟩
       . simp [intOf];omega
    . go_wp2
      go_ret;exact⟨Zaa (ZoT fun i h=>HA.o i h (by omega)).symm,rfl⟩
def rdP (m:Md) (j:Nat):List Zy_:=if j=0 then [] else if j=1 then (if m.wh.toList.isEmpty=true then [] else [m.wh]) else ZiB m
theorem Zrr (m:Md) (j:Nat):(rdP m j).length<=2:=by
 unfold rdP ZiB
 split
 . simp
 . split
   . split <;> simp
   . rw [List.length_append];split <;> split <;> simp
theorem Zmn (kind field:Zy_) (m:Md) (Ms:List Md):Zao kind (m :: Ms) field=(if ZcU kind field m=true then ZiB m else []) ++ Zao kind Ms field:=by
 unfold Zao
 by_cases h:ZcU kind field m=true <;> simp [h]
theorem readsOf_nil (kind field:Zy_):Zao kind [] field=[]:=rfl
theorem Zn1 (kind field:Zy_) (Ms:List Md):(Zao kind Ms field).length<=2*Ms.length:=by
 induction Ms with
 | nil=>simp [readsOf_nil]
 | cons m Ms ih=>
  have h2:(ZiB m).length<=2:=by unfold ZiB;rw [List.length_append];split <;> split <;> simp
  rw [Zmn,List.length_append,List.length_cons]
  by_cases h:ZcU kind field m=true
  . rw [if_pos h];omega
  . rw [if_neg h];simp only [List.length_nil];omega
theorem ZhJ {base:Nat}{W:World}{v:Value}{R R':List Zy_} (h:Zdw base W v R) (e:R=R'):Zdw base W v R':=e ▸ h
theorem Zmo {kind field:Zy_}{Ms:List Md} (hk:k < Ms.length):Zao kind (Ms.take (k+1)) field=Zao kind (Ms.take k) field ++ (if ZcU kind field Ms[k]=true then ZiB Ms[k] else []):=by
 rw [List.take_succ_eq_append_getElem hk,ZjH]
theorem Zl9 (W:World) (x y:Zy_):(Instr.index 340 (.agg #[.string x,.string y]) (.int .i64 0)).run prog W=.ok (.string x) W:=by
 kernel_rfl
theorem ZnO (W:World) (x y:Zy_):(Instr.index 340 (.agg #[.string x,.string y]) (.int .i64 1)).run prog W=.ok (.string y) W:=by
 kernel_rfl
theorem ZkH (lo:Nat) (v:Value) (Ms:List Md) (kind field:Zy_) (w:World) (hv:ZbY lo w v Ms) (hn:Ms.length<=1048576) :
 Calls prog 238 #[.string kind,.string field,v] w fun e w'=>∃ v',e=.returned v'/\Zw_ w w'/\Zdw w.heap.size w' v' (Zao kind Ms field):=by
 obtain⟨i0,hi,hz0,hz1,hz2⟩:=info_parts Tryz.info9;have HI:=Zab (And.intro hi (And.intro hz0 (And.intro hz1 hz2)));clear hi hz0 hz1 hz2;have HV:=Zab hv;obtain⟨a,cap,rfl⟩:=hv.form;clear hv;go_enter func238,ntmps238;go_wp2
 go_loopw [7,14] (fun r i wr=>∃ k:Nat,i=.int .i64 k/\k<=Ms.length/\Zw_ w wr/\Zdw w.heap.size wr r (Zao kind (Ms.take k) field)) (fun _ i _=>Ms.length - (intOf i).toNat)
 case atStart=>exact⟨0,rfl,by omega,Below.refl _ _,Zdw.nil _ _⟩
 case round=>
  obtain⟨k,rfl,hk,hb,hown⟩:=hrel;have HB:=Zab hb;have HO:=Zab hown;obtain⟨ra,rcap,rfl⟩:=hown.form;clear hb hown
  by_cases hlt:k < Ms.length
  . obtain⟨b,off,rfl,hbw,hc⟩:=HV.o.full' (by omega)
    obtain⟨hsz,hcell⟩:=hc k hlt;obtain⟨c0,c1,c2,c3,c4,c5⟩:=hcell.below HB.o hbw;clear hcell hc;have HST:=Zab (Zmo (kind:=kind) (field:=field) hlt)
    cases hk1:(Ms[k].kind.toList == kind.toList) with
    | false=>
     have HF:Hd (Zao kind (Ms.take (k+1)) field=Zao kind (Ms.take k) field):=by unfold Hd;rw [HST.o,if_neg (by unfold ZcU;simp [hk1]),List.append_nil]
     go_wp2;go_roundw
     . exact⟨k+1,by go_num,by omega,HB.o.alloc HB.o.size _,by rw [HF.o];exact HO.o.below (Zb_.alloc Zl_ _)⟩
     . simp [intOf];omega
    | true=>
     cases hf1:(Ms[k].field.toList == field.toList) with
     | false=>
      have HF:Hd (Zao kind (Ms.take (k+1)) field=Zao kind (Ms.take k) field):=by unfold Hd;rw [HST.o,if_neg (by unfold ZcU;simp [hf1]),List.append_nil]
      go_wp2;go_roundw
      . exact⟨k+1,by go_num,by omega,HB.o.alloc HB.o.size _,by rw [HF.o];exact HO.o.below (Zb_.alloc Zl_ _)⟩
      . simp [intOf];omega
     | true=>
      have HF:Hd (Zao kind (Ms.take (k+1)) field=Zao kind (Ms.take k) field ++ ZiB Ms[k]):=by unfold Hd;rw [HST.o,if_pos (by unfold ZcU;simp [hk1,hf1])]
      have HRL:Hd ((Zao kind (Ms.take k) field).length<=2097152):=by
       have:=Zn1 kind field (Ms.take k);rw [List.length_take] at this;unfold Hd;omega
      clear HST;generalize Zao kind (Ms.take k) field=R0 at*;have HSZ:=Zab hsz;go_wp2;generalize hW2:wr.alloc _=W2;have HB2:Hd (Zw_ w W2):=by rw [<- hW2];exact HB.o.alloc HB.o.size _
      have HO2:Hd (Zdw w.heap.size W2 (.slice ra R0.length rcap) R0):=by rw [<- hW2];exact HO.o.below (Zb_.alloc Zl_ _)
      clear hW2 HB HO c0 c1 c2 c3 c4 c5 hk1 hf1;have hx0:=fun W=>Zl9 W Ms[k].wh Ms[k].fr
      have hx1:=fun W=>ZnO W Ms[k].wh Ms[k].fr
      go_loopw [7,33] (fun r i wr=>∃ j:Nat,j<=2/\i=.int .i64 j/\Zw_ w wr/\Zdw w.heap.size wr r (R0 ++ rdP Ms[k] j)) (fun _ i _=>2 - (intOf i).toNat)
      case atStart=>exact⟨0,by omega,rfl,HB2.o,by unfold rdP;simpa using HO2.o⟩
      case round=>
       obtain⟨j,hj2,rfl,hbj,hoj⟩:=hrel;have HBj:=Zab hbj;have HOj:=Zab hoj
       have HLj:Hd ((R0 ++ rdP Ms[k] j).length<=2097154):=by
        have:=Zrr Ms[k] j;have:=HRL.o;unfold Hd;rw [List.length_append];omega
       obtain⟨ja,jcap,rfl⟩:=hoj.form;clear hbj hoj HB2 HO2
       by_cases hj0:j=0
       . subst hj0
         cases hwe:Ms[k].wh.toList.isEmpty with
         | true=>
          go_wp2;go_roundw
          . exact⟨1,by omega,rfl,HBj.o,ZhJ HOj.o (by unfold rdP;simp [hwe])⟩
          . simp [intOf]
         | false=>
          generalize hR1:R0 ++ rdP Ms[k] 0=R1 at*;go_wp2_with (at_builtin;refine wpList_append_lies _ rfl (.tmp 38) (.tmp 40) 107 rfl w.heap.size 9 i0 (.string ⟨#[]⟩) 1 16 underlying107 HI.o.1 HI.o.2.1 HI.o.2.2.1 HI.o.2.2.2 rfl (by decide) _ _ _ rfl (HOj.o.below (Zb_.alloc Zl_ _)).row ⟨wr.heap.size,0,none⟩ 1 1 [.string Ms[k].wh] rfl rfl (Ze1 _ _ _ _ rfl) (ZdG _) (by decide) (by have:=HLj.o;unfold maxLen;omega) (by have:=HLj.o;omega) (by have:=HBj.o.size;simp;omega) _ rfl ?_;intro g cap1 w3 hown3 hgrow3 hat3 hlt3);go_roundw
          . exact⟨1,by omega,rfl,(HBj.o.alloc HBj.o.size _).trans ((HOj.o.below (Zb_.alloc Zl_ _)).grown hgrow3 (by have:=HBj.o.size;simp;omega)),ZhJ (HOj.o.snoc hown3 HSZ.o.s2) (by rw [<- hR1];unfold rdP ZiB;simp [hwe])⟩
          . simp [intOf]
       . by_cases hj1:j=1
         . subst hj1
           cases hfe:Ms[k].fr.toList.isEmpty with
           | true=>
            go_wp2;go_roundw
            . exact⟨2,by omega,rfl,HBj.o,ZhJ HOj.o (by unfold rdP ZiB;simp [hfe])⟩
            . simp [intOf]
           | false=>
            generalize hR1:R0 ++ rdP Ms[k] 1=R1 at*;go_wp2_with (at_builtin;refine wpList_append_lies _ rfl (.tmp 38) (.tmp 40) 107 rfl w.heap.size 9 i0 (.string ⟨#[]⟩) 1 16 underlying107 HI.o.1 HI.o.2.1 HI.o.2.2.1 HI.o.2.2.2 rfl (by decide) _ _ _ rfl (HOj.o.below (Zb_.alloc Zl_ _)).row ⟨wr.heap.size,0,none⟩ 1 1 [.string Ms[k].fr] rfl rfl (Ze1 _ _ _ _ rfl) (ZdG _) (by decide) (by have:=HLj.o;unfold maxLen;omega) (by have:=HLj.o;omega) (by have:=HBj.o.size;simp;omega) _ rfl ?_;intro g cap1 w3 hown3 hgrow3 hat3 hlt3);go_roundw
            . exact⟨2,by omega,rfl,(HBj.o.alloc HBj.o.size _).trans ((HOj.o.below (Zb_.alloc Zl_ _)).grown hgrow3 (by have:=HBj.o.size;simp;omega)),ZhJ (HOj.o.snoc hown3 HSZ.o.s5) (by rw [<- hR1];unfold rdP ZiB;simp [hfe])⟩
            . simp [intOf]
         . have e:j=2:=by omega
           subst e;go_wp2;exact⟨⟨k+1,by go_num,by omega,HBj.o,ZhJ HOj.o (by rw [HF.o];rfl)⟩,by simp [intOf];omega⟩
  . have e:k=Ms.length:=by omega
    subst e;have HE:Hd (Zao kind (Ms.take Ms.length) field=Zao kind Ms field):=by unfold Hd;rw [List.take_length]
    go_wp2;go_ret;exact⟨_,rfl,HB.o,ZhJ HO.o HE.o⟩
theorem ZkJ (lo:Nat) (mv:Value) (Ms:List Md) (kind name:Zy_) (B1 B2:Nat) (w:World) (h1:w.cell? ⟨B1,0,none⟩=some (.string kind)) (h2:w.cell? ⟨B2,0,none⟩=some mv) (hv:ZbY lo w mv Ms) (hn:Ms.length<=1048576) :
 Calls prog 237 #[.string name,.pointer (some ⟨B1,0,none⟩),.pointer (some ⟨B2,0,none⟩)] w fun e w'=>∃ v',e=.returned v'/\Zw_ w w'/\Zdw w.heap.size w' v' (Zao kind Ms name):=by
 have HV:=Zab hv;obtain⟨a,cap,rfl⟩:=hv.form;clear hv;go_enter func237,ntmps237;go_wp2_with fail;refine (ZkH lo _ Ms kind name _ HV.o hn).mono ?_;rintro e w1 ⟨v1,rfl,hb1,ho1⟩;have HB1:=Zab hb1;have HO1:=Zab ho1;clear hb1 ho1;go_wp2;go_ret;exact⟨_,rfl,HB1.o,HO1.o⟩
end Go.Proofs.YtbdhbihhgfpnnaaGreat
