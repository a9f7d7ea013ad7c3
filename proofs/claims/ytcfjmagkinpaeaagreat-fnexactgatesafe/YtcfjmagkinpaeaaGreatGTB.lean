import Derived.Test.YtcfjmagkinpaeaaGreatGTA
set_option maxHeartbeats 16000000
set_option maxRecDepth 100000
open Go.Proofs.Tryz
namespace Go.Proofs.YtcfjmagkinpaeaaGreat
open Go.RowKit Go.Deep
theorem ZcZ (lo:Nat) (v:Value) (Ts:List Tm) (s:Zy_) (w:World) (hv:Zbd lo w v Ts) :
 Calls prog 127 #[v,.string s] w fun e w'=>e=.returned (.string (ovB Ts s))∧w'=w:=by
 by_cases hL:Ts=[]
 · subst hL
   obtain⟨a,cap,rfl⟩:=hv.form;clear hv;go_enter func127,ntmps127;go_wp2
   go_loop [5] (fun i=>i=.int .i64 0) (fun _=>0)
   case atStart=>rfl
   case round=>
    subst hrel;go_wp2;go_ret;exact⟨rfl,rfl⟩
 · obtain⟨b,off,cap,rfl,hm,hbw,_,hc⟩:=hv.full hL
   clear hv;unfold maxLen at hm;go_enter func127,ntmps127;go_wp2
   go_loop [5] (fun i=>∃ k:Nat,i=.int .i64 k∧k≤Ts.length∧∀ j (hj:j < Ts.length),j < k→(Ts[j].nm.toList == s.toList)=false) (fun i=>Ts.length - (intOf i).toNat)
   case atStart=>exact⟨0,rfl,by omega,fun j _ h=>by omega⟩
   case round=>
    obtain⟨k,rfl,hk,hall⟩:=hrel;have HA:=Zab hall;clear hall
    by_cases hlt:k < Ts.length
    · obtain⟨_,hcell⟩:=hc k hlt
      obtain⟨c0,c1⟩:=hcell
      cases he:(Ts[k].nm.toList == s.toList) with
      | true=>
       go_wp2;go_ret;exact⟨ZiF (ZsK hlt he HA.out).symm,rfl⟩
      | false=>
       go_wp2
       go_round
       case rel=>exact⟨k+1,by go_num,by omega,fun j hj h=>by
                  by_cases e:j=k
                  · subst e;exact he
                  · exact HA.out j hj (by omega)⟩
       case measure=>simp [intOf];omega
    · go_wp2
      go_ret;exact⟨ZiF (ZqR fun j hj=>HA.out j hj (by omega)).symm,rfl⟩
theorem ZaG (lo:Nat) (v:Value) (Ts:List Tm) (s:Zy_) (w:World) (hv:Zbd lo w v Ts) :
 Calls prog 101 #[v,.string s] w fun e w'=>e=.returned (.bool (ZeL Ts s))∧w'=w:=by
 by_cases hL:Ts=[]
 · subst hL
   obtain⟨a,cap,rfl⟩:=hv.form;clear hv;go_enter func101,ntmps101;go_wp2
   go_loop [5] (fun i=>i=.int .i64 0) (fun _=>0)
   case atStart=>rfl
   case round=>
    subst hrel;go_wp2;go_ret;exact⟨rfl,rfl⟩
 · obtain⟨b,off,cap,rfl,hm,hbw,_,hc⟩:=hv.full hL
   clear hv;unfold maxLen at hm;go_enter func101,ntmps101;go_wp2
   go_loop [5] (fun i=>∃ k:Nat,i=.int .i64 k∧k≤Ts.length∧∀ j (hj:j < Ts.length),j < k→(Ts[j].nm.toList == s.toList)=false) (fun i=>Ts.length - (intOf i).toNat)
   case atStart=>exact⟨0,rfl,by omega,fun j _ h=>by omega⟩
   case round=>
    obtain⟨k,rfl,hk,hall⟩:=hrel;have HA:=Zab hall;clear hall
    by_cases hlt:k < Ts.length
    · obtain⟨_,hcell⟩:=hc k hlt
      obtain⟨c0,c1⟩:=hcell
      cases he:(Ts[k].nm.toList == s.toList) with
      | true=>
       go_wp2;go_ret;exact⟨Zaa (Zjd hlt he).symm,rfl⟩
      | false=>
       go_wp2
       go_round
       case rel=>exact⟨k+1,by go_num,by omega,fun j hj h=>by
                  by_cases e:j=k
                  · subst e;exact he
                  · exact HA.out j hj (by omega)⟩
       case measure=>simp [intOf];omega
    · go_wp2
      go_ret;exact⟨Zaa (Znw fun j hj=>HA.out j hj (by omega)).symm,rfl⟩
theorem ZbQ (lo:Nat) (v:Value) (Ts:List Tm) (a b:Zy_) (w:World) (hv:Zbd lo w v Ts) :
 Calls prog 78 #[v,.string a,.string b] w fun e w'=>e=.returned (.bool (ZaA Ts a b))∧Zw_ w w':=by
 have HV:=Zab hv;obtain⟨ta,tcap,rfl⟩:=hv.form;clear hv
 cases hab:(a.toList == b.toList) with
 | true=>
  go_enter func78,ntmps78;go_wp2;go_ret;exact⟨Zaa (by simp [ZaA,hab]),Below.refl _ _⟩
 | false=>
  have HU:Hid (ZaA Ts a b=ZcM Ts b 4 a):=by unfold Hid ZaA;rw [hab];rfl
  go_enter func78,ntmps78;go_wp2;clear hab
  go_loopw [1,7] (fun x n wr=>∃ (k:Nat) (a':Zy_),x=.string a'∧n=.int .i64 k∧k≤4∧ZaA Ts a b=ZcM Ts b (4 - k) a'∧Zw_ w wr) (fun _ n _=>4 - (intOf n).toNat)
  case atStart=>exact⟨0,a,rfl,rfl,by omega,HU.out,Below.refl _ _⟩
  case round=>
   obtain⟨k,a',rfl,rfl,hk,hu,hb⟩:=hrel;have HU:=Zab hu;have HB:=Zab hb;clear hu hb
   by_cases hlt:k < 4
   · have HS:Hid (ZaA Ts a b=if (ovB Ts a').toList.isEmpty then false else if (ovB Ts a').toList == b.toList then true else ZcM Ts b (4 - (k+1)) (ovB Ts a')):=by
      unfold Hid;rw [HU.out,show 4 - k=(4 - (k+1))+1 from by omega]
      rfl
     clear HU;go_wp2_with fail;refine (ZcZ lo _ Ts a' _ (HV.out.below HB.out)).mono ?_;rintro e w1 ⟨rfl,rfl⟩;have HB1:Hid (Zw_ w w1):=HB.out;clear HB
     cases he:(ovB Ts a').toList.isEmpty with
     | true=>
      have HR:Hid (ZaA Ts a b=false):=by unfold Hid;rw [HS.out,if_pos he]
      go_wp2;go_ret;exact⟨Zaa HR.out.symm,HB1.out⟩
     | false=>
      cases he2:((ovB Ts a').toList == b.toList) with
      | true=>
       have HR:Hid (ZaA Ts a b=true):=by unfold Hid;rw [HS.out,if_neg (by simp [he]),if_pos he2]
       go_wp2;go_ret;exact⟨Zaa HR.out.symm,HB1.out⟩
      | false=>
       have HR:Hid (ZaA Ts a b=ZcM Ts b (4 - (k+1)) (ovB Ts a')):=by unfold Hid;rw [HS.out,if_neg (by simp [he]),if_neg (by simp [he2])]
       go_wp2;go_roundw
       case rel=>exact⟨k+1,_,rfl,by go_num,by omega,HR.out,HB1.out⟩
       case measure=>simp [intOf];omega
   · have HR:Hid (ZaA Ts a b=false):=by unfold Hid;rw [HU.out,show 4 - k=0 from by omega];rfl
     go_wp2;go_ret;exact⟨Zaa HR.out.symm,HB.out⟩
section
variable (nm ov:Zy_) (w:World)
theorem Zne (s:Zy_) (B:Nat) (hB:B < w.heap.size) (hs:w.cell? ⟨B,0,none⟩=some (.string s)) :
 Calls prog 175 #[.agg #[.string nm,.string ov],.pointer (some ⟨B,0,none⟩)] w
  fun e w'=>e=.returned (.bool (nm.toList == s.toList))∧Zw_ w w':=by
 go_enter func175,ntmps175;go_wp2;go_ret;exact⟨rfl,Zb_.alloc Zl_ _⟩
end
theorem Zhh (lo:Nat) (v:Value) (Ts:List Tm) (s:Zy_) (B:Nat) (w:World) (hv:Zbd lo w v Ts) (hB:B < w.heap.size) (hs:w.cell? ⟨B,0,none⟩=some (.string s)) :
 Calls prog 174 #[v,.func (.func 175) #[] #[.pointer (some ⟨B,0,none⟩)]] w fun e w'=>e=.returned (.int .i64 (Zc9 Ts s))∧Zw_ w w':=by
 by_cases hL:Ts=[]
 · subst hL
   obtain⟨a,cap,rfl⟩:=hv.form;clear hv;go_enter func174,ntmps174;go_wp2
   go_loop [8] (fun i=>i=.int .i64 0) (fun _=>0)
   case atStart=>rfl
   case round=>
    subst hrel;go_wp2;go_ret;exact⟨rfl,Below.refl _ _⟩
 · obtain⟨b,off,cap,rfl,hm,hbw,_,hc⟩:=hv.full hL
   clear hv;unfold maxLen at hm;go_enter func174,ntmps174;go_wp2
   go_loopw [8] (fun i wr=>∃ k:Nat,i=.int .i64 k∧k≤Ts.length∧Zw_ w wr∧∀ j (hj:j < Ts.length),j < k→(Ts[j].nm.toList == s.toList)=false) (fun i _=>Ts.length - (intOf i).toNat)
   case atStart=>exact⟨0,rfl,by omega,Below.refl _ _,fun j _ h=>by omega⟩
   case round=>
    obtain⟨k,rfl,hk,hb,hall⟩:=hrel;have HA:=Zab hall;have HB:=Zab hb;clear hall hb
    by_cases hlt:k < Ts.length
    · obtain⟨_,hcell⟩:=hc k hlt
      obtain⟨c0,c1⟩:=hcell.below HB.out hbw;clear hcell;go_wp2_with fail;refine (Zne _ _ _ s B (Zk_ hB HB.out.size) (by rw [HB.out.cell (p:=⟨B,0,none⟩) hB];exact hs)).mono ?_;rintro e w1 ⟨rfl,hb1⟩;have HB1:Hid (Zw_ w w1):=HB.out.trans (hb1.mono HB.out.size);clear hb1 c0 c1
      cases he:(Ts[k].nm.toList == s.toList) with
      | true=>
       go_wp2;go_ret;exact⟨by rw [Zmh hlt he HA.out];rfl,HB1.out⟩
      | false=>
       go_wp2;go_roundw
       case rel=>exact⟨k+1,by go_num,by omega,HB1.out,fun j hj h=>by
                  by_cases e:j=k
                  · subst e;exact he
                  · exact HA.out j hj (by omega)⟩
       case measure=>simp [intOf];omega
    · go_wp2
      go_ret;exact⟨by rw [ZnU fun j hj=>HA.out j hj (by omega)];rfl,HB.out⟩
theorem ZbR (lo:Nat) (v:Value) (Ts:List Tm) (s:Zy_) (w:World) (hv:Zbd lo w v Ts) :
 Calls prog 119 #[v,.string s] w fun e w'=>e=.returned (.int .i64 (Zc9 Ts s))∧Zw_ w w':=by
 have HV:=Zab hv;obtain⟨a,cap,rfl⟩:=hv.form;clear hv;have HW:∀ o,Hid (Zw_ w (w.alloc o)):=fun o=>Zac _ _
 go_enter func119,ntmps119;go_wp2_with fail;refine (Zhh lo _ Ts s _ _ (HV.out.below (HW _).out) (by simp) (by simp)).mono ?_;rintro e w1 ⟨rfl,hb⟩;have HB:Hid (Zw_ w w1):=(HW _).out.trans (hb.mono (by simp));clear hb;go_wp2;go_ret;exact⟨rfl,HB.out⟩
theorem ZhK (lo:Nat) (v:Value) (Ts:List Tm) (s:Zy_) (w:World) (hv:Zbd lo w v Ts) :
 Calls prog 176 #[v,.string s] w fun e w'=>e=.returned (.string (ovB Ts s))∧Zw_ w w':=by
 have HV:=Zab hv;obtain⟨a,cap,rfl⟩:=hv.form;clear hv;go_enter func176,ntmps176;go_wp2_with fail;refine (ZbR lo _ Ts s _ HV.out).mono ?_;rintro e w1 ⟨rfl,hb⟩;have HB:=Zab hb;clear hb
 by_cases hp:plT Ts s < Ts.length
 · rw [ZgQ hp]
   have hmx:=HV.out.max;obtain⟨b,off,rfl,hbw,hc⟩:=HV.out.full' (by omega);obtain⟨_,hcell⟩:=hc _ hp;obtain⟨c0,c1⟩:=hcell.below HB.out hbw;have HO:=Zab (ZsL hp);unfold maxLen at hmx;clear hc hcell;generalize plT Ts s=p at*;go_wp2;go_ret;exact⟨ZiF HO.out.symm,HB.out⟩
 · rw [ZgP hp]
   have HO:=Zab (ZqQ hp);go_wp2;go_ret;exact⟨ZiF HO.out.symm,HB.out⟩
theorem ZdP (lo:Nat) (v:Value) (Ts:List Tm) (a b:Zy_) (w:World) (hv:Zbd lo w v Ts) :
 Calls prog 193 #[v,.string a,.string b] w fun e w'=>e=.returned (.bool (ZaA Ts a b))∧Zw_ w w':=by
 have HV:=Zab hv;obtain⟨ta,tcap,rfl⟩:=hv.form;clear hv
 cases hab:(a.toList == b.toList) with
 | true=>
  go_enter func193,ntmps193;go_wp2;go_ret;exact⟨Zaa (by simp [ZaA,hab]),Below.refl _ _⟩
 | false=>
  have HU:Hid (ZaA Ts a b=ZcM Ts b 4 a):=by unfold Hid ZaA;rw [hab];rfl
  go_enter func193,ntmps193;go_wp2;clear hab
  go_loopw [1,10] (fun x n wr=>∃ (k:Nat) (a':Zy_),x=.string a'∧n=.int .i64 k∧k≤4∧ZaA Ts a b=ZcM Ts b (4 - k) a'∧Zw_ w wr) (fun _ n _=>4 - (intOf n).toNat)
  case atStart=>exact⟨0,a,rfl,rfl,by omega,HU.out,Below.refl _ _⟩
  case round=>
   obtain⟨k,a',rfl,rfl,hk,hu,hb⟩:=hrel;have HU:=Zab hu;have HB:=Zab hb;clear hu hb
   by_cases hlt:k < 4
   · have HS:Hid (ZaA Ts a b=if (ovB Ts a').toList.isEmpty then false else if (ovB Ts a').toList == b.toList then true else ZcM Ts b (4 - (k+1)) (ovB Ts a')):=by
      unfold Hid;rw [HU.out,show 4 - k=(4 - (k+1))+1 from by omega]
      rfl
     clear HU;go_wp2_with fail;refine (ZhK lo _ Ts a' _ (HV.out.below HB.out)).mono ?_;rintro e w1 ⟨rfl,hb1⟩;have HB1:Hid (Zw_ w w1):=HB.out.trans (hb1.mono HB.out.size);clear hb1;clear HB
     cases he:(ovB Ts a').toList.isEmpty with
     | true=>
      have HR:Hid (ZaA Ts a b=false):=by unfold Hid;rw [HS.out,if_pos he]
      go_wp2;go_ret;exact⟨Zaa HR.out.symm,HB1.out⟩
     | false=>
      cases he2:((ovB Ts a').toList == b.toList) with
      | true=>
       have HR:Hid (ZaA Ts a b=true):=by unfold Hid;rw [HS.out,if_neg (by simp [he]),if_pos he2]
       go_wp2;go_ret;exact⟨Zaa HR.out.symm,HB1.out⟩
      | false=>
       have HR:Hid (ZaA Ts a b=ZcM Ts b (4 - (k+1)) (ovB Ts a')):=by unfold Hid;rw [HS.out,if_neg (by simp [he]),if_neg (by simp [he2])]
       go_wp2;go_roundw
       case rel=>exact⟨k+1,_,rfl,by go_num,by omega,HR.out,HB1.out⟩
       case measure=>simp [intOf];omega
   · have HR:Hid (ZaA Ts a b=false):=by unfold Hid;rw [HU.out,show 4 - k=0 from by omega];rfl
     go_wp2;go_ret;exact⟨Zaa HR.out.symm,HB.out⟩
theorem ZdW (lo:Nat) (v:Value) (Ts:List Tm) (a:Zy_) (w:World) (hv:Zbd lo w v Ts) :
 Calls prog 120 #[v,.string a] w fun e w'=>e=.returned (.bool (ZaZ Ts 5 a))∧Zw_ w w':=by
 have HV:=Zab hv;obtain⟨ta,tcap,rfl⟩:=hv.form;clear hv;go_enter func120,ntmps120;go_wp2
 go_loopw [1,5] (fun x n wr=>∃ (k:Nat) (a':Zy_),x=.string a'∧n=.int .i64 k∧k≤5∧ZaZ Ts 5 a=ZaZ Ts (5 - k) a'∧Zw_ w wr) (fun _ n _=>5 - (intOf n).toNat)
 case atStart=>exact⟨0,a,rfl,rfl,by omega,rfl,Below.refl _ _⟩
 case round=>
  obtain⟨k,a',rfl,rfl,hk,hu,hb⟩:=hrel;have HU:=Zab hu;have HB:=Zab hb;clear hu hb
  by_cases hlt:k < 5
  · have HS:Hid (ZaZ Ts 5 a=if (ovB Ts a').toList.isEmpty then false else ZaZ Ts (5 - (k+1)) (ovB Ts a')):=by
     unfold Hid;rw [HU.out,show 5 - k=(5 - (k+1))+1 from by omega]
     rfl
    clear HU;go_wp2_with fail;refine (ZhK lo _ Ts a' _ (HV.out.below HB.out)).mono ?_;rintro e w1 ⟨rfl,hb1⟩;have HB1:Hid (Zw_ w w1):=HB.out.trans (hb1.mono HB.out.size);clear hb1 HB
    cases he:(ovB Ts a').toList.isEmpty with
    | true=>
     have HR:Hid (ZaZ Ts 5 a=false):=by unfold Hid;rw [HS.out,if_pos he]
     go_wp2;go_ret;exact⟨Zaa HR.out.symm,HB1.out⟩
    | false=>
     have HR:Hid (ZaZ Ts 5 a=ZaZ Ts (5 - (k+1)) (ovB Ts a')):=by unfold Hid;rw [HS.out,if_neg (by simp [he])]
     go_wp2;go_roundw
     case rel=>exact⟨k+1,_,rfl,by go_num,by omega,HR.out,HB1.out⟩
     case measure=>simp [intOf];omega
  · have HR:Hid (ZaZ Ts 5 a=true):=by unfold Hid;rw [HU.out,show 5 - k=0 from by omega];rfl
    go_wp2;go_ret;exact⟨Zaa HR.out.symm,HB.out⟩
theorem ZiM (lo:Nat) (v:Value) (Ts:List Tm) (w:World) (hv:Zbd lo w v Ts) :
 Calls prog 99 #[v] w fun e w'=>e=.returned (.bool (Za4 Ts))∧Zw_ w w':=by
 by_cases h12:¬ Ts.length≤12
 · have HR:=Zab (ZjG h12)
   have hmx:=hv.max;unfold maxLen at hmx;obtain⟨a,cap,rfl⟩:=hv.form;go_enter func99,ntmps99;go_wp2;go_ret;exact⟨Zaa HR.out.symm,Below.refl _ _⟩
 replace h12:Ts.length≤12:=by omega
 by_cases hL:Ts=[]
 · subst hL
   obtain⟨a,cap,rfl⟩:=hv.form;clear hv;go_enter func99,ntmps99;go_wp2
   go_loop [3] (fun i=>i=.int .i64 0) (fun _=>0)
   case atStart=>rfl
   case round=>
    subst hrel;go_wp2;go_ret;exact⟨Zaa (by rfl),Below.refl _ _⟩
 · have HV:=Zab hv
   obtain⟨b,off,cap,rfl,hm,hbw,_,hc⟩:=hv.full hL;clear hv hm;have H12:=Zab h12;have h12i:decide ((12:Int) < (Ts.length:Int))=false:=by simp;omega
   go_enter func99,ntmps99;go_wp2
   go_loopw [3] (fun i wr=>∃ k:Nat,i=.int .i64 k∧k≤Ts.length∧Zw_ w wr∧∀ i,i < k→Zdd Ts i=true) (fun i _=>Ts.length - (intOf i).toNat)
   case atStart=>exact⟨0,rfl,by omega,Below.refl _ _,fun i h=>by omega⟩
   case round=>
    obtain⟨k,rfl,hk,hb,hall⟩:=hrel;have HA:=Zab hall;have HB:=Zab hb;clear hall hb
    by_cases hlt:k < Ts.length
    · obtain⟨hsz,hcell⟩:=hc k hlt
      have HSZ:=Zab hsz;obtain⟨c0,c1⟩:=hcell.below HB.out hbw;clear hcell hsz;have HFr:∀ o n,Hid (Zbd lo ((wr.alloc o).drewN n) (.slice (some ⟨b,off,none⟩) Ts.length cap) Ts):=fun o n=>HV.out.below (below_drewN (HB.out.alloc HB.out.size _) _)
      cases hn:Zaj Ts[k].nm with
      | false=>
       go_wp2
       go_quiet (first|(go_at_call 58;exact (Zad _ _ HSZ.out.s0).mono fun _ _ h=>⟨h.1,_,h.2⟩)|(go_at_call 101;exact (ZaG lo _ Ts _ _ (HFr _ _).out).mono fun _ _ h=>⟨h.1,_,h.2⟩))
       go_wp2;go_ret;exact⟨Zaa (Zbo hlt (by rw [Zax hlt];simp [hn])).symm,below_drewN (HB.out.alloc HB.out.size _) _⟩
      | true=>
       cases k with
       | zero=>
        have c0:wr.cell? ⟨b,off,none⟩=some (.string Ts[0].nm):=by simpa using c0
        have c1:wr.cell? ⟨b,off+1,none⟩=some (.string Ts[0].ov):=by simpa using c1
        cases hoe:Ts[0].ov.toList.isEmpty with
        | true=>
         have HOK:Hid (ZaZ Ts 5 Ts[0].nm=false→∀ i,i < 0+1→Zdd Ts i=true):=fun h i hi=>by
          by_cases e:i=0
          · subst e;rw [Zax hlt,h];simp [hn,hoe]
          · exact HA.out i (by omega)
         have HNO:Hid (ZaZ Ts 5 Ts[0].nm=true→Za4 Ts=false):=fun h=>Zbo hlt (by rw [Zax hlt,h];simp)
         have HNE:Hid (Ts[0].nm.toList.isEmpty=false):=ZcQ (by
          have:=hn;unfold Zaj at this;rw [Bool.and_eq_true,ZeN] at this;have:=this.1;simp at this
          omega)
         go_wp2
         go_quiet (first|(go_at_call 58;exact (Zad _ _ HSZ.out.s0).mono fun _ _ h=>⟨h.1,_,h.2⟩)|(go_at_call 101;exact (ZaG lo _ Ts _ _ (HFr _ _).out).mono fun _ _ h=>⟨h.1,_,h.2⟩))
         try simp only [hn]
         try simp only [hoe]
         go_wp2
         go_loop [5,6] (fun x n=>∃ (q:Nat) (a':Zy_),x=.string a'∧n=.int .i64 q∧q≤5∧((a'.toList.isEmpty=true∧ZaZ Ts 5 Ts[0].nm=false)∨(a'.toList.isEmpty=false∧ZaZ Ts 5 Ts[0].nm=ZaZ Ts (5 - q) a'))) (fun _ n=>5 - (intOf n).toNat)
         case atStart=>exact⟨0,_,rfl,rfl,by omega,Or.inr ⟨HNE.out,rfl⟩⟩
         case round=>
          obtain⟨q,a',rfl,rfl,hq,hqq⟩:=hrel
          rcases hqq with ⟨hae,hd⟩ | ⟨hae,hd⟩
          · have HD:=Zab hd
            clear hd
            by_cases h5:q≤4
            all_goals
             go_wp2;go_roundw
             case rel=>first | exact⟨0+1,by go_num,by omega,below_drewN (HB.out.alloc HB.out.size _) _,HOK.out HD.out⟩|((repeat apply Exists.intro);exact⟨⟨0+1,by go_num,by omega,below_drewN (HB.out.alloc HB.out.size _) _,HOK.out HD.out⟩,rfl⟩)
             case measure=>simp [intOf];omega
          · have HD:=Zab hd
            clear hd
            by_cases h5:q≤4
            · have HS:Hid (ZaZ Ts 5 Ts[0].nm=if (ovB Ts a').toList.isEmpty then false else ZaZ Ts (5 - (q+1)) (ovB Ts a')):=by
               unfold Hid;rw [HD.out,show 5 - q=(5 - (q+1))+1 from by omega]
               rfl
              clear HD;go_wp2_with fail;refine (ZcZ lo _ Ts a' _ (HFr _ _).out).mono ?_;rintro e w1 ⟨rfl,rfl⟩;go_wp2
              go_round
              case rel=>
               have hnx:((ovB Ts a').toList.isEmpty=true∧ZaZ Ts 5 Ts[0].nm=false)∨((ovB Ts a').toList.isEmpty=false∧ZaZ Ts 5 Ts[0].nm=ZaZ Ts (5 - (q+1)) (ovB Ts a')):=by
                cases he:(ovB Ts a').toList.isEmpty with
                | true=>exact Or.inl ⟨rfl,by rw [HS.out,if_pos he]⟩
                | false=>exact Or.inr ⟨rfl,by rw [HS.out,if_neg (by simp [he])]⟩
               first
                | exact⟨q+1,_,rfl,by go_num,by omega,hnx⟩
                | (refine⟨trivial,?_⟩
                   (repeat apply Exists.intro)
                   exact⟨⟨q+1,_,rfl,by go_num,by omega,hnx⟩,rfl⟩)
                | ((repeat apply Exists.intro)
                   exact⟨⟨q+1,_,rfl,by go_num,by omega,hnx⟩,rfl⟩)
              case measure=>simp [intOf];omega
            · have HR:Hid (Za4 Ts=false):=HNO.out (by rw [HD.out,show 5 - q=0 from by omega];rfl)
              go_wp2;go_ret;exact⟨Zaa HR.out.symm,below_drewN (HB.out.alloc HB.out.size _) _⟩
        | false=>
         cases hht:ZeL Ts Ts[0].ov with
         | false=>
          go_wp2
          go_quiet (first|(go_at_call 58;exact (Zad _ _ HSZ.out.s0).mono fun _ _ h=>⟨h.1,_,h.2⟩)|(go_at_call 101;exact (ZaG lo _ Ts _ _ (HFr _ _).out).mono fun _ _ h=>⟨h.1,_,h.2⟩))
          go_wp2;go_ret;exact⟨Zaa (Zbo hlt (by rw [Zax hlt];simp [hoe,hht])).symm,below_drewN (HB.out.alloc HB.out.size _) _⟩
         | true=>
          have HOK:Hid (ZaZ Ts 5 Ts[0].nm=false→∀ i,i < 0+1→Zdd Ts i=true):=fun h i hi=>by
           by_cases e:i=0
           · subst e;rw [Zax hlt,h];simp [hn,hoe,hht]
           · exact HA.out i (by omega)
          have HNO:Hid (ZaZ Ts 5 Ts[0].nm=true→Za4 Ts=false):=fun h=>Zbo hlt (by rw [Zax hlt,h];simp)
          have HNE:Hid (Ts[0].nm.toList.isEmpty=false):=ZcQ (by
           have:=hn;unfold Zaj at this;rw [Bool.and_eq_true,ZeN] at this;have:=this.1;simp at this
           omega)
          go_wp2
          go_quiet (first|(go_at_call 58;exact (Zad _ _ HSZ.out.s0).mono fun _ _ h=>⟨h.1,_,h.2⟩)|(go_at_call 101;exact (ZaG lo _ Ts _ _ (HFr _ _).out).mono fun _ _ h=>⟨h.1,_,h.2⟩))
          try simp only [hn]
          try simp only [hoe]
          try simp only [hht]
          go_wp2
          go_loop [5,6] (fun x n=>∃ (q:Nat) (a':Zy_),x=.string a'∧n=.int .i64 q∧q≤5∧((a'.toList.isEmpty=true∧ZaZ Ts 5 Ts[0].nm=false)∨(a'.toList.isEmpty=false∧ZaZ Ts 5 Ts[0].nm=ZaZ Ts (5 - q) a'))) (fun _ n=>5 - (intOf n).toNat)
          case atStart=>exact⟨0,_,rfl,rfl,by omega,Or.inr ⟨HNE.out,rfl⟩⟩
          case round=>
           obtain⟨q,a',rfl,rfl,hq,hqq⟩:=hrel
           rcases hqq with ⟨hae,hd⟩ | ⟨hae,hd⟩
           · have HD:=Zab hd
             clear hd
             by_cases h5:q≤4
             all_goals
              go_wp2;go_roundw
              case rel=>first | exact⟨0+1,by go_num,by omega,below_drewN (HB.out.alloc HB.out.size _) _,HOK.out HD.out⟩|((repeat apply Exists.intro);exact⟨⟨0+1,by go_num,by omega,below_drewN (HB.out.alloc HB.out.size _) _,HOK.out HD.out⟩,rfl⟩)
              case measure=>simp [intOf];omega
           · have HD:=Zab hd
             clear hd
             by_cases h5:q≤4
             · have HS:Hid (ZaZ Ts 5 Ts[0].nm=if (ovB Ts a').toList.isEmpty then false else ZaZ Ts (5 - (q+1)) (ovB Ts a')):=by
                unfold Hid;rw [HD.out,show 5 - q=(5 - (q+1))+1 from by omega]
                rfl
               clear HD;go_wp2_with fail;refine (ZcZ lo _ Ts a' _ (HFr _ _).out).mono ?_;rintro e w1 ⟨rfl,rfl⟩;go_wp2
               go_round
               case rel=>
                have hnx:((ovB Ts a').toList.isEmpty=true∧ZaZ Ts 5 Ts[0].nm=false)∨((ovB Ts a').toList.isEmpty=false∧ZaZ Ts 5 Ts[0].nm=ZaZ Ts (5 - (q+1)) (ovB Ts a')):=by
                 cases he:(ovB Ts a').toList.isEmpty with
                 | true=>exact Or.inl ⟨rfl,by rw [HS.out,if_pos he]⟩
                 | false=>exact Or.inr ⟨rfl,by rw [HS.out,if_neg (by simp [he])]⟩
                first
                 | exact⟨q+1,_,rfl,by go_num,by omega,hnx⟩
                 | (refine⟨trivial,?_⟩
                    (repeat apply Exists.intro)
                    exact⟨⟨q+1,_,rfl,by go_num,by omega,hnx⟩,rfl⟩)
                 | ((repeat apply Exists.intro)
                    exact⟨⟨q+1,_,rfl,by go_num,by omega,hnx⟩,rfl⟩)
               case measure=>simp [intOf];omega
             · have HR:Hid (Za4 Ts=false):=HNO.out (by rw [HD.out,show 5 - q=0 from by omega];rfl)
               go_wp2;go_ret;exact⟨Zaa HR.out.symm,below_drewN (HB.out.alloc HB.out.size _) _⟩
       | succ j=>
        have HBE:Hid (((Ts[j+1 - 1]?.map Tm.nm).getD ⟨#[]⟩)=Ts[j].nm):=ZiW hlt;have hcj:wr.cell? ⟨b,off+j*2,none⟩=some (.string Ts[j].nm):=by rw [HB.out.cell (p:=⟨b,_,none⟩) hbw];exact (hc j (by omega)).2.c0
        have hjw:IntKind.i64.wrap (j:Int)=j:=by rw [IntKind.wrap_i64];omega
        have hjl:j < Ts.length:=by omega
        have hdl:decide ((j:Int)+1 < (Ts.length:Int))=true:=by simp;omega
        have hbo:b < wr.heap.size:=Zk_ hbw HB.out.size
        have cj2:∀ o,(wr.alloc o).cell? ⟨b,off+j*2,none⟩=some (.string Ts[j].nm):=fun o=>by rw [((Below.refl wr.heap.size wr).alloc Zl_ o).cell (p:=⟨b,_,none⟩) hbo];exact hcj
        have cj3:∀ o n,((wr.alloc o).drewN n).cell? ⟨b,off+j*2,none⟩=some (.string Ts[j].nm):=fun o n=>cj2 o
        cases hls:Op.bytesLess Ts[j].nm.toList Ts[j+1].nm.toList with
        | false=>
         go_wp2
         go_quiet (first|(go_at_call 58;exact (Zad _ _ HSZ.out.s0).mono fun _ _ h=>⟨h.1,_,h.2⟩)|(go_at_call 101;exact (ZaG lo _ Ts _ _ (HFr _ _).out).mono fun _ _ h=>⟨h.1,_,h.2⟩))
         go_wp2;go_ret;exact⟨Zaa (Zbo hlt (by rw [Zax hlt];rw [HBE.out,hls];simp)).symm,below_drewN (HB.out.alloc HB.out.size _) _⟩
        | true=>
         cases hoe:Ts[j+1].ov.toList.isEmpty with
         | true=>
          have HOK:Hid (ZaZ Ts 5 Ts[j+1].nm=false→∀ i,i < j+1+1→Zdd Ts i=true):=fun h i hi=>by
           by_cases e:i=j+1
           · subst e;rw [Zax hlt,h];rw [HBE.out,hls];simp [hn,hoe]
           · exact HA.out i (by omega)
          have HNO:Hid (ZaZ Ts 5 Ts[j+1].nm=true→Za4 Ts=false):=fun h=>Zbo hlt (by rw [Zax hlt,h];simp)
          have HNE:Hid (Ts[j+1].nm.toList.isEmpty=false):=ZcQ (by
           have:=hn;unfold Zaj at this;rw [Bool.and_eq_true,ZeN] at this;have:=this.1;simp at this
           omega)
          go_wp2
          go_quiet (first|(go_at_call 58;exact (Zad _ _ HSZ.out.s0).mono fun _ _ h=>⟨h.1,_,h.2⟩)|(go_at_call 101;exact (ZaG lo _ Ts _ _ (HFr _ _).out).mono fun _ _ h=>⟨h.1,_,h.2⟩))
          try simp only [hn]
          try simp only [hoe]
          try simp only [hls]
          go_wp2
          go_loop [5,6] (fun x n=>∃ (q:Nat) (a':Zy_),x=.string a'∧n=.int .i64 q∧q≤5∧((a'.toList.isEmpty=true∧ZaZ Ts 5 Ts[j+1].nm=false)∨(a'.toList.isEmpty=false∧ZaZ Ts 5 Ts[j+1].nm=ZaZ Ts (5 - q) a'))) (fun _ n=>5 - (intOf n).toNat)
          case atStart=>exact⟨0,_,rfl,rfl,by omega,Or.inr ⟨HNE.out,rfl⟩⟩
          case round=>
           obtain⟨q,a',rfl,rfl,hq,hqq⟩:=hrel
           rcases hqq with ⟨hae,hd⟩ | ⟨hae,hd⟩
           · have HD:=Zab hd
             clear hd
             by_cases h5:q≤4
             all_goals
              go_wp2;go_roundw
              case rel=>first | exact⟨j+1+1,by go_num,by omega,below_drewN (HB.out.alloc HB.out.size _) _,HOK.out HD.out⟩|((repeat apply Exists.intro);exact⟨⟨j+1+1,by go_num,by omega,below_drewN (HB.out.alloc HB.out.size _) _,HOK.out HD.out⟩,rfl⟩)
              case measure=>simp [intOf];omega
           · have HD:=Zab hd
             clear hd
             by_cases h5:q≤4
             · have HS:Hid (ZaZ Ts 5 Ts[j+1].nm=if (ovB Ts a').toList.isEmpty then false else ZaZ Ts (5 - (q+1)) (ovB Ts a')):=by
                unfold Hid;rw [HD.out,show 5 - q=(5 - (q+1))+1 from by omega]
                rfl
               clear HD;go_wp2_with fail;refine (ZcZ lo _ Ts a' _ (HFr _ _).out).mono ?_;rintro e w1 ⟨rfl,rfl⟩;go_wp2
               go_round
               case rel=>
                have hnx:((ovB Ts a').toList.isEmpty=true∧ZaZ Ts 5 Ts[j+1].nm=false)∨((ovB Ts a').toList.isEmpty=false∧ZaZ Ts 5 Ts[j+1].nm=ZaZ Ts (5 - (q+1)) (ovB Ts a')):=by
                 cases he:(ovB Ts a').toList.isEmpty with
                 | true=>exact Or.inl ⟨rfl,by rw [HS.out,if_pos he]⟩
                 | false=>exact Or.inr ⟨rfl,by rw [HS.out,if_neg (by simp [he])]⟩
                first
                 | exact⟨q+1,_,rfl,by go_num,by omega,hnx⟩
                 | (refine⟨trivial,?_⟩
                    (repeat apply Exists.intro)
                    exact⟨⟨q+1,_,rfl,by go_num,by omega,hnx⟩,rfl⟩)
                 | ((repeat apply Exists.intro)
                    exact⟨⟨q+1,_,rfl,by go_num,by omega,hnx⟩,rfl⟩)
               case measure=>simp [intOf];omega
             · have HR:Hid (Za4 Ts=false):=HNO.out (by rw [HD.out,show 5 - q=0 from by omega];rfl)
               go_wp2;go_ret;exact⟨Zaa HR.out.symm,below_drewN (HB.out.alloc HB.out.size _) _⟩
         | false=>
          cases hht:ZeL Ts Ts[j+1].ov with
          | false=>
           go_wp2
           go_quiet (first|(go_at_call 58;exact (Zad _ _ HSZ.out.s0).mono fun _ _ h=>⟨h.1,_,h.2⟩)|(go_at_call 101;exact (ZaG lo _ Ts _ _ (HFr _ _).out).mono fun _ _ h=>⟨h.1,_,h.2⟩))
           go_wp2;go_ret;exact⟨Zaa (Zbo hlt (by rw [Zax hlt];simp [hoe,hht])).symm,below_drewN (HB.out.alloc HB.out.size _) _⟩
          | true=>
           have HOK:Hid (ZaZ Ts 5 Ts[j+1].nm=false→∀ i,i < j+1+1→Zdd Ts i=true):=fun h i hi=>by
            by_cases e:i=j+1
            · subst e;rw [Zax hlt,h];rw [HBE.out,hls];simp [hn,hoe,hht]
            · exact HA.out i (by omega)
           have HNO:Hid (ZaZ Ts 5 Ts[j+1].nm=true→Za4 Ts=false):=fun h=>Zbo hlt (by rw [Zax hlt,h];simp)
           have HNE:Hid (Ts[j+1].nm.toList.isEmpty=false):=ZcQ (by
            have:=hn;unfold Zaj at this;rw [Bool.and_eq_true,ZeN] at this;have:=this.1;simp at this
            omega)
           go_wp2
           go_quiet (first|(go_at_call 58;exact (Zad _ _ HSZ.out.s0).mono fun _ _ h=>⟨h.1,_,h.2⟩)|(go_at_call 101;exact (ZaG lo _ Ts _ _ (HFr _ _).out).mono fun _ _ h=>⟨h.1,_,h.2⟩))
           try simp only [hn]
           try simp only [hoe]
           try simp only [hht]
           try simp only [hls]
           go_wp2
           go_loop [5,6] (fun x n=>∃ (q:Nat) (a':Zy_),x=.string a'∧n=.int .i64 q∧q≤5∧((a'.toList.isEmpty=true∧ZaZ Ts 5 Ts[j+1].nm=false)∨(a'.toList.isEmpty=false∧ZaZ Ts 5 Ts[j+1].nm=ZaZ Ts (5 - q) a'))) (fun _ n=>5 - (intOf n).toNat)
           case atStart=>exact⟨0,_,rfl,rfl,by omega,Or.inr ⟨HNE.out,rfl⟩⟩
           case round=>
            obtain⟨q,a',rfl,rfl,hq,hqq⟩:=hrel
            rcases hqq with ⟨hae,hd⟩ | ⟨hae,hd⟩
            · have HD:=Zab hd
              clear hd
              by_cases h5:q≤4
              all_goals
               go_wp2;go_roundw
               case rel=>first | exact⟨j+1+1,by go_num,by omega,below_drewN (HB.out.alloc HB.out.size _) _,HOK.out HD.out⟩|((repeat apply Exists.intro);exact⟨⟨j+1+1,by go_num,by omega,below_drewN (HB.out.alloc HB.out.size _) _,HOK.out HD.out⟩,rfl⟩)
               case measure=>simp [intOf];omega
            · have HD:=Zab hd
              clear hd
              by_cases h5:q≤4
              · have HS:Hid (ZaZ Ts 5 Ts[j+1].nm=if (ovB Ts a').toList.isEmpty then false else ZaZ Ts (5 - (q+1)) (ovB Ts a')):=by
                 unfold Hid;rw [HD.out,show 5 - q=(5 - (q+1))+1 from by omega]
                 rfl
                clear HD;go_wp2_with fail;refine (ZcZ lo _ Ts a' _ (HFr _ _).out).mono ?_;rintro e w1 ⟨rfl,rfl⟩;go_wp2
                go_round
                case rel=>
                 have hnx:((ovB Ts a').toList.isEmpty=true∧ZaZ Ts 5 Ts[j+1].nm=false)∨((ovB Ts a').toList.isEmpty=false∧ZaZ Ts 5 Ts[j+1].nm=ZaZ Ts (5 - (q+1)) (ovB Ts a')):=by
                  cases he:(ovB Ts a').toList.isEmpty with
                  | true=>exact Or.inl ⟨rfl,by rw [HS.out,if_pos he]⟩
                  | false=>exact Or.inr ⟨rfl,by rw [HS.out,if_neg (by simp [he])]⟩
                 first
                  | exact⟨q+1,_,rfl,by go_num,by omega,hnx⟩
                  | (refine⟨trivial,?_⟩
                     (repeat apply Exists.intro)
                     exact⟨⟨q+1,_,rfl,by go_num,by omega,hnx⟩,rfl⟩)
                  | ((repeat apply Exists.intro)
                     exact⟨⟨q+1,_,rfl,by go_num,by omega,hnx⟩,rfl⟩)
                case measure=>simp [intOf];omega
              · have HR:Hid (Za4 Ts=false):=HNO.out (by rw [HD.out,show 5 - q=0 from by omega];rfl)
                go_wp2;go_ret;exact⟨Zaa HR.out.symm,below_drewN (HB.out.alloc HB.out.size _) _⟩
    · have HR:Hid (Za4 Ts=true):=ZjH H12.out (by omega) HA.out
      go_wp2;go_ret;exact⟨Zaa HR.out.symm,HB.out⟩
theorem Zip (lo:Nat) (v:Value) (Ts:List Tm) (w:World) (hv:Zbd lo w v Ts) :
 Calls prog 65 #[v] w fun e w'=>e=.returned (.bool (Za4 Ts))∧Zw_ w w':=by
 by_cases h12:¬ Ts.length≤12
 · have HR:=Zab (ZjG h12)
   have hmx:=hv.max;unfold maxLen at hmx;obtain⟨a,cap,rfl⟩:=hv.form;go_enter func65,ntmps65;go_wp2;go_ret;exact⟨Zaa HR.out.symm,Below.refl _ _⟩
 replace h12:Ts.length≤12:=by omega
 by_cases hL:Ts=[]
 · subst hL
   obtain⟨a,cap,rfl⟩:=hv.form;clear hv;go_enter func65,ntmps65;go_wp2
   go_loop [10] (fun i=>i=.int .i64 0) (fun _=>0)
   case atStart=>rfl
   case round=>
    subst hrel;go_wp2;go_ret;exact⟨Zaa (by rfl),Below.refl _ _⟩
 · have HV:=Zab hv
   obtain⟨b,off,cap,rfl,hm,hbw,_,hc⟩:=hv.full hL;clear hv hm;have H12:=Zab h12;have h12i:decide ((12:Int) < (Ts.length:Int))=false:=by simp;omega
   go_enter func65,ntmps65;go_wp2
   go_loopw [10] (fun i wr=>∃ k:Nat,i=.int .i64 k∧k≤Ts.length∧Zw_ w wr∧∀ i,i < k→Zdd Ts i=true) (fun i _=>Ts.length - (intOf i).toNat)
   case atStart=>exact⟨0,rfl,by omega,Below.refl _ _,fun i h=>by omega⟩
   case round=>
    obtain⟨k,rfl,hk,hb,hall⟩:=hrel;have HA:=Zab hall;have HB:=Zab hb;clear hall hb
    by_cases hlt:k < Ts.length
    · obtain⟨hsz,hcell⟩:=hc k hlt
      have HSZ:=Zab hsz;obtain⟨c0,c1⟩:=hcell.below HB.out hbw;clear hcell hsz
      cases hn:Zaj Ts[k].nm with
      | false=>
       go_wp2
       go_quiet ((go_at_call 118;exact (Zag _ _ HSZ.out.s0).mono fun _ _ h=>⟨h.1,_,h.2⟩))
       go_wp2;go_ret;exact⟨Zaa (Zbo hlt (by rw [Zax hlt];simp [hn])).symm,below_drewN (HB.out.alloc HB.out.size _) _⟩
      | true=>
       cases k with
       | zero=>
        have c0:wr.cell? ⟨b,off,none⟩=some (.string Ts[0].nm):=by simpa using c0
        have c1:wr.cell? ⟨b,off+1,none⟩=some (.string Ts[0].ov):=by simpa using c1
        go_wp2
        go_quiet ((go_at_call 118;exact (Zag _ _ HSZ.out.s0).mono fun _ _ h=>⟨h.1,_,h.2⟩))
        try simp only [hn]
        generalize hWb:World.drewN _ _=Wb;have HBX:Hid (Box Wb wr.heap.size #[.string Ts[0].nm,.string Ts[0].ov]):=by rw [← hWb];exact (Box.new _ _ _ _ rfl).on (below_drewN Zb_ _)
        have HBB:Hid (Zw_ w Wb):=by rw [← hWb];exact below_drewN (HB.out.alloc HB.out.size _) _
        clear hWb;have b0:Wb.cell? ⟨wr.heap.size,0,none⟩=some (.string Ts[0].nm):=HBX.out.cell 0;have b1:Wb.cell? ⟨wr.heap.size,1,none⟩=some (.string Ts[0].ov):=HBX.out.cell 1
        cases hoe:Ts[0].ov.toList.isEmpty with
        | true=>
         go_wp2_with fail;refine (ZdW lo _ Ts Ts[0].nm _ (HV.out.below HBB.out)).mono ?_;rintro e w2 ⟨rfl,hb2⟩;have HB2:Hid (Zw_ w w2):=HBB.out.trans (hb2.mono HBB.out.size);clear hb2 HBB HBX b0 b1
         cases hd:ZaZ Ts 5 Ts[0].nm with
         | true=>
          have HR:Hid (Za4 Ts=false):=Zbo hlt (by rw [Zax hlt,hd];simp);go_wp2;go_ret;exact⟨Zaa HR.out.symm,HB2.out⟩
         | false=>
          have HOK:Hid (∀ i,i < 0+1→Zdd Ts i=true):=fun i hi=>by
           by_cases e:i=0
           · subst e;rw [Zax hlt,hd];simp [hn,hoe]
           · exact HA.out i (by omega)
          go_wp2;go_roundw
          case rel=>exact⟨0+1,by go_num,by omega,HB2.out,HOK.out⟩
          case measure=>simp [intOf];omega
        | false=>
         go_wp2_with fail;refine (ZbR lo _ Ts Ts[0].ov _ (HV.out.below HBB.out)).mono ?_;rintro e w1 ⟨rfl,hb1⟩;have HBX:=Zab (HBX.out.on hb1);have HBB:Hid (Zw_ w w1):=HBB.out.trans (hb1.mono HBB.out.size);clear hb1 b0 b1;have b0:w1.cell? ⟨wr.heap.size,0,none⟩=some (.string Ts[0].nm):=HBX.out.cell 0;have b1:w1.cell? ⟨wr.heap.size,1,none⟩=some (.string Ts[0].ov):=HBX.out.cell 1
         by_cases hp:plT Ts Ts[0].ov < Ts.length
         · have hht:ZeL Ts Ts[0].ov=true:=by rw [Zgx];exact decide_eq_true hp
           rw [ZgQ hp];clear hp;generalize plT Ts Ts[0].ov=pp;go_wp2_with fail;refine (ZdW lo _ Ts Ts[0].nm _ (HV.out.below HBB.out)).mono ?_;rintro e w2 ⟨rfl,hb2⟩;have HB2:Hid (Zw_ w w2):=HBB.out.trans (hb2.mono HBB.out.size);clear hb2 HBB HBX b0 b1
           cases hd:ZaZ Ts 5 Ts[0].nm with
           | true=>
            have HR:Hid (Za4 Ts=false):=Zbo hlt (by rw [Zax hlt,hd];simp);go_wp2;go_ret;exact⟨Zaa HR.out.symm,HB2.out⟩
           | false=>
            have HOK:Hid (∀ i,i < 0+1→Zdd Ts i=true):=fun i hi=>by
             by_cases e:i=0
             · subst e;rw [Zax hlt,hd];simp [hn,hoe,hht]
             · exact HA.out i (by omega)
            go_wp2;go_roundw
            case rel=>exact⟨0+1,by go_num,by omega,HB2.out,HOK.out⟩
            case measure=>simp [intOf];omega
         · have hht:ZeL Ts Ts[0].ov=false:=by rw [Zgx];exact decide_eq_false hp
           have HR:Hid (Za4 Ts=false):=Zbo hlt (by rw [Zax hlt,hht,hoe];simp);rw [ZgP hp];clear hp;go_wp2;go_ret;exact⟨Zaa HR.out.symm,HBB.out⟩
       | succ j=>
        have HBE:Hid (((Ts[j+1 - 1]?.map Tm.nm).getD ⟨#[]⟩)=Ts[j].nm):=ZiW hlt;have hcj:wr.cell? ⟨b,off+j*2,none⟩=some (.string Ts[j].nm):=by rw [HB.out.cell (p:=⟨b,_,none⟩) hbw];exact (hc j (by omega)).2.c0
        have hjw:IntKind.i64.wrap (j:Int)=j:=by rw [IntKind.wrap_i64];omega
        have hjl:j < Ts.length:=by omega
        have hdl:decide ((j:Int)+1 < (Ts.length:Int))=true:=by simp;omega
        have hbo:b < wr.heap.size:=Zk_ hbw HB.out.size
        have cj2:∀ o,(wr.alloc o).cell? ⟨b,off+j*2,none⟩=some (.string Ts[j].nm):=fun o=>by rw [((Below.refl wr.heap.size wr).alloc Zl_ o).cell (p:=⟨b,_,none⟩) hbo];exact hcj
        have cj3:∀ o n,((wr.alloc o).drewN n).cell? ⟨b,off+j*2,none⟩=some (.string Ts[j].nm):=fun o n=>cj2 o
        cases hls:Op.bytesLess Ts[j].nm.toList Ts[j+1].nm.toList with
        | false=>
         go_wp2
         go_quiet ((go_at_call 118;exact (Zag _ _ HSZ.out.s0).mono fun _ _ h=>⟨h.1,_,h.2⟩))
         go_wp2;go_ret;exact⟨Zaa (Zbo hlt (by rw [Zax hlt];rw [HBE.out,hls];simp)).symm,below_drewN (HB.out.alloc HB.out.size _) _⟩
        | true=>
         go_wp2
         go_quiet ((go_at_call 118;exact (Zag _ _ HSZ.out.s0).mono fun _ _ h=>⟨h.1,_,h.2⟩))
         try simp only [hn]
         try simp only [hls]
         generalize hWb:World.drewN _ _=Wb;have HBX:Hid (Box Wb wr.heap.size #[.string Ts[j+1].nm,.string Ts[j+1].ov]):=by rw [← hWb];exact (Box.new _ _ _ _ rfl).on (below_drewN Zb_ _)
         have HBB:Hid (Zw_ w Wb):=by rw [← hWb];exact below_drewN (HB.out.alloc HB.out.size _) _
         clear hWb;have b0:Wb.cell? ⟨wr.heap.size,0,none⟩=some (.string Ts[j+1].nm):=HBX.out.cell 0;have b1:Wb.cell? ⟨wr.heap.size,1,none⟩=some (.string Ts[j+1].ov):=HBX.out.cell 1
         cases hoe:Ts[j+1].ov.toList.isEmpty with
         | true=>
          go_wp2_with fail;refine (ZdW lo _ Ts Ts[j+1].nm _ (HV.out.below HBB.out)).mono ?_;rintro e w2 ⟨rfl,hb2⟩;have HB2:Hid (Zw_ w w2):=HBB.out.trans (hb2.mono HBB.out.size);clear hb2 HBB HBX b0 b1
          cases hd:ZaZ Ts 5 Ts[j+1].nm with
          | true=>
           have HR:Hid (Za4 Ts=false):=Zbo hlt (by rw [Zax hlt,hd];simp);go_wp2;go_ret;exact⟨Zaa HR.out.symm,HB2.out⟩
          | false=>
           have HOK:Hid (∀ i,i < j+1+1→Zdd Ts i=true):=fun i hi=>by
            by_cases e:i=j+1
            · subst e;rw [Zax hlt,hd];rw [HBE.out,hls];simp [hn,hoe]
            · exact HA.out i (by omega)
           go_wp2;go_roundw
           case rel=>exact⟨j+1+1,by go_num,by omega,HB2.out,HOK.out⟩
           case measure=>simp [intOf];omega
         | false=>
          go_wp2_with fail;refine (ZbR lo _ Ts Ts[j+1].ov _ (HV.out.below HBB.out)).mono ?_;rintro e w1 ⟨rfl,hb1⟩;have HBX:=Zab (HBX.out.on hb1);have HBB:Hid (Zw_ w w1):=HBB.out.trans (hb1.mono HBB.out.size);clear hb1 b0 b1;have b0:w1.cell? ⟨wr.heap.size,0,none⟩=some (.string Ts[j+1].nm):=HBX.out.cell 0;have b1:w1.cell? ⟨wr.heap.size,1,none⟩=some (.string Ts[j+1].ov):=HBX.out.cell 1
          by_cases hp:plT Ts Ts[j+1].ov < Ts.length
          · have hht:ZeL Ts Ts[j+1].ov=true:=by rw [Zgx];exact decide_eq_true hp
            rw [ZgQ hp];clear hp;generalize plT Ts Ts[j+1].ov=pp;go_wp2_with fail;refine (ZdW lo _ Ts Ts[j+1].nm _ (HV.out.below HBB.out)).mono ?_;rintro e w2 ⟨rfl,hb2⟩;have HB2:Hid (Zw_ w w2):=HBB.out.trans (hb2.mono HBB.out.size);clear hb2 HBB HBX b0 b1
            cases hd:ZaZ Ts 5 Ts[j+1].nm with
            | true=>
             have HR:Hid (Za4 Ts=false):=Zbo hlt (by rw [Zax hlt,hd];simp);go_wp2;go_ret;exact⟨Zaa HR.out.symm,HB2.out⟩
            | false=>
             have HOK:Hid (∀ i,i < j+1+1→Zdd Ts i=true):=fun i hi=>by
              by_cases e:i=j+1
              · subst e;rw [Zax hlt,hd];rw [HBE.out,hls];simp [hn,hoe,hht]
              · exact HA.out i (by omega)
             go_wp2;go_roundw
             case rel=>exact⟨j+1+1,by go_num,by omega,HB2.out,HOK.out⟩
             case measure=>simp [intOf];omega
          · have hht:ZeL Ts Ts[j+1].ov=false:=by rw [Zgx];exact decide_eq_false hp
            have HR:Hid (Za4 Ts=false):=Zbo hlt (by rw [Zax hlt,hht,hoe];simp);rw [ZgP hp];clear hp;go_wp2;go_ret;exact⟨Zaa HR.out.symm,HBB.out⟩
    · have HR:Hid (Za4 Ts=true):=ZjH H12.out (by omega) HA.out
      go_wp2;go_ret;exact⟨Zaa HR.out.symm,HB.out⟩
end Go.Proofs.YtcfjmagkinpaeaaGreat
