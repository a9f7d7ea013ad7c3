import Derived.Test.YtmappejlmapboaaGreatG12
set_option maxHeartbeats 16000000
set_option maxRecDepth 100000
open Go.Proofs.Tryz
namespace Go.Proofs.YtmappejlmapboaaGreat
open Go.RowKit Go.Deep
theorem Zji (lo:Nat) (v:Value) (Ts:List Tm) (w:World) (hv:Zbk lo w v Ts) :
 Calls prog 179 #[v] w fun e w'=>e=.returned (.bool (Zbr Ts))/\Zw_ w w':=by
 by_cases h12:¬ Ts.length<=12
 . have HR:=Zab (ZkS h12)
   have hmx:=hv.max;unfold maxLen at hmx;obtain⟨a,cap,rfl⟩:=hv.form;go_enter func179,ntmps179;go_wp2;go_ret;exact⟨Zaa HR.o.symm,Below.refl _ _⟩
 replace h12:Ts.length<=12:=by omega
 by_cases hL:Ts=[]
 . subst hL
   obtain⟨a,cap,rfl⟩:=hv.form;clear hv;go_enter func179,ntmps179;go_wp2
   go_loop [10] (fun i=>i=.int .i64 0) (fun _=>0)
   case atStart=>rfl
   case round=>
    subst hrel;go_wp2;go_ret;exact⟨Zaa (by rfl),Below.refl _ _⟩
 . have HV:=Zab hv
   obtain⟨b,off,cap,rfl,hm,hbw,_,hc⟩:=hv.full hL;clear hv hm;have H12:=Zab h12;have h12i:decide ((12:Int) < (Ts.length:Int))=false:=by simp;omega
   go_enter func179,ntmps179;go_wp2
   go_loopw [10] (fun i wr=>∃ k:Nat,i=.int .i64 k/\k<=Ts.length/\Zw_ w wr/\∀ i,i < k->Zdi Ts i=true) (fun i _=>Ts.length - (intOf i).toNat)
   case atStart=>exact⟨0,rfl,by omega,Below.refl _ _,fun i h=>by omega⟩
   case round=>
    obtain⟨k,rfl,hk,hb,hall⟩:=hrel;have HA:=Zab hall;have HB:=Zab hb;clear hall hb
    by_cases hlt:k < Ts.length
    . obtain⟨hsz,hcell⟩:=hc k hlt
      have HSZ:=Zab hsz;obtain⟨c0,c1⟩:=hcell.below HB.o hbw;clear hcell hsz
      cases hn:Zap Ts[k].nm with
      | false=>
       go_wp2
       go_quiet ((go_at_call 206;exact (Zan _ _ HSZ.o.s0).mono fun _ _ h=>⟨h.1,_,h.2⟩))
       go_wp2;go_ret;exact⟨Zaa (Zbm hlt (by rw [Zaz hlt];simp [hn])).symm,below_drewN (HB.o.alloc HB.o.size _) _⟩
      | true=>
       cases k with
       | zero=>
        have c0:wr.cell? ⟨b,off,none⟩=some (.string Ts[0].nm):=by simpa using c0
        have c1:wr.cell? ⟨b,off+1,none⟩=some (.string Ts[0].ov):=by simpa using c1
        go_wp2
        go_quiet ((go_at_call 206;exact (Zan _ _ HSZ.o.s0).mono fun _ _ h=>⟨h.1,_,h.2⟩))
        try simp only [hn]
        generalize hWb:World.drewN _ _=Wb;have HBX:Hd (Box Wb wr.heap.size #[.string Ts[0].nm,.string Ts[0].ov]):=by rw [<- hWb];exact (Box.new _ _ _ _ rfl).on (below_drewN Zb_ _)
        have HBB:Hd (Zw_ w Wb):=by rw [<- hWb];exact below_drewN (HB.o.alloc HB.o.size _) _
        clear hWb;have b0:Wb.cell? ⟨wr.heap.size,0,none⟩=some (.string Ts[0].nm):=HBX.o.cell 0;have b1:Wb.cell? ⟨wr.heap.size,1,none⟩=some (.string Ts[0].ov):=HBX.o.cell 1
        cases hoe:Ts[0].ov.toList.isEmpty with
        | true=>
         go_wp2_with fail;refine (Zd9 lo _ Ts Ts[0].nm _ (HV.o.below HBB.o)).mono ?_;rintro e w2 ⟨rfl,hb2⟩;have HB2:Hd (Zw_ w w2):=HBB.o.trans (hb2.mono HBB.o.size);clear hb2 HBB HBX b0 b1
         cases hd:ZaS Ts 5 Ts[0].nm with
         | true=>
          have HR:Hd (Zbr Ts=false):=Zbm hlt (by rw [Zaz hlt,hd];simp);go_wp2;go_ret;exact⟨Zaa HR.o.symm,HB2.o⟩
         | false=>
          have HOK:Hd (∀ i,i < 0+1->Zdi Ts i=true):=fun i hi=>by
           by_cases e:i=0
           . subst e;rw [Zaz hlt,hd];simp [hn,hoe]
           . exact HA.o i (by omega)
          go_wp2;go_roundw
          . exact⟨0+1,by go_num,by omega,HB2.o,HOK.o⟩
          . simp [intOf];omega
        | false=>
         go_wp2_with fail;refine (Zcu lo _ Ts Ts[0].ov _ (HV.o.below HBB.o)).mono ?_;rintro e w1 ⟨rfl,hb1⟩;have HBX:=Zab (HBX.o.on hb1);have HBB:Hd (Zw_ w w1):=HBB.o.trans (hb1.mono HBB.o.size);clear hb1 b0 b1;have b0:w1.cell? ⟨wr.heap.size,0,none⟩=some (.string Ts[0].nm):=HBX.o.cell 0;have b1:w1.cell? ⟨wr.heap.size,1,none⟩=some (.string Ts[0].ov):=HBX.o.cell 1
         by_cases hp:plT Ts Ts[0].ov < Ts.length
         . have hht:Zgf Ts Ts[0].ov=true:=by rw [Zhm];exact decide_eq_true hp
           rw [ZhD hp];clear hp;generalize plT Ts Ts[0].ov=pp;go_wp2_with fail;refine (Zd9 lo _ Ts Ts[0].nm _ (HV.o.below HBB.o)).mono ?_;rintro e w2 ⟨rfl,hb2⟩;have HB2:Hd (Zw_ w w2):=HBB.o.trans (hb2.mono HBB.o.size);clear hb2 HBB HBX b0 b1
           cases hd:ZaS Ts 5 Ts[0].nm with
           | true=>
            have HR:Hd (Zbr Ts=false):=Zbm hlt (by rw [Zaz hlt,hd];simp);go_wp2;go_ret;exact⟨Zaa HR.o.symm,HB2.o⟩
           | false=>
            have HOK:Hd (∀ i,i < 0+1->Zdi Ts i=true):=fun i hi=>by
             by_cases e:i=0
             . subst e;rw [Zaz hlt,hd];simp [hn,hoe,hht]
             . exact HA.o i (by omega)
            go_wp2;go_roundw
            . exact⟨0+1,by go_num,by omega,HB2.o,HOK.o⟩
            . simp [intOf];omega
         . have hht:Zgf Ts Ts[0].ov=false:=by rw [Zhm];exact decide_eq_false hp
           have HR:Hd (Zbr Ts=false):=Zbm hlt (by rw [Zaz hlt,hht,hoe];simp);rw [ZhC hp];clear hp;go_wp2;go_ret;exact⟨Zaa HR.o.symm,HBB.o⟩
       | succ j=>
        have HBE:Hd (((Ts[j+1 - 1]?.map Tm.nm).getD ⟨#[]⟩)=Ts[j].nm):=ZjU hlt;have hcj:wr.cell? ⟨b,off+j*2,none⟩=some (.string Ts[j].nm):=by rw [HB.o.cell (p:=⟨b,_,none⟩) hbw];exact (hc j (by omega)).2.c0
        have hjw:IntKind.i64.wrap (j:Int)=j:=by rw [IntKind.wrap_i64];omega
        have hjl:j < Ts.length:=by omega
        have hdl:decide ((j:Int)+1 < (Ts.length:Int))=true:=by simp;omega
        have hbo:b < wr.heap.size:=Zk_ hbw HB.o.size
        have cj2:∀ o,(wr.alloc o).cell? ⟨b,off+j*2,none⟩=some (.string Ts[j].nm):=fun o=>by rw [((Below.refl wr.heap.size wr).alloc Zl_ o).cell (p:=⟨b,_,none⟩) hbo];exact hcj
        have cj3:∀ o n,((wr.alloc o).drewN n).cell? ⟨b,off+j*2,none⟩=some (.string Ts[j].nm):=fun o n=>cj2 o
        cases hls:Op.bytesLess Ts[j].nm.toList Ts[j+1].nm.toList with
        | false=>
         go_wp2
         go_quiet ((go_at_call 206;exact (Zan _ _ HSZ.o.s0).mono fun _ _ h=>⟨h.1,_,h.2⟩))
         go_wp2;go_ret;exact⟨Zaa (Zbm hlt (by rw [Zaz hlt];rw [HBE.o,hls];simp)).symm,below_drewN (HB.o.alloc HB.o.size _) _⟩
        | true=>
         go_wp2
         go_quiet ((go_at_call 206;exact (Zan _ _ HSZ.o.s0).mono fun _ _ h=>⟨h.1,_,h.2⟩))
         try simp only [hn]
         try simp only [hls]
         generalize hWb:World.drewN _ _=Wb;have HBX:Hd (Box Wb wr.heap.size #[.string Ts[j+1].nm,.string Ts[j+1].ov]):=by rw [<- hWb];exact (Box.new _ _ _ _ rfl).on (below_drewN Zb_ _)
         have HBB:Hd (Zw_ w Wb):=by rw [<- hWb];exact below_drewN (HB.o.alloc HB.o.size _) _
         clear hWb;have b0:Wb.cell? ⟨wr.heap.size,0,none⟩=some (.string Ts[j+1].nm):=HBX.o.cell 0;have b1:Wb.cell? ⟨wr.heap.size,1,none⟩=some (.string Ts[j+1].ov):=HBX.o.cell 1
         cases hoe:Ts[j+1].ov.toList.isEmpty with
         | true=>
          go_wp2_with fail;refine (Zd9 lo _ Ts Ts[j+1].nm _ (HV.o.below HBB.o)).mono ?_;rintro e w2 ⟨rfl,hb2⟩;have HB2:Hd (Zw_ w w2):=HBB.o.trans (hb2.mono HBB.o.size);clear hb2 HBB HBX b0 b1
          cases hd:ZaS Ts 5 Ts[j+1].nm with
          | true=>
           have HR:Hd (Zbr Ts=false):=Zbm hlt (by rw [Zaz hlt,hd];simp);go_wp2;go_ret;exact⟨Zaa HR.o.symm,HB2.o⟩
          | false=>
           have HOK:Hd (∀ i,i < j+1+1->Zdi Ts i=true):=fun i hi=>by
            by_cases e:i=j+1
            . subst e;rw [Zaz hlt,hd];rw [HBE.o,hls];simp [hn,hoe]
            . exact HA.o i (by omega)
           go_wp2;go_roundw
           . exact⟨j+1+1,by go_num,by omega,HB2.o,HOK.o⟩
           . simp [intOf];omega
         | false=>
          go_wp2_with fail;refine (Zcu lo _ Ts Ts[j+1].ov _ (HV.o.below HBB.o)).mono ?_;rintro e w1 ⟨rfl,hb1⟩;have HBX:=Zab (HBX.o.on hb1);have HBB:Hd (Zw_ w w1):=HBB.o.trans (hb1.mono HBB.o.size);clear hb1 b0 b1;have b0:w1.cell? ⟨wr.heap.size,0,none⟩=some (.string Ts[j+1].nm):=HBX.o.cell 0;have b1:w1.cell? ⟨wr.heap.size,1,none⟩=some (.string Ts[j+1].ov):=HBX.o.cell 1
          by_cases hp:plT Ts Ts[j+1].ov < Ts.length
          . have hht:Zgf Ts Ts[j+1].ov=true:=by rw [Zhm];exact decide_eq_true hp
            rw [ZhD hp];clear hp;generalize plT Ts Ts[j+1].ov=pp;go_wp2_with fail;refine (Zd9 lo _ Ts Ts[j+1].nm _ (HV.o.below HBB.o)).mono ?_;rintro e w2 ⟨rfl,hb2⟩;have HB2:Hd (Zw_ w w2):=HBB.o.trans (hb2.mono HBB.o.size);clear hb2 HBB HBX b0 b1
            cases hd:ZaS Ts 5 Ts[j+1].nm with
            | true=>
             have HR:Hd (Zbr Ts=false):=Zbm hlt (by rw [Zaz hlt,hd];simp);go_wp2;go_ret;exact⟨Zaa HR.o.symm,HB2.o⟩
            | false=>
             have HOK:Hd (∀ i,i < j+1+1->Zdi Ts i=true):=fun i hi=>by
              by_cases e:i=j+1
              . subst e;rw [Zaz hlt,hd];rw [HBE.o,hls];simp [hn,hoe,hht]
              . exact HA.o i (by omega)
             go_wp2;go_roundw
             . exact⟨j+1+1,by go_num,by omega,HB2.o,HOK.o⟩
             . simp [intOf];omega
          . have hht:Zgf Ts Ts[j+1].ov=false:=by rw [Zhm];exact decide_eq_false hp
            have HR:Hd (Zbr Ts=false):=Zbm hlt (by rw [Zaz hlt,hht,hoe];simp);rw [ZhC hp];clear hp;go_wp2;go_ret;exact⟨Zaa HR.o.symm,HBB.o⟩
    . have HR:Hd (Zbr Ts=true):=ZkT H12.o (by omega) HA.o
      go_wp2;go_ret;exact⟨Zaa HR.o.symm,HB.o⟩
variable {k:Nat}
theorem ZoB {L:List Zy_}{p:Zy_->Bool} (h:k < L.length) (hp:p L[k]=false):L.all p=false:=by
 rw [List.all_eq_false];exact⟨L[k],List.getElem_mem h,by simp [hp]⟩
theorem ZqM {L:List Zy_}{p:Zy_->Bool} (h:∀ i (h:i < L.length),p L[i]=true):L.all p=true:=by
 rw [List.all_eq_true];intro x hx;obtain⟨i,hi,rfl⟩:=List.getElem_of_mem hx;exact h i hi
theorem ZjT (rv wv:Value) (row L:List Zy_) (w:World) (hr:Zaf w rv row) (hv:Zaf w wv L) :
 Calls prog 286 #[rv,wv] w fun e w'=>e=.returned (.bool (L.all (ZeS row)))/\w'=w:=by
 have HR:=Zab hr;obtain⟨ra,rn,rcap,rfl⟩:=hr.form;clear hr
 rcases hv with ⟨a,cap,rfl,rfl⟩ | ⟨b,off,cap,rfl,hne,hm,hbw,hc,hsz⟩
 . go_enter func286,ntmps286
   go_wp2
   go_loop [9] (fun i=>i=.int .i64 0) (fun _=>0)
   case atStart=>rfl
   case round=>
    subst hrel;go_wp2;go_ret;exact⟨rfl,rfl⟩
 . unfold maxLen at hm
   go_enter func286,ntmps286;go_wp2
   go_loop [9] (fun i=>∃ k:Nat,i=.int .i64 k/\k<=L.length/\∀ i (h:i < L.length),i < k->ZeS row L[i]=true) (fun i=>L.length - (intOf i).toNat)
   case atStart=>exact⟨0,rfl,by omega,fun i _ h=>by omega⟩
   case round=>
    obtain⟨k,rfl,hk,hall⟩:=hrel;have HA:=Zab hall;clear hall
    by_cases hlt:k < L.length
    . have hck:=hc k hlt
      go_wp2_with fail;refine (Zex _ row L[k] _ HR.o).mono ?_;rintro e w1 ⟨rfl,rfl⟩
      cases hh:ZeS row L[k] with
      | false=>
       go_wp2;go_ret;exact⟨Zaa (ZoB hlt hh).symm,rfl⟩
      | true=>
       go_wp2
       go_round
       case rel=>exact⟨k+1,by go_num,by omega,fun i h h'=>by
                  by_cases e:i=k
                  . subst e;exact hh
                  . exact HA.o i h (by omega)⟩
       . simp [intOf];omega
    . go_wp2
      go_ret;exact⟨Zaa (ZqM fun i h=>HA.o i h (by omega)).symm,rfl⟩
def rdP (m:Md) (j:Nat):List Zy_:=if j=0 then [] else if j=1 then (if m.wh.toList.isEmpty=true then [] else [m.wh]) else Zjv m
theorem ZsC (m:Md) (j:Nat):(rdP m j).length<=2:=by
 unfold rdP Zjv
 split
 . simp
 . split
   . split <;> simp
   . rw [List.length_append];split <;> split <;> simp
theorem ZnE (kind field:Zy_) (m:Md) (Ms:List Md):Zam kind (m :: Ms) field=(if Zc9 kind field m=true then Zjv m else []) ++ Zam kind Ms field:=by
 unfold Zam
 by_cases h:Zc9 kind field m=true <;> simp [h]
theorem ZpS (kind field:Zy_) (Ms:List Md):(Zam kind Ms field).length<=2*Ms.length:=by
 induction Ms with
 | nil=>simp [Zam]
 | cons m Ms ih=>
  have h2:(Zjv m).length<=2:=by unfold Zjv;rw [List.length_append];split <;> split <;> simp
  rw [ZnE,List.length_append,List.length_cons]
  by_cases h:Zc9 kind field m=true
  . rw [if_pos h];omega
  . rw [if_neg h];simp only [List.length_nil];omega
theorem ZiD {base:Nat}{W:World}{v:Value}{R R':List Zy_} (h:ZdV base W v R) (e:R=R'):ZdV base W v R':=e ▸ h
theorem ZnF {kind field:Zy_}{Ms:List Md} (hk:k < Ms.length):Zam kind (Ms.take (k+1)) field=Zam kind (Ms.take k) field ++ (if Zc9 kind field Ms[k]=true then Zjv Ms[k] else []):=by
 rw [List.take_succ_eq_append_getElem hk,ZkJ]
theorem Znl (W:World) (x y:Zy_):(Instr.index 338 (.agg #[.string x,.string y]) (.int .i64 0)).run prog W=.ok (.string x) W:=by
 kernel_rfl
theorem Zpu (W:World) (x y:Zy_):(Instr.index 338 (.agg #[.string x,.string y]) (.int .i64 1)).run prog W=.ok (.string y) W:=by
 kernel_rfl
theorem ZlP (lo:Nat) (v:Value) (Ms:List Md) (kind field:Zy_) (w:World) (hv:Zbc lo w v Ms) (hn:Ms.length<=1048576) :
 Calls prog 269 #[.string kind,.string field,v] w fun e w'=>∃ v',e=.returned v'/\Zw_ w w'/\ZdV w.heap.size w' v' (Zam kind Ms field):=by
 obtain⟨i0,hi,hz0,hz1,hz2⟩:=info_parts Tryz.info9;have HI:=Zab (And.intro hi (And.intro hz0 (And.intro hz1 hz2)));clear hi hz0 hz1 hz2;have HV:=Zab hv;obtain⟨a,cap,rfl⟩:=hv.form;clear hv;go_enter func269,ntmps269;go_wp2
 go_loopw [7,14] (fun r i wr=>∃ k:Nat,i=.int .i64 k/\k<=Ms.length/\Zw_ w wr/\ZdV w.heap.size wr r (Zam kind (Ms.take k) field)) (fun _ i _=>Ms.length - (intOf i).toNat)
 case atStart=>exact⟨0,rfl,by omega,Below.refl _ _,ZdV.nil _ _⟩
 case round=>
  obtain⟨k,rfl,hk,hb,hown⟩:=hrel;have HB:=Zab hb;have HO:=Zab hown;obtain⟨ra,rcap,rfl⟩:=hown.form;clear hb hown
  by_cases hlt:k < Ms.length
  . obtain⟨b,off,rfl,hbw,hc⟩:=HV.o.full' (by omega)
    obtain⟨hsz,hcell⟩:=hc k hlt;obtain⟨c0,c1,c2,c3,c4,c5⟩:=hcell.below HB.o hbw;clear hcell hc;have HST:=Zab (ZnF (kind:=kind) (field:=field) hlt)
    cases hk1:(Ms[k].kind.toList == kind.toList) with
    | false=>
     have HF:Hd (Zam kind (Ms.take (k+1)) field=Zam kind (Ms.take k) field):=by unfold Hd;rw [HST.o,if_neg (by unfold Zc9;simp [hk1]),List.append_nil]
     go_wp2;go_roundw
     . exact⟨k+1,by go_num,by omega,HB.o.alloc HB.o.size _,by rw [HF.o];exact HO.o.below (Zb_.alloc Zl_ _)⟩
     . simp [intOf];omega
    | true=>
     cases hf1:(Ms[k].field.toList == field.toList) with
     | false=>
      have HF:Hd (Zam kind (Ms.take (k+1)) field=Zam kind (Ms.take k) field):=by unfold Hd;rw [HST.o,if_neg (by unfold Zc9;simp [hf1]),List.append_nil]
      go_wp2;go_roundw
      . exact⟨k+1,by go_num,by omega,HB.o.alloc HB.o.size _,by rw [HF.o];exact HO.o.below (Zb_.alloc Zl_ _)⟩
      . simp [intOf];omega
     | true=>
      have HF:Hd (Zam kind (Ms.take (k+1)) field=Zam kind (Ms.take k) field ++ Zjv Ms[k]):=by unfold Hd;rw [HST.o,if_pos (by unfold Zc9;simp [hk1,hf1])]
      have HRL:Hd ((Zam kind (Ms.take k) field).length<=2097152):=by
       have:=ZpS kind field (Ms.take k);rw [List.length_take] at this;unfold Hd;omega
      clear HST;generalize Zam kind (Ms.take k) field=R0 at*;have HSZ:=Zab hsz;go_wp2;generalize hW2:wr.alloc _=W2;have HB2:Hd (Zw_ w W2):=by rw [<- hW2];exact HB.o.alloc HB.o.size _
      have HO2:Hd (ZdV w.heap.size W2 (.slice ra R0.length rcap) R0):=by rw [<- hW2];exact HO.o.below (Zb_.alloc Zl_ _)
      clear hW2 HB HO c0 c1 c2 c3 c4 c5 hk1 hf1;have hx0:=fun W=>Znl W Ms[k].wh Ms[k].fr
      have hx1:=fun W=>Zpu W Ms[k].wh Ms[k].fr
      go_loopw [7,33] (fun r i wr=>∃ j:Nat,j<=2/\i=.int .i64 j/\Zw_ w wr/\ZdV w.heap.size wr r (R0 ++ rdP Ms[k] j)) (fun _ i _=>2 - (intOf i).toNat)
      case atStart=>exact⟨0,by omega,rfl,HB2.o,by unfold rdP;simpa using HO2.o⟩
      case round=>
       obtain⟨j,hj2,rfl,hbj,hoj⟩:=hrel;have HBj:=Zab hbj;have HOj:=Zab hoj
       have HLj:Hd ((R0 ++ rdP Ms[k] j).length<=2097154):=by
        have:=ZsC Ms[k] j;have:=HRL.o;unfold Hd;rw [List.length_append];omega
       obtain⟨ja,jcap,rfl⟩:=hoj.form;clear hbj hoj HB2 HO2
       by_cases hj0:j=0
       . subst hj0
         cases hwe:Ms[k].wh.toList.isEmpty with
         | true=>
          go_wp2;go_roundw
          . exact⟨1,by omega,rfl,HBj.o,ZiD HOj.o (by unfold rdP;simp [hwe])⟩
          . simp [intOf]
         | false=>
          generalize hR1:R0 ++ rdP Ms[k] 0=R1 at*;go_wp2_with (at_builtin;refine wpList_append_lies _ rfl (.tmp 38) (.tmp 40) 111 rfl w.heap.size 9 i0 (.string ⟨#[]⟩) 1 16 underlying111 HI.o.1 HI.o.2.1 HI.o.2.2.1 HI.o.2.2.2 rfl (by decide) _ _ _ rfl (HOj.o.below (Zb_.alloc Zl_ _)).row ⟨wr.heap.size,0,none⟩ 1 1 [.string Ms[k].wh] rfl rfl (ZfI _ _ _ _ rfl) (Zd4 _) (by decide) (by have:=HLj.o;unfold maxLen;omega) (by have:=HLj.o;omega) (by have:=HBj.o.size;simp;omega) _ rfl ?_;intro g cap1 w3 hown3 hgrow3 hat3 hlt3);go_roundw
          . exact⟨1,by omega,rfl,(HBj.o.alloc HBj.o.size _).trans ((HOj.o.below (Zb_.alloc Zl_ _)).grown hgrow3 (by have:=HBj.o.size;simp;omega)),ZiD (HOj.o.snoc hown3 HSZ.o.s2) (by rw [<- hR1];unfold rdP Zjv;simp [hwe])⟩
          . simp [intOf]
       . by_cases hj1:j=1
         . subst hj1
           cases hfe:Ms[k].fr.toList.isEmpty with
           | true=>
            go_wp2;go_roundw
            . exact⟨2,by omega,rfl,HBj.o,ZiD HOj.o (by unfold rdP Zjv;simp [hfe])⟩
            . simp [intOf]
           | false=>
            generalize hR1:R0 ++ rdP Ms[k] 1=R1 at*;go_wp2_with (at_builtin;refine wpList_append_lies _ rfl (.tmp 38) (.tmp 40) 111 rfl w.heap.size 9 i0 (.string ⟨#[]⟩) 1 16 underlying111 HI.o.1 HI.o.2.1 HI.o.2.2.1 HI.o.2.2.2 rfl (by decide) _ _ _ rfl (HOj.o.below (Zb_.alloc Zl_ _)).row ⟨wr.heap.size,0,none⟩ 1 1 [.string Ms[k].fr] rfl rfl (ZfI _ _ _ _ rfl) (Zd4 _) (by decide) (by have:=HLj.o;unfold maxLen;omega) (by have:=HLj.o;omega) (by have:=HBj.o.size;simp;omega) _ rfl ?_;intro g cap1 w3 hown3 hgrow3 hat3 hlt3);go_roundw
            . exact⟨2,by omega,rfl,(HBj.o.alloc HBj.o.size _).trans ((HOj.o.below (Zb_.alloc Zl_ _)).grown hgrow3 (by have:=HBj.o.size;simp;omega)),ZiD (HOj.o.snoc hown3 HSZ.o.s5) (by rw [<- hR1];unfold rdP Zjv;simp [hfe])⟩
            . simp [intOf]
         . have e:j=2:=by omega
           subst e;go_wp2;exact⟨⟨k+1,by go_num,by omega,HBj.o,ZiD HOj.o (by rw [HF.o];rfl)⟩,by simp [intOf];omega⟩
  . have e:k=Ms.length:=by omega
    subst e;have HE:Hd (Zam kind (Ms.take Ms.length) field=Zam kind Ms field):=by unfold Hd;rw [List.take_length]
    go_wp2;go_ret;exact⟨_,rfl,HB.o,ZiD HO.o HE.o⟩
theorem ZlQ (lo:Nat) (mv:Value) (Ms:List Md) (kind name:Zy_) (B1 B2:Nat) (w:World) (h1:w.cell? ⟨B1,0,none⟩=some (.string kind)) (h2:w.cell? ⟨B2,0,none⟩=some mv) (hv:Zbc lo w mv Ms) (hn:Ms.length<=1048576) :
 Calls prog 268 #[.string name,.pointer (some ⟨B1,0,none⟩),.pointer (some ⟨B2,0,none⟩)] w fun e w'=>∃ v',e=.returned v'/\Zw_ w w'/\ZdV w.heap.size w' v' (Zam kind Ms name):=by
 have HV:=Zab hv;obtain⟨a,cap,rfl⟩:=hv.form;clear hv;go_enter func268,ntmps268;go_wp2_with fail;refine (ZlP lo _ Ms kind name _ HV.o hn).mono ?_;rintro e w1 ⟨v1,rfl,hb1,ho1⟩;have HB1:=Zab hb1;have HO1:=Zab ho1;clear hb1 ho1;go_wp2;go_ret;exact⟨_,rfl,HB1.o,HO1.o⟩
end Go.Proofs.YtmappejlmapboaaGreat
