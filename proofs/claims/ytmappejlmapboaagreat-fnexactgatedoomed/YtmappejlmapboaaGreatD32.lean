import Derived.Test.YtmappejlmapboaaGreatD31
set_option maxHeartbeats 16000000
set_option maxRecDepth 100000
open Go.Proofs.Tryz
namespace Go.Proofs.YtmappejlmapboaaGreat
open Go.RowKit Go.Deep
section
variable {Ss:List Sh} {Ms:List Md} {k:Nat}
theorem Zk9 (h:ZaH Ss=false):Zax Ss Ms=false:=by unfold Zax;rw [h];rfl
theorem Zi8 (h:12 < Ms.length):Zax Ss Ms=false:=by
 unfold Zax;rw [show decide (Ms.length<=12)=false from decide_eq_false (by omega)];simp
theorem Zh2 (hk:k < Ms.length) (h:Zdp Ss Ms[k]=false):Zax Ss Ms=false:=by
 unfold Zax;rw [show Ms.all (Zdp Ss)=false from by rw [List.all_eq_false];exact⟨Ms[k],List.getElem_mem hk,by simp [h]⟩];simp
theorem Zla (hk:k < Ss.length) (h:Zbr Ms Ss[k]=false):Zax Ss Ms=false:=by
 unfold Zax;rw [show Ss.all (Zbr Ms)=false from by rw [List.all_eq_false];exact⟨Ss[k],List.getElem_mem hk,by simp [h]⟩];simp
theorem Zk8 (h1:ZaH Ss=true) (h2:Ms.length<=12) (h3:∀ i (h:i < Ms.length),Zdp Ss Ms[i]=true) (h4:∀ i (h:i < Ss.length),Zbr Ms Ss[i]=true):Zax Ss Ms=true:=by
 unfold Zax;simp only [Bool.and_eq_true,List.all_eq_true,decide_eq_true_eq];refine⟨⟨⟨h1,h2⟩,fun m hm=>?_⟩,fun x hx=>?_⟩
 . obtain⟨i,hi,rfl⟩:=List.getElem_of_mem hm;exact h3 i hi
 . obtain⟨i,hi,rfl⟩:=List.getElem_of_mem hx;exact h4 i hi
theorem Zki (lo lm:Nat) (sv mv:Value) (Ss:List Sh) (Ms:List Md) (w:World) (hS:ZaI lo w sv Ss) (hM:Zbe lm w mv Ms) :
 Calls prog 124 #[sv,mv] w fun e w'=>e=.returned (.bool (Zax Ss Ms))/\Zw_ w w':=by
 have HS:=Zab hS;have HM:=Zab hM;obtain⟨a1,cap1,rfl⟩:=hS.form;obtain⟨a2,cap2,rfl⟩:=hM.form;clear hS hM;go_enter func124,ntmps124;go_wp2_with fail;refine (ZiG lo _ Ss _ HS.o).mono ?_;rintro e w1 ⟨rfl,hb1⟩;have HB1:=Zab hb1;clear hb1
 have hml:(Ms.length:Int)<=9223372036854775807:=by
  rcases HM.o with ⟨_,_,_,h⟩ | ⟨_,_,_,_,_,h,_⟩
  . rw [h];simp
  . unfold maxLen at h;omega
 have hsl:(Ss.length:Int)<=9223372036854775807:=by
  rcases HS.o with ⟨_,_,_,h⟩ | ⟨_,_,_,_,_,h,_⟩
  . rw [h];simp
  . unfold maxLen at h;omega
 cases hsb:ZaH Ss with
 | false=>
  have HQ:Hd (Zax Ss Ms=false):=Zk9 hsb;go_wp2;go_ret;exact⟨Zaa HQ.o.symm,HB1.o⟩
 | true=>
  by_cases h12:(Ms.length:Int)<=12
  . have HSB:=Zab hsb
    clear hsb;go_wp2
    go_loopw [5] (fun i wr=>∃ k:Nat,i=.int .i64 k/\k<=Ms.length/\Zw_ w wr/\∀ i (h:i < Ms.length),i < k->Zdp Ss Ms[i]=true) (fun i _=>Ms.length - (intOf i).toNat)
    case atStart=>exact⟨0,rfl,by omega,HB1.o,fun i _ h=>by omega⟩
    case round=>
     obtain⟨k,rfl,hk,hb,hall⟩:=hrel;have HA:=Zab hall;have HB:=Zab hb;clear hall hb
     by_cases hlt:k < Ms.length
     . obtain⟨b,off,rfl,hbw,hc⟩:=HM.o.full' (by omega)
       obtain⟨hsz,hcell⟩:=hc k hlt;obtain⟨c0,c1,c2,c3,c4,c5⟩:=hcell.below HB.o hbw;clear hcell hc;go_wp2_with fail;refine (ZkW lo _ Ss Ms[k] _ (HS.o.below HB.o) hsz).mono ?_;rintro e w2 ⟨rfl,hb2⟩;have HB2:Hd (Zw_ w w2):=HB.o.trans (hb2.mono HB.o.size);clear hb2 c0 c1 c2 c3 c4 c5
       cases hmb:Zdp Ss Ms[k] with
       | false=>
        have HQ:Hd (Zax Ss Ms=false):=Zh2 hlt hmb;go_wp2;go_ret;exact⟨Zaa HQ.o.symm,HB2.o⟩
       | true=>
        go_wp2;go_roundw
        case rel=>exact⟨k+1,by go_num,by omega,HB2.o,fun i h h'=>by
                   by_cases e:i=k
                   . subst e;exact hmb
                   . exact HA.o i h (by omega)⟩
        . simp [intOf];omega
     . have HAll:Hd (∀ i (h:i < Ms.length),Zdp Ss Ms[i]=true):=fun i h=>HA.o i h (by omega)
       have HBx:Hd (Zw_ w wr):=HB.o;clear HA HB HB1;go_wp2;clear hlt hk;rename_i wx _ _ _ _ _ _
       go_loopw [6] (fun i wr=>∃ k:Nat,i=.int .i64 k/\k<=Ss.length/\Zw_ w wr/\∀ i (h:i < Ss.length),i < k->Zbr Ms Ss[i]=true) (fun i _=>Ss.length - (intOf i).toNat)
       case atStart=>exact⟨0,rfl,by omega,HBx.o,fun i _ h=>by omega⟩
       case round=>
        clear HBx;obtain⟨j,rfl,hj,hb,hall⟩:=hrel;have HA:=Zab hall;have HB:=Zab hb;clear hall hb
        by_cases hlt:j < Ss.length
        . obtain⟨b,off,rfl,hbw,hc⟩:=HS.o.full' (by omega)
          obtain⟨hsz,fv,d0,d1,hst⟩:=hc j hlt;have c0:wr.cell? ⟨b,off+j*2,none⟩=some (.string Ss[j].kind):=by rw [HB.o.cell (p:=⟨b,_,none⟩) hbw];exact d0
          have c1:wr.cell? ⟨b,off+j*2+1,none⟩=some fv:=by rw [HB.o.cell (p:=⟨b,_,none⟩) hbw];exact d1
          obtain⟨fa,fcap,rfl⟩:=hst.form;have HST:=Zab (hst.below HB.o);have hbr:b < wr.heap.size:=Zk_ hbw HB.o.size
          have h6:Ss[j].fields.length<=6:=Zdb (Zbz HSB.o (List.getElem_mem hlt));clear d0 d1 hst hc;go_wp2
          go_region_with (go_at_call 168
                          refine (ZkY lo lm _ _ Ss[j] Ms _ (HST.o.below (Zb_.drew)) (HM.o.below (HB.o.drew)) (by omega)).mono ?_;rintro e w2 ⟨v2,R,rfl,hb2,ho2,hro⟩;obtain⟨ra,rcap,rfl⟩:=ho2.form;have HRO:=Zab hro;have HB2:Hd (Zw_ w w2):=(HB.o.drew).trans (hb2.mono HB.o.size);have c1':w2.cell? ⟨b,off+j*2+1,none⟩=some (.slice fa Ss[j].fields.length fcap):=(hb2.cell (p:=⟨b,off+j*2+1,none⟩) hbr).trans c1;clear hb2 ho2 hro)
          all_goals
           by_cases hq:(R.length:Int)=(Ss[j].fields.length:Int)
           . have HSR:Hd (Zbr Ms Ss[j]=true):=HRO.o.2.2.1 (by omega)
             go_wp2;go_roundw
             case rel=>exact⟨j+1,by go_num,by omega,HB2.o,fun i h h'=>by
                        by_cases e:i=j
                        . subst e;exact HSR.o
                        . exact HA.o i h (by omega)⟩
             . simp [intOf];omega
           . have HSR:Hd (Zbr Ms Ss[j]=false):=by
              unfold Hd
              cases h:Zbr Ms Ss[j] with
              | false=>rfl
              | true=>exact absurd (HRO.o.2.2.2 h) (by omega)
             have HQ:Hd (Zax Ss Ms=false):=Zla hlt HSR.o;go_wp2;go_ret;exact⟨Zaa HQ.o.symm,HB2.o⟩
        . have HQ:Hd (Zax Ss Ms=true):=Zk8 HSB.o (by omega) HAll.o (fun i h=>HA.o i h (by omega))
          go_wp2;go_ret;exact⟨Zaa HQ.o.symm,HB.o⟩
  . have HQ:Hd (Zax Ss Ms=false):=Zi8 (by omega)
    go_wp2;go_ret;exact⟨Zaa HQ.o.symm,HB1.o⟩
end
variable {wr w1:World} {B k:Nat} {Xl:List Tm}
def Zbb (wr:World) (B:Nat) (Xl:List Tm) (k:Nat) (c:Nat->Nat):Prop:=
 B < c 0/\(∀ i,i < k->c i<=c (i+1))/\c k<=wr.heap.size/\∃ f,wr.rowIs B 135 (Xl.length*2) f/\∀ i (h:i < Xl.length),i < k->Zfq Xl[i]/\f (i*2)=.string Xl[i].nm/\f (i*2+1)=.string Xl[i].ov
theorem Zbb.le {c:Nat->Nat} (h:Zbb wr B Xl k c) {i:Nat}:∀ {j:Nat},i<=j->j<=k->c i<=c j:=by
 intro j
 induction j with
 | zero=>intro hij _;have:i=0:=by omega
         subst this;exact Nat.le_refl _
 | succ j ih=>
  intro hij hjn
  by_cases e:i=j+1
  . subst e;exact Nat.le_refl _
  . exact Nat.le_trans (ih (by omega) (by omega)) (h.2.1 j (by omega))
theorem Zbb.below {c:Nat->Nat} (h:Zbb wr B Xl k c) (hb:Below wr.heap.size wr w1):Zbb w1 B Xl k c:=by
 obtain⟨g1,g2,g3,f,hr,hall⟩:=h;refine⟨g1,g2,Nat.le_trans g3 hb.size,f,hr.of_block (hb.block B hr.lt),fun i hi hik=>?_⟩;obtain⟨hz,h0,h1⟩:=hall i hi hik;exact⟨hz,h0,h1⟩
theorem Zbb.free {c:Nat->Nat} (h:Zbb wr B Xl k c) (i:Nat):wr.frozen? ⟨B,i,none⟩=false:=by
 obtain⟨_,_,_,f,hr,_⟩:=h;exact hr.frozen i
theorem Zbb.there {c:Nat->Nat} (h:Zbb wr B Xl k c) (i:Nat) (hi:i < Xl.length*2):∃ v,wr.cell? ⟨B,i,none⟩=some v:=by
 obtain⟨_,_,_,f,hr,_⟩:=h;exact⟨_,hr.cell hi⟩
theorem Zbb.step {c:Nat->Nat} (h:Zbb w1 B Xl k c) (hk:k < Xl.length) (hz:Zfq Xl[k]) (d:Nat) (hd0:c k<=d) (hd:d<=w1.heap.size) :
 Zbb ((w1.setCell ⟨B,k*2,none⟩ (.string Xl[k].nm)).setCell ⟨B,k*2+1,none⟩ (.string Xl[k].ov)) B Xl (k+1) (fun j=>if j<=k then c j else d):=by
 have hle:=fun i (hi:i<=k)=>h.le (i:=0) (j:=i) Zz_ hi
 have hle2:=fun i (hi:i < k)=>h.le (i:=i+1) (j:=k) (by omega) Zl_
 obtain⟨g1,g2,g3,f,hr,hall⟩:=h;have hts:Zag B (B+1) w1 ((w1.setCell ⟨B,k*2,none⟩ (.string Xl[k].nm)).setCell ⟨B,k*2+1,none⟩ (.string Xl[k].ov)):=(Zag.setB B _ _ _).trans (Zag.setB B _ _ _);refine⟨by simpa using g1,fun i hi=>?_,?_,_,((hr.set _ _).set _ _),fun i hi hik=>?_⟩
 . dsimp only
   by_cases e:i=k
   . subst e;rw [if_pos Zl_,if_neg (by omega)];exact hd0
   . rw [if_pos (by omega),if_pos (by omega)];exact g2 i (by omega)
 . dsimp only;rw [if_neg (by omega)];exact Nat.le_trans hd hts.size
 by_cases e:i=k
 . subst e
   have hb0:=hle i Zl_;exact⟨hz,by simp,by simp⟩
 . have hb0:=hle i (by omega)
   obtain⟨hz,h0,h1⟩:=hall i hi (by omega);refine⟨hz,?_,?_⟩
   . rw [if_neg (by omega),if_neg (by omega)];exact h0
   . rw [if_neg (by omega),if_neg (by omega)];exact h1
theorem Zbb.own {c:Nat->Nat} (h:Zbb wr B Xl k c) (hk:k=Xl.length) (hne:Xl≠[]) (hm:Xl.length<=maxLen):Zcp B wr.heap.size wr (.slice (some ⟨B,0,none⟩) Xl.length Xl.length) Xl:=by
 subst hk;obtain⟨g1,g2,g3,f,hr,hall⟩:=h;have h0:0 < Xl.length:=List.length_pos_iff.2 hne
 refine Or.inr ⟨B,0,Xl.length,c,fun i=>if h:i < Xl.length then Xl[i] else Xl[0],rfl,hne,hm,Nat.le_refl _,fun i hi=>by simp [hi],hr.lt,Nat.le_refl _,g1,hr.lt,g2,g3,fun i=>hr.frozen i,fun i hi=>?_⟩;obtain⟨hz,h0,h1⟩:=hall i hi hi;simp only [hi,dif_pos];rw [Nat.zero_add];exact⟨hz,⟨by rw [hr.cell (by omega),h0],by rw [hr.cell (by omega),h1]⟩⟩
theorem Zbb.new (w:World) (Xl:List Tm) (z:Array Value):Zbb (w.alloc (.cells (madeCells z (Xl.length*2)) 135)) w.heap.size Xl 0 (fun _=>w.heap.size+1):=by
 refine⟨Nat.lt_succ_self _,fun i hi=>by omega,by simp,fun i=>(madeCells z (Xl.length*2)).getD i default,?_,fun i _ h=>by omega⟩;have:=World.rowIs_alloc w (madeCells z (Xl.length*2)) 135 (fun i=>(madeCells z (Xl.length*2)).getD i default) (fun i hi=>by simp [Array.getD,hi])
 rwa [size_madeCells] at this
theorem Zpf (lo:Nat) (v:Value) (Xl:List Tm) (w:World) (hv:Zbn lo w v Xl) (hn:Zdx Xl) :
 Calls prog 38 #[v] w fun e w'=>∃ v',e=.returned v'/\Zw_ w w'/\Zcp w.heap.size w'.heap.size w' v' Xl:=by
 obtain⟨i0,hi,hz0,hz1,hz2⟩:=info_parts Tryz.info135;have HSM:=Zab hn.2;have hn1:=hn.1;clear hn
 by_cases hL:Xl=[]
 . subst hL
   obtain⟨a,cap,rfl⟩:=hv.form;clear hv
   have hmk:∀ u:World,(Instr.makeSlice 39 (.int .i64 0) (.int .i64 0)).run prog u=.ok (.slice (some ⟨u.heap.size,0,none⟩) 0 0) (u.alloc (.cells (madeCells (Value.cells (.agg #[.string ⟨#[]⟩,.string ⟨#[]⟩])) 0) 135)):=fun u=>by
    have h:=run_make (P:=prog) u 39 135 i0 _ underlying39 hi hz0 .i64 .i64 0 0 (by omega) (by omega) (by omega) (by omega)
    simpa [hz1] using h
   go_enter func38,ntmps38;go_wp2
   go_loop [4] (fun i=>i=.int .i64 0) (fun _=>0)
   case atStart=>rfl
   case round=>
    subst hrel;go_wp2;go_ret;exact⟨_,rfl,Zb_.alloc Zl_ _,Or.inl ⟨_,_,rfl,rfl⟩⟩
 . obtain⟨b,off,cap,rfl,hm,hbw,_,hc⟩:=hv.full hL
   clear hv;have HM:Hd (Xl.length<=maxLen):=hm;unfold maxLen at hm
   have hmk:∀ u:World,(Instr.makeSlice 39 (.int .i64 (Xl.length:Int)) (.int .i64 (Xl.length:Int))).run prog u=.ok (.slice (some ⟨u.heap.size,0,none⟩) Xl.length Xl.length) (u.alloc (.cells (madeCells (Value.cells (.agg #[.string ⟨#[]⟩,.string ⟨#[]⟩])) (Xl.length*2)) 135)):=fun u=>by
    have h:=run_make (P:=prog) u 39 135 i0 _ underlying39 hi hz0 .i64 .i64 Xl.length Xl.length (by omega) (by omega) (by rw [hz2];omega) (by omega);rw [hz1] at h
    simpa using h
   clear hi hz0 hz1 hz2;go_enter func38,ntmps38;go_wp2;clear hmk
   go_loopw [4] (fun i wr=>∃ (k:Nat) (c:Nat->Nat),i=.int .i64 k/\k<=Xl.length/\Zw_ w wr/\Zbb wr w.heap.size Xl k c) (fun i _=>Xl.length - (intOf i).toNat)
   case atStart=>exact⟨0,_,rfl,by omega,Zb_.alloc Zl_ _,Zbb.new w Xl _⟩
   case round=>
    obtain⟨k,c,rfl,hk,hb,hf⟩:=hrel
    by_cases hlt:k < Xl.length
    . obtain⟨hs,hc⟩:=hc k hlt
      have HB:=Zab hb;have HF:=Zab hf;have HSZ:=Zab hs;obtain⟨c0,c1⟩:=hc.below hb hbw;clear hc hb hf hs;go_wp2_with fail;refine (Zjr _ _ _).mono ?_;rintro e w1 ⟨rfl,hb1⟩;have hf1:=HF.o.below hb1;have hB:Hd (Zw_ w w1):=HB.o.trans (hb1.mono HB.o.size);have HST:=Zab (hf1.step hlt HSZ.o w1.heap.size (Nat.le_trans HF.o.2.2.1 hb1.size) Zl_);have hfr:=hf1.free;obtain⟨o0,ho0⟩:=hf1.there (k*2) (by omega);obtain⟨o1,ho1⟩:=hf1.there (k*2+1) (by omega);clear hf1 hb1 HF HB c0 c1;go_wp2;go_roundw
      . 
       exact⟨k+1,_,by go_num,by omega,((hB.o.setCell Zl_ _).setCell Zl_ _),HST.o⟩
      . simp [intOf];omega
    . have e:k=Xl.length:=by omega
      go_wp2;go_ret;exact⟨_,rfl,hb,hf.own e hL HM.o⟩
end Go.Proofs.YtmappejlmapboaaGreat
