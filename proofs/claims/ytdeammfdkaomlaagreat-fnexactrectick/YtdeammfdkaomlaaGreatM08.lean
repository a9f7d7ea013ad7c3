import Derived.Test.YtdeammfdkaomlaaGreatM01
import Derived.Test.YtdeammfdkaomlaaGreatM02
set_option maxHeartbeats 16000000
set_option maxRecDepth 100000
open Go.Proofs.Tryz
namespace Go.Proofs.YtdeammfdkaomlaaGreat
open Go.RowKit Go.Deep
section
variable {wr w1:World} {B k:Nat} {Xl:List Rs}
def Za3 (wr:World) (B:Nat) (Xl:List Rs) (k:Nat) (c:Nat->Nat):Prop:=
 B < c 0/\(∀ i,i < k->c i<=c (i+1))/\c k<=wr.heap.size/\∃ f,wr.rowIs B 171 (Xl.length*2) f/\∀ i (h:i < Xl.length),i < k->ZaJ Xl[i]/\f (i*2)=.int .i64 Xl[i].ba/\f (i*2+1)=.string Xl[i].tx
theorem Za3.le {c:Nat->Nat} (h:Za3 wr B Xl k c) {i:Nat}:∀ {j:Nat},i<=j->j<=k->c i<=c j:=by
 intro j
 induction j with
 | zero=>intro hij _;have:i=0:=by omega
         subst this;exact Nat.le_refl _
 | succ j ih=>
  intro hij hjn
  by_cases e:i=j+1
  . subst e;exact Nat.le_refl _
  . exact Nat.le_trans (ih (by omega) (by omega)) (h.2.1 j (by omega))
theorem Za3.below {c:Nat->Nat} (h:Za3 wr B Xl k c) (hb:Below wr.heap.size wr w1):Za3 w1 B Xl k c:=by
 obtain⟨g1,g2,g3,f,hr,hall⟩:=h;refine⟨g1,g2,Nat.le_trans g3 hb.size,f,hr.of_block (hb.block B hr.lt),fun i hi hik=>?_⟩;obtain⟨hz,h0,h1⟩:=hall i hi hik;exact⟨hz,h0,h1⟩
theorem Za3.free {c:Nat->Nat} (h:Za3 wr B Xl k c) (i:Nat):wr.frozen? ⟨B,i,none⟩=false:=by
 obtain⟨_,_,_,f,hr,_⟩:=h;exact hr.frozen i
theorem Za3.there {c:Nat->Nat} (h:Za3 wr B Xl k c) (i:Nat) (hi:i < Xl.length*2):∃ v,wr.cell? ⟨B,i,none⟩=some v:=by
 obtain⟨_,_,_,f,hr,_⟩:=h;exact⟨_,hr.cell hi⟩
theorem Za3.step {c:Nat->Nat} (h:Za3 w1 B Xl k c) (hk:k < Xl.length) (hz:ZaJ Xl[k]) (d:Nat) (hd0:c k<=d) (hd:d<=w1.heap.size) :
 Za3 ((w1.setCell ⟨B,k*2,none⟩ (.int .i64 Xl[k].ba)).setCell ⟨B,k*2+1,none⟩ (.string Xl[k].tx)) B Xl (k+1) (fun j=>if j<=k then c j else d):=by
 have hle:=fun i (hi:i<=k)=>h.le (i:=0) (j:=i) Zz_ hi
 have hle2:=fun i (hi:i < k)=>h.le (i:=i+1) (j:=k) (by omega) Zl_
 obtain⟨g1,g2,g3,f,hr,hall⟩:=h;have hts:Zad B (B+1) w1 ((w1.setCell ⟨B,k*2,none⟩ (.int .i64 Xl[k].ba)).setCell ⟨B,k*2+1,none⟩ (.string Xl[k].tx)):=(Zad.setB B _ _ _).trans (Zad.setB B _ _ _);refine⟨by simpa using g1,fun i hi=>?_,?_,_,((hr.set _ _).set _ _),fun i hi hik=>?_⟩
 . dsimp only
   by_cases e:i=k
   . subst e;rw [if_pos Zl_,if_neg (by omega)];exact hd0
   . rw [if_pos (by omega),if_pos (by omega)];exact g2 i (by omega)
 . dsimp only;rw [if_neg (by omega)];exact Nat.le_trans hd hts.size
 by_cases e:i=k
 . subst e
   have hb0:=hle i Zl_;exact⟨hz,by simp,by simp⟩
 . have hb0:=hle i (by omega)
   obtain⟨hz,h0,h1⟩:=hall i hi (by omega);refine⟨hz,?_,?_⟩
   . rw [if_neg (by omega),if_neg (by omega)];exact h0
   . rw [if_neg (by omega),if_neg (by omega)];exact h1
theorem Za3.own {c:Nat->Nat} (h:Za3 wr B Xl k c) (hk:k=Xl.length) (hne:Xl≠[]) (hm:Xl.length<=maxLen):Zap B wr.heap.size wr (.slice (some ⟨B,0,none⟩) Xl.length Xl.length) Xl:=by
 subst hk;obtain⟨g1,g2,g3,f,hr,hall⟩:=h;have h0:0 < Xl.length:=List.length_pos_iff.2 hne
 refine Or.inr ⟨B,0,Xl.length,c,fun i=>if h:i < Xl.length then Xl[i] else Xl[0],rfl,hne,hm,Nat.le_refl _,fun i hi=>by simp [hi],hr.lt,Nat.le_refl _,g1,hr.lt,g2,g3,fun i=>hr.frozen i,fun i hi=>?_⟩;obtain⟨hz,h0,h1⟩:=hall i hi hi;simp only [hi,dif_pos];rw [Nat.zero_add];exact⟨hz,⟨by rw [hr.cell (by omega),h0],by rw [hr.cell (by omega),h1]⟩⟩
theorem Za3.new (w:World) (Xl:List Rs) (z:Array Value):Za3 (w.alloc (.cells (madeCells z (Xl.length*2)) 171)) w.heap.size Xl 0 (fun _=>w.heap.size+1):=by
 refine⟨Nat.lt_succ_self _,fun i hi=>by omega,by simp,fun i=>(madeCells z (Xl.length*2)).getD i default,?_,fun i _ h=>by omega⟩;have:=World.rowIs_alloc w (madeCells z (Xl.length*2)) 171 (fun i=>(madeCells z (Xl.length*2)).getD i default) (fun i hi=>by simp [Array.getD,hi])
 rwa [size_madeCells] at this
theorem ZdG (lo:Nat) (v:Value) (Xl:List Rs) (w:World) (hv:Zat lo w v Xl) (hn:Zbn Xl) :
 Calls prog 68 #[v] w fun e w'=>∃ v',e=.returned v'/\Zw_ w w'/\Zap w.heap.size w'.heap.size w' v' Xl:=by
 obtain⟨i0,hi,hz0,hz1,hz2⟩:=info_parts Tryz.info171;have HSM:=Zaa hn.2;have hn1:=hn.1;clear hn
 by_cases hL:Xl=[]
 . subst hL
   obtain⟨a,cap,rfl⟩:=hv.form;clear hv
   have hmk:∀ u:World,(Instr.makeSlice 56 (.int .i64 0) (.int .i64 0)).run prog u=.ok (.slice (some ⟨u.heap.size,0,none⟩) 0 0) (u.alloc (.cells (madeCells (Value.cells (.agg #[.int .i64 0,.string ⟨#[]⟩])) 0) 171)):=fun u=>by
    have h:=run_make (P:=prog) u 56 171 i0 _ underlying56 hi hz0 .i64 .i64 0 0 (by omega) (by omega) (by omega) (by omega)
    simpa [hz1] using h
   go_enter func68,ntmps68;go_wp2
   go_loop [4] (fun i=>i=.int .i64 0) (fun _=>0)
   case atStart=>rfl
   case round=>
    subst hrel;go_wp2;go_ret;exact⟨_,rfl,Zb_.alloc Zl_ _,Or.inl ⟨_,_,rfl,rfl⟩⟩
 . obtain⟨b,off,cap,rfl,hm,hbw,_,hc⟩:=hv.full hL
   clear hv;have HM:Hd (Xl.length<=maxLen):=hm;unfold maxLen at hm
   have hmk:∀ u:World,(Instr.makeSlice 56 (.int .i64 (Xl.length:Int)) (.int .i64 (Xl.length:Int))).run prog u=.ok (.slice (some ⟨u.heap.size,0,none⟩) Xl.length Xl.length) (u.alloc (.cells (madeCells (Value.cells (.agg #[.int .i64 0,.string ⟨#[]⟩])) (Xl.length*2)) 171)):=fun u=>by
    have h:=run_make (P:=prog) u 56 171 i0 _ underlying56 hi hz0 .i64 .i64 Xl.length Xl.length (by omega) (by omega) (by rw [hz2];omega) (by omega);rw [hz1] at h
    simpa using h
   clear hi hz0 hz1 hz2;go_enter func68,ntmps68;go_wp2;clear hmk
   go_loopw [4] (fun i wr=>∃ (k:Nat) (c:Nat->Nat),i=.int .i64 k/\k<=Xl.length/\Zw_ w wr/\Za3 wr w.heap.size Xl k c) (fun i _=>Xl.length - (intOf i).toNat)
   case atStart=>exact⟨0,_,rfl,by omega,Zb_.alloc Zl_ _,Za3.new w Xl _⟩
   case round=>
    obtain⟨k,c,rfl,hk,hb,hf⟩:=hrel
    by_cases hlt:k < Xl.length
    . obtain⟨hs,hc⟩:=hc k hlt
      have HB:=Zaa hb;have HF:=Zaa hf;have HSZ:=Zaa hs;obtain⟨c0,c1⟩:=hc.below hb hbw;clear hc hb hf hs;go_wp2_with fail;refine (ZjO _ _).mono ?_;rintro e w1 ⟨rfl,hb1⟩;have hf1:=HF.o.below hb1;have hB:Hd (Zw_ w w1):=HB.o.trans (hb1.mono HB.o.size);have HST:=Zaa (hf1.step hlt HSZ.o w1.heap.size (Nat.le_trans HF.o.2.2.1 hb1.size) Zl_);have hfr:=hf1.free;obtain⟨o0,ho0⟩:=hf1.there (k*2) (by omega);obtain⟨o1,ho1⟩:=hf1.there (k*2+1) (by omega);clear hf1 hb1 HF HB c0 c1;go_wp2;go_roundw
      . 
       exact⟨k+1,_,by go_num,by omega,((hB.o.setCell Zl_ _).setCell Zl_ _),HST.o⟩
      . simp [intOf];omega
    . have e:k=Xl.length:=by omega
      go_wp2;go_ret;exact⟨_,rfl,hb,hf.own e hL HM.o⟩
end
section
variable {k:Nat}
theorem Zfc {X:Type}{L:List X}{f:X->Bool} (hk:k < L.length) (h:f L[k]=false):L.all f=false:=by
 rw [List.all_eq_false];exact⟨L[k],List.getElem_mem hk,by simp [h]⟩
theorem ZfP {X:Type}{L:List X}{f:X->Bool} (h:∀ i (h:i < L.length),f L[i]=true):L.all f=true:=by
 rw [List.all_eq_true];intro x hx;obtain⟨i,hi,rfl⟩:=List.getElem_of_mem hx;exact h i hi
theorem ZkI {X:Type}{L:List X}{f:X->Bool} (h:L.all f=true) {k:Nat} (hk:k < L.length):f L[k]=true:=List.all_eq_true.1 h _ (List.getElem_mem hk)
theorem ZdX {X:Type}{L:List X}{f:X->Bool} (hall:∀ j (h:j < L.length),j < k->f L[j]=true) (hk:k < L.length) (h:f L[k]=true):∀ j (h:j < L.length),j < k+1->f L[j]=true:=fun j hj hjk=>by
 by_cases e:j=k
 . subst e;exact h
 . exact hall j hj (by omega)
theorem Zaq (n lo hi:Int) (w:World) :
 Calls prog 96 #[.int .i64 n,.int .i64 lo,.int .i64 hi] w fun e w'=>e=.returned (.bool (inB lo hi n))/\w'=w:=by
 rw [ZgF]
 by_cases h1:lo<=n
 . by_cases h2:n<=hi
   all_goals
    go_enter func96,ntmps96;go_wp2;go_ret;exact⟨Zac (by simp [h1,h2]),rfl⟩
 . go_enter func96,ntmps96
   go_wp2;go_ret;refine⟨Zac ?_,rfl⟩;rw [Bool.eq_iff_iff];simp;omega
def ZbI (x:Rs):Bool:=inB 0 1000000 x.ba&&(decide (x.tx.size<=160)&&!(x.ba == 0&&!x.tx.toList.isEmpty))
def ZaI (L:List Rs):Bool:=decide (L.length<=120)&&L.all ZbI
theorem ZaU (lo:Nat) (v:Value) (L:List Rs) (w:World) (hv:Zat lo w v L) :
 Calls prog 124 #[v] w fun e w'=>e=.returned (.bool (ZaI L))/\w'=w:=by
 have HV:=Zaa hv;have hm:=hv.max;unfold maxLen at hm;obtain⟨a,cap,rfl⟩:=hv.form;clear hv;have HI:Hd (ZaI L=(decide (L.length<=120)&&L.all ZbI)):=rfl
 by_cases l0:L.length<=120
 case neg=>
  have HE:Hd (ZaI L=false):=by unfold Hd;rw [HI.o,decide_eq_false l0];rfl
  have d0:decide ((120:Int) < (L.length:Int))=true:=by simp;omega
  go_enter func124,ntmps124;go_wp2;go_ret;exact⟨Zac HE.o.symm,rfl⟩
 have d0:decide ((120:Int) < (L.length:Int))=false:=by simp;omega
 have HE1:Hd (ZaI L=L.all ZbI):=by unfold Hd;rw [HI.o,decide_eq_true l0];rfl
 go_enter func124,ntmps124;go_wp2;clear d0
 go_loop [3] (fun i=>∃ k:Nat,i=.int .i64 k/\k<=L.length/\∀ j (hj:j < L.length),j < k->ZbI L[j]=true) (fun i=>L.length - (intOf i).toNat)
 case atStart=>exact⟨0,rfl,by omega,fun j _ h=>by omega⟩
 case round=>
  obtain⟨k,rfl,hk,hall⟩:=hrel;have HAL:=Zaa hall;clear hall
  by_cases hlt:k < L.length
  . obtain⟨b,off,rfl,hbw,-,hc⟩:=HV.o.full' (by omega)
    obtain⟨hsz,hcc⟩:=hc k hlt;obtain⟨x,hx⟩:∃ x,x=L[k]:=⟨_,rfl⟩
    rw [<- hx] at hsz hcc;have HX:=Zaa hx;have e0:=hcc.c0;have e1:=hcc.c1;have i0:(0:Int)<=(k:Int):=by omega
    have i1:(k:Int) < (L.length:Int):=by omega
    have hs:=hsz.s0;unfold maxLen at hs;clear hc hcc hsz hx
    cases h1:inB 0 1000000 x.ba with
    | false=>
     have HN:Hd (ZbI x=false):=by unfold Hd ZbI;rw [h1];rfl
     go_wp2_with (go_at_call 96;refine (Zaq _ _ _ _).mono ?_;rintro e w' ⟨rfl,rfl⟩);go_ret;exact⟨Zac (by rw [HE1.o];exact (Zfc hlt (by rw [<- HX.o];exact HN.o)).symm),rfl⟩
    | true=>
     by_cases h2:x.tx.size<=160
     case neg=>
      have HN:Hd (ZbI x=false):=by unfold Hd ZbI;rw [h1,decide_eq_false h2];rfl
      have d2:decide ((160:Int) < (x.tx.size:Int))=true:=by simp;omega
      go_wp2_with (go_at_call 96;refine (Zaq _ _ _ _).mono ?_;rintro e w' ⟨rfl,rfl⟩);go_ret;exact⟨Zac (by rw [HE1.o];exact (Zfc hlt (by rw [<- HX.o];exact HN.o)).symm),rfl⟩
     have d2:decide ((160:Int) < (x.tx.size:Int))=false:=by simp;omega
     have HS:Hd (ZbI x=!(x.ba == 0&&!x.tx.toList.isEmpty)):=by unfold Hd ZbI;rw [h1,decide_eq_true h2];rfl
     cases h3:(x.ba == 0) with
     | false=>
      have HY:Hd (ZbI x=true):=by unfold Hd;rw [HS.o,h3];rfl
      go_wp2_with (go_at_call 96;refine (Zaq _ _ _ _).mono ?_;rintro e w' ⟨rfl,rfl⟩)
      go_round
      . exact⟨k+1,by go_num,by omega,ZdX HAL.o hlt (by rw [<- HX.o];exact HY.o)⟩
      . simp [intOf];omega
     | true=>
      cases h4:x.tx.toList.isEmpty with
      | true=>
       have HY:Hd (ZbI x=true):=by unfold Hd;rw [HS.o,h3,h4];rfl
       go_wp2_with (go_at_call 96;refine (Zaq _ _ _ _).mono ?_;rintro e w' ⟨rfl,rfl⟩)
       go_round
       . exact⟨k+1,by go_num,by omega,ZdX HAL.o hlt (by rw [<- HX.o];exact HY.o)⟩
       . simp [intOf];omega
      | false=>
       have HN:Hd (ZbI x=false):=by unfold Hd;rw [HS.o,h3,h4];rfl
       go_wp2_with (go_at_call 96;refine (Zaq _ _ _ _).mono ?_;rintro e w' ⟨rfl,rfl⟩);go_ret;exact⟨Zac (by rw [HE1.o];exact (Zfc hlt (by rw [<- HX.o];exact HN.o)).symm),rfl⟩
  . have HT:Hd (L.all ZbI=true):=ZfP (fun i hi=>HAL.o i hi (by omega))
    go_wp2;go_ret;exact⟨Zac (by rw [HE1.o,HT.o]),rfl⟩
end
def Zds (M:Rm) (of:Int):Bool:=inB 1 9 M.kd&&(inB 1 of M.fr&&(inB 1 of M.tt&&(inB 0 1000000 M.ba&&(inB 0 120 M.ix&&(inB 0 120 M.kn&&(decide (M.tx.size<=160)&&(ZaI M.sl)))))))
theorem Zc1 (lo:Nat) (cs:List Value) (M:Rm) (of:Int) (w:World) (h:RmC lo w cs M) :
 Calls prog 122 #[.agg cs.toArray,.int .i64 of] w fun e w'=>e=.returned (.bool (Zds M of))/\Zw_ w w':=by
 obtain⟨a0,k0,rfl,h⟩:=h
 show Calls prog 122 #[.agg #[.int .i64 M.kd,.int .i64 M.fr,.int .i64 M.tt,.int .i64 M.ba,.int .i64 M.ix,.int .i64 M.kn,.string M.tx,.slice a0 M.sl.length k0],.int .i64 of] w _
 have HK:=Zaa h;have hs:=h.s0;unfold maxLen at hs;clear h;have HI:Hd (Zds M of=(inB 1 9 M.kd&&(inB 1 of M.fr&&(inB 1 of M.tt&&(inB 0 1000000 M.ba&&(inB 0 120 M.ix&&(inB 0 120 M.kn&&(decide (M.tx.size<=160)&&(ZaI M.sl))))))))):=rfl;have HO:∀ o,Hd (Zw_ w (w.alloc o)):=fun o=>Zab w o
 go_enter func122,ntmps122
 cases h0:inB 1 9 M.kd with
 | false=>
  have HE:Hd (Zds M of=false):=by unfold Hd;rw [HI.o,h0];rfl
  go_wp2_with (first
   | (go_at_call 96;refine (Zaq _ _ _ _).mono ?_;rintro e w' ⟨rfl,rfl⟩)
   | (go_at_call 124;refine (ZaU lo _ M.sl _ (HK.o.below (HO _).o).l0).mono ?_;rintro e w' ⟨rfl,rfl⟩))
  go_ret;exact⟨Zac HE.o.symm,(HO _).o⟩
 | true=>
 cases h1:inB 1 of M.fr with
 | false=>
  have HE:Hd (Zds M of=false):=by unfold Hd;rw [HI.o,h0,h1];rfl
  go_wp2_with (first
   | (go_at_call 96;refine (Zaq _ _ _ _).mono ?_;rintro e w' ⟨rfl,rfl⟩)
   | (go_at_call 124;refine (ZaU lo _ M.sl _ (HK.o.below (HO _).o).l0).mono ?_;rintro e w' ⟨rfl,rfl⟩))
  go_ret;exact⟨Zac HE.o.symm,(HO _).o⟩
 | true=>
 cases h2:inB 1 of M.tt with
 | false=>
  have HE:Hd (Zds M of=false):=by unfold Hd;rw [HI.o,h0,h1,h2];rfl
  go_wp2_with (first
   | (go_at_call 96;refine (Zaq _ _ _ _).mono ?_;rintro e w' ⟨rfl,rfl⟩)
   | (go_at_call 124;refine (ZaU lo _ M.sl _ (HK.o.below (HO _).o).l0).mono ?_;rintro e w' ⟨rfl,rfl⟩))
  go_ret;exact⟨Zac HE.o.symm,(HO _).o⟩
 | true=>
 cases h3:inB 0 1000000 M.ba with
 | false=>
  have HE:Hd (Zds M of=false):=by unfold Hd;rw [HI.o,h0,h1,h2,h3];rfl
  go_wp2_with (first
   | (go_at_call 96;refine (Zaq _ _ _ _).mono ?_;rintro e w' ⟨rfl,rfl⟩)
   | (go_at_call 124;refine (ZaU lo _ M.sl _ (HK.o.below (HO _).o).l0).mono ?_;rintro e w' ⟨rfl,rfl⟩))
  go_ret;exact⟨Zac HE.o.symm,(HO _).o⟩
 | true=>
 cases h4:inB 0 120 M.ix with
 | false=>
  have HE:Hd (Zds M of=false):=by unfold Hd;rw [HI.o,h0,h1,h2,h3,h4];rfl
  go_wp2_with (first
   | (go_at_call 96;refine (Zaq _ _ _ _).mono ?_;rintro e w' ⟨rfl,rfl⟩)
   | (go_at_call 124;refine (ZaU lo _ M.sl _ (HK.o.below (HO _).o).l0).mono ?_;rintro e w' ⟨rfl,rfl⟩))
  go_ret;exact⟨Zac HE.o.symm,(HO _).o⟩
 | true=>
 cases h5:inB 0 120 M.kn with
 | false=>
  have HE:Hd (Zds M of=false):=by unfold Hd;rw [HI.o,h0,h1,h2,h3,h4,h5];rfl
  go_wp2_with (first
   | (go_at_call 96;refine (Zaq _ _ _ _).mono ?_;rintro e w' ⟨rfl,rfl⟩)
   | (go_at_call 124;refine (ZaU lo _ M.sl _ (HK.o.below (HO _).o).l0).mono ?_;rintro e w' ⟨rfl,rfl⟩))
  go_ret;exact⟨Zac HE.o.symm,(HO _).o⟩
 | true=>
 by_cases h6:M.tx.size<=160
 case neg=>
  have HE:Hd (Zds M of=false):=by unfold Hd;rw [HI.o,h0,h1,h2,h3,h4,h5,decide_eq_false h6];rfl
  have dd:decide ((M.tx.size:Int)<=160)=false:=by simp;omega
  go_wp2_with (first
   | (go_at_call 96;refine (Zaq _ _ _ _).mono ?_;rintro e w' ⟨rfl,rfl⟩)
   | (go_at_call 124;refine (ZaU lo _ M.sl _ (HK.o.below (HO _).o).l0).mono ?_;rintro e w' ⟨rfl,rfl⟩))
  go_ret;exact⟨Zac HE.o.symm,(HO _).o⟩
 have dd:decide ((M.tx.size:Int)<=160)=true:=by simp;omega
 have HE:Hd (Zds M of=ZaI M.sl):=by unfold Hd;rw [HI.o,h0,h1,h2,h3,h4,h5,decide_eq_true h6];rfl
 go_wp2_with (first
  | (go_at_call 96;refine (Zaq _ _ _ _).mono ?_;rintro e w' ⟨rfl,rfl⟩)
  | (go_at_call 124;refine (ZaU lo _ M.sl _ (HK.o.below (HO _).o).l0).mono ?_;rintro e w' ⟨rfl,rfl⟩))
 go_ret;exact⟨Zac HE.o.symm,(HO _).o⟩
def Zi1 (D:Rd) (i:Nat):Bool:=match D.sl[i]? with
 | some x=>!(decide (D.pr < x.ba) || (decide ((i:Int) < D.kn)&&x.ba == 0))
 | none=>true
def ZaW (D:Rd):Bool:=inB 0 1000000 D.pr&&(ZaI D.sl&&(inB 0 (D.sl.length:Nat) D.kn&&(List.range D.sl.length).all (Zi1 D)))
theorem ZfV {D:Rd}{k:Nat} (h:k < D.sl.length):Zi1 D k=!(decide (D.pr < D.sl[k].ba) || (decide ((k:Int) < D.kn)&&D.sl[k].ba == 0)):=by
 unfold Zi1;rw [List.getElem?_eq_getElem h]
theorem ZdN (lo:Nat) (cs:List Value) (D:Rd) (w:World) (h:RdC lo w cs D) :
 Calls prog 120 #[.agg cs.toArray] w fun e w'=>e=.returned (.bool (ZaW D))/\Zw_ w w':=by
 obtain⟨a0,k0,rfl,h⟩:=h
 show Calls prog 120 #[.agg #[.int .i64 D.pr,.int .i64 D.kn,.slice a0 D.sl.length k0]] w _
 have HK:=Zaa h;have hm:=h.l0.max;unfold maxLen at hm;clear h;have HI:Hd (ZaW D=(inB 0 1000000 D.pr&&(ZaI D.sl&&(inB 0 (D.sl.length:Nat) D.kn&&(List.range D.sl.length).all (Zi1 D))))):=rfl;have HO:∀ o,Hd (Zw_ w (w.alloc o)):=fun o=>Zab w o
 go_enter func120,ntmps120
 cases h1:inB 0 1000000 D.pr with
 | false=>
  have HE:Hd (ZaW D=false):=by unfold Hd;rw [HI.o,h1];rfl
  go_wp2_with (go_at_call 96;refine (Zaq _ _ _ _).mono ?_;rintro e w' ⟨rfl,rfl⟩);go_ret;exact⟨Zac HE.o.symm,(HO _).o⟩
 | true=>
 cases h2:ZaI D.sl with
 | false=>
  have HE:Hd (ZaW D=false):=by unfold Hd;rw [HI.o,h1,h2];rfl
  go_wp2_with (first
   | (go_at_call 96;refine (Zaq _ _ _ _).mono ?_;rintro e w' ⟨rfl,rfl⟩)
   | (go_at_call 124;refine (ZaU lo _ D.sl _ (HK.o.below (HO _).o).l0).mono ?_;rintro e w' ⟨rfl,rfl⟩))
  go_ret;exact⟨Zac HE.o.symm,(HO _).o⟩
 | true=>
 cases h3:inB 0 (D.sl.length:Nat) D.kn with
 | false=>
  have HE:Hd (ZaW D=false):=by unfold Hd;rw [HI.o,h1,h2,h3];rfl
  go_wp2_with (first
   | (go_at_call_of 96 (.int .i64 D.pr);refine (Zaq _ _ _ _).mono ?_;rintro e w' ⟨rfl,rfl⟩)
   | (go_at_call 96;refine (Zaq _ _ _ _).mono ?_;rintro e w' ⟨rfl,rfl⟩)
   | (go_at_call 124;refine (ZaU lo _ D.sl _ (HK.o.below (HO _).o).l0).mono ?_;rintro e w' ⟨rfl,rfl⟩))
  go_ret;exact⟨Zac HE.o.symm,(HO _).o⟩
 | true=>
 have HE1:Hd (ZaW D=(List.range D.sl.length).all (Zi1 D)):=by unfold Hd;rw [HI.o,h1,h2,h3];rfl
 go_wp2_with (first
  | (go_at_call 96;refine (Zaq _ _ _ _).mono ?_;rintro e w' ⟨rfl,rfl⟩)
  | (go_at_call 124;refine (ZaU lo _ D.sl _ (HK.o.below (HO _).o).l0).mono ?_;rintro e w' ⟨rfl,rfl⟩))
 generalize hWa:w.alloc _=Wa;have HB0:Hd (Zw_ w Wa):=by rw [<- hWa];exact Zab w _
 have HX:Hd (Box Wa w.heap.size #[.int .i64 D.pr,.int .i64 D.kn,.slice a0 D.sl.length k0]):=by rw [<- hWa];exact Box.new _ _ _ _ rfl
 clear hWa h1 h2 h3 HO
 go_loopw [3] (fun i wr=>∃ k:Nat,i=.int .i64 k/\k<=D.sl.length/\Below Wa.heap.size Wa wr/\∀ j,j < k->Zi1 D j=true) (fun i _=>D.sl.length - (intOf i).toNat)
 case atStart=>exact⟨0,rfl,by omega,Below.refl _ _,fun j h=>by omega⟩
 case round=>
  obtain⟨k,rfl,hk,hb,hall⟩:=hrel;have HAL:=Zaa hall;have HBr:=Zaa hb;have y:=(HX.o.on hb).cell 2;simp at y;clear hall hb
  by_cases hlt:k < D.sl.length
  . obtain⟨b,off,rfl,hbw,-,hc⟩:=HK.o.l0.full' (by omega)
    obtain⟨hsz,hcc⟩:=hc k hlt;obtain⟨x,hx⟩:∃ x,x=D.sl[k]:=⟨_,rfl⟩
    have HDK:Hd (Zi1 D k=!(decide (D.pr < x.ba) || (decide ((k:Int) < D.kn)&&x.ba == 0))):=by unfold Hd;rw [hx];exact ZfV hlt
    rw [<- hx] at hcc;have HC:=Zaa (hcc.below (bt HB0.o HBr.o) hbw);clear hc hsz hcc hx;go_wp2
    go_cut [53] (fun c wc=>c=.bool (!(Zi1 D k))/\Below wr.heap.size wr wc)
    case first=>
     have xn:Nonempty (In (Up wr)):=⟨⟨wr,Below.refl _ _⟩⟩;have xs:=fun (X:In (Up wr))=>Zbc X
     have x0:∀ X:In (Up wr),X.w.cell? ⟨w.heap.size,0,none⟩=some (.int .i64 D.pr):=fun X=>Up.cell X (by rw [(HX.o.on HBr.o).cell 0];rfl)
     have x1:∀ X:In (Up wr),X.w.cell? ⟨w.heap.size,1,none⟩=some (.int .i64 D.kn):=fun X=>Up.cell X (by rw [(HX.o.on HBr.o).cell 1];rfl)
     have x2:∀ X:In (Up wr),X.w.cell? ⟨w.heap.size,2,none⟩=some (.slice (some ⟨b,off,none⟩) D.sl.length k0):=fun X=>Up.cell X (by rw [(HX.o.on HBr.o).cell 2];rfl)
     have s0:∀ X:In (Up wr),_:=fun X=>Up.cell X HC.o.c0
     have i0:(0:Int)<=(k:Int):=by omega
     have i1:(k:Int) < (D.sl.length:Int):=by omega
     clear y;refine Zaf (Up wr) (by kernel_rfl) (by kernel_rfl) (Zb_.drew) ?_
     cases q1:decide (D.pr < x.ba) with
     | true=>
      repeat (go_big_quiet_step (fail))
      refine wpQuiet_nil ?_;intro wn hw;obtain⟨X,hX⟩:=hw;have HWN:Below wr.heap.size wr wn:=by rw [hX];exact X.h
      clear hX X x0 x1 x2 s0 xs xn;go_wp2;go_meet;exact⟨congrArg Value.bool (by rw [HDK.o,q1];rfl),HWN⟩
     | false=>
      cases q2:decide ((k:Int) < D.kn) with
      | false=>
       repeat (go_big_quiet_step (fail))
       refine wpQuiet_nil ?_;intro wn hw;obtain⟨X,hX⟩:=hw;have HWN:Below wr.heap.size wr wn:=by rw [hX];exact X.h
       clear hX X x0 x1 x2 s0 xs xn;go_wp2;go_meet;exact⟨congrArg Value.bool (by rw [HDK.o,q1,q2];rfl),HWN⟩
      | true=>
       cases q3:(x.ba == 0) with
       | false=>
        repeat (go_big_quiet_step (fail))
        refine wpQuiet_nil ?_;intro wn hw;obtain⟨X,hX⟩:=hw;have HWN:Below wr.heap.size wr wn:=by rw [hX];exact X.h
        clear hX X x0 x1 x2 s0 xs xn;go_wp2;go_meet;exact⟨congrArg Value.bool (by rw [HDK.o,q1,q2,q3];rfl),HWN⟩
       | true=>
        repeat (go_big_quiet_step (fail))
        refine wpQuiet_nil ?_;intro wn hw;obtain⟨X,hX⟩:=hw;have HWN:Below wr.heap.size wr wn:=by rw [hX];exact X.h
        clear hX X x0 x1 x2 s0 xs xn;go_wp2;go_meet;exact⟨congrArg Value.bool (by rw [HDK.o,q1,q2,q3];rfl),HWN⟩
    case rest=>
    obtain⟨rfl,hbc⟩:=hcut;have HBc:Hd (Below Wa.heap.size Wa wc):=bt HBr.o hbc;clear hbc y
    cases h7:Zi1 D k with
    | false=>
     have HNo:Hd (ZaW D=false):=by unfold Hd;rw [HE1.o];exact ZaN hlt h7
     go_wp2;go_ret;exact⟨Zac HNo.o.symm,bt HB0.o HBc.o⟩
    | true=>
     have HT:=Zaa h7;go_wp2;go_roundw
     case rel=>exact⟨k+1,by go_num,by omega,HBc.o,fun j hj=>by
                by_cases e:j=k
                . rw [e];exact HT.o
                . exact HAL.o j (by omega)⟩
     . simp [intOf];omega
  . have HE2:Hd (ZaW D=true):=by unfold Hd;rw [HE1.o];exact Zbj (fun i hi=>HAL.o i (by omega))
    go_wp2;go_ret;exact⟨Zac HE2.o.symm,bt HB0.o HBr.o⟩
end Go.Proofs.YtdeammfdkaomlaaGreat
