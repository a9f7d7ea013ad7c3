import Derived.Test.YtdeammfdkaomlaaGreatM34
import Derived.Test.YtdeammfdkaomlaaGreatM36
set_option maxHeartbeats 16000000
set_option maxRecDepth 100000
open Go.Proofs.Tryz
namespace Go.Proofs.YtdeammfdkaomlaaGreat
open Go.RowKit Go.Deep
theorem Zhc (g i vb cap:Nat) (L:List AX) (x:AX) (w:World) (hfr:FR axL 2 w g (g+1) g cap L) (hi:i<=L.length) (hn:L.length<=1000000) (hvb:vb≠g) (hv:Box w vb (axL x).toArray) :
 Calls prog 217 #[.slice (some ⟨g,0,none⟩) L.length cap,.int .i64 i,.slice (some ⟨vb,0,none⟩) 1 1] w fun e w'=>∃ v',e=.returned v'/\Zad g (g+1) w w'/\(ZaH axL 2 w' g (g+1) v' (L.take i ++ [x] ++ L.drop i)\/ZaH axL 2 w' w.heap.size w'.heap.size v' (L.take i ++ [x] ++ L.drop i)):=by
 have HF:=Zaa hfr;have HV:=Zaa hv;have hvlt:=hv.lt;have hglt:=hfr.lt;have hlc:L.length<=cap:=hfr.le;have hcm:=hfr.mx;have HXL:Hd ((Zai axL L).length=L.length*2):=Zaw Zar L;have HONE:Hd (∀ u ∈ axL x,u.oneCell'=true):=fun u hu=>ZaV [x] u (by simpa [Zai] using hu)
 have HFL:Hd ((axL x).length=2):=Zar x
 have HVC:Hd (∀ W:World,W.heap[vb]?=w.heap[vb]?->∀ j u,(axL x)[j]?=some u->W.cell? ((⟨vb,0,none⟩:Addr).add j)=some u):=fun W hW j u hu=>by
  rw [Go.WideShapes.add_plain,Nat.zero_add,World.cell?_of_block (w:=w) (a:=⟨vb,j,none⟩) hW,HV.o.cell j]
  simpa using hu
 clear hfr hv;generalize hRR:L.take i ++ [x] ++ L.drop i=R;have HRR:=Zaa hRR;clear hRR
 by_cases hil:i=L.length
 . subst hil
   have HEN:Hd (R=L ++ [x]):=by unfold Hd;rw [<- HRR.o];simp
   have hii:(L.length:Int)<=L.length:=Int.le_refl _;have hz:¬ ((L.length:Int) < 0):=by omega
   obtain⟨v',w',hrun,ht,hrow⟩:=ZeK Zar (by decide) underlying59 ZaT rfl (w:=w) (lo:=g) (hi':=g+1) (L:=L) (M:=[x]) 59 ⟨g,cap,rfl,HF.o⟩ (some ⟨vb,0,none⟩) 1 1 rfl (fun e=>by cases e) (fun ad e j u hu=>by
    injection e with e
    subst e;exact HVC.o w rfl j u (by simpa [Zai] using hu)) (ZaV _) (by simp;omega) (by decide)
   have HT:=Zaa ht;have HRW:=Zaa hrow;clear ht hrow
   by_cases hcl:cap=L.length
   all_goals
    go_enter func217,ntmps217;go_wp2_with (at_builtin;refine wpList_append_run rfl (.tmp 23) (.tmp 24) 59 rfl rfl rfl hrun ?_);go_ret;refine⟨v',rfl,HT.o,?_⟩;rw [HEN.o];exact HRW.o
 have hlt:i < L.length:=by omega
 obtain⟨i0,hin,hz0,hz1,hz2⟩:=info_parts ZaT;have HI:=Zaa (And.intro hin (And.intro hz0 (And.intro hz1 hz2)));have HSZ:Hd ((prog.info? 170).map (·.size)=some 2):=by unfold Hd;rw [hin];simp [hz1]
 clear hin hz0 hz1 hz2
 have HGC:Hd (∀ W:World,W.heap[g]?=w.heap[g]?->∀ j,j < L.length*2->W.cell? ⟨g,j,none⟩=(Zai axL L)[j]?):=fun W hW j hj=>by
  rw [World.cell?_of_block (w:=w) (a:=⟨g,j,none⟩) hW];obtain⟨u,hu⟩:∃ u,(Zai axL L)[j]?=some u:=⟨_,List.getElem?_eq_getElem (by rw [HXL.o];exact hj)⟩
  rw [hu];have:=HF.o.rg j u hu
  rwa [Nat.zero_add] at this
 have hii:¬ ((i:Int)=(L.length:Int)):=by omega
 have hi1:(i:Int)<=(L.length:Int):=by omega
 have hcapI:(cap:Int)<=9223372036854775807:=by unfold maxLen at hcm;omega
 have hw1:IntKind.wrap .i64 ((L.length:Int)+1)=(L.length:Int)+1:=by rw [IntKind.wrap_i64];omega
 have hw2:IntKind.wrap .i64 ((i:Int)+1)=(i:Int)+1:=by rw [IntKind.wrap_i64];omega
 have hti:((i:Int)+1).toNat=i+1:=by omega
 have htn:((L.length:Int)+1).toNat=L.length+1:=by omega
 have hb1:¬ (cap=i):=by omega
 have hb3:i<=cap:=by omega
 have hdl:((Zai axL L).drop (i*2)).length=(L.length - i)*2:=by rw [List.length_drop,HXL.o,Nat.sub_mul]
 clear hil
 by_cases hroom:L.length+1<=cap
 . have hb4:¬ (cap=i+1):=by omega
   have hb5:i+1<=cap:=by omega
   have hq1:(0:Int)<=(i:Int)+1:=by omega
   have hq2:(i:Int)+1<=(L.length:Int)+1:=by omega
   have hq3:(i:Int)<=(L.length:Int)+1:=by omega
   have hq4:i<=L.length+1:=by omega
   have hb6:(L.length:Int)+1<=(cap:Int):=by omega
   have hb7:i<=L.length:=by omega
   have hb8:¬ ((cap:Int) < (L.length:Int)+1):=by omega
   obtain⟨tA,kA,hsa,-⟩:=ZdW (w:=w) (g:=vb) (j:=0) (by rw [HV.o.cell 0];simp [HFL.o]);obtain⟨tB,kB,hsb,hkB⟩:=ZdW (HF.o.th 0 (by omega))
   have hov:∀ o lb cb,(callFunc 224 #[.slice (some ⟨vb,0,none⟩) 1 1,.slice (some ⟨g,o,none⟩) lb cb]).run prog w=.ok (.value (.bool false)) w:=fun o lb cb=>by
    rw [run_callFunc_extern func224 (by kernel_rfl) (by kernel_rfl) (by kernel_rfl) (e:=Extern.SlicesOverlaps.overlaps #[59,59] #[4]) (by kernel_rfl),
     Lib.run_overlaps_apart w 59 4 170 underlying59 2 (fun w=>by simp [sizeOf,typeInfo,HI.o.1,HI.o.2.2.1]) ⟨vb,0,none⟩ ⟨g,o,none⟩ 1 1 lb cb hvb tA tB kA kB hsa hsb hkB (HV.o.free 0) (HV.o.free _)]
    rfl
   have hcp1:∀ ty dc sc,(Builtin.copy_ #[59,59] ty #[.slice (some ⟨g,(i+1)*2,none⟩) (L.length - i) dc,.slice (some ⟨g,i*2,none⟩) (L.length+1 - i) sc]).run prog w.drew=.ok (goInt (L.length - i:Nat)) (w.drew.setCells g ((i+1)*2) ((Zai axL L).drop (i*2))):=fun ty dc sc=>
    ZaQ w.drew _ _ ty 170 2 g ((i+1)*2) _ dc ⟨g,i*2,none⟩ _ sc (L.length - i) _ underlying59 HSZ.o (by show min _ _=_;omega) hdl (fun j u hj=>by
     rw [Go.WideShapes.add_plain,HGC.o w.drew rfl _ (by have:=(List.getElem?_eq_some_iff.1 hj).1;rw [hdl] at this;omega)];rw [List.getElem?_drop] at hj
     simpa using hj) (fun j hj=>HF.o.th _ (by rw [hdl] at hj;omega)) (fun j=>HF.o.fz j) (fun u hu=>ZaV _ u (List.mem_of_mem_drop hu))
   obtain⟨W1,hW1⟩:∃ W1,W1=w.drew.setCells g ((i+1)*2) ((Zai axL L).drop (i*2)):=⟨_,rfl⟩
   have hF1:∀ j,(W1.cell? ⟨g,j,none⟩).isSome=(w.cell? ⟨g,j,none⟩).isSome\/(W1.cell? ⟨g,j,none⟩).isSome=true:=fun j=>by
    cases hq:(w.cell? ⟨g,j,none⟩).isSome with
    | true=>exact Or.inr (by rw [hW1];exact Zbz (W:=w.drew) _ _ (fun t ht=>HF.o.th _ (by rw [hdl] at ht;omega)) hq)
    | false=>
     by_cases q:(i+1)*2<=j/\j < (i+1)*2+((Zai axL L).drop (i*2)).length
     . have:=HF.o.th j (by have:=q.2;rw [hdl] at this;omega)
       rw [hq] at this
       cases this
     . exact Or.inl (by rw [hW1,Zbs (by omega)];exact hq)
   have hT1:Zad g (g+1) w W1:=by rw [hW1];exact Zad.drewL (Zad.sets ⟨Nat.le_refl _,Nat.lt_succ_self _⟩ _ _ _)
   have hcp2:∀ ty dc,(Builtin.copy_ #[59,59] ty #[.slice (some ⟨g,i*2,none⟩) (L.length+1 - i) dc,.slice (some ⟨vb,0,none⟩) 1 1]).run prog W1=.ok (goInt (1:Nat)) (W1.setCells g (i*2) (axL x)):=fun ty dc=>
    ZaQ W1 _ _ ty 170 2 g (i*2) _ dc ⟨vb,0,none⟩ 1 1 1 _ underlying59 HSZ.o (by show min _ _=_;omega) (by rw [HFL.o]) (HVC.o W1 (hT1.block vb hvlt (by omega))) (fun j hj=>by
     have hth:=HF.o.th (i*2+j) (by rw [HFL.o] at hj;omega)
     rcases hF1 (i*2+j) with q | q
     . rw [q];exact hth
     . exact q) (fun j=>by rw [hW1,World.frozen?_setCells];exact HF.o.fz j) HONE.o
   rw [<- hW1] at hcp1;obtain⟨W2,hW2⟩:∃ W2,W2=W1.setCells g (i*2) (axL x):=⟨_,rfl⟩
   have HR2:Hd (FR axL 2 (W1.setCells g (i*2) (axL x)) g (g+1) g cap R):=by
    unfold Hd;rw [hW1,<- HRR.o];have hd:FR axL 2 w.drew g (g+1) g cap L:=⟨HF.o.bs,HF.o.up,HF.o.lt,HF.o.le,HF.o.mx,HF.o.th,HF.o.fz,HF.o.rg⟩;exact hd.insIn Zar hlt hroom x (by omega) (by omega)
   have HT2:Hd (Zad g (g+1) w (W1.setCells g (i*2) (axL x))):=hT1.trans (Zad.sets ⟨Nat.le_refl _,Nat.lt_succ_self _⟩ _ _ _);have HLN:Hd (R.length=L.length+1):=by unfold Hd;rw [<- HRR.o];simp;omega
   rw [<- hW2] at hcp2 HR2 HT2;clear hW2;clear hW1 hF1 hT1 hdl hsa hsb;go_enter func217,ntmps217;go_wp2_with (simp only [hov]);clear hov
   go_region_law (refine step_copy_runF rfl (.tmp 73) (.tmp 76) 59 59 rfl _ _ (by simp [Act.eval,Act.put]) (by simp [Act.eval,Act.put]) (hcp1 _ _ _) ?_)
   clear hcp1;go_wp2_with (simp only [hcp2]);clear hcp2;go_ret;exact⟨_,rfl,HT2.o,Or.inl ⟨g,cap,by rw [HLN.o];rfl,HR2.o⟩⟩
 . have hgr:cap < i+(L.length+1 - i):=by omega
   have hb8:(cap:Int) < (L.length:Int)+1:=by omega
   have hw3:IntKind.wrap .i64 ((L.length:Int)+1 - (i:Int))=((L.length+1 - i:Nat):Int):=by rw [IntKind.wrap_i64];omega
   have hie:i+(L.length+1 - i)=L.length+1:=by omega
   have hap:=fun ty=>ZbR (P:=prog) w 59 3 ty 170 i0 (.agg #[.int .i64 0,.slice none 0 0]) .i64 .i64 underlying59 underlying3 HI.o.1 HI.o.2.1 ⟨g,0,none⟩ i cap (L.length+1 - i) ((Zai axL L).take (i*2)) (by rw [List.length_take,HXL.o,HI.o.2.2.1];omega) (fun j u hj=>by
    rw [List.getElem?_take] at hj
    split at hj
    . rw [Go.WideShapes.add_plain,Nat.zero_add,HGC.o w rfl _ (by omega)]
      exact hj
    . cases hj) (by omega) (by rw [HI.o.2.2.1];omega) hgr (by omega) (growslice_fits hgr (by rw [HI.o.2.2.2];omega)) (by rw [HI.o.2.2.2];omega)
   rw [hie] at hap;have hcg:=grownCap_ge w (L.length+1) cap 170;have hcx:=grownCap_le_maxLen w (L.length+1) cap 170 (by unfold maxLen;omega);generalize grownCap w (L.length+1) cap 170=cap1 at hap hcg hcx;have hzc:∀ n,(Builtin.zeroCells (.agg #[.int .i64 0,.slice none 0 0]:Value).cells n).size=n*2:=fun n=>size_zeroCells _ n
   obtain⟨C0,hC0⟩:∃ C0:List Value,C0=(((Zai axL L).take (i*2)).toArray ++ Builtin.zeroCells (.agg #[.int .i64 0,.slice none 0 0]:Value).cells (L.length+1 - i) ++ Builtin.zeroCells (.agg #[.int .i64 0,.slice none 0 0]:Value).cells (cap1 - (L.length+1))).toList:=⟨_,rfl⟩
   have hC0l:C0.length=cap1*2:=by
    rw [hC0,Array.length_toList];simp only [Array.size_append,List.size_toArray,hzc,List.length_take,HXL.o]
    omega
   have hC0t:C0.take (i*2)=(Zai axL L).take (i*2):=by
    rw [hC0];simp only [Array.toList_append,List.append_assoc];refine (List.take_append_of_le_length ?_).trans (List.take_of_length_le ?_)
    . simp only [List.length_take,HXL.o];omega
    . simp only [List.length_take];omega
   have hC0a:((Zai axL L).take (i*2)).toArray ++ Builtin.zeroCells (.agg #[.int .i64 0,.slice none 0 0]:Value).cells (L.length+1 - i) ++ Builtin.zeroCells (.agg #[.int .i64 0,.slice none 0 0]:Value).cells (cap1 - (L.length+1))=C0.toArray:=by rw [hC0]
   rw [hC0a] at hap;obtain⟨W0,hW0⟩:∃ W0,W0=w.drew.alloc (.cells C0.toArray 170):=⟨_,rfl⟩
   rw [<- hW0] at hap;have hB0:Box W0 w.heap.size C0.toArray:=by rw [hW0];exact Box.new w.drew _ _ _ rfl
   have hb0:Zw_ w W0:=by rw [hW0];exact (Zb_.drew).trans (Zab w.drew _)
   have hth0:∀ j,j < cap1*2->(W0.cell? ⟨w.heap.size,j,none⟩).isSome=true:=fun j hj=>by rw [hB0.cell j,List.getElem?_toArray,List.getElem?_eq_getElem (by rw [hC0l];exact hj)];rfl
   have hsW:w.heap.size < W0.heap.size:=hB0.lt
   have hcp2:∀ ty dc,(Builtin.copy_ #[59,59] ty #[.slice (some ⟨w.heap.size,i*2,none⟩) (L.length+1 - i) dc,.slice (some ⟨vb,0,none⟩) 1 1]).run prog W0=.ok (goInt (1:Nat)) (W0.setCells w.heap.size (i*2) (axL x)):=fun ty dc=>
    ZaQ W0 _ _ ty 170 2 w.heap.size (i*2) _ dc ⟨vb,0,none⟩ 1 1 1 _ underlying59 HSZ.o (by show min _ _=_;omega) (by rw [HFL.o]) (HVC.o W0 (hb0.block vb hvlt)) (fun j hj=>hth0 _ (by rw [HFL.o] at hj;omega)) (fun j=>hB0.free j) HONE.o
   obtain⟨W1,hW1⟩:∃ W1,W1=W0.setCells w.heap.size (i*2) (axL x):=⟨_,rfl⟩
   have hT1:Zad w.heap.size (w.heap.size+1) W0 W1:=by rw [hW1];exact Zad.sets ⟨Nat.le_refl _,Nat.lt_succ_self _⟩ _ _ _
   have hb1':Zw_ w W1:=hb0.trans (hT1.under (by omega))
   have hcp1:∀ ty dc sc,(Builtin.copy_ #[59,59] ty #[.slice (some ⟨w.heap.size,(i+1)*2,none⟩) (L.length - i) dc,.slice (some ⟨g,i*2,none⟩) (L.length - i) sc]).run prog W1.drew=.ok (goInt (L.length - i:Nat)) (W1.drew.setCells w.heap.size ((i+1)*2) ((Zai axL L).drop (i*2))):=fun ty dc sc=>
    ZaQ W1.drew _ _ ty 170 2 w.heap.size ((i+1)*2) _ dc ⟨g,i*2,none⟩ _ sc (L.length - i) _ underlying59 HSZ.o (by show min _ _=_;omega) hdl (fun j u hj=>by
     rw [Go.WideShapes.add_plain,HGC.o W1.drew (hb1'.block g hglt) _ (by have:=(List.getElem?_eq_some_iff.1 hj).1;rw [hdl] at this;omega)];rw [List.getElem?_drop] at hj
     simpa using hj) (fun j hj=>by
     show (W1.cell? _).isSome=true
     rw [hW1];exact Zbz _ _ (fun t ht=>hth0 _ (by rw [HFL.o] at ht;omega)) (hth0 _ (by rw [hdl] at hj;omega))) (fun j=>by
     show W1.frozen? _=false
     rw [hW1,World.frozen?_setCells];exact hB0.free j) (fun u hu=>ZaV _ u (List.mem_of_mem_drop hu))
   have HR2:Hd (FR axL 2 (W1.drew.setCells w.heap.size ((i+1)*2) ((Zai axL L).drop (i*2))) w.heap.size (w.heap.size+1) w.heap.size cap1 R):=by
    unfold Hd;rw [hW1,<- HRR.o]
    exact FR.insNew Zar hsW hth0 hB0.free hcx hlt hcg x (fun j hj=>by
     rw [hB0.cell j,List.getElem?_toArray];have:=congrArg (fun l=>l[j]?) hC0t;simp only [List.getElem?_take,if_pos hj] at this;exact this) (by omega) (by omega)
   rw [<- hW1] at hcp2;obtain⟨W2,hW2⟩:∃ W2,W2=W1.drew.setCells w.heap.size ((i+1)*2) ((Zai axL L).drop (i*2)):=⟨_,rfl⟩
   have HB2:Hd (Zw_ w (W1.drew.setCells w.heap.size ((i+1)*2) ((Zai axL L).drop (i*2)))):=Below.sets Zl_ _ _ hb1'.drew;rw [<- hW2] at hcp1 HR2 HB2;clear hW2;have HLN:Hd (R.length=L.length+1):=by unfold Hd;rw [<- HRR.o];simp;omega
   have hb9:¬ (cap1=i):=by omega
   have hq1:(0:Int)<=(i:Int)+1:=by omega
   have hq2:(i:Int)+1<=(L.length:Int)+1:=by omega
   have hq3:(i:Int)<=(L.length:Int)+1:=by omega
   have hq4:i<=L.length+1:=by omega
   have hb10:¬ (cap1=i+1):=by omega
   have hb11:i+1<=cap1:=by omega
   clear hC0 hC0l hC0t hC0a hW0 hB0 hb0 hth0 hT1 hb1' hW1 hdl hzc;go_enter func217,ntmps217
   go_wp2_with (at_builtin;first
    | (refine Lib.wpList_append_run _ rfl (.tmp 34) (.tmp 39) 59 3 rfl _ _ rfl rfl _ _ (hap _) ?_)
    | (refine wpList_copy_runF _ rfl (.tmp 43) (.tmp 44) 59 59 rfl _ _ rfl rfl (hcp2 _ _) ?_))
   go_region_law (refine step_copy_runF rfl (.tmp 50) (.tmp 53) 59 59 rfl _ _ (by simp [Act.eval,Act.put]) (by simp [Act.eval,Act.put]) (hcp1 _ _ _) ?_)
   clear hcp1 hcp2 hap;go_wp2;go_ret;refine⟨_,rfl,⟨HB2.o.os,HB2.o.tape,HB2.o.output,HB2.o.size,fun j hj _=>HB2.o.block j hj⟩,Or.inr ⟨w.heap.size,cap1,by rw [HLN.o];rfl,?_⟩⟩;have hR2:=HR2.o;exact⟨Nat.le_refl _,hR2.lt,hR2.lt,hR2.le,hR2.mx,hR2.th,hR2.fz,hR2.rg⟩
theorem Zhd (vb:Nat) (x:AX) (w:World) (hv:Box w vb (axL x).toArray) :
 Calls prog 217 #[.slice none 0 0,.int .i64 0,.slice (some ⟨vb,0,none⟩) 1 1] w fun e w'=>∃ v',e=.returned v'/\Zw_ w w'/\ZaH axL 2 w' w.heap.size w'.heap.size v' [x]:=by
 have HV:=Zaa hv
 obtain⟨v',w',hrun,ht,hrow⟩:=ZdM Zar (by decide) underlying59 ZaT rfl (w:=w) (M:=[x]) 59 (Zay.nil axL 2 w w.heap.size w.heap.size) (some ⟨vb,0,none⟩) 1 1 rfl (fun e=>by cases e) (fun ad e j u hu=>by
  injection e with e
  subst e;rw [Go.WideShapes.add_plain,Nat.zero_add,HV.o.cell j]
  simpa [Zai] using hu) (ZaV _) (by simp) (by decide)
 have HB:Hd (Zw_ w w'):=ht.none Zl_;have HRW:=Zaa hrow;clear ht hrow hv;go_enter func217,ntmps217;go_wp2_with (at_builtin;refine wpList_append_run rfl (.tmp 23) (.tmp 24) 59 rfl rfl rfl hrun ?_);go_ret;refine⟨v',rfl,HB.o,?_⟩;have h2:=HRW.o;rw [List.nil_append] at h2
 rcases h2 with (⟨_,h3⟩ | h3)|(⟨_,h3⟩ | h3)
 . cases h3
 . obtain⟨g,cap,_,h4⟩:=h3
   have:=h4.bs;have:=h4.up
   omega
 . cases h3
 . exact h3
variable {lo γ:Nat} {w:World} {V:Rr}
theorem Rz.acks6 {K:Nat->Prop}{b:Nat->Option Addr}{m:Nat->Nat}{S:Nat->Nat->Prop} (h:Rz K lo w γ b m S V) :
 ∃ L:List AX,L.map (·.1)=V.ac/\((b 6=none/\m 6=0/\L=[])\/∃ g,b 6=some ⟨g,0,none⟩/\S 6 g/\g≠γ/\¬ K g/\FR axL 2 w g (g+1) g (m 6) L)/\
  ∀ k,k<=V.ac.length->∀ (ix:Int) w3 v,(((∃ T:Nat->Prop,Zaj T w w3/\∀ t,T t->b 6=some ⟨t,0,none⟩)/\ZaH axL 2 w3 w.heap.size w3.heap.size v (L.take k ++ [Zdk ix] ++ L.drop k))\/(∃ g,b 6=some ⟨g,0,none⟩/\Zad g (g+1) w w3/\ZaH axL 2 w3 g (g+1) v (L.take k ++ [Zdk ix] ++ L.drop k)))->
  ∃ a' c',v=.slice a' (V.ac.take k ++ [(⟨ix,[]⟩:Ra)] ++ V.ac.drop k).length c'/\Zaj (S 6) w w3/\∃ b' m' S',Rz K lo (w3.setCell ⟨γ,16,none⟩ v) γ b' m' S' { V with ac:=V.ac.take k ++ [(⟨ix,[]⟩:Ra)] ++ V.ac.drop k }/\Zag K w (w3.setCell ⟨γ,16,none⟩ v):=by
 obtain⟨L,hng,hmap⟩:=h.cp.o6;have hll:L.length=V.ac.length:=by rw [<- hmap,List.length_map]
 have hsg:=h.cp.seg 6 (by decide);refine⟨L,hmap,?_,fun k hk ix w3 v hcase=>?_⟩
 . rcases hng with ⟨e,e'⟩ | ⟨g,c,hg,⟨g',cp,e1,e2⟩,hI⟩
   . injection e with e1 e2 e3
     exact Or.inl ⟨e1,e3,e'⟩
   . obtain rfl:g'=g:=by have:=e2.bs;have:=e2.up;omega
     injection e1 with e3 e4 e5
     exact Or.inr ⟨g',e3,hg,fun e=>h.far 6 (by decide) (e ▸ hg),fun hK=>(h.prot g' hK).2.2 6 (by decide) hg,by rw [e5];exact e2⟩
 have hmk:(L.take k ++ [Zdk ix] ++ L.drop k).map (·.1)=V.ac.take k ++ [(⟨ix,[]⟩:Ra)] ++ V.ac.drop k:=by
  rw [<- hmap,List.map_append,List.map_append,List.map_take,List.map_drop]
  rfl
 have hlen:(L.take k ++ [Zdk ix] ++ L.drop k).length=(V.ac.take k ++ [(⟨ix,[]⟩:Ra)] ++ V.ac.drop k).length:=by rw [<- hmk,List.length_map]
 have hnil:PA (Zdk ix) w3 0 0:=Or.inl ⟨rfl,rfl⟩
 rcases hcase with ⟨⟨T,hT,hTb⟩,g',cp,e1,e2⟩ | ⟨g,hbg,ht,g',cp,e1,e2⟩
 . rw [hlen] at e1
   have hg':w.heap.size<=g'/\g' < w3.heap.size:=⟨e2.bs,e2.up⟩
   have hT6:∀ t,T t->S 6 t:=fun t ht=>by
    have hbt:=hTb t ht
    rcases hng with ⟨e,_⟩ | ⟨g0,c,hg,⟨g1,cp0,f1,f2⟩,hI⟩
    . injection e with e3 e4 e5
      rw [hbt] at e3
      cases e3
    . obtain rfl:g1=g0:=by have:=f2.bs;have:=f2.up;omega
      injection f1 with f3 f4 f5
      rw [hbt] at f3;injection f3 with f3
      injection f3 with f3
      rw [f3];exact hg
   have htS:Zaj (S 6) w w3:=hT.wide hT6;refine⟨_,_,e1,htS,?_⟩
   obtain⟨c,hI⟩:∃ c,ZcP PA w3 (Gr (S 6) w w3) g' (L.take k ++ [Zdk ix] ++ L.drop k) c:=by
    rcases hng with ⟨_,e⟩ | ⟨g,c,hg,⟨g1,cp0,f1,f2⟩,hI⟩
    . have h0:ZcP PA w3 (Gr (S 6) w w3) g' L (fun _=>(0,0)):=by
       rw [e];exact⟨fun i hi=>absurd hi (Nat.not_lt_zero _),fun i hi=>absurd hi (Nat.not_lt_zero _),fun i j hi=>absurd hi (Nat.not_lt_zero _),fun i hi=>absurd hi (Nat.not_lt_zero _)⟩
      exact⟨_,h0.ins (by omega) hnil (fun i hi=>by rw [e] at hi;exact absurd hi (Nat.not_lt_zero _))⟩
    . obtain rfl:g1=g:=by have:=f2.bs;have:=f2.up;omega
      injection f1 with f3 f4 f5
      have hTg:∀ t,T t->t=g1:=fun t ht=>by
       have hbt:=hTb t ht;rw [f3] at hbt;injection hbt with hbt
       injection hbt with hbt
       exact hbt.symm
      have hkp:Zag (fun t=>t < w.heap.size/\t≠g1) w w3:=Zag.touchS hT (fun t p=>⟨p.1,fun ht=>p.2 (hTg t ht)⟩);have hI0:ZcP PA w3 (Gr (S 6) w w3) g1 L c:=⟨fun i hi=>⟨(hI.seg i hi).1,fun t p q=>Or.inl ((hI.seg i hi).2.1 t p q),(hI.seg i hi).2.2⟩,hI.one,hI.ap,fun i hi=>Zdm.kp (hI.inn i hi) hkp (fun t p q=>⟨(hsg t ((hI.seg i hi).2.1 t p q)).2,by have:=(hI.seg i hi).2.2;omega⟩)⟩;refine⟨_,hI0.ins (by omega) hnil (fun i hi=>?_)⟩
      rcases Nat.lt_or_ge (c i).1 (c i).2 with p | p
      . have:=(hsg (c i).1 ((hI.seg i hi).2.1 _ Zl_ p)).2
        have:=hI.one i hi
        omega
      . omega
   have:=h.part6 htS (L':=V.ac.take k ++ [(⟨ix,[]⟩:Ra)] ++ V.ac.drop k) (a':=some ⟨g',0,none⟩) (m':=cp) ⟨_,Or.inr ⟨g',c,Or.inr hg',⟨g',cp,by rw [hlen],e2.own'⟩,hI⟩,hmk⟩;rw [e1];exact⟨_,_,_,this⟩
 . rw [hlen] at e1
   obtain rfl:g'=g:=by have:=e2.bs;have:=e2.up;omega
   rcases hng with ⟨e,_⟩ | ⟨g0,c,hg,⟨g1,cp0,f1,f2⟩,hI⟩
   . injection e with e3 e4 e5
     rw [hbg] at e3
     cases e3
   obtain rfl:g1=g0:=by have:=f2.bs;have:=f2.up;omega
   injection f1 with f3 f4 f5
   rw [hbg] at f3;injection f3 with f3
   injection f3 with f3
   subst f3;have htS:Zaj (S 6) w w3:=ht.toS (ZcX hg);refine⟨_,_,e1,htS,?_⟩;have hkp:Zag (fun t=>t < w.heap.size/\t≠g') w w3:=Zag.touch ht (fun t p=>⟨p.1,by omega⟩);have hI0:ZcP PA w3 (Gr (S 6) w w3) g' L c:=⟨fun i hi=>⟨(hI.seg i hi).1,fun t p q=>Or.inl ((hI.seg i hi).2.1 t p q),(hI.seg i hi).2.2⟩,hI.one,hI.ap,fun i hi=>Zdm.kp (hI.inn i hi) hkp (fun t p q=>⟨(hsg t ((hI.seg i hi).2.1 t p q)).2,by have:=(hI.seg i hi).2.2;omega⟩)⟩;have hI2:=hI0.ins (k:=k) (by omega) hnil (fun i hi=>(hI.seg i hi).2.2);have:=h.part6 htS (L':=V.ac.take k ++ [(⟨ix,[]⟩:Ra)] ++ V.ac.drop k) (a':=some ⟨g',0,none⟩) (m':=cp) ⟨_,Or.inr ⟨g',_,Or.inl hg,⟨g',cp,by rw [hlen],e2⟩,hI2⟩,hmk⟩;rw [e1];exact⟨_,_,_,this⟩
theorem Rz.inner6 {K:Nat->Prop}{b:Nat->Option Addr}{m:Nat->Nat}{S:Nat->Nat->Prop} (h:Rz K lo w γ b m S V) {k:Nat} (hk:k < V.ac.length) :
 ∃ g a1 c1,∃ T:Nat->Prop,b 6=some ⟨g,0,none⟩/\V.ac.length<=m 6/\w.cell? ⟨g,k*2+1,none⟩=some (.slice a1 V.ac[k].fr.length c1)/\(∀ j,w.frozen? ⟨g,j,none⟩=false)/\g < w.heap.size/\g≠γ/\¬ K g/\NRS inL 1 w T (.slice a1 V.ac[k].fr.length c1) V.ac[k].fr/\(∀ t,T t->S 6 t/\t≠g)/\
  ∀ w1 v1 N,Zaj T w w1->NRS inL 1 w1 (Gr T w w1) v1 N->∃ S',Rz K lo (w1.setCell ⟨g,k*2+1,none⟩ v1) γ b m S' { V with ac:=V.ac.set k { V.ac[k] with fr:=N } }/\Zag K w (w1.setCell ⟨g,k*2+1,none⟩ v1):=by
 obtain⟨L,hng,hmap⟩:=h.cp.o6;have hll:L.length=V.ac.length:=by rw [<- hmap,List.length_map]
 have hkL:k < L.length:=by omega
 have hLk:L[k].1=V.ac[k]:=by
  have:=congrArg (fun l=>l[k]?) hmap
  simpa only [List.getElem?_map,List.getElem?_eq_getElem hkL,List.getElem?_eq_getElem hk,Option.map_some,Option.some.injEq] using this
 have hsg:=h.cp.seg 6 (by decide)
 rcases hng with ⟨_,e⟩ | ⟨g,c,hg,⟨g',cp,e1,e2⟩,hI⟩
 . rw [e] at hkL;simp at hkL
 obtain rfl:g'=g:=by have:=e2.bs;have:=e2.up;omega
 injection e1 with e1 e3 e4
 have hin:Zay inL 1 w (c k).1 (c k).2 (.slice L[k].2.1 L[k].1.fr.length L[k].2.2) L[k].1.fr:=hI.inn k hkL;have hgl:=e2.lt;have hc:=e2.get Zar (i:=k) hkL (t:=1) (by omega) (v:=.slice L[k].2.1 L[k].1.fr.length L[k].2.2) rfl;rw [hLk] at hin hc;have hTg:∀ t,(c k).1<=t->t < (c k).2->S 6 t/\t≠g':=fun t p q=>⟨(hI.seg k hkL).2.1 t p q,by have:=(hI.seg k hkL).2.2;omega⟩
 refine⟨g',L[k].2.1,L[k].2.2,fun t=>(c k).1<=t/\t < (c k).2,e1,by rw [e4,<- hll];exact e2.le,hc,e2.fz,hgl,fun e=>h.far 6 (by decide) (e ▸ hg),fun hK=>(h.prot g' hK).2.2 6 (by decide) hg,hin.set1 (fun t p q=>⟨p,q⟩),fun t ht=>hTg t ht.1 ht.2,fun w1 v1 N htT hN=>?_⟩;obtain⟨a',c',rfl⟩:=hN.form;have hs1:=htT.size;obtain⟨W,hW⟩:∃ W,W=w1.setCell ⟨g',k*2+1,none⟩ (.slice a' N.length c'):=⟨_,rfl⟩
 rw [<- hW];have hsW:W.heap.size=w1.heap.size:=by rw [hW];simp [World.setCell]
 have ht1:Zad g' (g'+1) w1 W:=by rw [hW];exact Zck _ _ _ _
 have hT6:Zaj (S 6) w w1:=htT.wide (fun t ht=>(hTg t ht.1 ht.2).1);have htS:Zaj (S 6) w W:=Zaj.trans hT6 (ht1.toS (ZcX hg));have hk1:Zag (fun t=>t < w.heap.size/\¬ ((c k).1<=t/\t < (c k).2)) w w1:=Zag.touchS htT (fun _ p=>p);have hkp:Zag (fun t=>t < w.heap.size/\t≠g'/\¬ ((c k).1<=t/\t < (c k).2)) w W:=(hk1.less (fun t p=>⟨p.1,p.2.2⟩)).trans (Zag.touch ht1 (fun t p=>⟨by omega,by omega⟩));have hfr1:FR axL 2 w1 g' (g'+1) g' cp L:=e2.kept hk1 ⟨hgl,by have:=(hI.seg k hkL).2.2;omega⟩
 have hfr:FR axL 2 W g' (g'+1) g' cp (L.set k ({ V.ac[k] with fr:=N },a',c')):=by
  rw [hW];refine FR.setOne Zar hfr1 hkL (by omega) _ _ ?_;have:axL L[k]=[.int .i64 L[k].1.ix,.slice L[k].2.1 L[k].1.fr.length L[k].2.2]:=rfl;rw [this,hLk]
  rfl
 have hIo:∀ i (hi:i < L.length),i≠k->PA L[i] W (c i).1 (c i).2:=fun i hi hne=>Zdm.kp (hI.inn i hi) hkp (fun t p q=>⟨(hsg t ((hI.seg i hi).2.1 t p q)).2,by have:=(hI.seg i hi).2.2;omega,by have:=hI.ap i k hi hkL hne;omega⟩)
 have hin':∃ l u,l<=u/\u<=l+1/\(∀ t,l<=t->t < u->Gr (S 6) w W t)/\(g' < l\/u<=g')/\(∀ i,i < L.length->i≠k->(c i).2<=l\/u<=(c i).1)/\Zay inL 1 W l u (.slice a' N.length c') N:=by
  rcases hN with ⟨e,e'⟩ | ⟨gn,hgn,g2,cn,e,hf⟩
  . exact⟨(c k).1,(c k).2,(hI.seg k hkL).1,hI.one k hkL,fun t p q=>Or.inl ((hI.seg k hkL).2.1 t p q),(hI.seg k hkL).2.2,fun i hi hne=>hI.ap i k hi hkL hne,Or.inl ⟨e,e'⟩⟩
  . obtain rfl:g2=gn:=by have:=hf.bs;have:=hf.up;omega
    rcases hgn with hgn | hgn
    . have hne:g2≠g':=(hTg g2 hgn.1 hgn.2).2
      have ho:=hI.one k hkL;refine⟨(c k).1,(c k).2,(hI.seg k hkL).1,ho,fun t p q=>Or.inl ((hI.seg k hkL).2.1 t p q),(hI.seg k hkL).2.2,fun i hi hne=>hI.ap i k hi hkL hne,Or.inr ⟨g2,cn,e,?_⟩⟩;exact (hf.touch ht1 (by omega)).wide (by omega) (by omega)
    . have q2:=hf.lt
      refine⟨g2,g2+1,by omega,by omega,fun t p q=>Or.inr ⟨by omega,by omega⟩,by omega,fun i hi hne=>?_,Or.inr ⟨g2,cn,e,hf.own'.touch ht1 (by omega)⟩⟩
      rcases Nat.lt_or_ge (c i).1 (c i).2 with p | p
      . have:=(hsg (c i).1 ((hI.seg i hi).2.1 _ Zl_ p)).2
        have:=hI.one i hi
        omega
      . rcases Nat.lt_or_ge g2 (c i).1 with p' | p'
        . exact Or.inr p'
        . exact Or.inl (by omega)
 obtain⟨l,u,q1,q2,q3,q4,q5,q6⟩:=hin'
 have hI2:ZcP PA W (Gr (S 6) w W) g' (L.set k ({ V.ac[k] with fr:=N },a',c')) (upd c k (l,u)):=by
  refine⟨fun i hi=>?_,fun i hi=>?_,fun i j hi hj hne=>?_,fun i hi=>?_⟩
  . rw [List.length_set] at hi
    by_cases e:i=k
    . subst e;rw [Zam];exact⟨q1,q3,q4⟩
    . rw [ZaG _ _ e];exact⟨(hI.seg i hi).1,fun t a b=>Or.inl ((hI.seg i hi).2.1 t a b),(hI.seg i hi).2.2⟩
  . rw [List.length_set] at hi
    by_cases e:i=k
    . subst e;rw [Zam];exact q2
    . rw [ZaG _ _ e];exact hI.one i hi
  . rw [List.length_set] at hi hj
    by_cases e:i=k
    . subst e
      rw [Zam,ZaG _ _ (Ne.symm hne)];exact (q5 j hj (Ne.symm hne)).symm
    . rw [ZaG _ _ e]
      by_cases e':j=k
      . subst e';rw [Zam];exact q5 i hi hne
      . rw [ZaG _ _ e'];exact hI.ap i j hi hj hne
  . have hi':=hi
    rw [List.length_set] at hi'
    by_cases e:i=k
    . subst e
      rw [Zam,List.getElem_set_self];exact q6
    . rw [ZaG _ _ e,List.getElem_set_ne (fun h=>e h.symm)]
      exact hIo i hi' e
 refine⟨_,h.turn6 htS (by rw [List.length_set]) ⟨L.set k ({ V.ac[k] with fr:=N },a',c'),Or.inr ⟨g',_,Or.inl hg,⟨g',cp,?_,hfr⟩,hI2⟩,by rw [List.map_set,hmap]⟩⟩;rw [List.length_set,List.length_set,hll,e1,<- e4]
end Go.Proofs.YtdeammfdkaomlaaGreat
