import Derived.Test.YtkiefplmnoapfaaGreatV38
set_option maxHeartbeats 16000000
set_option maxRecDepth 100000
open Go.Proofs.Tryz
namespace Go.Proofs.YtkiefplmnoapfaaGreat
open Go.RowKit Go.Deep
theorem Zha (g i vb cap:Nat) (L:List Int) (x:Int) (w:World) (hfr:FR inL 1 w g (g+1) g cap L) (hi:i<=L.length) (hn:L.length<=1000000) (hvb:vb≠g) (hv:Box w vb (inL x).toArray) :
 Calls prog 162 #[.slice (some ⟨g,0,none⟩) L.length cap,.int .i64 i,.slice (some ⟨vb,0,none⟩) 1 1] w fun e w'=>∃ v',e=.returned v'/\Zad g (g+1) w w'/\(ZaK inL 1 w' g (g+1) v' (L.take i ++ [x] ++ L.drop i)\/ZaK inL 1 w' w.heap.size w'.heap.size v' (L.take i ++ [x] ++ L.drop i)):=by
 have HF:=Zaa hfr;have HV:=Zaa hv;have hvlt:=hv.lt;have hglt:=hfr.lt;have hlc:L.length<=cap:=hfr.le;have hcm:=hfr.mx;have HXL:Hd ((Zai inL L).length=L.length*1):=Zaw ZaG L;have HONE:Hd (∀ u ∈ inL x,u.oneCell'=true):=fun u hu=>ZaX [x] u (by simpa [Zai] using hu)
 have HFL:Hd ((inL x).length=1):=ZaG x
 have HVC:Hd (∀ W:World,W.heap[vb]?=w.heap[vb]?->∀ j u,(inL x)[j]?=some u->W.cell? ((⟨vb,0,none⟩:Addr).add j)=some u):=fun W hW j u hu=>by
  rw [Go.WideShapes.add_plain,Nat.zero_add,World.cell?_of_block (w:=w) (a:=⟨vb,j,none⟩) hW,HV.o.cell j]
  simpa using hu
 clear hfr hv;generalize hRR:L.take i ++ [x] ++ L.drop i=R;have HRR:=Zaa hRR;clear hRR
 by_cases hil:i=L.length
 . subst hil
   have HEN:Hd (R=L ++ [x]):=by unfold Hd;rw [<- HRR.o];simp
   have hii:(L.length:Int)<=L.length:=Int.le_refl _;have hz:¬ ((L.length:Int) < 0):=by omega
   obtain⟨v',w',hrun,ht,hrow⟩:=ZeM ZaG (by decide) underlying27 Zbj rfl (w:=w) (lo:=g) (hi':=g+1) (L:=L) (M:=[x]) 27 ⟨g,cap,rfl,HF.o⟩ (some ⟨vb,0,none⟩) 1 1 rfl (fun e=>by cases e) (fun ad e j u hu=>by
    injection e with e
    subst e;exact HVC.o w rfl j u (by simpa [Zai] using hu)) (ZaX _) (by simp;omega) (by decide)
   have HT:=Zaa ht;have HRW:=Zaa hrow;clear ht hrow
   by_cases hcl:cap=L.length
   all_goals
    go_enter func162,ntmps162;go_wp2_with (at_builtin;refine wpList_append_run rfl (.tmp 23) (.tmp 24) 27 rfl rfl rfl hrun ?_);go_ret;refine⟨v',rfl,HT.o,?_⟩;rw [HEN.o];exact HRW.o
 have hlt:i < L.length:=by omega
 obtain⟨i0,hin,hz0,hz1,hz2⟩:=info_parts Zbj;have HI:=Zaa (And.intro hin (And.intro hz0 (And.intro hz1 hz2)));have HSZ:Hd ((prog.info? 3).map (·.size)=some 1):=by unfold Hd;rw [hin];simp [hz1]
 clear hin hz0 hz1 hz2
 have HGC:Hd (∀ W:World,W.heap[g]?=w.heap[g]?->∀ j,j < L.length*1->W.cell? ⟨g,j,none⟩=(Zai inL L)[j]?):=fun W hW j hj=>by
  rw [World.cell?_of_block (w:=w) (a:=⟨g,j,none⟩) hW];obtain⟨u,hu⟩:∃ u,(Zai inL L)[j]?=some u:=⟨_,List.getElem?_eq_getElem (by rw [HXL.o];exact hj)⟩
  rw [hu];have:=HF.o.rg j u hu
  rwa [Nat.zero_add] at this
 have hii:¬ ((i:Int)=(L.length:Int)):=by omega
 have hi1:(i:Int)<=(L.length:Int):=by omega
 have hcapI:(cap:Int)<=9223372036854775807:=by unfold maxLen at hcm;omega
 have hw1:IntKind.wrap .i64 ((L.length:Int)+1)=(L.length:Int)+1:=by rw [IntKind.wrap_i64];omega
 have hw2:IntKind.wrap .i64 ((i:Int)+1)=(i:Int)+1:=by rw [IntKind.wrap_i64];omega
 have hti:((i:Int)+1).toNat=i+1:=by omega
 have htn:((L.length:Int)+1).toNat=L.length+1:=by omega
 have hb1:¬ (cap=i):=by omega
 have hb3:i<=cap:=by omega
 have hdl:((Zai inL L).drop (i*1)).length=(L.length - i)*1:=by rw [List.length_drop,HXL.o,Nat.sub_mul]
 clear hil
 by_cases hroom:L.length+1<=cap
 . have hb4:¬ (cap=i+1):=by omega
   have hb5:i+1<=cap:=by omega
   have hq1:(0:Int)<=(i:Int)+1:=by omega
   have hq2:(i:Int)+1<=(L.length:Int)+1:=by omega
   have hq3:(i:Int)<=(L.length:Int)+1:=by omega
   have hq4:i<=L.length+1:=by omega
   have hb6:(L.length:Int)+1<=(cap:Int):=by omega
   have hb7:i<=L.length:=by omega
   have hb8:¬ ((cap:Int) < (L.length:Int)+1):=by omega
   obtain⟨tA,kA,hsa,-⟩:=Zd0 (w:=w) (g:=vb) (j:=0) (by rw [HV.o.cell 0];simp [HFL.o]);obtain⟨tB,kB,hsb,hkB⟩:=Zd0 (HF.o.th 0 (by omega))
   have hov:∀ o lb cb,(callFunc 171 #[.slice (some ⟨vb,0,none⟩) 1 1,.slice (some ⟨g,o,none⟩) lb cb]).run prog w=.ok (.value (.bool false)) w:=fun o lb cb=>by
    rw [run_callFunc_extern func171 (by kernel_rfl) (by kernel_rfl) (by kernel_rfl) (e:=Extern.SlicesOverlaps.overlaps #[27,27] #[4]) (by kernel_rfl),
     Lib.run_overlaps_apart w 27 4 3 underlying27 1 (fun w=>by simp [sizeOf,typeInfo,HI.o.1,HI.o.2.2.1]) ⟨vb,0,none⟩ ⟨g,o,none⟩ 1 1 lb cb hvb tA tB kA kB hsa hsb hkB (HV.o.free 0) (HV.o.free _)]
    rfl
   have hcp1:∀ ty dc sc,(Builtin.copy_ #[27,27] ty #[.slice (some ⟨g,i+1,none⟩) (L.length - i) dc,.slice (some ⟨g,i,none⟩) (L.length+1 - i) sc]).run prog w.drew=.ok (goInt (L.length - i:Nat)) (w.drew.setCells g (i+1) ((Zai inL L).drop (i*1))):=fun ty dc sc=>
    ZaZ w.drew _ _ ty 3 1 g (i+1) _ dc ⟨g,i,none⟩ _ sc (L.length - i) _ underlying27 HSZ.o (by show min _ _=_;omega) hdl (fun j u hj=>by
     rw [Go.WideShapes.add_plain,HGC.o w.drew rfl _ (by have:=(List.getElem?_eq_some_iff.1 hj).1;rw [hdl] at this;omega)];rw [List.getElem?_drop] at hj
     simpa using hj) (fun j hj=>HF.o.th _ (by rw [hdl] at hj;omega)) (fun j=>HF.o.fz j) (fun u hu=>ZaX _ u (List.mem_of_mem_drop hu))
   obtain⟨W1,hW1⟩:∃ W1,W1=w.drew.setCells g (i+1) ((Zai inL L).drop (i*1)):=⟨_,rfl⟩
   have hF1:∀ j,(W1.cell? ⟨g,j,none⟩).isSome=(w.cell? ⟨g,j,none⟩).isSome\/(W1.cell? ⟨g,j,none⟩).isSome=true:=fun j=>by
    cases hq:(w.cell? ⟨g,j,none⟩).isSome with
    | true=>exact Or.inr (by rw [hW1];exact ZbF (W:=w.drew) _ _ (fun t ht=>HF.o.th _ (by rw [hdl] at ht;omega)) hq)
    | false=>
     by_cases q:i+1<=j/\j < i+1+((Zai inL L).drop (i*1)).length
     . have:=HF.o.th j (by have:=q.2;rw [hdl] at this;omega)
       rw [hq] at this
       cases this
     . exact Or.inl (by rw [hW1,Zbu (by omega)];exact hq)
   have hT1:Zad g (g+1) w W1:=by rw [hW1];exact Zad.drewL (Zad.sets ⟨Nat.le_refl _,Nat.lt_succ_self _⟩ _ _ _)
   have hcp2:∀ ty dc,(Builtin.copy_ #[27,27] ty #[.slice (some ⟨g,i,none⟩) (L.length+1 - i) dc,.slice (some ⟨vb,0,none⟩) 1 1]).run prog W1=.ok (goInt (1:Nat)) (W1.setCells g (i) (inL x)):=fun ty dc=>
    ZaZ W1 _ _ ty 3 1 g (i) _ dc ⟨vb,0,none⟩ 1 1 1 _ underlying27 HSZ.o (by show min _ _=_;omega) (by rw [HFL.o]) (HVC.o W1 (hT1.block vb hvlt (by omega))) (fun j hj=>by
     have hth:=HF.o.th (i+j) (by rw [HFL.o] at hj;omega)
     rcases hF1 (i+j) with q | q
     . rw [q];exact hth
     . exact q) (fun j=>by rw [hW1,World.frozen?_setCells];exact HF.o.fz j) HONE.o
   rw [<- hW1] at hcp1;obtain⟨W2,hW2⟩:∃ W2,W2=W1.setCells g (i) (inL x):=⟨_,rfl⟩
   have HR2:Hd (FR inL 1 (W1.setCells g (i) (inL x)) g (g+1) g cap R):=by
    unfold Hd;rw [hW1,<- HRR.o];have hd:FR inL 1 w.drew g (g+1) g cap L:=⟨HF.o.bs,HF.o.up,HF.o.lt,HF.o.le,HF.o.mx,HF.o.th,HF.o.fz,HF.o.rg⟩;exact hd.insIn ZaG hlt hroom x (by omega) (by omega)
   have HT2:Hd (Zad g (g+1) w (W1.setCells g (i) (inL x))):=hT1.trans (Zad.sets ⟨Nat.le_refl _,Nat.lt_succ_self _⟩ _ _ _);have HLN:Hd (R.length=L.length+1):=by unfold Hd;rw [<- HRR.o];simp;omega
   rw [<- hW2] at hcp2 HR2 HT2;clear hW2;clear hW1 hF1 hT1 hdl hsa hsb;go_enter func162,ntmps162;go_wp2_with (simp only [hov]);clear hov
   go_region_law (refine step_copy_runF rfl (.tmp 73) (.tmp 76) 27 27 rfl _ _ (by simp [Act.eval,Act.put]) (by simp [Act.eval,Act.put]) (hcp1 _ _ _) ?_)
   clear hcp1;go_wp2_with (simp only [hcp2]);clear hcp2;go_ret;exact⟨_,rfl,HT2.o,Or.inl ⟨g,cap,by rw [HLN.o];rfl,HR2.o⟩⟩
 . have hgr:cap < i+(L.length+1 - i):=by omega
   have hb8:(cap:Int) < (L.length:Int)+1:=by omega
   have hw3:IntKind.wrap .i64 ((L.length:Int)+1 - (i:Int))=((L.length+1 - i:Nat):Int):=by rw [IntKind.wrap_i64];omega
   have hie:i+(L.length+1 - i)=L.length+1:=by omega
   have hap:=fun ty=>ZbV (P:=prog) w 27 3 ty 3 i0 (.int .i64 0) .i64 .i64 underlying27 underlying3 HI.o.1 HI.o.2.1 ⟨g,0,none⟩ i cap (L.length+1 - i) ((Zai inL L).take (i*1)) (by rw [List.length_take,HXL.o,HI.o.2.2.1];omega) (fun j u hj=>by
    rw [List.getElem?_take] at hj
    split at hj
    . rw [Go.WideShapes.add_plain,Nat.zero_add,HGC.o w rfl _ (by omega)]
      exact hj
    . cases hj) (by omega) (by rw [HI.o.2.2.1];omega) hgr (by omega) (growslice_fits hgr (by rw [HI.o.2.2.2];omega)) (by rw [HI.o.2.2.2];omega)
   rw [hie] at hap;have hcg:=grownCap_ge w (L.length+1) cap 3;have hcx:=grownCap_le_maxLen w (L.length+1) cap 3 (by unfold maxLen;omega);generalize grownCap w (L.length+1) cap 3=cap1 at hap hcg hcx;have hzc:∀ n,(Builtin.zeroCells (.int .i64 0:Value).cells n).size=n*1:=fun n=>size_zeroCells _ n
   obtain⟨C0,hC0⟩:∃ C0:List Value,C0=(((Zai inL L).take (i*1)).toArray ++ Builtin.zeroCells (.int .i64 0:Value).cells (L.length+1 - i) ++ Builtin.zeroCells (.int .i64 0:Value).cells (cap1 - (L.length+1))).toList:=⟨_,rfl⟩
   have hC0l:C0.length=cap1*1:=by
    rw [hC0,Array.length_toList];simp only [Array.size_append,List.size_toArray,hzc,List.length_take,HXL.o]
    omega
   have hC0t:C0.take (i*1)=(Zai inL L).take (i*1):=by
    rw [hC0];simp only [Array.toList_append,List.append_assoc];refine (List.take_append_of_le_length ?_).trans (List.take_of_length_le ?_)
    . simp only [List.length_take,HXL.o];omega
    . simp only [List.length_take];omega
   have hC0a:((Zai inL L).take (i*1)).toArray ++ Builtin.zeroCells (.int .i64 0:Value).cells (L.length+1 - i) ++ Builtin.zeroCells (.int .i64 0:Value).cells (cap1 - (L.length+1))=C0.toArray:=by rw [hC0]
   rw [hC0a] at hap;obtain⟨W0,hW0⟩:∃ W0,W0=w.drew.alloc (.cells C0.toArray 3):=⟨_,rfl⟩
   rw [<- hW0] at hap;have hB0:Box W0 w.heap.size C0.toArray:=by rw [hW0];exact Box.new w.drew _ _ _ rfl
   have hb0:Zw_ w W0:=by rw [hW0];exact (Zb_.drew).trans (Zab w.drew _)
   have hth0:∀ j,j < cap1*1->(W0.cell? ⟨w.heap.size,j,none⟩).isSome=true:=fun j hj=>by rw [hB0.cell j,List.getElem?_toArray,List.getElem?_eq_getElem (by rw [hC0l];exact hj)];rfl
   have hsW:w.heap.size < W0.heap.size:=hB0.lt
   have hcp2:∀ ty dc,(Builtin.copy_ #[27,27] ty #[.slice (some ⟨w.heap.size,i,none⟩) (L.length+1 - i) dc,.slice (some ⟨vb,0,none⟩) 1 1]).run prog W0=.ok (goInt (1:Nat)) (W0.setCells w.heap.size (i) (inL x)):=fun ty dc=>
    ZaZ W0 _ _ ty 3 1 w.heap.size (i) _ dc ⟨vb,0,none⟩ 1 1 1 _ underlying27 HSZ.o (by show min _ _=_;omega) (by rw [HFL.o]) (HVC.o W0 (hb0.block vb hvlt)) (fun j hj=>hth0 _ (by rw [HFL.o] at hj;omega)) (fun j=>hB0.free j) HONE.o
   obtain⟨W1,hW1⟩:∃ W1,W1=W0.setCells w.heap.size (i) (inL x):=⟨_,rfl⟩
   have hT1:Zad w.heap.size (w.heap.size+1) W0 W1:=by rw [hW1];exact Zad.sets ⟨Nat.le_refl _,Nat.lt_succ_self _⟩ _ _ _
   have hb1':Zw_ w W1:=hb0.trans (hT1.under (by omega))
   have hcp1:∀ ty dc sc,(Builtin.copy_ #[27,27] ty #[.slice (some ⟨w.heap.size,i+1,none⟩) (L.length - i) dc,.slice (some ⟨g,i,none⟩) (L.length - i) sc]).run prog W1.drew=.ok (goInt (L.length - i:Nat)) (W1.drew.setCells w.heap.size (i+1) ((Zai inL L).drop (i*1))):=fun ty dc sc=>
    ZaZ W1.drew _ _ ty 3 1 w.heap.size (i+1) _ dc ⟨g,i,none⟩ _ sc (L.length - i) _ underlying27 HSZ.o (by show min _ _=_;omega) hdl (fun j u hj=>by
     rw [Go.WideShapes.add_plain,HGC.o W1.drew (hb1'.block g hglt) _ (by have:=(List.getElem?_eq_some_iff.1 hj).1;rw [hdl] at this;omega)];rw [List.getElem?_drop] at hj
     simpa using hj) (fun j hj=>by
     show (W1.cell? _).isSome=true
     rw [hW1];exact ZbF _ _ (fun t ht=>hth0 _ (by rw [HFL.o] at ht;omega)) (hth0 _ (by rw [hdl] at hj;omega))) (fun j=>by
     show W1.frozen? _=false
     rw [hW1,World.frozen?_setCells];exact hB0.free j) (fun u hu=>ZaX _ u (List.mem_of_mem_drop hu))
   have HR2:Hd (FR inL 1 (W1.drew.setCells w.heap.size (i+1) ((Zai inL L).drop (i*1))) w.heap.size (w.heap.size+1) w.heap.size cap1 R):=by
    unfold Hd;rw [hW1,<- HRR.o]
    exact FR.insNew ZaG hsW hth0 hB0.free hcx hlt hcg x (fun j hj=>by
     rw [hB0.cell j,List.getElem?_toArray];have:=congrArg (fun l=>l[j]?) hC0t;simp only [List.getElem?_take,if_pos hj] at this;exact this) (by omega) (by omega)
   rw [<- hW1] at hcp2;obtain⟨W2,hW2⟩:∃ W2,W2=W1.drew.setCells w.heap.size (i+1) ((Zai inL L).drop (i*1)):=⟨_,rfl⟩
   have HB2:Hd (Zw_ w (W1.drew.setCells w.heap.size (i+1) ((Zai inL L).drop (i*1)))):=Below.sets Zl_ _ _ hb1'.drew;rw [<- hW2] at hcp1 HR2 HB2;clear hW2;have HLN:Hd (R.length=L.length+1):=by unfold Hd;rw [<- HRR.o];simp;omega
   have hb9:¬ (cap1=i):=by omega
   have hq1:(0:Int)<=(i:Int)+1:=by omega
   have hq2:(i:Int)+1<=(L.length:Int)+1:=by omega
   have hq3:(i:Int)<=(L.length:Int)+1:=by omega
   have hq4:i<=L.length+1:=by omega
   have hb10:¬ (cap1=i+1):=by omega
   have hb11:i+1<=cap1:=by omega
   clear hC0 hC0l hC0t hC0a hW0 hB0 hb0 hth0 hT1 hb1' hW1 hdl hzc;go_enter func162,ntmps162
   go_wp2_with (at_builtin;first
    | (refine Lib.wpList_append_run _ rfl (.tmp 34) (.tmp 39) 27 3 rfl _ _ rfl rfl _ _ (hap _) ?_)
    | (refine wpList_copy_runF _ rfl (.tmp 43) (.tmp 44) 27 27 rfl _ _ rfl rfl (hcp2 _ _) ?_))
   go_region_law (refine step_copy_runF rfl (.tmp 50) (.tmp 53) 27 27 rfl _ _ (by simp [Act.eval,Act.put]) (by simp [Act.eval,Act.put]) (hcp1 _ _ _) ?_)
   clear hcp1 hcp2 hap;go_wp2;go_ret;refine⟨_,rfl,⟨HB2.o.os,HB2.o.tape,HB2.o.output,HB2.o.size,fun j hj _=>HB2.o.block j hj⟩,Or.inr ⟨w.heap.size,cap1,by rw [HLN.o];rfl,?_⟩⟩;have hR2:=HR2.o;exact⟨Nat.le_refl _,hR2.lt,hR2.lt,hR2.le,hR2.mx,hR2.th,hR2.fz,hR2.rg⟩
theorem Zhb (vb:Nat) (x:Int) (w:World) (hv:Box w vb (inL x).toArray) :
 Calls prog 162 #[.slice none 0 0,.int .i64 0,.slice (some ⟨vb,0,none⟩) 1 1] w fun e w'=>∃ v',e=.returned v'/\Zw_ w w'/\ZaK inL 1 w' w.heap.size w'.heap.size v' [x]:=by
 have HV:=Zaa hv
 obtain⟨v',w',hrun,ht,hrow⟩:=Zem ZaG (by decide) underlying27 Zbj rfl (w:=w) (M:=[x]) 27 (ZaE.nil inL 1 w w.heap.size w.heap.size) (some ⟨vb,0,none⟩) 1 1 rfl (fun e=>by cases e) (fun ad e j u hu=>by
  injection e with e
  subst e;rw [Go.WideShapes.add_plain,Nat.zero_add,HV.o.cell j]
  simpa [Zai] using hu) (ZaX _) (by simp) (by decide)
 have HB:Hd (Zw_ w w'):=ht.none Zl_;have HRW:=Zaa hrow;clear ht hrow hv;go_enter func162,ntmps162;go_wp2_with (at_builtin;refine wpList_append_run rfl (.tmp 23) (.tmp 24) 27 rfl rfl rfl hrun ?_);go_ret;refine⟨v',rfl,HB.o,?_⟩;have h2:=HRW.o;rw [List.nil_append] at h2
 rcases h2 with (⟨_,h3⟩ | h3)|(⟨_,h3⟩ | h3)
 . cases h3
 . obtain⟨g,cap,_,h4⟩:=h3
   have:=h4.bs;have:=h4.up
   omega
 . cases h3
 . exact h3
theorem ZgD {i j:Nat} (h:i < j):i<=(i+j) / 2/\(i+j) / 2 < j:=by omega
theorem Zh6 (x:Int) (w:World):Calls prog 151 #[.int .i64 x] w fun e w'=>e=.returned (.bool false)/\w'=w:=by
 go_enter func151,ntmps151;go_wp2;go_ret;exact⟨Zac (by simp),rfl⟩
theorem ZfI (x:Int) (w:World):Calls prog 170 #[.int .i64 x] w fun e w'=>e=.returned (.bool false)/\w'=w:=by
 go_enter func170,ntmps170;go_wp2;go_ret;exact⟨Zac (by simp),rfl⟩
theorem ZfD (x y:Int) (w:World):Calls prog 169 #[.int .i64 x,.int .i64 y] w fun e w'=>e=.returned (.bool (decide (x < y)))/\w'=w:=by
 go_enter func169,ntmps169;go_wp2_with (go_at_call 151;refine (Zh6 _ _).mono ?_;rintro e w' ⟨rfl,rfl⟩);go_ret;exact⟨rfl,rfl⟩
def Asc (L:List Int):Prop:=∀ a b (ha:a < L.length) (hb:b < L.length),a < b->L[a] < L[b]
theorem Zdg (lo:Nat) (v:Value) (L:List Int) (n:Int) (w:World) (hv:ZaJ lo w v L) (hn:L.length<=1000000) (hs:Asc L) :
 Calls prog 161 #[v,.int .i64 n] w fun e w'=>e=.returned (.tuple #[.int .i64 (Zfa L n),.bool (decide (L[Zfa L n]?=some n))])/\w'=w:=by
 have HV:=Zaa hv;have HS:=Zaa hs;obtain⟨a,cap,rfl⟩:=hv.form;clear hv hs;go_enter func161,ntmps161;go_wp2
 go_loop [7,8] (fun i j=>∃ p q:Nat,i=.int .i64 p/\j=.int .i64 q/\p<=q/\q<=L.length/\(∀ k (h:k < L.length),k < p->L[k] < n)/\(∀ k (h:k < L.length),q<=k->n<=L[k])) (fun i j=>(intOf j).toNat - (intOf i).toNat)
 case atStart=>exact⟨0,L.length,rfl,rfl,Nat.zero_le _,Nat.le_refl _,fun k _ h=>by omega,fun k h h'=>by omega⟩
 case round=>
  obtain⟨p,q,rfl,rfl,hpq,hq,h1,h2⟩:=hrel;have HL1:=Zaa h1;have HL2:=Zaa h2;clear h1 h2
  by_cases hlt:p < q
  . obtain⟨hm1,hm2⟩:=ZgD hlt
    have hml:(p+q) / 2 < L.length:=by omega
    obtain⟨m,em⟩:∃ m:Nat,(p+q) / 2=m:=⟨_,rfl⟩
    rw [em] at hm1 hm2 hml;have em':((p:Int)+(q:Int)) / 2=(m:Int):=by omega
    obtain⟨b,off,rfl,hbw,-,hc⟩:=HV.o.full' (by omega);have s0:=(hc m hml).2;obtain⟨y,hy⟩:∃ y,y=L[m]:=⟨_,rfl⟩
    rw [<- hy] at s0;have HY:=Zaa hy;have i0:(0:Int)<=(m:Int):=by omega
    have i1:(m:Int) < (L.length:Int):=by omega
    clear hc em hy
    cases hq:decide (y < n) with
    | true=>
     have HT:=Zaa (of_decide_eq_true hq);go_wp2_with (go_at_call 169;refine (ZfD _ _ _).mono ?_;rw [hq];rintro e w' ⟨rfl,rfl⟩)
     go_round
     case rel=>exact⟨m+1,q,by go_num,rfl,by omega,by omega,fun k hk hkm=>by
                by_cases e:k=m
                . subst e;rw [<- HY.o];exact HT.o
                . have:=HS.o k m hk hml (by omega)
                  rw [<- HY.o] at this;have:=HT.o
                  omega,HL2.o⟩
     . simp [intOf];omega
    | false=>
     have HT:Hd (n<=y):=Int.not_lt.1 (of_decide_eq_false hq);go_wp2_with (go_at_call 169;refine (ZfD _ _ _).mono ?_;rw [hq];rintro e w' ⟨rfl,rfl⟩)
     go_round
     case rel=>exact⟨p,m,rfl,rfl,by omega,by omega,HL1.o,fun k hk hkm=>by
                by_cases e:k=m
                . subst e;rw [<- HY.o];exact HT.o
                . have:=HS.o m k hml hk (by omega)
                  rw [<- HY.o] at this;have:=HT.o
                  omega⟩
     . simp [intOf];omega
  . obtain rfl:q=p:=by omega
    have HP:Hd (Zfa L n=q):=Zgj hq HL1.o (fun h=>Int.not_lt.2 (HL2.o q h Zl_))
    by_cases hqe:q < L.length
    . obtain⟨b,off,rfl,hbw,-,hc⟩:=HV.o.full' (by omega)
      have s0:=(hc q hqe).2;obtain⟨y,hy⟩:∃ y,y=L[q]:=⟨_,rfl⟩
      rw [<- hy] at s0
      have HE:Hd (decide (L[q]?=some n)=(y == n)):=by
       unfold Hd;rw [List.getElem?_eq_getElem hqe,<- hy]
       by_cases e:y=n
       . simp [e]
       . simp [e]
      have d1:decide ((q:Int) < (L.length:Int))=true:=by simp;omega
      have i0:(0:Int)<=(q:Int):=by omega
      have i1:(q:Int) < (L.length:Int):=by omega
      clear hc hy
      cases qy:(y == n) with
      | true=>
       go_wp2_with (go_at_call 170;refine (ZfI _ _).mono ?_;rintro e w' ⟨rfl,rfl⟩);refine bodyPost_ret (v:=.tuple #[.int .i64 (q:Int),.bool true]) (by simp [results,results161,go_sem]) rfl ⟨by rw [HP.o,HE.o,qy],rfl⟩
      | false=>
       go_wp2_with (go_at_call 170;refine (ZfI _ _).mono ?_;rintro e w' ⟨rfl,rfl⟩);refine bodyPost_ret (v:=.tuple #[.int .i64 (q:Int),.bool false]) (by simp [results,results161,go_sem]) rfl ⟨by rw [HP.o,HE.o,qy],rfl⟩
    . have d1:decide ((q:Int) < (L.length:Int))=false:=by simp;omega
      have HE:Hd (decide (L[q]?=some n)=false):=by unfold Hd;rw [List.getElem?_eq_none (by omega)];rfl
      go_wp2;refine bodyPost_ret (v:=.tuple #[.int .i64 (q:Int),.bool false]) (by simp [results,results161,go_sem]) rfl ⟨by rw [HP.o,HE.o],rfl⟩
theorem ZfV (S:Nat->Prop) (v:Value) (L:List Int) (n:Int) (w:World) (hr:NRS inL 1 w S v L) (hl:L.length<=100000) (hs:Asc L) :
 Calls prog 152 #[v,.int .i64 n] w fun e w'=>∃ v',e=.returned v'/\Zal S w w'/\NRS inL 1 w' (Gr S w w') v' (Zcf L n):=by
 have HR:=Zaa hr
 have HAT:Hd (ZaJ 0 w v L):=by
  obtain⟨l,u,_,ho⟩:=hr.ris;exact ho.at.mono Zz_
 have HS:=Zaa hs;obtain⟨a,c,rfl⟩:=hr.form;clear hr hs
 by_cases hq:L[Zfa L n]?=some n
 . have d1:decide (L[Zfa L n]?=some n)=true:=decide_eq_true hq
   have HE:Hd (Zcf L n=L):=by unfold Hd Zcf;rw [if_pos hq]
   go_enter func152,ntmps152;go_wp2_with (go_at_call 161;refine (Zdg 0 _ L n _ HAT.o (by omega) HS.o).mono ?_;rw [d1];rintro e w' ⟨rfl,rfl⟩);go_ret;exact⟨_,rfl,Zal.refl _ _,by rw [HE.o];exact HR.o.wide fun _ h=>Or.inl h⟩
 have d1:decide (L[Zfa L n]?=some n)=false:=decide_eq_false hq;have HE:Hd (Zcf L n=L.take (Zfa L n) ++ [n] ++ L.drop (Zfa L n)):=by unfold Hd Zcf;rw [if_neg hq]
 have hp:=Zia L n;obtain⟨p,hpp⟩:∃ p,p=Zfa L n:=⟨_,rfl⟩
 have HB:∀ o,Hd (Zw_ w (w.alloc o)):=fun o=>Zab w o
 have HX:Hd (Box (w.alloc (.cells #[.int .i64 n] 3)) w.heap.size (inL n).toArray):=Box.new w _ _ _ rfl
 rcases HR.o with ⟨e0,e1⟩ | ⟨g,hg,g',cap,e1,e2⟩
 . have HNI:Hd (Zfa L n=0):=by unfold Hd;rw [e1];rfl
   have HE2:Hd (Zcf L n=[n]):=by unfold Hd;rw [HE.o,HNI.o,e1];rfl
   injection e0 with e2 e3 e4
   subst e2 e4;have e5:L.length=0:=e3;rw [e5] at HAT |-;go_enter func152,ntmps152;go_wp2_with (go_at_call 161;refine (Zdg 0 _ L n _ HAT.o (by omega) HS.o).mono ?_;rw [d1,HNI.o];rintro e Wq ⟨rfl,hq⟩;have hq2:=hq.symm;subst hq2);refine (Zhb w.heap.size n _ HX.o).mono ?_;rintro e w2 ⟨v',rfl,hb,hrow⟩;have HB2:=Zaa hb;have HRW:=Zaa hrow;clear hb hrow;go_wp2;go_ret;have hsz:(w.alloc (.cells #[.int .i64 n] 3)).heap.size=w.heap.size+1:=by simp
   refine⟨_,rfl,Zal.below (bt (HB _).o HB2.o),?_⟩;rw [HE2.o];exact ZaE.set1 (Or.inr HRW.o) (fun k p q=>Or.inr ⟨by omega,q⟩)
 . obtain rfl:g'=g:=by have:=e2.bs;have:=e2.up;omega
   injection e1 with e3 e4 e5
   subst e3 e5;have HF:=Zaa e2;have hgl:=e2.lt;have HG:=Zaa hg;have HF1:Hd (FR inL 1 (w.alloc (.cells #[.int .i64 n] 3)) g' (g'+1) g' c L):=HF.o.below (Zab _ _);clear e2 hg;rw [<- hpp] at d1 hp HE;have HPP:=Zaa hpp;clear hpp hq;go_enter func152,ntmps152;go_wp2_with (go_at_call 161;refine (Zdg 0 _ L n _ HAT.o (by omega) HS.o).mono ?_;rw [<- HPP.o,d1];rintro e Wq ⟨rfl,hq⟩;have hq2:=hq.symm;subst hq2);refine (Zha g' p w.heap.size c L n _ HF1.o hp (by omega) (by omega) HX.o).mono ?_;rintro e w2 ⟨v',rfl,ht,hrow⟩;have HT2:=Zaa ht;have HRW:=Zaa hrow;clear ht hrow;go_wp2;go_ret;have hsz:(w.alloc (.cells #[.int .i64 n] 3)).heap.size=w.heap.size+1:=by simp
   refine⟨_,rfl,Zal.trans (Zal.below (HB _).o) (HT2.o.toS (Zdt HG.o)),?_⟩;rw [HE.o]
   rcases HRW.o with h | h
   . exact ZaE.set1 (Or.inr h) (fun k a b=>Or.inl (Zdt (S:=S) HG.o k a b))
   . exact ZaE.set1 (Or.inr h) (fun k a b=>Or.inr ⟨by omega,b⟩)
def ZkA (L:List Ra):Prop:=∀ a b (ha:a < L.length) (hb:b < L.length),a < b->L[a].ix < L[b].ix
theorem Zjm (x y:Ra):decide (cRa x y=0)=decide (x.ix=y.ix):=by
 unfold cRa ZgY
 by_cases h1:x.ix < y.ix
 . simp [h1];omega
 . by_cases h2:y.ix < x.ix
   . simp [h1,h2];omega
   . simp [h1,h2];omega
def atA (L:List Ra) (ix:Int):Bool:=decide ((L[Zc8 L ix]?).map (·.ix)=some ix)
theorem Zgm (g cap:Nat) (L:List AX) (ix:Int) (w:World) (hf:FR axL 2 w g (g+1) g cap L) (hn:L.length<=1000000) (hs:ZkA (L.map (·.1))) :
 Calls prog 156 #[.slice (some ⟨g,0,none⟩) L.length cap,.agg #[.int .i64 ix,.slice none 0 0],.func (.func 114) #[] #[]] w fun e w'=>e=.returned (.tuple #[.int .i64 (Zc8 (L.map (·.1)) ix),.bool (atA (L.map (·.1)) ix)])/\Zw_ w w':=by
 have HF:=Zaa hf
 have HS:Hd (∀ a b (ha:a < L.length) (hb:b < L.length),a < b->L[a].1.ix < L[b].1.ix):=fun a b ha hb hab=>by
  have:=hs a b (by simpa using ha) (by simpa using hb) hab
  simpa using this
 have HPI:Hd (∀ k,k<=L.length->(∀ j (hj:j < L.length),j < k->L[j].1.ix < ix)->(∀ (h:k < L.length),ix<=L[k].1.ix)->Zc8 (L.map (·.1)) ix=k):=fun k hk h1 h2=>
  Zgh (by simpa using hk) (fun j hj hjk=>by have:=h1 j (by simpa using hj) hjk;simpa using this) (fun h=>by have:=h2 (by simpa using h);simpa using this)
 have HAA:Hd (∀ k,Zc8 (L.map (·.1)) ix=k->atA (L.map (·.1)) ix=decide ((L[k]?).map (·.1.ix)=some ix)):=fun k hk=>by
  unfold atA;rw [hk,List.getElem?_map,Option.map_map]
  rfl
 generalize Zc8 (L.map (·.1)) ix=PP at*;generalize atA (L.map (·.1)) ix=AA at*;have hgl:=hf.lt;clear hf hs;go_enter func156,ntmps156;go_wp2_with fail;generalize hWa:w.alloc _=Wa;have HB:Hd (Zw_ w Wa):=by rw [<- hWa];exact Zab w _
 have HX:Hd (Box Wa w.heap.size #[.int .i64 ix,.slice none 0 0]):=by rw [<- hWa];exact Box.new _ _ _ _ rfl
 clear hWa
 go_loopw [9,10] (fun i j wr=>∃ p q:Nat,i=.int .i64 p/\j=.int .i64 q/\p<=q/\q<=L.length/\(∀ k (h:k < L.length),k < p->L[k].1.ix < ix)/\(∀ k (h:k < L.length),q<=k->ix<=L[k].1.ix)/\Zw_ w wr/\Box wr w.heap.size #[.int .i64 ix,.slice none 0 0])
  (fun i j _=>(intOf j).toNat - (intOf i).toNat)
 case atStart=>exact⟨0,L.length,rfl,rfl,Nat.zero_le _,Nat.le_refl _,fun k _ h=>by omega,fun k h h'=>by omega,HB.o,HX.o⟩
 case round=>
  obtain⟨p,q,rfl,rfl,hpq,hq,h1,h2,hb,hx⟩:=hrel;have HL1:=Zaa h1;have HL2:=Zaa h2;have HBr:=Zaa hb;have HXr:=Zaa hx;clear h1 h2 hb hx HB HX
  by_cases hlt:p < q
  . obtain⟨hm1,hm2⟩:=ZgD hlt
    have hml:(p+q) / 2 < L.length:=by omega
    obtain⟨m,em⟩:∃ m:Nat,(p+q) / 2=m:=⟨_,rfl⟩
    rw [em] at hm1 hm2 hml;have em':((p:Int)+(q:Int)) / 2=(m:Int):=by omega
    obtain⟨y,hy⟩:∃ y,y=L[m]:=⟨_,rfl⟩
    have hFr:=HF.o.touch (lo':=w.heap.size) (hi':=w.heap.size) (w':=wr) ⟨HBr.o.os,HBr.o.tape,HBr.o.output,HBr.o.size,fun k hk _=>HBr.o.block k hk⟩ (Or.inl hgl);have c0:wr.cell? ⟨g,m*2,none⟩=some (.int .i64 y.1.ix):=by rw [hy];exact hFr.get Zat hml (t:=0) (by omega) (v:=.int .i64 L[m].1.ix) rfl
    have c1:wr.cell? ⟨g,m*2+1,none⟩=some (.slice y.2.1 y.1.fr.length y.2.2):=by rw [hy];exact hFr.get Zat hml (t:=1) (by omega) (v:=.slice L[m].2.1 L[m].1.fr.length L[m].2.2) rfl
    have HC0:=Zaa c0;have HC1:=Zaa c1;have HY:=Zaa hy;clear em hy hFr c0 c1;go_wp2;clear em'
    go_cut [31] (fun c wc=>c=.bool (decide (y.1.ix < ix))/\Below wr.heap.size wr wc)
    case first=>
     have xn:Nonempty (In (Up wr)):=⟨⟨wr,Below.refl _ _⟩⟩;have xs:=fun (X:In (Up wr))=>Zbn X
     have s0:∀ X:In (Up wr),_:=fun X=>Up.cell X HC0.o
     have s1:∀ X:In (Up wr),_:=fun X=>Up.cell X HC1.o
     have t0:∀ X:In (Up wr),X.w.cell? ⟨w.heap.size,0,none⟩=some (.int .i64 ix):=fun X=>Up.cell X (by rw [HXr.o.cell 0];rfl)
     have t1:∀ X:In (Up wr),X.w.cell? ⟨w.heap.size,1,none⟩=some (.slice none 0 0):=fun X=>Up.cell X (by rw [HXr.o.cell 1];rfl)
     have i0:(0:Int)<=(m:Int):=by omega
     have i1:(m:Int) < (L.length:Int):=by omega
     have HN:Hd (decide (cRa y.1 ⟨ix,[]⟩ < 0)=decide (y.1.ix < ix)):=ZhL _ _;refine Zaf (Up wr) (by kernel_rfl) (by kernel_rfl) (Zb_.drew) ?_
     repeat (go_big_quiet_step ((go_at_call 114;rename_i X;exact (Zd7 y.1 ⟨ix,[]⟩ _ _ _ _ _).mono fun _ _ h=>⟨h.1,Up.next X h.2⟩)))
     refine wpQuiet_nil ?_;intro wn hw;obtain⟨X,hX⟩:=hw;have HWN:Below wr.heap.size wr wn:=by rw [hX];exact X.h
     clear hX X s0 t0 s1 t1 xs xn;go_wp2;go_meet;exact⟨by rw [HN.o],HWN⟩
    case rest=>
    obtain⟨rfl,hbc⟩:=hcut;have HBc:=Zaa (bt HBr.o hbc);have HXc:=Zaa (HXr.o.on hbc);clear hbc HC0 HC1
    cases hq:decide (y.1.ix < ix) with
    | true=>
     have HT:=Zaa (of_decide_eq_true hq);go_wp2;go_roundw
     case rel=>exact⟨m+1,q,by go_num,rfl,by omega,by omega,fun k hk hkm=>by
                by_cases e:k=m
                . subst e;rw [<- HY.o];exact HT.o
                . have h9:=HS.o k m hk hml (by omega)
                  rw [<- HY.o] at h9;have:=HT.o
                  omega,HL2.o,HBc.o,HXc.o⟩
     . simp [intOf];omega
    | false=>
     have HT:Hd (ix<=y.1.ix):=Int.not_lt.1 (of_decide_eq_false hq);go_wp2;go_roundw
     case rel=>exact⟨p,m,rfl,rfl,by omega,by omega,HL1.o,fun k hk hkm=>by
                by_cases e:k=m
                . subst e;rw [<- HY.o];exact HT.o
                . have h9:=HS.o m k hml hk (by omega)
                  rw [<- HY.o] at h9;have:=HT.o
                  omega,HBc.o,HXc.o⟩
     . simp [intOf];omega
  . have hpq':p=q:=by omega
    subst hpq';have HP:Hd (PP=p):=HPI.o p hq HL1.o (fun h=>HL2.o p h Zl_);have HA:Hd (AA=decide ((L[p]?).map (·.1.ix)=some ix)):=HAA.o p HP.o
    by_cases hlt2:p < L.length
    . obtain⟨y,hy⟩:∃ y,y=L[p]:=⟨_,rfl⟩
      have hFr:=HF.o.touch (lo':=w.heap.size) (hi':=w.heap.size) (w':=wr) ⟨HBr.o.os,HBr.o.tape,HBr.o.output,HBr.o.size,fun k hk _=>HBr.o.block k hk⟩ (Or.inl hgl);have c0:wr.cell? ⟨g,p*2,none⟩=some (.int .i64 y.1.ix):=by rw [hy];exact hFr.get Zat hlt2 (t:=0) (by omega) (v:=.int .i64 L[p].1.ix) rfl
      have c1:wr.cell? ⟨g,p*2+1,none⟩=some (.slice y.2.1 y.1.fr.length y.2.2):=by rw [hy];exact hFr.get Zat hlt2 (t:=1) (by omega) (v:=.slice L[p].2.1 L[p].1.fr.length L[p].2.2) rfl
      have HI:Hd (AA=decide (y.1.ix=ix)):=by unfold Hd;rw [HA.o,List.getElem?_eq_getElem hlt2,<- hy];simp
      have hd:decide ((p:Int) < (L.length:Int))=true:=by simp;omega
      have HC0:=Zaa c0;have HC1:=Zaa c1;clear hy hFr c0 c1 HA;go_wp2;have xn:Nonempty (In (Up wr)):=⟨⟨wr,Below.refl _ _⟩⟩;have xs:=fun (X:In (Up wr))=>Zbn X
      have s0:∀ X:In (Up wr),_:=fun X=>Up.cell X HC0.o
      have s1:∀ X:In (Up wr),_:=fun X=>Up.cell X HC1.o
      have t0:∀ X:In (Up wr),X.w.cell? ⟨w.heap.size,0,none⟩=some (.int .i64 ix):=fun X=>Up.cell X (by rw [HXr.o.cell 0];rfl)
      have t1:∀ X:In (Up wr),X.w.cell? ⟨w.heap.size,1,none⟩=some (.slice none 0 0):=fun X=>Up.cell X (by rw [HXr.o.cell 1];rfl)
      have i0:(0:Int)<=(p:Int):=by omega
      have i1:(p:Int) < (L.length:Int):=by omega
      have HN:Hd (decide (cRa y.1 ⟨ix,[]⟩=0)=decide (y.1.ix=ix)):=Zjm _ _;refine Zaf (Up wr) (by kernel_rfl) (by kernel_rfl) (Zb_.drew) ?_
      repeat (go_big_quiet_step ((go_at_call 114;rename_i X;exact (Zd7 y.1 ⟨ix,[]⟩ _ _ _ _ _).mono fun _ _ h=>⟨h.1,Up.next X h.2⟩)))
      refine wpQuiet_nil ?_;intro wn hw;obtain⟨X,hX⟩:=hw;have HWN:Hd (Below wr.heap.size wr wn):=by unfold Hd;rw [hX];exact X.h
      clear hX X s0 t0 s1 t1 xs xn;go_wp2
      go_ret2
      exact⟨by rw [HP.o,HI.o,<- HN.o];first | rfl | simp,bt HBr.o HWN.o⟩
    . have HI:Hd (AA=false):=by unfold Hd;rw [HA.o,List.getElem?_eq_none (by omega)];rfl
      have hd:decide ((p:Int) < (L.length:Int))=false:=by simp;omega
      clear HA;go_wp2
      go_quiet (fail)
      go_wp2
      go_ret2
      exact⟨by rw [HP.o,HI.o];rfl,below_drewN HBr.o _⟩
theorem Zgn (ix:Int) (w:World) :
 Calls prog 156 #[.slice none 0 0,.agg #[.int .i64 ix,.slice none 0 0],.func (.func 114) #[] #[]] w fun e w'=>e=.returned (.tuple #[.int .i64 0,.bool false])/\Zw_ w w':=by
 go_enter func156,ntmps156;go_wp2_with fail;generalize hWa:w.alloc _=Wa;have HB:Hd (Zw_ w Wa):=by rw [<- hWa];exact Zab w _
 clear hWa
 go_loopw [9,10] (fun i j wr=>i=.int .i64 0/\j=.int .i64 0/\Zw_ w wr) (fun _ _ _=>0)
 case atStart=>exact⟨rfl,rfl,HB.o⟩
 case round=>
  obtain⟨rfl,rfl,hb⟩:=hrel;have HBr:=Zaa hb;clear hb HB;go_wp2
  go_quiet (fail)
  go_wp2
  go_ret2
  exact⟨rfl,below_drewN HBr.o _⟩
end Go.Proofs.YtkiefplmnoapfaaGreat
