import Derived.Test.YtdeammfdkaomlaaGreatM05
import Derived.Test.YtdeammfdkaomlaaGreatM08
set_option maxHeartbeats 16000000
set_option maxRecDepth 100000
open Go.Proofs.Tryz
namespace Go.Proofs.YtdeammfdkaomlaaGreat
open Go.RowKit Go.Deep
def Zfw (of:Int) (L:List Int) (i:Nat):Bool:=inB 1 of (L.getD i 0)&&!(decide (0 < (i:Int))&&decide (L.getD i 0<=L.getD (i - 1) 0))
def Zbq (of:Int) (L:List Int):Bool:=(List.range L.length).all (Zfw of L)
theorem Zbk (lo:Nat) (v:Value) (L:List Int) (of:Int) (w:World) (hv:ZaR lo w v L) :
 Calls prog 123 #[v,.int .i64 of] w fun e w'=>e=.returned (.bool (Zbq of L))/\Zw_ w w':=by
 have HV:=Zaa hv;have hm:=hv.max;unfold maxLen at hm;obtain⟨a,cap,rfl⟩:=hv.form;clear hv;have HE1:Hd (Zbq of L=(List.range L.length).all (Zfw of L)):=rfl;go_enter func123,ntmps123;go_wp2
 go_loopw [5] (fun i wr=>∃ k:Nat,i=.int .i64 k/\k<=L.length/\Zw_ w wr/\∀ j,j < k->Zfw of L j=true) (fun i _=>L.length - (intOf i).toNat)
 case atStart=>exact⟨0,rfl,by omega,Below.refl _ _,fun j h=>by omega⟩
 case round=>
  obtain⟨k,rfl,hk,hb,hall⟩:=hrel;have HAL:=Zaa hall;have HBr:=Zaa hb;clear hall hb
  by_cases hlt:k < L.length
  . obtain⟨b,off,rfl,hbw,-,hc⟩:=HV.o.full' (by omega)
    obtain⟨x,hx⟩:∃ x,x=L[k]:=⟨_,rfl⟩
    obtain⟨p,hp⟩:∃ p,p=L.getD (k - 1) 0:=⟨_,rfl⟩
    have hgx:L.getD k 0=x:=by rw [hx,List.getD_eq_getElem?_getD,List.getElem?_eq_getElem hlt];rfl
    have HDK:Hd (Zfw of L k=(inB 1 of x&&!(decide (0 < (k:Int))&&decide (x<=p)))):=by unfold Hd Zfw;rw [hgx,<- hp]
    have HC:Hd (wr.cell? ⟨b,off+k,none⟩=some (.int .i64 x)):=by unfold Hd;rw [HBr.o.cell (p:=⟨b,off+k,none⟩) hbw,hx];exact (hc k hlt).2
    have HP:Hd (0 < k->wr.cell? ⟨b,off+(k - 1),none⟩=some (.int .i64 p)):=by
     unfold Hd;intro hk0;rw [HBr.o.cell (p:=⟨b,off+(k - 1),none⟩) hbw,hp,List.getD_eq_getElem?_getD,List.getElem?_eq_getElem (by omega)];exact (hc (k - 1) (by omega)).2
    clear hc hx hp hgx;go_wp2
    go_cut [34] (fun c wc=>c=.bool (!(Zfw of L k))/\Below wr.heap.size wr wc)
    case first=>
     have xn:Nonempty (In (Up wr)):=⟨⟨wr,Below.refl _ _⟩⟩;have xs:=fun (X:In (Up wr))=>Zbc X
     have s0:∀ X:In (Up wr),_:=fun X=>Up.cell X HC.o
     have i0:(0:Int)<=(k:Int):=by omega
     have i1:(k:Int) < (L.length:Int):=by omega
     refine Zaf (Up wr) (by kernel_rfl) (by kernel_rfl) (Zb_.drew) ?_
     cases q1:inB 1 of x with
     | false=>
      repeat (go_big_quiet_step ((go_at_call 96;rename_i Y;exact (Zaq _ _ _ _).mono fun _ _ h=>⟨h.1,Up.next Y (by rw [h.2];exact Below.refl _ _)⟩)))
      refine wpQuiet_nil ?_;intro wn hw;obtain⟨X,hX⟩:=hw;have HWN:Below wr.heap.size wr wn:=by rw [hX];exact X.h
      clear hX X s0 xs xn;go_wp2;go_meet;exact⟨congrArg Value.bool (by rw [HDK.o,q1];rfl),HWN⟩
     | true=>
      by_cases q2:0 < k
      . have d2:decide (0 < (k:Int))=true:=by simp;omega
        have s1:∀ X:In (Up wr),_:=fun X=>Up.cell X (HP.o q2)
        have j0:(0:Int)<=(k:Int) - 1:=by omega
        have j1:(k:Int) - 1 < (L.length:Int):=by omega
        have jn:((k:Int) - 1).toNat=k - 1:=by omega
        cases q3:decide (x<=p) with
        | true=>
         repeat (go_big_quiet_step ((go_at_call 96;rename_i Y;exact (Zaq _ _ _ _).mono fun _ _ h=>⟨h.1,Up.next Y (by rw [h.2];exact Below.refl _ _)⟩)))
         refine wpQuiet_nil ?_;intro wn hw;obtain⟨X,hX⟩:=hw;have HWN:Below wr.heap.size wr wn:=by rw [hX];exact X.h
         clear hX X s0 s1 xs xn;go_wp2;go_meet;exact⟨congrArg Value.bool (by rw [HDK.o,q1,d2,q3];rfl),HWN⟩
        | false=>
         repeat (go_big_quiet_step ((go_at_call 96;rename_i Y;exact (Zaq _ _ _ _).mono fun _ _ h=>⟨h.1,Up.next Y (by rw [h.2];exact Below.refl _ _)⟩)))
         refine wpQuiet_nil ?_;intro wn hw;obtain⟨X,hX⟩:=hw;have HWN:Below wr.heap.size wr wn:=by rw [hX];exact X.h
         clear hX X s0 s1 xs xn;go_wp2;go_meet;exact⟨congrArg Value.bool (by rw [HDK.o,q1,d2,q3];rfl),HWN⟩
      . have d2:decide (0 < (k:Int))=false:=by simp;omega
        repeat (go_big_quiet_step ((go_at_call 96;rename_i Y;exact (Zaq _ _ _ _).mono fun _ _ h=>⟨h.1,Up.next Y (by rw [h.2];exact Below.refl _ _)⟩)))
        refine wpQuiet_nil ?_;intro wn hw;obtain⟨X,hX⟩:=hw;have HWN:Below wr.heap.size wr wn:=by rw [hX];exact X.h
        clear hX X s0 xs xn;go_wp2;go_meet;exact⟨congrArg Value.bool (by rw [HDK.o,q1,d2];rfl),HWN⟩
    case rest=>
    obtain⟨rfl,hbc⟩:=hcut;have HBc:Hd (Zw_ w wc):=bt HBr.o hbc;clear hbc
    cases h7:Zfw of L k with
    | false=>
     have HNo:Hd (Zbq of L=false):=by unfold Hd;rw [HE1.o];exact ZaN hlt h7
     go_wp2;go_ret;exact⟨Zac HNo.o.symm,HBc.o⟩
    | true=>
     have HT:=Zaa h7;go_wp2;go_roundw
     case rel=>exact⟨k+1,by go_num,by omega,HBc.o,fun j hj=>by
                by_cases e:j=k
                . rw [e];exact HT.o
                . exact HAL.o j (by omega)⟩
     . simp [intOf];omega
  . have HE2:Hd (Zbq of L=true):=by unfold Hd;rw [HE1.o];exact Zbj (fun i hi=>HAL.o i (by omega))
    go_wp2;go_ret;exact⟨Zac HE2.o.symm,HBr.o⟩
def txA (L:List Zy_) (i:Nat):Zy_:=L.getD i ⟨#[]⟩
def Zgm (L:List Zy_) (i:Nat):Bool:=decide (1<=(txA L i).size)&&(decide ((txA L i).size<=160)&&(List.range i).all (fun k=>!((txA L k).toList == (txA L i).toList)))
def ZbC (L:List Zy_):Bool:=decide (L.length<=20)&&(List.range L.length).all (Zgm L)
theorem ZeZ (lo:Nat) (v:Value) (L:List Zy_) (w:World) (hv:Zbf lo w v L) :
 Calls prog 121 #[v] w fun e w'=>e=.returned (.bool (ZbC L))/\Zw_ w w':=by
 have HV:=Zaa hv;have hm:=hv.max;unfold maxLen at hm;obtain⟨a,cap,rfl⟩:=hv.form;clear hv;have HI:Hd (ZbC L=(decide (L.length<=20)&&(List.range L.length).all (Zgm L))):=rfl
 by_cases l0:L.length<=20
 case neg=>
  have HE:Hd (ZbC L=false):=by unfold Hd;rw [HI.o,decide_eq_false l0];rfl
  have d0:decide ((20:Int) < (L.length:Int))=true:=by simp;omega
  go_enter func121,ntmps121;go_wp2;go_ret;exact⟨Zac HE.o.symm,Below.refl _ _⟩
 have d0:decide ((20:Int) < (L.length:Int))=false:=by simp;omega
 have HE1:Hd (ZbC L=(List.range L.length).all (Zgm L)):=by unfold Hd;rw [HI.o,decide_eq_true l0];rfl
 go_enter func121,ntmps121;go_wp2;clear d0
 go_loopw [3] (fun i wr=>∃ k:Nat,i=.int .i64 k/\k<=L.length/\Zw_ w wr/\∀ j,j < k->Zgm L j=true) (fun i _=>L.length - (intOf i).toNat)
 case atStart=>exact⟨0,rfl,by omega,Below.refl _ _,fun j h=>by omega⟩
 case round=>
  obtain⟨k,rfl,hk,hb,hall⟩:=hrel;have HAL:=Zaa hall;have HBr:=Zaa hb;clear hall hb
  by_cases hlt:k < L.length
  . obtain⟨b,off,rfl,hbw,-,hc⟩:=HV.o.full' (by omega)
    have HCC:Hd (∀ W,Zw_ w W->∀ j,j < L.length->W.cell? ⟨b,off+j,none⟩=some (.string (txA L j))):=by
     intro W hW j hj;rw [hW.cell (p:=⟨b,off+j,none⟩) hbw,(hc j hj).2];unfold txA;rw [List.getD_eq_getElem?_getD,List.getElem?_eq_getElem hj];rfl
    have hs:=(hc k hlt).1;unfold Zc5 maxLen at hs;obtain⟨x,hx⟩:∃ x,x=txA L k:=⟨_,rfl⟩
    have hxs:x.size<=9223372036854775807:=by
     rw [hx];unfold txA;rw [List.getD_eq_getElem?_getD,List.getElem?_eq_getElem hlt];simp only [Option.getD_some];omega
    have c0:wr.cell? ⟨b,off+k,none⟩=some (.string x):=by rw [hx];exact HCC.o _ HBr.o k hlt
    have HW:Hd (Zgm L k=(decide (1<=x.size)&&(decide (x.size<=160)&&(List.range k).all (fun j=>!((txA L j).toList == x.toList))))):=by unfold Hd Zgm;rw [hx]
    have HX:=Zaa hx;clear hc hs hx
    by_cases h1:1<=x.size
    case neg=>
     have d1:decide ((x.size:Int) < 1)=true:=by simp;omega
     have HNo:Hd (ZbC L=false):=by unfold Hd;rw [HE1.o];exact ZaN hlt (by rw [HW.o,decide_eq_false h1];rfl)
     go_wp2;go_ret;exact⟨Zac HNo.o.symm,HBr.o⟩
    have d1:decide ((x.size:Int) < 1)=false:=by simp;omega
    by_cases h2:x.size<=160
    case neg=>
     have d2:decide ((160:Int) < (x.size:Int))=true:=by simp;omega
     have HNo:Hd (ZbC L=false):=by unfold Hd;rw [HE1.o];exact ZaN hlt (by rw [HW.o,decide_eq_true h1,decide_eq_false h2];rfl)
     go_wp2;go_ret;exact⟨Zac HNo.o.symm,HBr.o⟩
    have d2:decide ((160:Int) < (x.size:Int))=false:=by simp;omega
    have HW2:Hd (Zgm L k=(List.range k).all (fun j=>!((txA L j).toList == x.toList))):=by unfold Hd;rw [HW.o,decide_eq_true h1,decide_eq_true h2];rfl
    clear HW;go_wp2;clear d1 d2 c0
    rename World=>wo
    go_loopw [4] (fun i wq=>∃ n:Nat,i=.int .i64 n/\n<=k/\Below wo.heap.size wo wq/\∀ j,j < n->(!((txA L j).toList == x.toList))=true) (fun i _=>k - (intOf i).toNat)
    case atStart=>exact⟨0,rfl,by omega,Below.refl _ _,fun j h=>by omega⟩
    case round=>
     obtain⟨n,rfl,hn,hb,hall⟩:=hrel;have HIN:=Zaa hall;have HBq:=Zaa hb;clear hall hb
     by_cases hln:n < k
     . have i0:(0:Int)<=(k:Int):=by omega
       have i1:(k:Int) < (L.length:Int):=by omega
       have j0:(0:Int)<=(n:Int):=by omega
       have j1:(n:Int) < (L.length:Int):=by omega
       obtain⟨y,hy⟩:∃ y,y=txA L n:=⟨_,rfl⟩
       have HC:Hd (wr.cell? ⟨b,off+k,none⟩=some (.string x)):=by unfold Hd;rw [HX.o];exact HCC.o _ (bt HBr.o HBq.o) k hlt
       have HD:Hd (wr.cell? ⟨b,off+n,none⟩=some (.string y)):=by unfold Hd;rw [hy];exact HCC.o _ (bt HBr.o HBq.o) n (by omega)
       have HY:=Zaa hy;clear hy;go_wp2
       go_cut [41] (fun c wc=>c=.bool (y.toList == x.toList)/\Below wr.heap.size wr wc)
       case first=>
        have xn:Nonempty (In (Up wr)):=⟨⟨wr,Below.refl _ _⟩⟩;have xs:=fun (X:In (Up wr))=>Zbc X
        have s0:∀ X:In (Up wr),_:=fun X=>Up.cell X HC.o
        have s1:∀ X:In (Up wr),_:=fun X=>Up.cell X HD.o
        refine Zaf (Up wr) (by kernel_rfl) (by kernel_rfl) (Zb_.drew) ?_
        repeat (go_big_quiet_step (fail))
        refine wpQuiet_nil ?_;intro wn hw;obtain⟨X,hX⟩:=hw;have HWN:Below wr.heap.size wr wn:=by rw [hX];exact X.h
        clear hX X s0 s1 xs xn;go_wp2;go_meet;exact⟨rfl,HWN⟩
       case rest=>
       obtain⟨rfl,hbc⟩:=hcut;have HBc:Hd (Below wo.heap.size wo wc):=bt HBq.o hbc;clear hbc
       cases h7:(y.toList == x.toList) with
       | true=>
        have HNo:Hd (ZbC L=false):=by unfold Hd;rw [HE1.o];exact ZaN hlt (by rw [HW2.o];exact ZaN hln (by rw [<- HY.o,h7];rfl))
        go_wp2;go_ret;exact⟨Zac HNo.o.symm,bt HBr.o HBc.o⟩
       | false=>
        have HT:=Zaa h7;go_wp2;go_roundw
        case rel=>exact⟨n+1,by go_num,by omega,HBc.o,fun j hj=>by
                   by_cases e:j=n
                   . rw [e,<- HY.o,HT.o];rfl
                   . exact HIN.o j (by omega)⟩
        . simp [intOf];omega
     . have HYs:Hd (Zgm L k=true):=by unfold Hd;rw [HW2.o];exact Zbj (fun i hi=>HIN.o i (by omega))
       go_wp2;go_roundw
       case rel=>exact⟨k+1,by go_num,by omega,bt HBr.o HBq.o,fun j hj=>by
                  by_cases e:j=k
                  . rw [e];exact HYs.o
                  . exact HAL.o j (by omega)⟩
       . simp [intOf];omega
  . have HE2:Hd (ZbC L=true):=by unfold Hd;rw [HE1.o];exact Zbj (fun i hi=>HAL.o i (by omega))
    go_wp2;go_ret;exact⟨Zac HE2.o.symm,HBr.o⟩
def Zhz (A:List Ra) (i:Nat):Ra:=A.getD i ⟨0,[]⟩
def ZgV (of:Int) (A:List Ra) (i:Nat):Bool:=inB 1 120 (Zhz A i).ix&&(Zbq of (Zhz A i).fr&&!(decide (0 < (i:Int))&&decide ((Zhz A i).ix<=(Zhz A (i - 1)).ix)))
def ZbH (of:Int) (A:List Ra):Bool:=(List.range A.length).all (ZgV of A)
theorem ZbZ {A:List Ra}{k:Nat} (h:k < A.length):Zhz A k=A[k]:=by
 unfold Zhz;rw [List.getD_eq_getElem?_getD,List.getElem?_eq_getElem h];rfl
theorem Zf1 (lo:Nat) (v:Value) (A:List Ra) (of:Int) (w:World) (hv:ZbA lo w v A) :
 Calls prog 125 #[v,.int .i64 of] w fun e w'=>e=.returned (.bool (ZbH of A))/\Zw_ w w':=by
 have HV:=Zaa hv;have hm:=hv.max;unfold maxLen at hm;obtain⟨a,cap,rfl⟩:=hv.form;clear hv;have HE1:Hd (ZbH of A=(List.range A.length).all (ZgV of A)):=rfl;go_enter func125,ntmps125;go_wp2
 go_loopw [5] (fun i wr=>∃ k:Nat,i=.int .i64 k/\k<=A.length/\Zw_ w wr/\∀ j,j < k->ZgV of A j=true) (fun i _=>A.length - (intOf i).toNat)
 case atStart=>exact⟨0,rfl,by omega,Below.refl _ _,fun j h=>by omega⟩
 case round=>
  obtain⟨k,rfl,hk,hb,hall⟩:=hrel;have HAL:=Zaa hall;have HBr:=Zaa hb;clear hall hb
  by_cases hlt:k < A.length
  . obtain⟨b,off,rfl,hbw,-,hc⟩:=HV.o.full' (by omega)
    obtain⟨x,hx⟩:∃ x,x=Zhz A k:=⟨_,rfl⟩
    obtain⟨p,hp⟩:∃ p,p=(Zhz A (k - 1)).ix:=⟨_,rfl⟩
    have HDK:Hd (ZgV of A k=(inB 1 120 x.ix&&(Zbq of x.fr&&!(decide (0 < (k:Int))&&decide (x.ix<=p))))):=by unfold Hd ZgV;rw [<- hx,<- hp]
    obtain⟨cs,hr,a0,k0,rfl,hf⟩:=hc k hlt;rw [<- ZbZ hlt,<- hx] at hf;rw [<- ZbZ hlt,<- hx] at hr;have HF:Hd (ZaR lo wr (.slice a0 x.fr.length k0) x.fr):=hf.l0.below HBr.o;have HR:=Zaz hr HBr.o hbw;have HC0:Hd (wr.cell? ⟨b,off+k*2,none⟩=some (.int .i64 x.ix)):=HR 0 _ rfl;have HC1:Hd (wr.cell? ⟨b,off+k*2+1,none⟩=some (.slice a0 x.fr.length k0)):=HR 1 _ rfl
    have HP:Hd (0 < k->wr.cell? ⟨b,off+(k - 1)*2,none⟩=some (.int .i64 p)):=by
     unfold Hd;intro hk0;obtain⟨cs',hr',a1,k1,rfl,hf'⟩:=hc (k - 1) (by omega);have HR':=Zaz hr' HBr.o hbw;have:=HR' 0 _ rfl;rw [hp,ZbZ (by omega)];exact this
    clear hc hx hp hr hf HR;go_wp2
    go_cut [46] (fun c wc=>c=.bool (!(ZgV of A k))/\Below wr.heap.size wr wc)
    case first=>
     have xn:Nonempty (In (Up wr)):=⟨⟨wr,Below.refl _ _⟩⟩;have xs:=fun (X:In (Up wr))=>Zbc X
     have s0:∀ X:In (Up wr),_:=fun X=>Up.cell X HC0.o
     have s2:∀ X:In (Up wr),_:=fun X=>Up.cell X HC1.o
     have i0:(0:Int)<=(k:Int):=by omega
     have i1:(k:Int) < (A.length:Int):=by omega
     refine Zaf (Up wr) (by kernel_rfl) (by kernel_rfl) (Zb_.drew) ?_
     cases q1:inB 1 120 x.ix with
     | false=>
      repeat (go_big_quiet_step (first|(go_at_call 96;rename_i Y;exact (Zaq _ _ _ _).mono fun _ _ h=>⟨h.1,Up.next Y (by rw [h.2];exact Below.refl _ _)⟩)|(go_at_call 123;rename_i Y;exact (Zbk lo _ x.fr of _ (HF.o.below Y.h)).mono fun _ _ h=>⟨h.1,Up.next Y h.2⟩)))
      refine wpQuiet_nil ?_;intro wn hw;obtain⟨X,hX⟩:=hw;have HWN:Below wr.heap.size wr wn:=by rw [hX];exact X.h
      clear hX X s0 s2 xs xn;go_wp2;go_meet;exact⟨congrArg Value.bool (by rw [HDK.o,q1];rfl),HWN⟩
     | true=>
      cases q4:Zbq of x.fr with
      | false=>
       repeat (go_big_quiet_step (first|(go_at_call 96;rename_i Y;exact (Zaq _ _ _ _).mono fun _ _ h=>⟨h.1,Up.next Y (by rw [h.2];exact Below.refl _ _)⟩)|(go_at_call 123;rename_i Y;exact (Zbk lo _ x.fr of _ (HF.o.below Y.h)).mono fun _ _ h=>⟨h.1,Up.next Y h.2⟩)))
       refine wpQuiet_nil ?_;intro wn hw;obtain⟨X,hX⟩:=hw;have HWN:Below wr.heap.size wr wn:=by rw [hX];exact X.h
       clear hX X s0 s2 xs xn;go_wp2;go_meet;exact⟨congrArg Value.bool (by rw [HDK.o,q1,q4];rfl),HWN⟩
      | true=>
      by_cases q2:0 < k
      . have d2:decide (0 < (k:Int))=true:=by simp;omega
        have s1:∀ X:In (Up wr),_:=fun X=>Up.cell X (HP.o q2)
        have j0:(0:Int)<=(k:Int) - 1:=by omega
        have j1:(k:Int) - 1 < (A.length:Int):=by omega
        have jn:((k:Int) - 1).toNat=k - 1:=by omega
        cases q3:decide (x.ix<=p) with
        | true=>
         repeat (go_big_quiet_step (first|(go_at_call 96;rename_i Y;exact (Zaq _ _ _ _).mono fun _ _ h=>⟨h.1,Up.next Y (by rw [h.2];exact Below.refl _ _)⟩)|(go_at_call 123;rename_i Y;exact (Zbk lo _ x.fr of _ (HF.o.below Y.h)).mono fun _ _ h=>⟨h.1,Up.next Y h.2⟩)))
         refine wpQuiet_nil ?_;intro wn hw;obtain⟨X,hX⟩:=hw;have HWN:Below wr.heap.size wr wn:=by rw [hX];exact X.h
         clear hX X s0 s1 s2 xs xn;go_wp2;go_meet;exact⟨congrArg Value.bool (by rw [HDK.o,q1,q4,d2,q3];rfl),HWN⟩
        | false=>
         repeat (go_big_quiet_step (first|(go_at_call 96;rename_i Y;exact (Zaq _ _ _ _).mono fun _ _ h=>⟨h.1,Up.next Y (by rw [h.2];exact Below.refl _ _)⟩)|(go_at_call 123;rename_i Y;exact (Zbk lo _ x.fr of _ (HF.o.below Y.h)).mono fun _ _ h=>⟨h.1,Up.next Y h.2⟩)))
         refine wpQuiet_nil ?_;intro wn hw;obtain⟨X,hX⟩:=hw;have HWN:Below wr.heap.size wr wn:=by rw [hX];exact X.h
         clear hX X s0 s1 s2 xs xn;go_wp2;go_meet;exact⟨congrArg Value.bool (by rw [HDK.o,q1,q4,d2,q3];rfl),HWN⟩
      . have d2:decide (0 < (k:Int))=false:=by simp;omega
        repeat (go_big_quiet_step (first|(go_at_call 96;rename_i Y;exact (Zaq _ _ _ _).mono fun _ _ h=>⟨h.1,Up.next Y (by rw [h.2];exact Below.refl _ _)⟩)|(go_at_call 123;rename_i Y;exact (Zbk lo _ x.fr of _ (HF.o.below Y.h)).mono fun _ _ h=>⟨h.1,Up.next Y h.2⟩)))
        refine wpQuiet_nil ?_;intro wn hw;obtain⟨X,hX⟩:=hw;have HWN:Below wr.heap.size wr wn:=by rw [hX];exact X.h
        clear hX X s0 s2 xs xn;go_wp2;go_meet;exact⟨congrArg Value.bool (by rw [HDK.o,q1,q4,d2];rfl),HWN⟩
    case rest=>
    obtain⟨rfl,hbc⟩:=hcut;have HBc:Hd (Zw_ w wc):=bt HBr.o hbc;clear hbc
    cases h7:ZgV of A k with
    | false=>
     have HNo:Hd (ZbH of A=false):=by unfold Hd;rw [HE1.o];exact ZaN hlt h7
     go_wp2;go_ret;exact⟨Zac HNo.o.symm,HBc.o⟩
    | true=>
     have HT:=Zaa h7;go_wp2;go_roundw
     case rel=>exact⟨k+1,by go_num,by omega,HBc.o,fun j hj=>by
                by_cases e:j=k
                . rw [e];exact HT.o
                . exact HAL.o j (by omega)⟩
     . simp [intOf];omega
  . have HE2:Hd (ZbH of A=true):=by unfold Hd;rw [HE1.o];exact Zbj (fun i hi=>HAL.o i (by omega))
    go_wp2;go_ret;exact⟨Zac HE2.o.symm,HBr.o⟩
end Go.Proofs.YtdeammfdkaomlaaGreat
