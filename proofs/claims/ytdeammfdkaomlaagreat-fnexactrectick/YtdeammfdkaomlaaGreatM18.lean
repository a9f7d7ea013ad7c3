import Derived.Test.YtdeammfdkaomlaaGreatM10
import Derived.Test.YtdeammfdkaomlaaGreatM15
set_option maxHeartbeats 16000000
set_option maxRecDepth 100000
open Go.Proofs.Tryz
namespace Go.Proofs.YtdeammfdkaomlaaGreat
open Go.RowKit Go.Deep
theorem ZfB (x:Rs) (w:World) (hz:ZaJ x) :
 Calls prog 174 #[.agg #[.int .i64 x.ba,.string x.tx]] w fun e w'=>e=.returned (.bool (ZbI x))/\Zw_ w w':=by
 have hs:=hz.s0;unfold maxLen at hs;clear hz;have HI:Hd (ZbI x=(inB 0 1000000 x.ba&&(decide (x.tx.size<=160)&&!(x.ba == 0&&!x.tx.toList.isEmpty)))):=rfl;have HO:∀ o,Hd (Zw_ w (w.alloc o)):=fun o=>Zab w o
 cases h1:inB 0 1000000 x.ba with
 | false=>
  have HE:Hd (ZbI x=false):=by unfold Hd;rw [HI.o,h1];rfl
  go_enter func174,ntmps174;go_wp2_with (go_at_call 33;refine (Zah _ _ _ _).mono ?_;rintro e w' ⟨rfl,rfl⟩);go_ret;exact⟨Zac HE.o.symm,(HO _).o⟩
 | true=>
  have hr:=h1;simp only [inB,decide_eq_true_eq] at hr;have HR:=Zaa hr;clear hr
  by_cases h2:x.tx.size<=160
  case neg=>
   have HE:Hd (ZbI x=false):=by unfold Hd;rw [HI.o,h1,decide_eq_false h2];rfl
   have d2:decide ((x.tx.size:Int)<=160)=false:=by simp;omega
   go_enter func174,ntmps174;go_wp2_with (go_at_call 33;refine (Zah _ _ _ _).mono ?_;rintro e w' ⟨rfl,rfl⟩);go_ret;exact⟨Zac HE.o.symm,(HO _).o⟩
  have d2:decide ((x.tx.size:Int)<=160)=true:=by simp;omega
  have HE1:Hd (ZbI x=!(x.ba == 0&&!x.tx.toList.isEmpty)):=by unfold Hd;rw [HI.o,h1,decide_eq_true h2];rfl
  by_cases h3:0 < x.ba
  . have d3:decide ((0:Int) < x.ba)=true:=decide_eq_true h3
    have HE:Hd (ZbI x=true):=by
     unfold Hd;rw [HE1.o,show (x.ba == 0)=false by simp;omega];rfl
    go_enter func174,ntmps174;go_wp2_with (go_at_call 33;refine (Zah _ _ _ _).mono ?_;rintro e w' ⟨rfl,rfl⟩);go_ret;exact⟨Zac HE.o.symm,(HO _).o⟩
  . have d3:decide ((0:Int) < x.ba)=false:=decide_eq_false h3
    have HE2:Hd (ZbI x=x.tx.toList.isEmpty):=by
     unfold Hd;have:=HR.o;rw [HE1.o,show (x.ba == 0)=true by simp;omega];simp
    cases h4:x.tx.toList.isEmpty with
    | true=>
     have HE:Hd (ZbI x=true):=by unfold Hd;rw [HE2.o,h4]
     go_enter func174,ntmps174;go_wp2_with (go_at_call 33;refine (Zah _ _ _ _).mono ?_;rintro e w' ⟨rfl,rfl⟩);go_ret;exact⟨Zac HE.o.symm,(HO _).o⟩
    | false=>
     have HE:Hd (ZbI x=false):=by unfold Hd;rw [HE2.o,h4]
     go_enter func174,ntmps174;go_wp2_with (go_at_call 33;refine (Zah _ _ _ _).mono ?_;rintro e w' ⟨rfl,rfl⟩);go_ret;exact⟨Zac HE.o.symm,(HO _).o⟩
theorem Zav (lo:Nat) (v:Value) (L:List Rs) (w:World) (hv:Zat lo w v L) :
 Calls prog 141 #[v] w fun e w'=>e=.returned (.bool (ZaI L))/\Zw_ w w':=by
 have HV:=Zaa hv;have hm:=hv.max;unfold maxLen at hm;obtain⟨a,cap,rfl⟩:=hv.form;clear hv;have HI:Hd (ZaI L=(decide (L.length<=120)&&L.all ZbI)):=rfl
 by_cases l0:L.length<=120
 case neg=>
  have HE:Hd (ZaI L=false):=by unfold Hd;rw [HI.o,decide_eq_false l0];rfl
  have d0:decide ((120:Int) < (L.length:Int))=true:=by simp;omega
  go_enter func141,ntmps141;go_wp2;go_ret;exact⟨Zac HE.o.symm,Below.refl _ _⟩
 have d0:decide ((120:Int) < (L.length:Int))=false:=by simp;omega
 have HE1:Hd (ZaI L=L.all ZbI):=by unfold Hd;rw [HI.o,decide_eq_true l0];rfl
 go_enter func141,ntmps141;go_wp2;clear d0
 go_loopw [10] (fun i wr=>∃ k:Nat,i=.int .i64 k/\k<=L.length/\Zw_ w wr/\∀ j (hj:j < L.length),j < k->ZbI L[j]=true) (fun i _=>L.length - (intOf i).toNat)
 case atStart=>exact⟨0,rfl,by omega,Below.refl _ _,fun j _ h=>by omega⟩
 case round=>
  obtain⟨k,rfl,hk,hb,hall⟩:=hrel;have HAL:=Zaa hall;have HB:=Zaa hb;clear hall hb
  by_cases hlt:k < L.length
  . obtain⟨b,off,rfl,hbw,-,hc⟩:=HV.o.full' (by omega)
    obtain⟨hsz,hcc⟩:=hc k hlt;obtain⟨x,hx⟩:∃ x,x=L[k]:=⟨_,rfl⟩
    rw [<- hx] at hsz hcc;have HX:=Zaa hx;have HZ:=Zaa hsz;obtain⟨e0,e1⟩:=hcc.below HB.o hbw;have i0:(0:Int)<=(k:Int):=by omega
    have i1:(k:Int) < (L.length:Int):=by omega
    clear hc hcc hsz hx
    cases h1:ZbI x with
    | false=>
     go_wp2_with (go_at_call 174;refine (ZfB x _ HZ.o).mono ?_;rw [h1];rintro e w1 ⟨rfl,hb1⟩;have HB1:=Zaa hb1;clear hb1);go_ret;exact⟨Zac (by rw [HE1.o];exact (Zfc hlt (by rw [<- HX.o];exact h1)).symm),bt HB.o (bt (Zab _ _) HB1.o)⟩
    | true=>
     go_wp2_with (go_at_call 174;refine (ZfB x _ HZ.o).mono ?_;rw [h1];rintro e w1 ⟨rfl,hb1⟩;have HB1:=Zaa hb1;clear hb1);go_roundw
     . exact⟨k+1,by go_num,by omega,bt HB.o (bt (Zab _ _) HB1.o),ZdX HAL.o hlt (by rw [<- HX.o];exact h1)⟩
     . simp [intOf];omega
  . have HT:Hd (L.all ZbI=true):=ZfP (fun i hi=>HAL.o i hi (by omega))
    go_wp2;go_ret;exact⟨Zac (by rw [HE1.o,HT.o]),HB.o⟩
def Zjb (lo hi:Int) (L:List Rs):Bool:=L.all (fun x=>inB lo hi x.ba)
theorem Zc9 (l:Nat) (v:Value) (L:List Rs) (lo hi:Int) (w:World) (hv:Zat l w v L) :
 Calls prog 171 #[v,.int .i64 lo,.int .i64 hi] w fun e w'=>e=.returned (.bool (Zjb lo hi L))/\Zw_ w w':=by
 have HV:=Zaa hv;have hm:=hv.max;unfold maxLen at hm;obtain⟨a,cap,rfl⟩:=hv.form;clear hv;have HE1:Hd (Zjb lo hi L=L.all (fun x=>inB lo hi x.ba)):=rfl;go_enter func171,ntmps171;go_wp2
 go_loopw [11] (fun i wr=>∃ k:Nat,i=.int .i64 k/\k<=L.length/\Zw_ w wr/\∀ j (hj:j < L.length),j < k->inB lo hi L[j].ba=true) (fun i _=>L.length - (intOf i).toNat)
 case atStart=>exact⟨0,rfl,by omega,Below.refl _ _,fun j _ h=>by omega⟩
 case round=>
  obtain⟨k,rfl,hk,hb,hall⟩:=hrel;have HAL:=Zaa hall;have HB:=Zaa hb;clear hall hb
  by_cases hlt:k < L.length
  . obtain⟨b,off,rfl,hbw,-,hc⟩:=HV.o.full' (by omega)
    obtain⟨hsz,hcc⟩:=hc k hlt;obtain⟨x,hx⟩:∃ x,x=L[k]:=⟨_,rfl⟩
    rw [<- hx] at hsz hcc;have HX:=Zaa hx;obtain⟨e0,e1⟩:=hcc.below HB.o hbw;have i0:(0:Int)<=(k:Int):=by omega
    have i1:(k:Int) < (L.length:Int):=by omega
    clear hc hcc hsz hx
    cases h1:inB lo hi x.ba with
    | false=>
     go_wp2_with (go_at_call 33;refine (Zah _ _ _ _).mono ?_;rw [h1];rintro e w' ⟨rfl,rfl⟩);go_ret;exact⟨Zac (by rw [HE1.o];exact (Zfc hlt (by rw [<- HX.o];exact h1)).symm),bt HB.o (Zab _ _)⟩
    | true=>
     go_wp2_with (go_at_call 33;refine (Zah _ _ _ _).mono ?_;rw [h1];rintro e w' ⟨rfl,rfl⟩);go_roundw
     . exact⟨k+1,by go_num,by omega,bt HB.o (Zab _ _),ZdX (f:=fun x=>inB lo hi x.ba) HAL.o hlt (by rw [<- HX.o];exact h1)⟩
     . simp [intOf];omega
  . have HT:Hd (L.all (fun x=>inB lo hi x.ba)=true):=ZfP (fun i hi=>HAL.o i hi (by omega))
    go_wp2;go_ret;exact⟨Zac (by rw [HE1.o,HT.o]),HB.o⟩
def nwL (n of:Int) (up:Bool):List Value:=[.int .i64 n,.int .i64 of,.bool up,.int .i64 0,.int .i64 0,.slice none 0 0,.int .i64 0,.int .i64 0,.slice none 0 0,.slice none 0 0,.slice none 0 0,.bool false,.bool false,.int .i64 0,.slice none 0 0,.slice none 0 0,.slice none 0 0,.int .i64 0]
def nwU (n of:Int) (up:Bool):Rr:=⟨n,of,up,⟨0,0,[]⟩,⟨0,0,[]⟩,[],[],false,false,0,[],[],[],0⟩
theorem Zau (n of:Int) (w:World) :
 Calls prog 136 #[.int .i64 n,.int .i64 of] w fun e w'=>e=.returned (.bool (inB 1 5 of&&inB 1 of n))/\w'=w:=by
 cases h1:inB 1 5 of with
 | false=>
  go_enter func136,ntmps136;go_wp2_with (go_at_call 33;refine (Zah _ _ _ _).mono ?_;rintro e w' ⟨rfl,rfl⟩);go_ret;exact⟨rfl,rfl⟩
 | true=>
  go_enter func136,ntmps136;go_wp2_with (go_at_call 33;refine (Zah _ _ _ _).mono ?_;rintro e w' ⟨rfl,rfl⟩);go_ret;exact⟨rfl,rfl⟩
theorem ZaF (lo:Nat) (v:Value) (L:List Int) (of:Int) (w:World) (hv:ZaR lo w v L) :
 Calls prog 140 #[v,.int .i64 of] w fun e w'=>e=.returned (.bool (Zbq of L))/\w'=w:=by
 have HV:=Zaa hv;have hm:=hv.max;unfold maxLen at hm;obtain⟨a,cap,rfl⟩:=hv.form;clear hv;have HE1:Hd (Zbq of L=(List.range L.length).all (Zfw of L)):=rfl;go_enter func140,ntmps140;go_wp2
 go_loop [9] (fun i=>∃ k:Nat,i=.int .i64 k/\k<=L.length/\∀ j,j < k->Zfw of L j=true) (fun i=>L.length - (intOf i).toNat)
 case atStart=>exact⟨0,rfl,by omega,fun j h=>by omega⟩
 case round=>
  obtain⟨k,rfl,hk,hall⟩:=hrel;have HAL:=Zaa hall;clear hall
  by_cases hlt:k < L.length
  . obtain⟨b,off,rfl,hbw,-,hc⟩:=HV.o.full' (by omega)
    obtain⟨x,hx⟩:∃ x,x=L[k]:=⟨_,rfl⟩
    obtain⟨p,hp⟩:∃ p,p=L.getD (k - 1) 0:=⟨_,rfl⟩
    have hgx:L.getD k 0=x:=by rw [hx,List.getD_eq_getElem?_getD,List.getElem?_eq_getElem hlt];rfl
    have HDK:Hd (Zfw of L k=(inB 1 of x&&!(decide (0 < (k:Int))&&decide (x<=p)))):=by unfold Hd Zfw;rw [hgx,<- hp]
    have s0:w.cell? ⟨b,off+k,none⟩=some (.int .i64 x):=by rw [hx];exact (hc k hlt).2
    have HP:Hd (0 < k->w.cell? ⟨b,off+(k - 1),none⟩=some (.int .i64 p)):=by
     unfold Hd;intro hk0;rw [hp,List.getD_eq_getElem?_getD,List.getElem?_eq_getElem (by omega)];exact (hc (k - 1) (by omega)).2
    have i0:(0:Int)<=(k:Int):=by omega
    have i1:(k:Int) < (L.length:Int):=by omega
    clear hc hx hp hgx
    cases q1:inB 1 of x with
    | false=>
     have HNo:Hd (Zbq of L=false):=by unfold Hd;rw [HE1.o];exact ZaN hlt (by rw [HDK.o,q1];rfl)
     go_wp2_with (go_at_call 33;refine (Zah _ _ _ _).mono ?_;rintro e w' ⟨rfl,rfl⟩);go_ret;exact⟨Zac HNo.o.symm,rfl⟩
    | true=>
     by_cases q2:0 < k
     . have d2:decide (0 < (k:Int))=true:=by simp;omega
       have s1:=HP.o q2;have j0:(0:Int)<=(k:Int) - 1:=by omega
       have j1:(k:Int) - 1 < (L.length:Int):=by omega
       have jn:((k:Int) - 1).toNat=k - 1:=by omega
       have HQ2:=Zaa q2;have HD2:=Zaa d2
       cases q3:decide (x<=p) with
       | true=>
        have HNo:Hd (Zbq of L=false):=by unfold Hd;rw [HE1.o];exact ZaN hlt (by rw [HDK.o,q1,d2,q3];rfl)
        go_wp2_with (go_at_call 33;refine (Zah _ _ _ _).mono ?_;rintro e w' ⟨rfl,rfl⟩);go_ret;exact⟨Zac HNo.o.symm,rfl⟩
       | false=>
        have HT:Hd (Zfw of L k=true):=by unfold Hd;rw [HDK.o,q1,d2,q3];rfl
        go_wp2_with (go_at_call 33;refine (Zah _ _ _ _).mono ?_;rintro e w' ⟨rfl,rfl⟩)
        go_round
        case rel=>exact⟨k+1,by go_num,by omega,fun j hj=>by
                   by_cases e:j=k
                   . rw [e];exact HT.o
                   . exact HAL.o j (by omega)⟩
        . simp [intOf];omega
     . obtain rfl:k=0:=by omega
       have HT:Hd (Zfw of L 0=true):=by unfold Hd;rw [HDK.o,q1];rfl
       clear q2;rw [Nat.add_zero] at s0;go_wp2_with (go_at_call 33;refine (Zah _ _ _ _).mono ?_;rintro e w' ⟨rfl,rfl⟩)
       go_round
       case rel=>exact⟨0+1,by go_num,by omega,fun j hj=>by
                  rw [show j=0 by omega];exact HT.o⟩
       . simp [intOf];omega
  . have HT:Hd (Zbq of L=true):=Zbj (fun i hi=>HAL.o i (by omega))
    go_wp2;go_ret;exact⟨Zac HT.o.symm,rfl⟩
def Zjh (L:List Zy_) (n:Nat) (x:Zy_):Bool:=!(List.range n).all (fun k=>!((txA L k).toList == x.toList))
theorem Zhb (a:Option Addr) (n cap:Nat) (L:List Zy_) (x:Zy_) (w:World) (hn:n<=1000000) (hc:∀ j,j < n->∃ b off,a=some ⟨b,off,none⟩/\w.cell? ⟨b,off+j,none⟩=some (.string (txA L j))) :
 Calls prog 188 #[.slice a n cap,.string x] w fun e w'=>(∃ r:Int,e=.returned (.int .i64 r)/\decide (0<=r)=Zjh L n x)/\w'=w:=by
 have HC:=Zaa hc;clear hc;go_enter func188,ntmps188;go_wp2
 go_loop [8] (fun i=>∃ k:Nat,i=.int .i64 k/\k<=n/\∀ j,j < k->(!((txA L j).toList == x.toList))=true) (fun i=>n - (intOf i).toNat)
 case atStart=>exact⟨0,rfl,by omega,fun j h=>by omega⟩
 case round=>
  obtain⟨k,rfl,hk,hall⟩:=hrel;have HAL:=Zaa hall;clear hall
  by_cases hlt:k < n
  . obtain⟨b,off,rfl,c0⟩:=HC.o k hlt
    have i0:(0:Int)<=(k:Int):=by omega
    have i1:(k:Int) < (n:Int):=by omega
    obtain⟨y,hy⟩:∃ y,y=txA L k:=⟨_,rfl⟩
    rw [<- hy] at c0;have HY:=Zaa hy;clear hy
    cases q:(x.toList == y.toList) with
    | true=>
     have HT:Hd (Zjh L n x=true):=by
      unfold Hd Zjh;rw [ZaN hlt (by rw [<- HY.o];have:=eq_of_beq q;rw [this];simp)];rfl
     go_wp2;go_ret;exact⟨⟨k,rfl,by rw [HT.o];simp⟩,rfl⟩
    | false=>
     have HQ:Hd ((!(y.toList == x.toList))=true):=by
      unfold Hd;have:¬ x.toList=y.toList:=by intro e;rw [e] at q;simp at q
      simp only [Bool.not_eq_true',beq_eq_false_iff_ne];exact fun e=>this e.symm
     go_wp2
     go_round
     case rel=>exact⟨k+1,by go_num,by omega,fun j hj=>by
                by_cases e:j=k
                . rw [e,<- HY.o];exact HQ.o
                . exact HAL.o j (by omega)⟩
     . simp [intOf];omega
  . have HT:Hd (Zjh L n x=false):=by
     unfold Hd Zjh;rw [Zbj (fun i hi=>HAL.o i (by omega))];rfl
    go_wp2;go_ret;exact⟨⟨-1,rfl,by rw [HT.o];rfl⟩,rfl⟩
theorem Zdb (a:Option Addr) (n cap:Nat) (L:List Zy_) (x:Zy_) (w:World) (hn:n<=1000000) (hc:∀ j,j < n->∃ b off,a=some ⟨b,off,none⟩/\w.cell? ⟨b,off+j,none⟩=some (.string (txA L j))) :
 Calls prog 173 #[.slice a n cap,.string x] w fun e w'=>e=.returned (.bool (Zjh L n x))/\w'=w:=by
 have HC:=Zaa hc;clear hc;go_enter func173,ntmps173;go_wp2_with fail;refine (Zhb a n cap L x _ hn HC.o).mono ?_;rintro e w' ⟨⟨r,rfl,hr⟩,rfl⟩;have HR:=Zaa hr;clear hr;go_wp2;go_ret;exact⟨Zac HR.o,rfl⟩
theorem ZaL (lo:Nat) (v:Value) (L:List Zy_) (w:World) (hv:Zbf lo w v L) :
 Calls prog 139 #[v] w fun e w'=>e=.returned (.bool (ZbC L))/\w'=w:=by
 have HV:=Zaa hv;have hm:=hv.max;unfold maxLen at hm;obtain⟨a,cap,rfl⟩:=hv.form;clear hv;have HI:Hd (ZbC L=(decide (L.length<=20)&&(List.range L.length).all (Zgm L))):=rfl
 by_cases l0:L.length<=20
 case neg=>
  have HE:Hd (ZbC L=false):=by unfold Hd;rw [HI.o,decide_eq_false l0];rfl
  have d0:decide ((20:Int) < (L.length:Int))=true:=by simp;omega
  go_enter func139,ntmps139;go_wp2;go_ret;exact⟨Zac HE.o.symm,rfl⟩
 have d0:decide ((20:Int) < (L.length:Int))=false:=by simp;omega
 have HE1:Hd (ZbC L=(List.range L.length).all (Zgm L)):=by unfold Hd;rw [HI.o,decide_eq_true l0];rfl
 go_enter func139,ntmps139;go_wp2;clear d0
 go_loop [10] (fun i=>∃ k:Nat,i=.int .i64 k/\k<=L.length/\∀ j,j < k->Zgm L j=true) (fun i=>L.length - (intOf i).toNat)
 case atStart=>exact⟨0,rfl,by omega,fun j h=>by omega⟩
 case round=>
  obtain⟨k,rfl,hk,hall⟩:=hrel;have HAL:=Zaa hall;clear hall
  by_cases hlt:k < L.length
  . have hcap:L.length<=cap:=by
     rcases HV.o with ⟨_,_,_,e⟩ | ⟨_,_,_,h1,_,_,_,_,h6,_⟩
     . rw [e] at hlt;simp at hlt
     . injection h1 with e1 e2 e3
       omega
    obtain⟨b,off,rfl,hbw,-,hc⟩:=HV.o.full' (by omega)
    have HCC:Hd (∀ j,j < L.length->w.cell? ⟨b,off+j,none⟩=some (.string (txA L j))):=by
     intro j hj;rw [(hc j hj).2];unfold txA;rw [List.getD_eq_getElem?_getD,List.getElem?_eq_getElem hj];rfl
    have hs:=(hc k hlt).1;unfold Zc5 maxLen at hs;obtain⟨x,hx⟩:∃ x,x=txA L k:=⟨_,rfl⟩
    have hxs:x.size<=9223372036854775807:=by
     rw [hx];unfold txA;rw [List.getD_eq_getElem?_getD,List.getElem?_eq_getElem hlt];simp only [Option.getD_some];omega
    have c0:w.cell? ⟨b,off+k,none⟩=some (.string x):=by rw [hx];exact HCC.o k hlt
    have HW:Hd (Zgm L k=(inB 1 160 (x.size:Nat)&&!Zjh L k x)):=by
     unfold Hd Zgm Zjh;rw [<- hx,ZgF,Bool.not_not,<- Bool.and_assoc]
     congr 1
     rw [Bool.eq_iff_iff];simp
     omega
    have i0:(0:Int)<=(k:Int):=by omega
    have i1:(k:Int) < (L.length:Int):=by omega
    have i2:(k:Int)<=(cap:Int):=by omega
    have HX:=Zaa hx;clear hc hs hx
    cases q1:inB 1 160 (x.size:Nat) with
    | false=>
     have HNo:Hd (ZbC L=false):=by unfold Hd;rw [HE1.o];exact ZaN hlt (by rw [HW.o,q1];rfl)
     go_wp2_with (go_at_call 33;refine (Zah _ _ _ _).mono ?_;rintro e w' ⟨rfl,rfl⟩);go_ret;exact⟨Zac HNo.o.symm,rfl⟩
    | true=>
     cases q2:Zjh L k x with
     | true=>
      have HNo:Hd (ZbC L=false):=by unfold Hd;rw [HE1.o];exact ZaN hlt (by rw [HW.o,q1,q2];rfl)
      go_wp2_with (first
       | (go_at_call 33;refine (Zah _ _ _ _).mono ?_;rintro e w' ⟨rfl,rfl⟩)
       | (go_at_call 173;refine (Zdb _ k cap L x _ (by omega) (fun j hj=>⟨b,off,by simp,HCC.o j (by omega)⟩)).mono ?_;rw [q2];rintro e w' ⟨rfl,rfl⟩))
      go_ret;exact⟨Zac HNo.o.symm,rfl⟩
     | false=>
      have HT:Hd (Zgm L k=true):=by unfold Hd;rw [HW.o,q1,q2];rfl
      go_wp2_with (first
       | (go_at_call 33;refine (Zah _ _ _ _).mono ?_;rintro e w' ⟨rfl,rfl⟩)
       | (go_at_call 173;refine (Zdb _ k cap L x _ (by omega) (fun j hj=>⟨b,off,by simp,HCC.o j (by omega)⟩)).mono ?_;rw [q2];rintro e w' ⟨rfl,rfl⟩))
      go_round
      case rel=>exact⟨k+1,by go_num,by omega,fun j hj=>by
                 by_cases e:j=k
                 . rw [e];exact HT.o
                 . exact HAL.o j (by omega)⟩
      . simp [intOf];omega
  . have HT:Hd (ZbC L=true):=by unfold Hd;rw [HE1.o];exact Zbj (fun i hi=>HAL.o i (by omega))
    go_wp2;go_ret;exact⟨Zac HT.o.symm,rfl⟩
def rRa (x y:Ra):Bool:=decide (x.ix < y.ix)
def cRa (x y:Ra):Int:=Zg1 x.ix y.ix
theorem ZhJ (x y:Ra):decide (cRa x y < 0)=rRa x y:=by
 unfold cRa rRa;rw [Bool.eq_iff_iff,decide_eq_true_iff,decide_eq_true_iff];exact ZeW
theorem Zd4 (x y:Ra) (a a':Option Addr) (k k':Nat) (w:World) :
 Calls prog 176 #[.agg #[.int .i64 x.ix,.slice a x.fr.length k],.agg #[.int .i64 y.ix,.slice a' y.fr.length k']] w fun e w'=>e=.returned (.int .i64 (cRa x y))/\Zw_ w w':=by
 have HO:∀ o o',Hd (Zw_ w ((w.alloc o).alloc o')):=fun o o'=>(Zab w o).alloc (by simp) o'
 go_enter func176,ntmps176;go_wp2_with (go_at_call 189;refine (ZeB _ _ _).mono ?_;rintro e w' ⟨rfl,rfl⟩);go_ret;exact⟨rfl,(HO _ _).o⟩
theorem ZhG (lo:Nat) (v:Value) (Xl:List Ra) (w:World) (hv:ZbA lo w v Xl) :
 Calls prog 175 #[v,.func (.func 176) #[] #[]] w fun e w'=>e=.returned (.bool (ZkN rRa Xl))/\Zw_ w w':=by
 have HV:=Zaa hv;have hm:=hv.max;unfold maxLen at hm;obtain⟨a,cap,rfl⟩:=hv.form;clear hv;go_enter func175,ntmps175;go_wp2
 go_loopw [5] (fun i wr=>∃ m:Nat,i=.int .i64 m/\1<=m/\(m<=Xl.length\/m=1)/\Zw_ w wr/\∀ j,j < m->ZkD rRa Xl j=true) (fun i _=>Xl.length+1 - (intOf i).toNat)
 case atStart=>exact⟨1,rfl,Nat.le_refl _,Or.inr rfl,Below.refl _ _,fun j hj=>by rw [show j=0 by omega];rfl⟩
 case round=>
  obtain⟨m,rfl,hm1,hk,hb,hall⟩:=hrel;have HB:=Zaa hb;have HA:=Zaa hall;clear hb hall
  by_cases hlt:m < Xl.length
  . obtain⟨k,hkm⟩:∃ k,m=k+1:=⟨m - 1,by omega⟩
    have hlt0:k < Xl.length:=by omega
    obtain⟨b,off,rfl,hbw,-,hc⟩:=HV.o.full' (by omega);have hbr:b < wr.heap.size:=Zk_ hbw HB.o.size
    have HS:Hd (ZkD rRa Xl m=decide (cRa Xl[k] Xl[m] < 0)):=by
     subst hkm;unfold Hd;rw [ZhJ];exact Zik hlt
    obtain⟨cs1,hr1,a1,k1,rfl,-⟩:=hc k hlt0;obtain⟨cs2,hr2,a2,k2,rfl,-⟩:=hc m hlt;obtain⟨x,hx⟩:∃ x,x=Xl[k]:=⟨_,rfl⟩
    obtain⟨y,hy⟩:∃ y,y=Xl[m]:=⟨_,rfl⟩
    rw [<- hx] at hr1 HS;rw [<- hy] at hr2 HS;have HC0:Hd (wr.cell? ⟨b,off+k*2,none⟩=some (.int .i64 x.ix)):=Zaz hr1 HB.o hbw 0 _ rfl;have HC1:Hd (wr.cell? ⟨b,off+k*2+1,none⟩=some (.slice a1 x.fr.length k1)):=Zaz hr1 HB.o hbw 1 _ rfl;have HD0:Hd (wr.cell? ⟨b,off+m*2,none⟩=some (.int .i64 y.ix)):=Zaz hr2 HB.o hbw 0 _ rfl;have HD1:Hd (wr.cell? ⟨b,off+m*2+1,none⟩=some (.slice a2 y.fr.length k2)):=Zaz hr2 HB.o hbw 1 _ rfl;have e2:IntKind.i64.wrap ((m:Int) - 1)=k:=by rw [IntWalk.i64_left];unfold wrap64;omega
    clear hc hkm hk hr1 hr2 hx hy;go_wp2
    go_cut [23] (fun c wc=>c=.bool (decide (0<=cRa x y))/\Below wr.heap.size wr wc)
    case first=>
     have xn:Nonempty (In (Up wr)):=⟨⟨wr,Below.refl _ _⟩⟩;have xs:=fun (X:In (Up wr))=>Zbc X
     have s0:∀ X:In (Up wr),_:=fun X=>Up.cell X HC0.o
     have s1:∀ X:In (Up wr),_:=fun X=>Up.cell X HC1.o
     have t0:∀ X:In (Up wr),_:=fun X=>Up.cell X HD0.o
     have t1:∀ X:In (Up wr),_:=fun X=>Up.cell X HD1.o
     have i0:(0:Int)<=(k:Int):=by omega
     have i1:(k:Int) < (Xl.length:Int):=by omega
     have j0:(0:Int)<=(m:Int):=by omega
     have j1:(m:Int) < (Xl.length:Int):=by omega
     refine Zaf (Up wr) (by kernel_rfl) (by kernel_rfl) (Zb_.drew) ?_
     repeat (go_big_quiet_step ((go_at_call 176;rename_i X;exact (Zd4 x y _ _ _ _ _).mono fun _ _ h=>⟨h.1,Up.next X h.2⟩)))
     refine wpQuiet_nil ?_;intro wn hw;obtain⟨X,hX⟩:=hw;have HWN:Below wr.heap.size wr wn:=by rw [hX];exact X.h
     clear hX X s0 s1 t0 t1 xs xn;go_wp2;go_meet;exact⟨rfl,HWN⟩
    case rest=>
    obtain⟨rfl,hbc⟩:=hcut;have HBc:=Zaa (bt HB.o hbc);clear hbc
    cases hq:decide (0<=cRa x y) with
    | true=>
     have HN:Hd (ZkN rRa Xl=false):=ZaN hlt (HS.o.trans (decide_eq_false (by have:=of_decide_eq_true hq;omega)));go_wp2;go_ret;exact⟨Zac HN.o.symm,HBc.o⟩
    | false=>
     have HT:Hd (ZkD rRa Xl m=true):=HS.o.trans (decide_eq_true (by have:=of_decide_eq_false hq;omega));go_wp2;go_roundw
     case rel=>exact⟨m+1,by go_num,by omega,by omega,HBc.o,fun j hj=>by
                by_cases e:j=m
                . rw [e];exact HT.o
                . exact HA.o j (by omega)⟩
     . simp [intOf];omega
  . have HT:Hd (ZkN rRa Xl=true):=Zbj (fun i hi=>HA.o i (by omega))
    go_wp2;go_ret;exact⟨Zac HT.o.symm,HB.o⟩
def abB (of:Int) (A:List Ra) (i:Nat):Bool:=inB 1 120 (Zhz A i).ix&&Zbq of (Zhz A i).fr
theorem Zka (of:Int) (A:List Ra) (i:Nat) (h:i < A.length):ZgV of A i=(abB of A i&&ZkD rRa A i):=by
 unfold ZgV abB;rw [Bool.and_assoc]
 congr 2
 cases i with
 | zero=>rfl
 | succ j=>
  rw [Zik h];unfold rRa;rw [ZbZ h,show j+1 - 1=j from rfl,ZbZ (show j < A.length by omega),Bool.eq_iff_iff];simp
theorem Zj9 {n:Nat}{p q r:Nat->Bool} (h:∀ i,i < n->p i=(q i&&r i)):(List.range n).all p=((List.range n).all q&&(List.range n).all r):=by
 rw [Bool.eq_iff_iff,Bool.and_eq_true,List.all_eq_true,List.all_eq_true,List.all_eq_true]
 constructor
 . intro hp
   exact⟨fun x hx=>by have:=hp x hx;rw [h x (by simpa using hx),Bool.and_eq_true] at this;exact this.1,fun x hx=>by have:=hp x hx;rw [h x (by simpa using hx),Bool.and_eq_true] at this;exact this.2⟩
 . rintro⟨h1,h2⟩ x hx
   rw [h x (by simpa using hx),h1 x hx,h2 x hx];rfl
theorem Zi9 (of:Int) (A:List Ra):ZbH of A=((List.range A.length).all (abB of A)&&ZkN rRa A):=Zj9 (Zka of A)
theorem Zby (lo:Nat) (v:Value) (A:List Ra) (of:Int) (w:World) (hv:ZbA lo w v A) :
 Calls prog 142 #[v,.int .i64 of] w fun e w'=>e=.returned (.bool (ZbH of A))/\Zw_ w w':=by
 have HV:=Zaa hv;have hm:=hv.max;unfold maxLen at hm;obtain⟨a,cap,rfl⟩:=hv.form;clear hv;have HE1:=Zaa (Zi9 of A);go_enter func142,ntmps142;go_wp2
 go_loopw [9] (fun i wr=>∃ k:Nat,i=.int .i64 k/\k<=A.length/\Zw_ w wr/\∀ j,j < k->abB of A j=true) (fun i _=>A.length - (intOf i).toNat)
 case atStart=>exact⟨0,rfl,by omega,Below.refl _ _,fun j h=>by omega⟩
 case round=>
  obtain⟨k,rfl,hk,hb,hall⟩:=hrel;have HAL:=Zaa hall;have HBr:=Zaa hb;clear hall hb
  by_cases hlt:k < A.length
  . obtain⟨b,off,rfl,hbw,-,hc⟩:=HV.o.full' (by omega)
    obtain⟨x,hx⟩:∃ x,x=Zhz A k:=⟨_,rfl⟩
    have HDK:Hd (abB of A k=(inB 1 120 x.ix&&Zbq of x.fr)):=by unfold Hd abB;rw [<- hx]
    obtain⟨cs,hr,a0,k0,rfl,hf⟩:=hc k hlt;rw [<- ZbZ hlt,<- hx] at hf;rw [<- ZbZ hlt,<- hx] at hr;have HF:Hd (ZaR lo wr (.slice a0 x.fr.length k0) x.fr):=hf.l0.below HBr.o;have HR:=Zaz hr HBr.o hbw;have s0:wr.cell? ⟨b,off+k*2,none⟩=some (.int .i64 x.ix):=HR 0 _ rfl;have s1:wr.cell? ⟨b,off+k*2+1,none⟩=some (.slice a0 x.fr.length k0):=HR 1 _ rfl;have i0:(0:Int)<=(k:Int):=by omega
    have i1:(k:Int) < (A.length:Int):=by omega
    clear hc hx hr hf HR
    cases q1:inB 1 120 x.ix with
    | false=>
     have HNo:Hd (ZbH of A=false):=by unfold Hd;rw [HE1.o,ZaN hlt (by rw [HDK.o,q1];rfl)];rfl
     go_wp2_with (go_at_call 33;refine (Zah _ _ _ _).mono ?_;rintro e w' ⟨rfl,rfl⟩);go_ret;exact⟨Zac HNo.o.symm,bt HBr.o (Zab _ _)⟩
    | true=>
     cases q2:Zbq of x.fr with
     | false=>
      have HNo:Hd (ZbH of A=false):=by unfold Hd;rw [HE1.o,ZaN hlt (by rw [HDK.o,q1,q2];rfl)];rfl
      go_wp2_with (first|(go_at_call 33;refine (Zah _ _ _ _).mono ?_;rintro e w' ⟨rfl,rfl⟩)|(go_at_call 140;refine (ZaF lo _ x.fr of _ (HF.o.below (Zab _ _))).mono ?_;rw [q2];rintro e w' ⟨rfl,rfl⟩));go_ret;exact⟨Zac HNo.o.symm,bt HBr.o (Zab _ _)⟩
     | true=>
      have HT:Hd (abB of A k=true):=by unfold Hd;rw [HDK.o,q1,q2];rfl
      go_wp2_with (first|(go_at_call 33;refine (Zah _ _ _ _).mono ?_;rintro e w' ⟨rfl,rfl⟩)|(go_at_call 140;refine (ZaF lo _ x.fr of _ (HF.o.below (Zab _ _))).mono ?_;rw [q2];rintro e w' ⟨rfl,rfl⟩));go_roundw
      case rel=>exact⟨k+1,by go_num,by omega,bt HBr.o (Zab _ _),fun j hj=>by
                 by_cases e:j=k
                 . rw [e];exact HT.o
                 . exact HAL.o j (by omega)⟩
      . simp [intOf];omega
  . have HT:Hd (ZbH of A=ZkN rRa A):=by unfold Hd;rw [HE1.o,Zbj (fun i hi=>HAL.o i (by omega))];rfl
    go_wp2_with (go_at_call 175;refine (ZhG lo _ A _ (HV.o.below HBr.o)).mono ?_;rintro e w1 ⟨rfl,hb1⟩;have HB1:=Zaa hb1;clear hb1);go_ret;exact⟨Zac HT.o.symm,bt HBr.o HB1.o⟩
variable {a:Option Addr} {lo:Nat} {w:World} {L:List Rs}
theorem rb {a b:Bool} (h:a=b):Ending.returned (Value.bool a)=.returned (.bool b):=by rw [h]
theorem Zat.take {cap n:Nat} (h:Zat lo w (.slice a L.length cap) L) (k:Nat) (hn:n=k) (hk:k<=L.length):Zat lo w (.slice a n cap) (L.take k):=by
 subst hn
 by_cases h0:n=0
 . subst h0
   exact Or.inl ⟨a,cap,rfl,rfl⟩
 . have hl:(L.take n).length=n:=by simp;omega
   obtain⟨b,off,c2,h1,h3,h4,h6,h7⟩:=h.full (by intro e;rw [e] at hk;simp at hk;omega)
   have h5:lo<=b:=by
    obtain⟨b',off',e,_,hb',_⟩:=h.full' (by omega);injection h1 with e1 e2 e3
    rw [e] at e1;injection e1 with e1
    injection e1 with e1
    omega
   injection h1 with e1 e2 e3
   subst e3;subst e1;refine Or.inr ⟨b,off,cap,by rw [hl],by intro e;rw [e] at hl;simp at hl;omega,by omega,h4,h5,by omega,fun i hi=>?_⟩;rw [List.getElem_take];exact h7 i (by omega)
theorem Zat.cap {k:Nat} (h:Zat lo w (.slice a L.length k) L):L.length<=k:=by
 rcases h with ⟨_,_,_,rfl⟩ | ⟨_,_,_,h1,_,_,_,_,h6,_⟩
 . exact Nat.zero_le _
 . injection h1 with e1 e2 e3
   omega
theorem Zkd {D:Rd} (hs:ZaI D.sl=true) (h3:inB 0 (D.sl.length:Nat) D.kn=true) :
 (List.range D.sl.length).all (Zi1 D)=(Zjb 0 D.pr D.sl&&Zjb 1 D.pr (D.sl.take D.kn.toNat)):=by
 have hb:∀ i (h:i < D.sl.length),0<=D.sl[i].ba:=fun i h=>by
  unfold ZaI at hs;rw [Bool.and_eq_true] at hs;have:=ZkI hs.2 h;unfold ZbI inB at this;simp at this
  omega
 simp only [inB,decide_eq_true_eq] at h3;rw [Bool.eq_iff_iff];unfold Zjb;rw [Bool.and_eq_true,List.all_eq_true,List.all_eq_true,List.all_eq_true]
 constructor
 . intro h
   have hd:∀ i (hi:i < D.sl.length),D.sl[i].ba<=D.pr/\((i:Int) < D.kn->D.sl[i].ba≠0):=fun i hi=>by
    have:=h i (by simpa using hi);rw [ZfV hi] at this;simp at this;exact⟨this.1,fun _=>by have:=this.2;omega⟩
   constructor
   . intro x hx
     obtain⟨i,hi,rfl⟩:=List.getElem_of_mem hx;have:=hd i hi;have:=hb i hi;simp only [inB,decide_eq_true_eq]
     omega
   . intro x hx
     obtain⟨i,hi,rfl⟩:=List.getElem_of_mem hx;rw [List.getElem_take];have hj:i < D.sl.length/\i < D.kn.toNat:=by simp at hi;omega
     have h1:=hd i hj.1;have h2:=hb i hj.1;have h3:=h1.2 (by omega);simp only [inB,decide_eq_true_eq]
     omega
 . rintro⟨ha,ht⟩ i hi
   have hi:i < D.sl.length:=by simpa using hi
   rw [ZfV hi];have h1:=ha _ (List.getElem_mem hi);simp only [inB,decide_eq_true_eq] at h1;simp only [Bool.not_eq_true',Bool.or_eq_false_iff,decide_eq_false_iff_not,Bool.and_eq_false_iff,beq_eq_false_iff_ne];refine⟨by omega,?_⟩
   by_cases hk:(i:Int) < D.kn
   . right
     have hm:i < (D.sl.take D.kn.toNat).length:=by simp;omega
     have h2:=ht _ (List.getElem_mem hm);rw [List.getElem_take] at h2;simp only [inB,decide_eq_true_eq] at h2
     omega
   . left;exact hk
theorem ZhR (D:Rd):ZaW D=(inB 0 1000000 D.pr&&(ZaI D.sl&&(inB 0 (D.sl.length:Nat) D.kn&&(Zjb 0 D.pr D.sl&&Zjb 1 D.pr (D.sl.take D.kn.toNat))))):=by
 unfold ZaW
 cases h1:inB 0 1000000 D.pr
 . rfl
 cases h2:ZaI D.sl
 . rfl
 cases h3:inB 0 (D.sl.length:Nat) D.kn
 . rfl
 rw [Zkd h2 h3]
theorem Zal (lo:Nat) (cs:List Value) (D:Rd) (w:World) (h:RdC lo w cs D) :
 Calls prog 137 #[.agg cs.toArray] w fun e w'=>e=.returned (.bool (ZaW D))/\Zw_ w w':=by
 obtain⟨a0,k0,rfl,h⟩:=h
 show Calls prog 137 #[.agg #[.int .i64 D.pr,.int .i64 D.kn,.slice a0 D.sl.length k0]] w _
 have HK:=Zaa h;have hm:=h.l0.max;unfold maxLen at hm;have hcap:D.sl.length<=k0:=h.l0.cap;clear h;have HI:=Zaa (ZhR D);go_enter func137,ntmps137;go_wp2_with fail;generalize hWa:w.alloc _=Wa;have HB0:Hd (Zw_ w Wa):=by rw [<- hWa];exact Zab w _
 have HX:Hd (Box Wa w.heap.size #[.int .i64 D.pr,.int .i64 D.kn,.slice a0 D.sl.length k0]):=by rw [<- hWa];exact Box.new _ _ _ _ rfl
 clear hWa;have xn:Nonempty (In (Up Wa)):=⟨⟨Wa,Below.refl _ _⟩⟩;have xs:=fun (X:In (Up Wa))=>Zbc X
 have x0:∀ X:In (Up Wa),X.w.cell? ⟨w.heap.size,0,none⟩=some (.int .i64 D.pr):=fun X=>Up.cell X (by rw [HX.o.cell 0];rfl)
 have x1:∀ X:In (Up Wa),X.w.cell? ⟨w.heap.size,1,none⟩=some (.int .i64 D.kn):=fun X=>Up.cell X (by rw [HX.o.cell 1];rfl)
 have x2:∀ X:In (Up Wa),X.w.cell? ⟨w.heap.size,2,none⟩=some (.slice a0 D.sl.length k0):=fun X=>Up.cell X (by rw [HX.o.cell 2];rfl)
 cases h1:inB 0 1000000 D.pr with
 | false=>
  have HE:Hd (ZaW D=false):=by unfold Hd;rw [HI.o,h1];rfl
  refine Zaf (Up Wa) (by kernel_rfl) (by kernel_rfl) (Zb_.drew) ?_
  repeat (go_big_quiet_step (first
  | (go_at_call_of 33 (Value.int .i64 D.pr);rename_i Y;exact (Zah _ _ _ _).mono fun _ _ h=>⟨h.1.trans (rb h1),Up.same Y h.2⟩)))
  refine wpQuiet_nil ?_;intro wn hw;obtain⟨X,hX⟩:=hw;have HWN:Hd (Below Wa.heap.size Wa wn):=by unfold Hd;rw [hX];exact X.h
  clear hX X x0 x1 x2 xs xn;go_wp2;go_ret;exact⟨Zac HE.o.symm,bt HB0.o HWN.o⟩
 | true=>
 cases h2:ZaI D.sl with
 | false=>
  have HE:Hd (ZaW D=false):=by unfold Hd;rw [HI.o,h1,h2];rfl
  refine Zaf (Up Wa) (by kernel_rfl) (by kernel_rfl) (Zb_.drew) ?_
  repeat (go_big_quiet_step (first
  | (go_at_call_of 33 (Value.int .i64 D.pr);rename_i Y;exact (Zah _ _ _ _).mono fun _ _ h=>⟨h.1.trans (rb h1),Up.same Y h.2⟩)
  | (go_at_call 141;rename_i Y;exact (Zav lo _ D.sl _ (HK.o.below (bt HB0.o Y.h)).l0).mono fun _ _ h=>⟨h.1.trans (rb h2),Up.next Y h.2⟩)))
  refine wpQuiet_nil ?_;intro wn hw;obtain⟨X,hX⟩:=hw;have HWN:Hd (Below Wa.heap.size Wa wn):=by unfold Hd;rw [hX];exact X.h
  clear hX X x0 x1 x2 xs xn;go_wp2;go_ret;exact⟨Zac HE.o.symm,bt HB0.o HWN.o⟩
 | true=>
 cases h3:inB 0 (D.sl.length:Nat) D.kn with
 | false=>
  have HE:Hd (ZaW D=false):=by unfold Hd;rw [HI.o,h1,h2,h3];rfl
  refine Zaf (Up Wa) (by kernel_rfl) (by kernel_rfl) (Zb_.drew) ?_
  repeat (go_big_quiet_step (first
  | (go_at_call_of 33 (Value.int .i64 D.pr);rename_i Y;exact (Zah _ _ _ _).mono fun _ _ h=>⟨h.1.trans (rb h1),Up.same Y h.2⟩)
  | (go_at_call 141;rename_i Y;exact (Zav lo _ D.sl _ (HK.o.below (bt HB0.o Y.h)).l0).mono fun _ _ h=>⟨h.1.trans (rb h2),Up.next Y h.2⟩)
  | (go_at_call_of 33 (Value.int .i64 D.kn);rename_i Y;exact (Zah _ _ _ _).mono fun _ _ h=>⟨h.1.trans (rb h3),Up.same Y h.2⟩)))
  refine wpQuiet_nil ?_;intro wn hw;obtain⟨X,hX⟩:=hw;have HWN:Hd (Below Wa.heap.size Wa wn):=by unfold Hd;rw [hX];exact X.h
  clear hX X x0 x1 x2 xs xn;go_wp2;go_ret;exact⟨Zac HE.o.symm,bt HB0.o HWN.o⟩
 | true=>
 have hr:=h3;simp only [inB,decide_eq_true_eq] at hr;have r1:0<=D.kn:=hr.1;have r2:D.kn<=(k0:Int):=by omega
 have HT:Hd (Zat lo w (.slice a0 D.kn.toNat k0) (D.sl.take D.kn.toNat)):=HK.o.l0.take _ rfl (by omega);clear hr
 cases h4:Zjb 0 D.pr D.sl with
 | false=>
  have HE:Hd (ZaW D=false):=by unfold Hd;rw [HI.o,h1,h2,h3,h4];rfl
  refine Zaf (Up Wa) (by kernel_rfl) (by kernel_rfl) (Zb_.drew) ?_
  repeat (go_big_quiet_step (first
  | (go_at_call_of 33 (Value.int .i64 D.pr);rename_i Y;exact (Zah _ _ _ _).mono fun _ _ h=>⟨h.1.trans (rb h1),Up.same Y h.2⟩)
  | (go_at_call 141;rename_i Y;exact (Zav lo _ D.sl _ (HK.o.below (bt HB0.o Y.h)).l0).mono fun _ _ h=>⟨h.1.trans (rb h2),Up.next Y h.2⟩)
  | (go_at_call_of 33 (Value.int .i64 D.kn);rename_i Y;exact (Zah _ _ _ _).mono fun _ _ h=>⟨h.1.trans (rb h3),Up.same Y h.2⟩)
  | (go_at_call_of 171 (Value.int .i64 0);rename_i Y;exact (Zc9 lo _ D.sl _ _ _ (HK.o.below (bt HB0.o Y.h)).l0).mono fun _ _ h=>⟨h.1.trans (rb h4),Up.next Y h.2⟩)))
  refine wpQuiet_nil ?_;intro wn hw;obtain⟨X,hX⟩:=hw;have HWN:Hd (Below Wa.heap.size Wa wn):=by unfold Hd;rw [hX];exact X.h
  clear hX X x0 x1 x2 xs xn;go_wp2;go_ret;exact⟨Zac HE.o.symm,bt HB0.o HWN.o⟩
 | true=>
 cases h5:Zjb 1 D.pr (D.sl.take D.kn.toNat) with
 | false=>
  have HE:Hd (ZaW D=false):=by unfold Hd;rw [HI.o,h1,h2,h3,h4,h5];rfl
  refine Zaf (Up Wa) (by kernel_rfl) (by kernel_rfl) (Zb_.drew) ?_
  repeat (go_big_quiet_step (first
  | (go_at_call_of 33 (Value.int .i64 D.pr);rename_i Y;exact (Zah _ _ _ _).mono fun _ _ h=>⟨h.1.trans (rb h1),Up.same Y h.2⟩)
  | (go_at_call 141;rename_i Y;exact (Zav lo _ D.sl _ (HK.o.below (bt HB0.o Y.h)).l0).mono fun _ _ h=>⟨h.1.trans (rb h2),Up.next Y h.2⟩)
  | (go_at_call_of 33 (Value.int .i64 D.kn);rename_i Y;exact (Zah _ _ _ _).mono fun _ _ h=>⟨h.1.trans (rb h3),Up.same Y h.2⟩)
  | (go_at_call_of 171 (Value.int .i64 0);rename_i Y;exact (Zc9 lo _ D.sl _ _ _ (HK.o.below (bt HB0.o Y.h)).l0).mono fun _ _ h=>⟨h.1.trans (rb h4),Up.next Y h.2⟩)
  | (go_at_call 171;rename_i Y;exact (Zc9 lo _ (D.sl.take D.kn.toNat) _ _ _ (HT.o.below (bt HB0.o Y.h))).mono fun _ _ h=>⟨h.1.trans (rb h5),Up.next Y h.2⟩)))
  refine wpQuiet_nil ?_;intro wn hw;obtain⟨X,hX⟩:=hw;have HWN:Hd (Below Wa.heap.size Wa wn):=by unfold Hd;rw [hX];exact X.h
  clear hX X x0 x1 x2 xs xn;go_wp2;go_ret;exact⟨Zac HE.o.symm,bt HB0.o HWN.o⟩
 | true=>
  have HE:Hd (ZaW D=true):=by unfold Hd;rw [HI.o,h1,h2,h3,h4,h5];rfl
  refine Zaf (Up Wa) (by kernel_rfl) (by kernel_rfl) (Zb_.drew) ?_
  repeat (go_big_quiet_step (first
  | (go_at_call_of 33 (Value.int .i64 D.pr);rename_i Y;exact (Zah _ _ _ _).mono fun _ _ h=>⟨h.1.trans (rb h1),Up.same Y h.2⟩)
  | (go_at_call 141;rename_i Y;exact (Zav lo _ D.sl _ (HK.o.below (bt HB0.o Y.h)).l0).mono fun _ _ h=>⟨h.1.trans (rb h2),Up.next Y h.2⟩)
  | (go_at_call_of 33 (Value.int .i64 D.kn);rename_i Y;exact (Zah _ _ _ _).mono fun _ _ h=>⟨h.1.trans (rb h3),Up.same Y h.2⟩)
  | (go_at_call_of 171 (Value.int .i64 0);rename_i Y;exact (Zc9 lo _ D.sl _ _ _ (HK.o.below (bt HB0.o Y.h)).l0).mono fun _ _ h=>⟨h.1.trans (rb h4),Up.next Y h.2⟩)
  | (go_at_call 171;rename_i Y;exact (Zc9 lo _ (D.sl.take D.kn.toNat) _ _ _ (HT.o.below (bt HB0.o Y.h))).mono fun _ _ h=>⟨h.1.trans (rb h5),Up.next Y h.2⟩)))
  refine wpQuiet_nil ?_;intro wn hw;obtain⟨X,hX⟩:=hw;have HWN:Hd (Below Wa.heap.size Wa wn):=by unfold Hd;rw [hX];exact X.h
  clear hX X x0 x1 x2 xs xn;go_wp2;go_ret;exact⟨Zac HE.o.symm,bt HB0.o HWN.o⟩
end Go.Proofs.YtdeammfdkaomlaaGreat
