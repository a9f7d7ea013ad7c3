import Derived.Test.YtkiefplmnoapfaaGreatV23
import Derived.Test.YtkiefplmnoapfaaGreatV24
import Derived.Test.YtkiefplmnoapfaaGreatV25
import Derived.Laws.IdiomCopy
set_option maxHeartbeats 16000000
set_option maxRecDepth 100000
open Go.Proofs.Tryz
namespace Go.Proofs.YtkiefplmnoapfaaGreat
open Go.RowKit Go.Deep
theorem ZaH (lo:Nat) (v:Value) (L:List Int) (of:Int) (w:World) (hv:ZaJ lo w v L) :
 Calls prog 90 #[v,.int .i64 of] w fun e w'=>e=.returned (.bool (Zbt of L))/\w'=w:=by
 have HV:=Zaa hv;have hm:=hv.max;unfold maxLen at hm;obtain⟨a,cap,rfl⟩:=hv.form;clear hv;have HE1:Hd (Zbt of L=(List.range L.length).all (ZfK of L)):=rfl;go_enter func90,ntmps90;go_wp2
 go_loop [9] (fun i=>∃ k:Nat,i=.int .i64 k/\k<=L.length/\∀ j,j < k->ZfK of L j=true) (fun i=>L.length - (intOf i).toNat)
 case atStart=>exact⟨0,rfl,by omega,fun j h=>by omega⟩
 case round=>
  obtain⟨k,rfl,hk,hall⟩:=hrel;have HAL:=Zaa hall;clear hall
  by_cases hlt:k < L.length
  . obtain⟨b,off,rfl,hbw,-,hc⟩:=HV.o.full' (by omega)
    obtain⟨x,hx⟩:∃ x,x=L[k]:=⟨_,rfl⟩
    obtain⟨p,hp⟩:∃ p,p=L.getD (k - 1) 0:=⟨_,rfl⟩
    have hgx:L.getD k 0=x:=by rw [hx,List.getD_eq_getElem?_getD,List.getElem?_eq_getElem hlt];rfl
    have HDK:Hd (ZfK of L k=(inB 1 of x&&!(decide (0 < (k:Int))&&decide (x<=p)))):=by unfold Hd ZfK;rw [hgx,<- hp]
    have s0:w.cell? ⟨b,off+k,none⟩=some (.int .i64 x):=by rw [hx];exact (hc k hlt).2
    have HP:Hd (0 < k->w.cell? ⟨b,off+(k - 1),none⟩=some (.int .i64 p)):=by
     unfold Hd;intro hk0;rw [hp,List.getD_eq_getElem?_getD,List.getElem?_eq_getElem (by omega)];exact (hc (k - 1) (by omega)).2
    have i0:(0:Int)<=(k:Int):=by omega
    have i1:(k:Int) < (L.length:Int):=by omega
    clear hc hx hp hgx
    cases q1:inB 1 of x with
    | false=>
     have HNo:Hd (Zbt of L=false):=by unfold Hd;rw [HE1.o];exact ZaR hlt (by rw [HDK.o,q1];rfl)
     go_wp2_with (go_at_call 89;refine (Zah _ _ _ _).mono ?_;rintro e w' ⟨rfl,rfl⟩);go_ret;exact⟨Zac HNo.o.symm,rfl⟩
    | true=>
     by_cases q2:0 < k
     . have d2:decide (0 < (k:Int))=true:=by simp;omega
       have s1:=HP.o q2;have j0:(0:Int)<=(k:Int) - 1:=by omega
       have j1:(k:Int) - 1 < (L.length:Int):=by omega
       have jn:((k:Int) - 1).toNat=k - 1:=by omega
       have HQ2:=Zaa q2;have HD2:=Zaa d2
       cases q3:decide (x<=p) with
       | true=>
        have HNo:Hd (Zbt of L=false):=by unfold Hd;rw [HE1.o];exact ZaR hlt (by rw [HDK.o,q1,d2,q3];rfl)
        go_wp2_with (go_at_call 89;refine (Zah _ _ _ _).mono ?_;rintro e w' ⟨rfl,rfl⟩);go_ret;exact⟨Zac HNo.o.symm,rfl⟩
       | false=>
        have HT:Hd (ZfK of L k=true):=by unfold Hd;rw [HDK.o,q1,d2,q3];rfl
        go_wp2_with (go_at_call 89;refine (Zah _ _ _ _).mono ?_;rintro e w' ⟨rfl,rfl⟩)
        go_round
        case rel=>exact⟨k+1,by go_num,by omega,fun j hj=>by
                   by_cases e:j=k
                   . rw [e];exact HT.o
                   . exact HAL.o j (by omega)⟩
        . simp [intOf];omega
     . obtain rfl:k=0:=by omega
       have HT:Hd (ZfK of L 0=true):=by unfold Hd;rw [HDK.o,q1];rfl
       clear q2;rw [Nat.add_zero] at s0;go_wp2_with (go_at_call 89;refine (Zah _ _ _ _).mono ?_;rintro e w' ⟨rfl,rfl⟩)
       go_round
       case rel=>exact⟨0+1,by go_num,by omega,fun j hj=>by
                  rw [show j=0 by omega];exact HT.o⟩
       . simp [intOf];omega
  . have HT:Hd (Zbt of L=true):=Zbk (fun i hi=>HAL.o i (by omega))
    go_wp2;go_ret;exact⟨Zac HT.o.symm,rfl⟩
def Zg5 (L:List Zy_) (n:Nat) (x:Zy_):Bool:=!(List.range n).all (fun k=>!((txA L k).toList == x.toList))
theorem Zg7 (a:Option Addr) (n cap:Nat) (L:List Zy_) (x:Zy_) (w:World) (hn:n<=1000000) (hc:∀ j,j < n->∃ b off,a=some ⟨b,off,none⟩/\w.cell? ⟨b,off+j,none⟩=some (.string (txA L j))) :
 Calls prog 132 #[.slice a n cap,.string x] w fun e w'=>(∃ r:Int,e=.returned (.int .i64 r)/\decide (0<=r)=Zg5 L n x)/\w'=w:=by
 have HC:=Zaa hc;clear hc;go_enter func132,ntmps132;go_wp2
 go_loop [8] (fun i=>∃ k:Nat,i=.int .i64 k/\k<=n/\∀ j,j < k->(!((txA L j).toList == x.toList))=true) (fun i=>n - (intOf i).toNat)
 case atStart=>exact⟨0,rfl,by omega,fun j h=>by omega⟩
 case round=>
  obtain⟨k,rfl,hk,hall⟩:=hrel;have HAL:=Zaa hall;clear hall
  by_cases hlt:k < n
  . obtain⟨b,off,rfl,c0⟩:=HC.o k hlt
    have i0:(0:Int)<=(k:Int):=by omega
    have i1:(k:Int) < (n:Int):=by omega
    obtain⟨y,hy⟩:∃ y,y=txA L k:=⟨_,rfl⟩
    rw [<- hy] at c0;have HY:=Zaa hy;clear hy
    cases q:(x.toList == y.toList) with
    | true=>
     have HT:Hd (Zg5 L n x=true):=by
      unfold Hd Zg5;rw [ZaR hlt (by rw [<- HY.o];have:=eq_of_beq q;rw [this];simp)];rfl
     go_wp2;go_ret;exact⟨⟨k,rfl,by rw [HT.o];simp⟩,rfl⟩
    | false=>
     have HQ:Hd ((!(y.toList == x.toList))=true):=by
      unfold Hd;have:¬ x.toList=y.toList:=by intro e;rw [e] at q;simp at q
      simp only [Bool.not_eq_true',beq_eq_false_iff_ne];exact fun e=>this e.symm
     go_wp2
     go_round
     case rel=>exact⟨k+1,by go_num,by omega,fun j hj=>by
                by_cases e:j=k
                . rw [e,<- HY.o];exact HQ.o
                . exact HAL.o j (by omega)⟩
     . simp [intOf];omega
  . have HT:Hd (Zg5 L n x=false):=by
     unfold Hd Zg5;rw [Zbk (fun i hi=>HAL.o i (by omega))];rfl
    go_wp2;go_ret;exact⟨⟨-1,rfl,by rw [HT.o];rfl⟩,rfl⟩
theorem Zce (a:Option Addr) (n cap:Nat) (L:List Zy_) (x:Zy_) (w:World) (hn:n<=1000000) (hc:∀ j,j < n->∃ b off,a=some ⟨b,off,none⟩/\w.cell? ⟨b,off+j,none⟩=some (.string (txA L j))) :
 Calls prog 111 #[.slice a n cap,.string x] w fun e w'=>e=.returned (.bool (Zg5 L n x))/\w'=w:=by
 have HC:=Zaa hc;clear hc;go_enter func111,ntmps111;go_wp2_with fail;refine (Zg7 a n cap L x _ hn HC.o).mono ?_;rintro e w' ⟨⟨r,rfl,hr⟩,rfl⟩;have HR:=Zaa hr;clear hr;go_wp2;go_ret;exact⟨Zac HR.o,rfl⟩
theorem ZaU (lo:Nat) (v:Value) (L:List Zy_) (w:World) (hv:Za2 lo w v L) :
 Calls prog 88 #[v] w fun e w'=>e=.returned (.bool (ZbP L))/\w'=w:=by
 have HV:=Zaa hv;have hm:=hv.max;unfold maxLen at hm;obtain⟨a,cap,rfl⟩:=hv.form;clear hv;have HI:Hd (ZbP L=(decide (L.length<=20)&&(List.range L.length).all (ZgT L))):=rfl
 by_cases l0:L.length<=20
 case neg=>
  have HE:Hd (ZbP L=false):=by unfold Hd;rw [HI.o,decide_eq_false l0];rfl
  have d0:decide ((20:Int) < (L.length:Int))=true:=by simp;omega
  go_enter func88,ntmps88;go_wp2;go_ret;exact⟨Zac HE.o.symm,rfl⟩
 have d0:decide ((20:Int) < (L.length:Int))=false:=by simp;omega
 have HE1:Hd (ZbP L=(List.range L.length).all (ZgT L)):=by unfold Hd;rw [HI.o,decide_eq_true l0];rfl
 go_enter func88,ntmps88;go_wp2;clear d0
 go_loop [10] (fun i=>∃ k:Nat,i=.int .i64 k/\k<=L.length/\∀ j,j < k->ZgT L j=true) (fun i=>L.length - (intOf i).toNat)
 case atStart=>exact⟨0,rfl,by omega,fun j h=>by omega⟩
 case round=>
  obtain⟨k,rfl,hk,hall⟩:=hrel;have HAL:=Zaa hall;clear hall
  by_cases hlt:k < L.length
  . have hcap:L.length<=cap:=by
     rcases HV.o with ⟨_,_,_,e⟩ | ⟨_,_,_,h1,_,_,_,_,h6,_⟩
     . rw [e] at hlt;simp at hlt
     . injection h1 with e1 e2 e3
       omega
    obtain⟨b,off,rfl,hbw,-,hc⟩:=HV.o.full' (by omega)
    have HCC:Hd (∀ j,j < L.length->w.cell? ⟨b,off+j,none⟩=some (.string (txA L j))):=by
     intro j hj;rw [(hc j hj).2];unfold txA;rw [List.getD_eq_getElem?_getD,List.getElem?_eq_getElem hj];rfl
    have hs:=(hc k hlt).1;unfold Zdm maxLen at hs;obtain⟨x,hx⟩:∃ x,x=txA L k:=⟨_,rfl⟩
    have hxs:x.size<=9223372036854775807:=by
     rw [hx];unfold txA;rw [List.getD_eq_getElem?_getD,List.getElem?_eq_getElem hlt];simp only [Option.getD_some];omega
    have c0:w.cell? ⟨b,off+k,none⟩=some (.string x):=by rw [hx];exact HCC.o k hlt
    have HW:Hd (ZgT L k=(inB 1 160 (x.size:Nat)&&!Zg5 L k x)):=by
     unfold Hd ZgT Zg5;rw [<- hx,ZdK,Bool.not_not,<- Bool.and_assoc]
     congr 1
     rw [Bool.eq_iff_iff];simp
     omega
    have i0:(0:Int)<=(k:Int):=by omega
    have i1:(k:Int) < (L.length:Int):=by omega
    have i2:(k:Int)<=(cap:Int):=by omega
    have HX:=Zaa hx;clear hc hs hx
    cases q1:inB 1 160 (x.size:Nat) with
    | false=>
     have HNo:Hd (ZbP L=false):=by unfold Hd;rw [HE1.o];exact ZaR hlt (by rw [HW.o,q1];rfl)
     go_wp2_with (go_at_call 89;refine (Zah _ _ _ _).mono ?_;rintro e w' ⟨rfl,rfl⟩);go_ret;exact⟨Zac HNo.o.symm,rfl⟩
    | true=>
     cases q2:Zg5 L k x with
     | true=>
      have HNo:Hd (ZbP L=false):=by unfold Hd;rw [HE1.o];exact ZaR hlt (by rw [HW.o,q1,q2];rfl)
      go_wp2_with (first
       | (go_at_call 89;refine (Zah _ _ _ _).mono ?_;rintro e w' ⟨rfl,rfl⟩)
       | (go_at_call 111;refine (Zce _ k cap L x _ (by omega) (fun j hj=>⟨b,off,by simp,HCC.o j (by omega)⟩)).mono ?_;rw [q2];rintro e w' ⟨rfl,rfl⟩))
      go_ret;exact⟨Zac HNo.o.symm,rfl⟩
     | false=>
      have HT:Hd (ZgT L k=true):=by unfold Hd;rw [HW.o,q1,q2];rfl
      go_wp2_with (first
       | (go_at_call 89;refine (Zah _ _ _ _).mono ?_;rintro e w' ⟨rfl,rfl⟩)
       | (go_at_call 111;refine (Zce _ k cap L x _ (by omega) (fun j hj=>⟨b,off,by simp,HCC.o j (by omega)⟩)).mono ?_;rw [q2];rintro e w' ⟨rfl,rfl⟩))
      go_round
      case rel=>exact⟨k+1,by go_num,by omega,fun j hj=>by
                 by_cases e:j=k
                 . rw [e];exact HT.o
                 . exact HAL.o j (by omega)⟩
      . simp [intOf];omega
  . have HT:Hd (ZbP L=true):=by unfold Hd;rw [HE1.o];exact Zbk (fun i hi=>HAL.o i (by omega))
    go_wp2;go_ret;exact⟨Zac HT.o.symm,rfl⟩
def ZgS (L:List Rs) (tx:Zy_):Bool:=L.any (fun x=>x.tx.toList == tx.toList)
theorem Zhc (x:Rs) (tb:Nat) (tx:Zy_) (w:World) (hb:w.cell? ⟨tb,0,none⟩=some (.string tx)) (hl:tb < w.heap.size) :
 Calls prog 168 #[.agg #[.int .i64 x.ba,.string x.tx],.pointer (some ⟨tb,0,none⟩)] w fun e w'=>e=.returned (.bool (x.tx.toList == tx.toList))/\Zw_ w w':=by
 have g:∀ o,(w.alloc o).cell? ⟨tb,0,none⟩=some (.string tx):=fun o=>((Zab w o).cell (p:=⟨tb,0,none⟩) hl).trans hb
 have HO:∀ o,Hd (Zw_ w (w.alloc o)):=fun o=>Zab w o
 clear hb
 cases q:(x.tx.toList == tx.toList) with
 | false=>
  go_enter func168,ntmps168;go_wp2;go_ret;exact⟨rfl,(HO _).o⟩
 | true=>
  go_enter func168,ntmps168;go_wp2;go_ret;exact⟨rfl,(HO _).o⟩
theorem Zg6 (lo:Nat) (v:Value) (L:List Rs) (tb:Nat) (tx:Zy_) (w:World) (hv:Zaq lo w v L) (hb:w.cell? ⟨tb,0,none⟩=some (.string tx)) (hl:tb < w.heap.size) :
 Calls prog 174 #[v,.func (.func 168) #[] #[.pointer (some ⟨tb,0,none⟩)]] w fun e w'=>(∃ r:Int,e=.returned (.int .i64 r)/\decide (0<=r)=ZgS L tx)/\Zw_ w w':=by
 have HV:=Zaa hv;have HTB:=Zaa hb;have hm:=hv.max;unfold maxLen at hm;obtain⟨a,cap,rfl⟩:=hv.form;clear hv hb;have HE:Hd (ZgS L tx=L.any (fun x=>x.tx.toList == tx.toList)):=rfl;go_enter func174,ntmps174;go_wp2
 go_loopw [8] (fun i wr=>∃ k:Nat,i=.int .i64 k/\k<=L.length/\Zw_ w wr/\∀ j (hj:j < L.length),j < k->(L[j].tx.toList == tx.toList)=false) (fun i _=>L.length - (intOf i).toNat)
 case atStart=>exact⟨0,rfl,by omega,Below.refl _ _,fun j _ h=>by omega⟩
 case round=>
  obtain⟨k,rfl,hk,hb,hall⟩:=hrel;have HAL:=Zaa hall;have HB:=Zaa hb;clear hall hb
  by_cases hlt:k < L.length
  . obtain⟨b,off,rfl,hbw,-,hc⟩:=(HV.o.below HB.o).full' (by omega)
    obtain⟨hsz,hcc⟩:=hc k hlt;obtain⟨x,hx⟩:∃ x,x=L[k]:=⟨_,rfl⟩
    rw [<- hx] at hsz hcc;have HX:=Zaa hx;obtain⟨e0,e1⟩:=hcc;have i0:(0:Int)<=(k:Int):=by omega
    have i1:(k:Int) < (L.length:Int):=by omega
    clear hc hsz hx;go_wp2_with fail;clear e0 e1;refine (Zhc x tb tx wr ((HB.o.cell (p:=⟨tb,0,none⟩) hl).trans HTB.o) (Zk_ hl HB.o.size)).mono ?_;rintro e w1 ⟨rfl,hb1⟩;have HB1:=Zaa (bt HB.o hb1);clear hb1
    cases q:(x.tx.toList == tx.toList) with
    | true=>
     have HT:Hd (ZgS L tx=true):=by unfold Hd;rw [HE.o];exact Zf1 hlt (by rw [<- HX.o,q])
     go_wp2;go_ret;exact⟨⟨k,rfl,by rw [HT.o];simp⟩,HB1.o⟩
    | false=>
     have HQ:=Zaa q;go_wp2;go_roundw
     case rel=>exact⟨k+1,by go_num,by omega,HB1.o,fun j hj hjk=>by
                by_cases e:j=k
                . subst e;rw [<- HX.o];exact HQ.o
                . exact HAL.o j hj (by omega)⟩
     . simp [intOf];omega
  . have HT:Hd (ZgS L tx=false):=by unfold Hd;rw [HE.o];exact ZhG (fun i hi=>HAL.o i hi (by omega))
    go_wp2;go_ret;exact⟨⟨-1,rfl,by rw [HT.o];rfl⟩,HB.o⟩
theorem ZeZ (lo:Nat) (v:Value) (L:List Rs) (tb:Nat) (tx:Zy_) (w:World) (hv:Zaq lo w v L) (hb:w.cell? ⟨tb,0,none⟩=some (.string tx)) (hl:tb < w.heap.size) :
 Calls prog 167 #[v,.func (.func 168) #[] #[.pointer (some ⟨tb,0,none⟩)]] w fun e w'=>e=.returned (.bool (ZgS L tx))/\Zw_ w w':=by
 have HV:=Zaa hv;have HTB:=Zaa hb;obtain⟨a,cap,rfl⟩:=hv.form;clear hv hb;go_enter func167,ntmps167;go_wp2_with fail;refine (Zg6 lo _ L tb tx _ HV.o HTB.o hl).mono ?_;rintro e w' ⟨⟨r,rfl,hr⟩,hb'⟩;have HR:=Zaa hr;have HB:=Zaa hb';clear hr hb';go_wp2;go_ret;exact⟨Zac HR.o,HB.o⟩
theorem Zf7 (lo:Nat) (v:Value) (L:List Rs) (tx:Zy_) (w:World) (hv:Zaq lo w v L) :
 Calls prog 159 #[v,.string tx] w fun e w'=>e=.returned (.bool (ZgS L tx))/\Zw_ w w':=by
 have HV:=Zaa hv;obtain⟨a,cap,rfl⟩:=hv.form;clear hv;go_enter func159,ntmps159;go_wp2_with fail
 obtain⟨wz,hwz,FX,HB⟩:∃ wz,wz=w.alloc (.cells #[.string tx] 9)/\Hd (Box wz w.heap.size #[.string tx])/\Hd (Zw_ w wz):=
  ⟨_,rfl,Box.new _ _ _ _ (by simp),Zab _ _⟩
 rw [<- hwz];clear hwz;refine (ZeZ lo _ L w.heap.size tx _ (HV.o.below HB.o) (FX.o.cell 0) FX.o.lt).mono ?_;rintro e w1 ⟨rfl,hb⟩;have HB1:=Zaa (bt HB.o hb);clear hb;go_wp2;go_ret;exact⟨rfl,HB1.o⟩
theorem Zh1 (lo:Nat) (D:Rd) (a:Option Addr) (c:Nat) (tx:Zy_) (w:World) (hv:Zaq lo w (.slice a D.sl.length c) D.sl) (h0:0<=D.kn) (h1:D.kn<=(D.sl.length:Int)) :
 Calls prog 145 #[.agg #[.int .i64 D.pr,.int .i64 D.kn,.slice a D.sl.length c],.string tx] w fun e w'=>e=.returned (.bool (ZgS (D.sl.take D.kn.toNat) tx))/\Zw_ w w':=by
 have HV:=Zaa hv
 have hcap:D.sl.length<=c:=by
  rcases HV.o with ⟨_,_,h1,h2⟩ | ⟨_,_,_,h1,_,_,_,_,h6,_⟩
  . rw [h2];simp
  . injection h1 with e1 e2 e3
    omega
 have hm:=hv.max;unfold maxLen at hm;have r2:D.kn<=(c:Int):=by omega
 have HDT:Hd (Zaq lo w (.slice a D.kn.toNat c) (D.sl.take D.kn.toNat)):=hv.takeR _ rfl (by omega);clear hv;go_enter func145,ntmps145;go_wp2_with fail;obtain⟨wz,hwz,HB⟩:∃ wz,wz=w.alloc (.cells #[.int .i64 D.pr,.int .i64 D.kn,.slice a D.sl.length c] 37)/\Hd (Zw_ w wz):=⟨_,rfl,Zab _ _⟩
 rw [<- hwz];clear hwz;refine (Zf7 lo _ (D.sl.take D.kn.toNat) tx _ (HDT.o.below HB.o)).mono ?_;rintro e w1 ⟨rfl,hb⟩;have HB1:=Zaa (bt HB.o hb);clear hb;go_wp2;go_ret;exact⟨rfl,HB1.o⟩
theorem Zf4 (lo:Nat) (M:Rm) (a:Option Addr) (c:Nat) (w:World) (hv:Zaq lo w (.slice a M.sl.length c) M.sl) (hn:M.sl.length<=1048576) :
 Calls prog 98 #[.agg (rmL M a c).toArray] w fun e w'=>∃ b m,e=.returned (.agg (rmL M b m).toArray)/\Zw_ w w'/\ZaE rsL 2 w' w.heap.size w'.heap.size (.slice b M.sl.length m) M.sl:=by
 have HV:=Zaa hv;clear hv
 show Calls prog 98 #[.agg #[.int .i64 M.kd,.int .i64 M.fr,.int .i64 M.tt,.int .i64 M.ba,.int .i64 M.ix,.int .i64 M.kn,.string M.tx,.slice a M.sl.length c]] w _
 go_enter func98,ntmps98;go_wp2_with fail
 obtain⟨wz,hwz,FX,FR,HB⟩:∃ wz,wz=(w.alloc (.cells #[.int .i64 M.kd,.int .i64 M.fr,.int .i64 M.tt,.int .i64 M.ba,.int .i64 M.ix,.int .i64 M.kn,.string M.tx,.slice a M.sl.length c] 45)).alloc (.cells #[.int .i64 0,.int .i64 0,.int .i64 0,.int .i64 0,.int .i64 0,.int .i64 0,.string ⟨#[]⟩,.slice none 0 0] 45)/\
  Hd (Box wz w.heap.size #[.int .i64 M.kd,.int .i64 M.fr,.int .i64 M.tt,.int .i64 M.ba,.int .i64 M.ix,.int .i64 M.kn,.string M.tx,.slice a M.sl.length c])/\Hd (Box wz (w.heap.size+1) #[.int .i64 0,.int .i64 0,.int .i64 0,.int .i64 0,.int .i64 0,.int .i64 0,.string ⟨#[]⟩,.slice none 0 0])/\Hd (Zw_ w wz):=
  ⟨_,rfl,(Box.new w _ _ _ rfl).on (Zab _ _),Box.new _ _ _ _ (by simp),(Zab _ _).trans ((Zab _ _).mono (by simp))⟩
 rw [<- hwz];clear hwz;have hz0:w.heap.size+2<=wz.heap.size:=by have:=FR.o.lt;omega
 refine (Zcr lo _ M.sl _ (HV.o.below HB.o) hn).mono ?_;rintro e x0 ⟨u,rfl,hb,hs⟩;obtain⟨b0,m0,rfl⟩:=hs.form;have hx0:wz.heap.size<=x0.heap.size:=hb.size;have N0:Hd (ZaE rsL 2 x0 wz.heap.size x0.heap.size (.slice b0 M.sl.length m0) M.sl):=hs;replace FX:=Zaa (FX.o.on hb);replace FR:=Zaa (FR.o.on hb);replace HB:=Zaa (bt HB.o hb);clear hb hs;have g0:=FX.o.cell;have g1:=FX.o.free;have g2:=FR.o.cell;have g3:=FR.o.free;go_wp2;refine bodyPost_ret (v:=.agg (rmL M b0 m0).toArray) (by simp [results,results98,go_sem,g2,rmL]) rfl ⟨b0,m0,rfl,?_,?_⟩
 . repeat (refine Below.setCell ?_ (by simp only [];omega) _)
   exact HB.o
 . refine ZaE.wide (lo:=wz.heap.size) (hi:=x0.heap.size) ?_ (by omega) (by simp [World.setCell])
   repeat (refine ZaE.set ?_ (by simp only [];omega) _)
   exact N0.o
theorem Zf3 (lo:Nat) (X:Ra) (a:Option Addr) (c:Nat) (w:World) (hv:ZaJ lo w (.slice a X.fr.length c) X.fr) (hn:X.fr.length<=1048576) :
 Calls prog 101 #[.agg (raL X a c).toArray] w fun e w'=>∃ b m,e=.returned (.agg (raL X b m).toArray)/\Zw_ w w'/\ZaE inL 1 w' w.heap.size w'.heap.size (.slice b X.fr.length m) X.fr:=by
 have HV:=Zaa hv;clear hv
 show Calls prog 101 #[.agg #[.int .i64 X.ix,.slice a X.fr.length c]] w _
 go_enter func101,ntmps101;go_wp2_with (at_builtin;refine Hd.o ?_)
 obtain⟨wz,hwz,FX,FR,HB⟩:∃ wz,wz=(w.alloc (.cells #[.int .i64 X.ix,.slice a X.fr.length c] 105)).alloc (.cells #[.int .i64 0,.slice none 0 0] 105)/\
  Hd (Box wz w.heap.size #[.int .i64 X.ix,.slice a X.fr.length c])/\Hd (Box wz (w.heap.size+1) #[.int .i64 0,.slice none 0 0])/\Hd (Zw_ w wz):=
  ⟨_,rfl,(Box.new w _ _ _ rfl).on (Zab _ _),Box.new _ _ _ _ (by simp),(Zab _ _).trans ((Zab _ _).mono (by simp))⟩
 rw [<- hwz];clear hwz;have hz0:w.heap.size+2<=wz.heap.size:=by have:=FR.o.lt;omega
 have HW:=Zaa (HV.o.below HB.o);refine Zaa ?_;refine Zer ZaG (by decide) underlying27 Zbj rfl (w:=wz) (lo:=wz.heap.size) (hi':=wz.heap.size) (L:=[]) X.fr rfl (.const (.slice none 0 0)) (.tmp 4) rfl rfl (ZaE.nil _ _ _ _ _) a X.fr.length c rfl rfl (fun e=>HW.o.nilN e) HW.o.src (ZaX _) (by simp;omega) (by decide) ?_;intro u x0 h1 h2;have hb:Below wz.heap.size wz x0:=h1.none Zl_;rw [List.nil_append] at h2;have hs:=ZaE.freshB h2 h1.size;obtain⟨b0,m0,rfl⟩:=hs.form;have hx0:wz.heap.size<=x0.heap.size:=hb.size;have N0:=Zaa hs;replace FX:=Zaa (FX.o.on hb);replace FR:=Zaa (FR.o.on hb);replace HB:=Zaa (bt HB.o hb);clear hb h1 h2 hs HW;have g0:=FX.o.cell;have g1:=FX.o.free;have g2:=FR.o.cell;have g3:=FR.o.free;go_wp2
 refine bodyPost_ret (v:=.agg (raL X b0 m0).toArray) (by simp [results,results101,go_sem,g2,raL]) rfl ⟨b0,m0,rfl,?_,?_⟩
 . repeat (refine Below.setCell ?_ (by simp only [];omega) _)
   exact HB.o
 . refine ZaE.wide (lo:=wz.heap.size) (hi:=x0.heap.size) ?_ (by omega) (by simp [World.setCell])
   repeat (refine ZaE.set ?_ (by simp only [];omega) _)
   exact N0.o
theorem ZkK:(prog.info? 9).map (·.size)=some 1:=by kernel_rfl
theorem ZgZ (lo:Nat) (v:Value) (L:List Zy_) (w:World) (hv:Za2 lo w v L) (hn:L.length<=1048576) :
 Calls prog 99 #[v] w fun e w'=>∃ v',e=.returned v'/\Zw_ w w'/\ZaE tyL 1 w' w.heap.size w'.heap.size v' L:=by
 have hnil:=fun W a n c=>Lib.run_eql_slice_nil (P:=prog) W 26 9 a n c 0 0 underlying26
 obtain⟨i0,hi,hz0,hz1,hz2⟩:=info_parts ZgF
 have hmk:∀ u:World,(Instr.makeSlice 26 (.int .i64 (L.length:Int)) (.int .i64 (L.length:Int))).run prog u=.ok (.slice (some ⟨u.heap.size,0,none⟩) L.length L.length) (u.alloc (.cells (madeCells (Value.cells (.string ⟨#[]⟩)) L.length) 9)):=fun u=>by
  have h:=run_make (P:=prog) u 26 9 i0 _ underlying26 hi hz0 .i64 .i64 L.length L.length (by omega) (by omega) (by rw [hz2];omega) (by omega);rw [hz1] at h
  simpa using h
 clear hi hz0 hz1 hz2;have HV:=Zaa hv;obtain⟨a,cap,rfl⟩:=hv.form;clear hv
 cases a with
 | none=>
  have h0:=HV.o.nilN rfl;obtain rfl:=List.eq_nil_of_length_eq_zero h0;go_enter func99,ntmps99;go_wp2;go_ret;exact⟨_,rfl,Below.refl _ _,ZaE.nil _ _ _ _ _⟩
 | some ad=>
  obtain⟨W,hW⟩:∃ W,W=w.alloc (.cells (madeCells #[.string ⟨#[]⟩] L.length) 9):=⟨_,rfl⟩
  have HF:Hd (FR tyL 1 W w.heap.size (w.heap.size+1) w.heap.size L.length []):=by unfold Hd;rw [hW];exact Zbx tyL 1 w _ _ L.length (by rw [size_madeCells,Nat.mul_one]) (by unfold maxLen;omega)
  have HB:Hd (Zw_ w W):=by unfold Hd;rw [hW];exact Zab _ _
  have hwz1:w.heap.size+1<=W.heap.size:=by rw [hW];simp
  have HW:=Zaa (HV.o.below HB.o);have hlv:(Zai tyL L).length=L.length:=by rw [Zaw Zcb,Nat.mul_one]
  have hcp:∀ ty,(Builtin.copy_ #[26,26] ty #[.slice (some ⟨w.heap.size,0,none⟩) L.length L.length,.slice (some ad) L.length cap]).run prog (w.alloc (.cells (madeCells #[.string ⟨#[]⟩] L.length) 9))=.ok (goInt (Zai tyL L).length) (W.setCells w.heap.size 0 (Zai tyL L)):=fun ty=>by
   rw [<- hW];exact run_copy_cells (P:=prog) W 26 26 ty 9 w.heap.size 0 L.length L.length ad L.length cap (Zai tyL L) underlying26 ZkK (by rw [hlv];exact (Nat.min_self _).symm) (HW.o.src ad rfl) (fun j hj=>HF.o.th _ (by omega)) (fun j _=>HF.o.fz _) (Zfj L)
  have HFn:Hd (FR tyL 1 (W.setCells w.heap.size 0 (Zai tyL L)) w.heap.size (w.heap.size+1) w.heap.size L.length L):=by
   have:=HF.o.put Zcb (M:=L) (by simp);unfold Hd
   simpa using this
  have HBn:Hd (Zw_ w (W.setCells w.heap.size 0 (Zai tyL L))):=Below.sets Zl_ _ _ HB.o;have hsz:(W.setCells w.heap.size 0 (Zai tyL L)).heap.size=W.heap.size:=Za8 ..;clear hW hlv;generalize World.setCells _ _ _ _=W2 at*;go_enter func99,ntmps99;go_wp2;go_ret;exact⟨_,rfl,HBn.o,Or.inr ⟨w.heap.size,L.length,rfl,HFn.o.bs,by omega,by omega,HFn.o.le,HFn.o.mx,HFn.o.th,HFn.o.fz,HFn.o.rg⟩⟩
def rRa (x y:Ra):Bool:=decide (x.ix < y.ix)
def cRa (x y:Ra):Int:=ZgY x.ix y.ix
theorem ZhL (x y:Ra):decide (cRa x y < 0)=rRa x y:=by
 unfold cRa rRa;rw [Bool.eq_iff_iff,decide_eq_true_iff,decide_eq_true_iff];exact ZeX
theorem Zd7 (x y:Ra) (a a':Option Addr) (k k':Nat) (w:World) :
 Calls prog 114 #[.agg #[.int .i64 x.ix,.slice a x.fr.length k],.agg #[.int .i64 y.ix,.slice a' y.fr.length k']] w fun e w'=>e=.returned (.int .i64 (cRa x y))/\Zw_ w w':=by
 have HO:∀ o o',Hd (Zw_ w ((w.alloc o).alloc o')):=fun o o'=>(Zab w o).alloc (by simp) o'
 go_enter func114,ntmps114;go_wp2_with (go_at_call 133;refine (ZeC _ _ _).mono ?_;rintro e w' ⟨rfl,rfl⟩);go_ret;exact⟨rfl,(HO _ _).o⟩
theorem ZhI (lo:Nat) (v:Value) (Xl:List Ra) (w:World) (hv:Zbm lo w v Xl) :
 Calls prog 113 #[v,.func (.func 114) #[] #[]] w fun e w'=>e=.returned (.bool (ZkJ rRa Xl))/\Zw_ w w':=by
 have HV:=Zaa hv;have hm:=hv.max;unfold maxLen at hm;obtain⟨a,cap,rfl⟩:=hv.form;clear hv;go_enter func113,ntmps113;go_wp2
 go_loopw [5] (fun i wr=>∃ m:Nat,i=.int .i64 m/\1<=m/\(m<=Xl.length\/m=1)/\Zw_ w wr/\∀ j,j < m->Zkx rRa Xl j=true) (fun i _=>Xl.length+1 - (intOf i).toNat)
 case atStart=>exact⟨1,rfl,Nat.le_refl _,Or.inr rfl,Below.refl _ _,fun j hj=>by rw [show j=0 by omega];rfl⟩
 case round=>
  obtain⟨m,rfl,hm1,hk,hb,hall⟩:=hrel;have HB:=Zaa hb;have HA:=Zaa hall;clear hb hall
  by_cases hlt:m < Xl.length
  . obtain⟨k,hkm⟩:∃ k,m=k+1:=⟨m - 1,by omega⟩
    have hlt0:k < Xl.length:=by omega
    obtain⟨b,off,rfl,hbw,-,hc⟩:=HV.o.full' (by omega);have hbr:b < wr.heap.size:=Zk_ hbw HB.o.size
    have HS:Hd (Zkx rRa Xl m=decide (cRa Xl[k] Xl[m] < 0)):=by
     subst hkm;unfold Hd;rw [ZhL];exact Zie hlt
    obtain⟨cs1,hr1,a1,k1,rfl,-⟩:=hc k hlt0;obtain⟨cs2,hr2,a2,k2,rfl,-⟩:=hc m hlt;obtain⟨x,hx⟩:∃ x,x=Xl[k]:=⟨_,rfl⟩
    obtain⟨y,hy⟩:∃ y,y=Xl[m]:=⟨_,rfl⟩
    rw [<- hx] at hr1 HS;rw [<- hy] at hr2 HS;have HC0:Hd (wr.cell? ⟨b,off+k*2,none⟩=some (.int .i64 x.ix)):=Zas hr1 HB.o hbw 0 _ rfl;have HC1:Hd (wr.cell? ⟨b,off+k*2+1,none⟩=some (.slice a1 x.fr.length k1)):=Zas hr1 HB.o hbw 1 _ rfl;have HD0:Hd (wr.cell? ⟨b,off+m*2,none⟩=some (.int .i64 y.ix)):=Zas hr2 HB.o hbw 0 _ rfl;have HD1:Hd (wr.cell? ⟨b,off+m*2+1,none⟩=some (.slice a2 y.fr.length k2)):=Zas hr2 HB.o hbw 1 _ rfl;have e2:IntKind.i64.wrap ((m:Int) - 1)=k:=by rw [IntWalk.i64_left];unfold wrap64;omega
    clear hc hkm hk hr1 hr2 hx hy;go_wp2
    go_cut [23] (fun c wc=>c=.bool (decide (0<=cRa x y))/\Below wr.heap.size wr wc)
    case first=>
     have xn:Nonempty (In (Up wr)):=⟨⟨wr,Below.refl _ _⟩⟩;have xs:=fun (X:In (Up wr))=>Zbn X
     have s0:∀ X:In (Up wr),_:=fun X=>Up.cell X HC0.o
     have s1:∀ X:In (Up wr),_:=fun X=>Up.cell X HC1.o
     have t0:∀ X:In (Up wr),_:=fun X=>Up.cell X HD0.o
     have t1:∀ X:In (Up wr),_:=fun X=>Up.cell X HD1.o
     have i0:(0:Int)<=(k:Int):=by omega
     have i1:(k:Int) < (Xl.length:Int):=by omega
     have j0:(0:Int)<=(m:Int):=by omega
     have j1:(m:Int) < (Xl.length:Int):=by omega
     refine Zaf (Up wr) (by kernel_rfl) (by kernel_rfl) (Zb_.drew) ?_
     repeat (go_big_quiet_step ((go_at_call 114;rename_i X;exact (Zd7 x y _ _ _ _ _).mono fun _ _ h=>⟨h.1,Up.next X h.2⟩)))
     refine wpQuiet_nil ?_;intro wn hw;obtain⟨X,hX⟩:=hw;have HWN:Below wr.heap.size wr wn:=by rw [hX];exact X.h
     clear hX X s0 s1 t0 t1 xs xn;go_wp2;go_meet;exact⟨rfl,HWN⟩
    case rest=>
    obtain⟨rfl,hbc⟩:=hcut;have HBc:=Zaa (bt HB.o hbc);clear hbc
    cases hq:decide (0<=cRa x y) with
    | true=>
     have HN:Hd (ZkJ rRa Xl=false):=ZaR hlt (HS.o.trans (decide_eq_false (by have:=of_decide_eq_true hq;omega)));go_wp2;go_ret;exact⟨Zac HN.o.symm,HBc.o⟩
    | false=>
     have HT:Hd (Zkx rRa Xl m=true):=HS.o.trans (decide_eq_true (by have:=of_decide_eq_false hq;omega));go_wp2;go_roundw
     case rel=>exact⟨m+1,by go_num,by omega,by omega,HBc.o,fun j hj=>by
                by_cases e:j=m
                . rw [e];exact HT.o
                . exact HA.o j (by omega)⟩
     . simp [intOf];omega
  . have HT:Hd (ZkJ rRa Xl=true):=Zbk (fun i hi=>HA.o i (by omega))
    go_wp2;go_ret;exact⟨Zac HT.o.symm,HB.o⟩
def abB (of:Int) (A:List Ra) (i:Nat):Bool:=inB 1 120 (ZhE A i).ix&&Zbt of (ZhE A i).fr
theorem Zj8 (of:Int) (A:List Ra) (i:Nat) (h:i < A.length):ZgU of A i=(abB of A i&&Zkx rRa A i):=by
 unfold ZgU abB;rw [Bool.and_assoc]
 congr 2
 cases i with
 | zero=>rfl
 | succ j=>
  rw [Zie h];unfold rRa;rw [Zb9 h,show j+1 - 1=j from rfl,Zb9 (show j < A.length by omega),Bool.eq_iff_iff];simp
theorem Zj7 {n:Nat}{p q r:Nat->Bool} (h:∀ i,i < n->p i=(q i&&r i)):(List.range n).all p=((List.range n).all q&&(List.range n).all r):=by
 rw [Bool.eq_iff_iff,Bool.and_eq_true,List.all_eq_true,List.all_eq_true,List.all_eq_true]
 constructor
 . intro hp
   exact⟨fun x hx=>by have:=hp x hx;rw [h x (by simpa using hx),Bool.and_eq_true] at this;exact this.1,fun x hx=>by have:=hp x hx;rw [h x (by simpa using hx),Bool.and_eq_true] at this;exact this.2⟩
 . rintro⟨h1,h2⟩ x hx
   rw [h x (by simpa using hx),h1 x hx,h2 x hx];rfl
theorem Zjh (of:Int) (A:List Ra):ZbN of A=((List.range A.length).all (abB of A)&&ZkJ rRa A):=Zj7 (Zj8 of A)
theorem ZbD (lo:Nat) (v:Value) (A:List Ra) (of:Int) (w:World) (hv:Zbm lo w v A) :
 Calls prog 92 #[v,.int .i64 of] w fun e w'=>e=.returned (.bool (ZbN of A))/\Zw_ w w':=by
 have HV:=Zaa hv;have hm:=hv.max;unfold maxLen at hm;obtain⟨a,cap,rfl⟩:=hv.form;clear hv;have HE1:=Zaa (Zjh of A);go_enter func92,ntmps92;go_wp2
 go_loopw [9] (fun i wr=>∃ k:Nat,i=.int .i64 k/\k<=A.length/\Zw_ w wr/\∀ j,j < k->abB of A j=true) (fun i _=>A.length - (intOf i).toNat)
 case atStart=>exact⟨0,rfl,by omega,Below.refl _ _,fun j h=>by omega⟩
 case round=>
  obtain⟨k,rfl,hk,hb,hall⟩:=hrel;have HAL:=Zaa hall;have HBr:=Zaa hb;clear hall hb
  by_cases hlt:k < A.length
  . obtain⟨b,off,rfl,hbw,-,hc⟩:=HV.o.full' (by omega)
    obtain⟨x,hx⟩:∃ x,x=ZhE A k:=⟨_,rfl⟩
    have HDK:Hd (abB of A k=(inB 1 120 x.ix&&Zbt of x.fr)):=by unfold Hd abB;rw [<- hx]
    obtain⟨cs,hr,a0,k0,rfl,hf⟩:=hc k hlt;rw [<- Zb9 hlt,<- hx] at hf;rw [<- Zb9 hlt,<- hx] at hr;have HF:Hd (ZaJ lo wr (.slice a0 x.fr.length k0) x.fr):=hf.l0.below HBr.o;have HR:=Zas hr HBr.o hbw;have s0:wr.cell? ⟨b,off+k*2,none⟩=some (.int .i64 x.ix):=HR 0 _ rfl;have s1:wr.cell? ⟨b,off+k*2+1,none⟩=some (.slice a0 x.fr.length k0):=HR 1 _ rfl;have i0:(0:Int)<=(k:Int):=by omega
    have i1:(k:Int) < (A.length:Int):=by omega
    clear hc hx hr hf HR
    cases q1:inB 1 120 x.ix with
    | false=>
     have HNo:Hd (ZbN of A=false):=by unfold Hd;rw [HE1.o,ZaR hlt (by rw [HDK.o,q1];rfl)];rfl
     go_wp2_with (go_at_call 89;refine (Zah _ _ _ _).mono ?_;rintro e w' ⟨rfl,rfl⟩);go_ret;exact⟨Zac HNo.o.symm,bt HBr.o (Zab _ _)⟩
    | true=>
     cases q2:Zbt of x.fr with
     | false=>
      have HNo:Hd (ZbN of A=false):=by unfold Hd;rw [HE1.o,ZaR hlt (by rw [HDK.o,q1,q2];rfl)];rfl
      go_wp2_with (first|(go_at_call 89;refine (Zah _ _ _ _).mono ?_;rintro e w' ⟨rfl,rfl⟩)|(go_at_call 90;refine (ZaH lo _ x.fr of _ (HF.o.below (Zab _ _))).mono ?_;rw [q2];rintro e w' ⟨rfl,rfl⟩));go_ret;exact⟨Zac HNo.o.symm,bt HBr.o (Zab _ _)⟩
     | true=>
      have HT:Hd (abB of A k=true):=by unfold Hd;rw [HDK.o,q1,q2];rfl
      go_wp2_with (first|(go_at_call 89;refine (Zah _ _ _ _).mono ?_;rintro e w' ⟨rfl,rfl⟩)|(go_at_call 90;refine (ZaH lo _ x.fr of _ (HF.o.below (Zab _ _))).mono ?_;rw [q2];rintro e w' ⟨rfl,rfl⟩));go_roundw
      case rel=>exact⟨k+1,by go_num,by omega,bt HBr.o (Zab _ _),fun j hj=>by
                 by_cases e:j=k
                 . rw [e];exact HT.o
                 . exact HAL.o j (by omega)⟩
      . simp [intOf];omega
  . have HT:Hd (ZbN of A=ZkJ rRa A):=by unfold Hd;rw [HE1.o,Zbk (fun i hi=>HAL.o i (by omega))];rfl
    go_wp2_with (go_at_call 113;refine (ZhI lo _ A _ (HV.o.below HBr.o)).mono ?_;rintro e w1 ⟨rfl,hb1⟩;have HB1:=Zaa hb1;clear hb1);go_ret;exact⟨Zac HT.o.symm,bt HBr.o HB1.o⟩
theorem Zd5 (lo:Nat) (cs:List Value) (U:Rr) (w:World) (h:RrC lo w cs U) :
 Calls prog 194 #[.agg cs.toArray] w fun e w'=>e=.returned (.bool (inB 1 U.dk.pr U.ba))/\Zw_ w w':=by
 obtain⟨-,-,-,-,-,c13,-,c6,-,-,-,-,-⟩:=ZdH h;clear h;have HO:∀ o,Hd (Zw_ w (w.alloc o)):=fun o=>Zab w o
 go_enter func194,ntmps194;go_wp2_with (go_at_call 89;refine (Zah _ _ _ _).mono ?_;rintro e w' ⟨rfl,rfl⟩);go_ret;exact⟨rfl,(HO _).o⟩
def ZdG (U:Rr):Value:=if U.ld=true then .iface 142 (.agg #[]) else if U.ty=true then .iface 143 (.agg #[]) else .iface 144 (.agg #[])
theorem ZbS (lo:Nat) (cs:List Value) (U:Rr) (w:World) (h:RrC lo w cs U) :
 Calls prog 93 #[.agg cs.toArray] w fun e w'=>e=.returned (ZdG U)/\Zw_ w w':=by
 obtain⟨-,-,-,c11,c12,-,-,-,-,-,-,-,-⟩:=ZdH h;clear h;have HO:∀ o,Hd (Zw_ w (w.alloc o)):=fun o=>Zab w o
 cases q1:U.ld with
 | true=>
  have HE:Hd (ZdG U=.iface 142 (.agg #[])):=by unfold Hd ZdG;rw [q1];rfl
  rw [q1] at c11;go_enter func93,ntmps93;go_wp2;go_ret;exact⟨by rw [HE.o];rfl,(HO _).o⟩
 | false=>
  rw [q1] at c11
  cases q2:U.ty with
  | true=>
   have HE:Hd (ZdG U=.iface 143 (.agg #[])):=by unfold Hd ZdG;rw [q1,q2];rfl
   rw [q2] at c12;go_enter func93,ntmps93;go_wp2;go_ret;exact⟨by rw [HE.o];rfl,(HO _).o⟩
  | false=>
   have HE:Hd (ZdG U=.iface 144 (.agg #[])):=by unfold Hd ZdG;rw [q1,q2];rfl
   rw [q2] at c12;go_enter func93,ntmps93;go_wp2;go_ret;exact⟨by rw [HE.o];rfl,(HO _).o⟩
def zB (n:Nat):Bool:=((n:Int) == 0)
def Zhe (U:Rr):Bool:=!U.ty&&(inB 1 U.dk.pr U.ba&&(zB U.ye.length&&zB U.be.length))
def Zkz (U:Rr):Bool:=inB 1 U.dk.pr U.ba&&zB U.ac.length
def ZeL (U:Rr):Bool:=U.ba == 0&&(zB U.ye.length&&(zB U.be.length&&zB U.ac.length))
def ZdO (U:Rr):Bool:=!U.ld&&(!U.ty&&(zB U.he.length&&(zB U.wi.length&&U.hd == 0)))
def ZcH (U:Rr):Bool:=if U.ld then Zhe U else if U.ty then Zkz U else ZeL U
theorem ZdF (lo:Nat) (cs:List Value) (U:Rr) (w:World) (h:RrC lo w cs U) :
 Calls prog 196 #[.agg #[],.agg cs.toArray] w fun e w'=>e=.returned (.bool (ZeL U))/\Zw_ w w':=by
 obtain⟨-,-,-,-,-,c13,-,-,-,-,⟨a4,k4,c14⟩,⟨a5,k5,c15⟩,⟨a6,k6,c16⟩⟩:=ZdH h;clear h;have HE:Hd (ZeL U=(U.ba == 0&&(zB U.ye.length&&(zB U.be.length&&zB U.ac.length)))):=rfl;have HO:∀ o o',Hd (Zw_ w ((w.alloc o).alloc o')):=fun o o'=>(Zab w o).alloc (by simp) o'
 obtain⟨nye,hnye⟩:∃ n:Nat,n=U.ye.length:=⟨_,rfl⟩
 rw [<- hnye] at c14;have HNye:=Zaa hnye;clear hnye;obtain⟨nbe,hnbe⟩:∃ n:Nat,n=U.be.length:=⟨_,rfl⟩
 rw [<- hnbe] at c15;have HNbe:=Zaa hnbe;clear hnbe;obtain⟨nac,hnac⟩:∃ n:Nat,n=U.ac.length:=⟨_,rfl⟩
 rw [<- hnac] at c16;have HNac:=Zaa hnac;clear hnac
 cases q1:(U.ba == 0) with
 | false=>
  go_enter func196,ntmps196;go_wp2;go_ret;exact⟨Zac (by rw [HE.o,q1];rfl),(HO _ _).o⟩
 | true=>
 cases q2:((nye:Int) == 0) with
 | false=>
  go_enter func196,ntmps196;go_wp2;go_ret;exact⟨Zac (by rw [HE.o,q1,<- HNye.o,zB,q2];rfl),(HO _ _).o⟩
 | true=>
 cases q3:((nbe:Int) == 0) with
 | false=>
  go_enter func196,ntmps196;go_wp2;go_ret;exact⟨Zac (by rw [HE.o,q1,<- HNye.o,zB,q2,<- HNbe.o,zB,q3];rfl),(HO _ _).o⟩
 | true=>
  go_enter func196,ntmps196;go_wp2;go_ret;exact⟨Zac (by rw [HE.o,q1,<- HNye.o,zB,q2,<- HNbe.o,zB,q3,<- HNac.o];rfl),(HO _ _).o⟩
theorem ZdI (lo:Nat) (cs:List Value) (U:Rr) (w:World) (h:RrC lo w cs U) :
 Calls prog 94 #[.agg cs.toArray] w fun e w'=>e=.returned (.bool (ZdO U))/\Zw_ w w':=by
 obtain⟨-,-,-,c11,c12,-,c17,-,⟨a2,k2,c9⟩,⟨a3,k3,c10⟩,-,-,-⟩:=ZdH h;clear h;have HE:Hd (ZdO U=(!U.ld&&(!U.ty&&(zB U.he.length&&(zB U.wi.length&&U.hd == 0))))):=rfl;have HO:∀ o,Hd (Zw_ w (w.alloc o)):=fun o=>Zab w o
 obtain⟨nhe,hnhe⟩:∃ n:Nat,n=U.he.length:=⟨_,rfl⟩
 rw [<- hnhe] at c9;have HNhe:=Zaa hnhe;clear hnhe;obtain⟨nwi,hnwi⟩:∃ n:Nat,n=U.wi.length:=⟨_,rfl⟩
 rw [<- hnwi] at c10;have HNwi:=Zaa hnwi;clear hnwi
 cases q1:U.ld with
 | true=>
  rw [q1] at c11;go_enter func94,ntmps94;go_wp2;go_ret;exact⟨Zac (by rw [HE.o,q1];rfl),(HO _).o⟩
 | false=>
 rw [q1] at c11
 cases q2:U.ty with
 | true=>
  rw [q2] at c12;go_enter func94,ntmps94;go_wp2;go_ret;exact⟨Zac (by rw [HE.o,q1,q2];rfl),(HO _).o⟩
 | false=>
 rw [q2] at c12
 cases q3:((nhe:Int) == 0) with
 | false=>
  go_enter func94,ntmps94;go_wp2;go_ret;exact⟨Zac (by rw [HE.o,q1,q2,<- HNhe.o,zB,q3];rfl),(HO _).o⟩
 | true=>
 cases q4:((nwi:Int) == 0) with
 | false=>
  go_enter func94,ntmps94;go_wp2;go_ret;exact⟨Zac (by rw [HE.o,q1,q2,<- HNhe.o,zB,q3,<- HNwi.o,zB,q4];rfl),(HO _).o⟩
 | true=>
  go_enter func94,ntmps94;go_wp2;go_ret;exact⟨Zac (by rw [HE.o,q1,q2,<- HNhe.o,zB,q3,<- HNwi.o,zB,q4];rfl),(HO _).o⟩
theorem Zfi (lo:Nat) (cs:List Value) (U:Rr) (w:World) (h:RrC lo w cs U) :
 Calls prog 195 #[.agg #[],.agg cs.toArray] w fun e w'=>e=.returned (.bool (Zkz U))/\Zw_ w w':=by
 have HC:=Zaa h;obtain⟨-,-,-,-,-,-,-,-,-,-,-,-,⟨a6,k6,c16⟩⟩:=ZdH h;clear h;have HE:Hd (Zkz U=(inB 1 U.dk.pr U.ba&&zB U.ac.length)):=rfl;have HO:∀ o o',Hd (Zw_ w ((w.alloc o).alloc o')):=fun o o'=>(Zab w o).alloc (by simp) o'
 have HZ:Hd ((prog.info? 41).map (·.size)=some cs.length):=by unfold Hd;rw [HC.o.len];exact Zar
 obtain⟨nac,hnac⟩:∃ n:Nat,n=U.ac.length:=⟨_,rfl⟩
 rw [<- hnac] at c16;have HNac:=Zaa hnac;clear hnac;have HC16:=Zaa c16;clear c16;go_enter func195,ntmps195;go_wp2_with (first|(with_reducible refine wpList_load_mid (by with_reducible rfl) 41 (.tmp 3) (by with_reducible rfl) (w.heap.size+1) 0 (by with_unfolding_all rfl) cs _ ((Box.new _ _ _ _ (by simp)).range rfl) underlying41 (by with_unfolding_all rfl) HZ.o ?_)|(with_reducible refine ZaC (by with_unfolding_all rfl) 41 (.tmp 3) (by with_reducible rfl) (w.heap.size+1) 0 (by with_unfolding_all rfl) cs _ ((Box.new _ _ _ _ (by simp)).range rfl) underlying41 (by with_unfolding_all rfl) HZ.o ?_));refine (Zd5 lo cs U _ (HC.o.below (HO _ _).o)).mono ?_;rintro e w1 ⟨rfl,hb1⟩;have F1:Hd (Box w1 (w.heap.size+1) cs.toArray):=(Box.new _ _ _ _ (by simp)).on hb1;have HB1:Hd (Zw_ w w1):=bt (HO _ _).o hb1;clear hb1
 cases q1:inB 1 U.dk.pr U.ba with
 | false=>
  go_wp2;go_ret;exact⟨Zac (by rw [HE.o,q1];rfl),HB1.o⟩
 | true=>
  have g16:w1.cell? ⟨w.heap.size+1,16,none⟩=some (.slice a6 nac k6):=by rw [F1.o.cell _,List.getElem?_toArray];exact HC16.o
  go_wp2;go_ret;exact⟨Zac (by rw [HE.o,q1,<- HNac.o];rfl),HB1.o⟩
theorem Zed (lo:Nat) (cs:List Value) (U:Rr) (w:World) (h:RrC lo w cs U) :
 Calls prog 193 #[.agg #[],.agg cs.toArray] w fun e w'=>e=.returned (.bool (Zhe U))/\Zw_ w w':=by
 have HC:=Zaa h;obtain⟨-,-,-,-,c12,-,-,-,-,-,⟨a4,k4,c14⟩,⟨a5,k5,c15⟩,-⟩:=ZdH h;clear h;have HE:Hd (Zhe U=(!U.ty&&(inB 1 U.dk.pr U.ba&&(zB U.ye.length&&zB U.be.length)))):=rfl;have HO:∀ o o',Hd (Zw_ w ((w.alloc o).alloc o')):=fun o o'=>(Zab w o).alloc (by simp) o'
 have HZ:Hd ((prog.info? 41).map (·.size)=some cs.length):=by unfold Hd;rw [HC.o.len];exact Zar
 obtain⟨nye,hnye⟩:∃ n:Nat,n=U.ye.length:=⟨_,rfl⟩
 rw [<- hnye] at c14;have HNye:=Zaa hnye;clear hnye;obtain⟨nbe,hnbe⟩:∃ n:Nat,n=U.be.length:=⟨_,rfl⟩
 rw [<- hnbe] at c15;have HNbe:=Zaa hnbe;clear hnbe;have HC14:=Zaa c14;have HC15:=Zaa c15;clear c14 c15
 cases q0:U.ty with
 | true=>
  rw [q0] at c12;go_enter func193,ntmps193;go_wp2;go_ret;exact⟨Zac (by rw [HE.o,q0];rfl),(HO _ _).o⟩
 | false=>
 rw [q0] at c12;go_enter func193,ntmps193;go_wp2_with (first|(with_reducible refine wpList_load_mid (by with_reducible rfl) 41 (.tmp 3) (by with_reducible rfl) (w.heap.size+1) 0 (by with_unfolding_all rfl) cs _ ((Box.new _ _ _ _ (by simp)).range rfl) underlying41 (by with_unfolding_all rfl) HZ.o ?_)|(with_reducible refine ZaC (by with_unfolding_all rfl) 41 (.tmp 3) (by with_reducible rfl) (w.heap.size+1) 0 (by with_unfolding_all rfl) cs _ ((Box.new _ _ _ _ (by simp)).range rfl) underlying41 (by with_unfolding_all rfl) HZ.o ?_));refine (Zd5 lo cs U _ (HC.o.below (HO _ _).o)).mono ?_;rintro e w1 ⟨rfl,hb1⟩;have F1:Hd (Box w1 (w.heap.size+1) cs.toArray):=(Box.new _ _ _ _ (by simp)).on hb1;have HB1:Hd (Zw_ w w1):=bt (HO _ _).o hb1;clear hb1
 cases q1:inB 1 U.dk.pr U.ba with
 | false=>
  go_wp2;go_ret;exact⟨Zac (by rw [HE.o,q0,q1];rfl),HB1.o⟩
 | true=>
  have g14:w1.cell? ⟨w.heap.size+1,14,none⟩=some (.slice a4 nye k4):=by rw [F1.o.cell _,List.getElem?_toArray];exact HC14.o
  have g15:w1.cell? ⟨w.heap.size+1,15,none⟩=some (.slice a5 nbe k5):=by rw [F1.o.cell _,List.getElem?_toArray];exact HC15.o
  cases q2:((nye:Int) == 0) with
  | false=>
   go_wp2;go_ret;exact⟨Zac (by rw [HE.o,q0,q1,<- HNye.o,zB,q2];rfl),HB1.o⟩
  | true=>
   go_wp2;go_ret;exact⟨Zac (by rw [HE.o,q0,q1,<- HNye.o,zB,q2,<- HNbe.o];rfl),HB1.o⟩
theorem Za7 (lo:Nat) (cs:List Value) (U:Rr) (w:World) (h:RrC lo w cs U) :
 Calls prog 87 #[.agg cs.toArray] w fun e w'=>e=.returned (.bool (decide (U.he.length<=400)&&(List.range U.he.length).all (ZbZ U)))/\Zw_ w w':=by
 obtain⟨a0,k0,a1,k1,a2,k2,a3,k3,a4,k4,a5,k5,a6,k6,hcs,h⟩:=h;have HL:=Zaa h;have c0:cs[0]?=some (.int .i64 U.nu):=by rw [hcs];rfl
 have c1:cs[1]?=some (.int .i64 U.of):=by rw [hcs];rfl
 have c9:cs[9]?=some (.slice a2 U.he.length k2):=by rw [hcs];rfl
 have hm:=h.l2.max;unfold maxLen at hm;clear h hcs;obtain⟨R,hR⟩:∃ R,R=(decide (U.he.length<=400)&&(List.range U.he.length).all (ZbZ U)):=⟨_,rfl⟩
 rw [<- hR];have HR':=Zaa hR;clear hR
 by_cases q5:U.he.length<=400
 case neg=>
  have d5:decide ((400:Int) < (U.he.length:Int))=true:=by simp;omega
  go_enter func87,ntmps87;go_wp2;go_ret;exact⟨Zac (by rw [HR'.o,decide_eq_false q5];rfl),Zab _ _⟩
 have d5:decide ((400:Int) < (U.he.length:Int))=false:=by simp;omega
 have HE1:Hd (R=(List.range U.he.length).all (ZbZ U)):=by unfold Hd;rw [HR'.o,decide_eq_true q5];rfl
 clear HR';go_enter func87,ntmps87;go_wp2;clear d5;generalize hWa:w.alloc _=Wa;have HB:Hd (Zw_ w Wa):=by unfold Hd;rw [<- hWa];exact (Zab w _)
 have F:Hd (Box Wa w.heap.size cs.toArray):=by unfold Hd;rw [<- hWa];exact (Box.new _ _ _ _ rfl)
 clear hWa
 go_loopw [12] (fun i wr=>∃ k:Nat,i=.int .i64 k/\k<=U.he.length/\Below Wa.heap.size Wa wr/\∀ j,j < k->ZbZ U j=true) (fun i _=>U.he.length - (intOf i).toNat)
 case atStart=>exact⟨0,rfl,by omega,Below.refl _ _,fun j h=>by omega⟩
 case round=>
  obtain⟨k,rfl,hk,hb,hall⟩:=hrel;have HAL:=Zaa hall;have HBr:=Zaa hb;have FR:=Zaa (F.o.on hb);clear hall hb
  by_cases hlt:k < U.he.length
  . obtain⟨b,off,hab,hbw,-,hc⟩:=(HL.o.below HB.o).l2.full' (by omega)
    subst hab;obtain⟨m,hm'⟩:∃ m,m=U.he[k]:=⟨_,rfl⟩
    have HDK:Hd (ZbZ U k=(ZcK m U.of&&m.fr == U.nu)):=by unfold Hd ZbZ;rw [List.getElem?_eq_getElem hlt,hm']
    obtain⟨ms,hr,b0,m0,rfl,hf⟩:=hc k hlt;rw [<- hm'] at hf hr;have HM:Hd (RmC lo wr (rmL m b0 m0) m):=⟨_,_,rfl,hf.below HBr.o⟩;have HR:=Zas hr HBr.o hbw;have s0:wr.cell? ⟨b,off+k*8,none⟩=some (.int .i64 m.kd):=HR 0 _ rfl;have s1:wr.cell? ⟨b,off+k*8+1,none⟩=some (.int .i64 m.fr):=HR 1 _ rfl;have s2:wr.cell? ⟨b,off+k*8+2,none⟩=some (.int .i64 m.tt):=HR 2 _ rfl;have s3:wr.cell? ⟨b,off+k*8+3,none⟩=some (.int .i64 m.ba):=HR 3 _ rfl;have s4:wr.cell? ⟨b,off+k*8+4,none⟩=some (.int .i64 m.ix):=HR 4 _ rfl;have s5:wr.cell? ⟨b,off+k*8+5,none⟩=some (.int .i64 m.kn):=HR 5 _ rfl;have s6:wr.cell? ⟨b,off+k*8+6,none⟩=some (.string m.tx):=HR 6 _ rfl;have s7:wr.cell? ⟨b,off+k*8+7,none⟩=some (.slice b0 m.sl.length m0):=HR 7 _ rfl;have x0:∀ o,(wr.alloc o).cell? ⟨w.heap.size,0,none⟩=some (.int .i64 U.nu):=fun o=>by rw [(FR.o.on (Zab _ _)).cell 0,List.getElem?_toArray];exact c0
    have x1:∀ o,(wr.alloc o).cell? ⟨w.heap.size,1,none⟩=some (.int .i64 U.of):=fun o=>by rw [(FR.o.on (Zab _ _)).cell 1,List.getElem?_toArray];exact c1
    have i0:(0:Int)<=(k:Int):=by omega
    have i1:(k:Int) < (U.he.length:Int):=by omega
    clear hc hr hf hm' HR
    cases r2:(m.fr == U.nu) with
    | false=>
     have hne:(m.fr != U.nu)=true:=by rw [bne,r2];rfl
     have HNo:Hd (R=false):=by unfold Hd;rw [HE1.o];exact ZaR hlt (by rw [HDK.o,r2];simp)
     go_wp2;go_ret;exact⟨Zac HNo.o.symm,bt (bt HB.o HBr.o) (Zab _ _)⟩
    | true=>
     have hne:(m.fr != U.nu)=false:=by rw [bne,r2];rfl
     cases r1:ZcK m U.of with
     | false=>
      have HNo:Hd (R=false):=by unfold Hd;rw [HE1.o];exact ZaR hlt (by rw [HDK.o,r1];rfl)
      go_wp2_with (go_at_call 40;refine (ZcA lo _ m U.of _ (HM.o.below (Zab _ _))).mono ?_;rw [r1];rintro e w1 ⟨rfl,hb1⟩;have HB1:=Zaa hb1;clear hb1);go_ret;exact⟨Zac HNo.o.symm,bt (bt HB.o HBr.o) (bt (Zab _ _) HB1.o)⟩
     | true=>
      have HT:Hd (ZbZ U k=true):=by unfold Hd;rw [HDK.o,r1,r2];rfl
      go_wp2_with (go_at_call 40;refine (ZcA lo _ m U.of _ (HM.o.below (Zab _ _))).mono ?_;rw [r1];rintro e w1 ⟨rfl,hb1⟩;have HB1:=Zaa hb1;clear hb1);go_roundw
      case rel=>exact⟨k+1,by go_num,by omega,bt HBr.o (bt (Zab _ _) HB1.o),fun j hj=>by
                 by_cases e:j=k
                 . rw [e];exact HT.o
                 . exact HAL.o j (by omega)⟩
      . simp [intOf];omega
  . have HE2:Hd (R=true):=by unfold Hd;rw [HE1.o];exact Zbk (fun i hi=>HAL.o i (by omega))
    go_wp2;go_ret;exact⟨Zac HE2.o.symm,bt HB.o HBr.o⟩
end Go.Proofs.YtkiefplmnoapfaaGreat
