import Derived.Test.YtdeammfdkaomlaaGreatM19
import Derived.Test.YtdeammfdkaomlaaGreatM24
set_option maxHeartbeats 16000000
set_option maxRecDepth 100000
open Go.Proofs.Tryz
namespace Go.Proofs.YtdeammfdkaomlaaGreat
open Go.RowKit Go.Deep
theorem ZeR.frow {w:World}{base:Nat}{v:Value}{L:List Rs} (h:ZeR w base v L):ZaH rsL 2 w base w.heap.size v L:=by
 obtain⟨g,cap,h1,h2⟩:=h;exact⟨g,cap,h1,⟨h2.bs,h2.lt,h2.lt,h2.le,h2.mx,h2.th,h2.fz,h2.rg⟩⟩
theorem Zex (lo:Nat) (va vb:Value) (A B:List Rs) (w:World) (ha:Zat lo w va A) (hb:Zat lo w vb B) (hna:A.length<=1048576) (hnb:B.length<=1048576) :
 Calls prog 129 #[va,vb] w fun e w'=>∃ v',e=.returned v'/\Zw_ w w'/\ZeR w' w.heap.size v' (Zas A B):=by
 have HVA:=Zaa ha;have HVB:=Zaa hb;obtain⟨aa,ca,rfl⟩:=ha.form;obtain⟨ab,cb,rfl⟩:=hb.form;clear ha hb;go_enter func129,ntmps129;go_wp2_with fail;refine (Zfm lo _ A _ HVA.o hna).mono ?_;rintro e w1 ⟨o1,rfl,hb1,hl1⟩;have HB1:=Zaa hb1;have HL1:=Zaa hl1;clear hb1 hl1;go_wp2
 go_loopw [5,6] (fun o i wr=>∃ (k:Nat) (L:List Rs),i=.int .i64 k/\k<=B.length/\Zw_ w wr/\ZeR wr w.heap.size o L/\L=Zas A (B.take k)) (fun _ i _=>B.length - (intOf i).toNat)
 case atStart=>exact⟨0,A,rfl,by omega,HB1.o,HL1.o,by rw [List.take_zero,ZeF]⟩
 case round=>
  obtain⟨k,L,rfl,hk,hb,hl,hL⟩:=hrel;have HB:=Zaa hb;have HL:=Zaa hl;have HE:=Zaa hL;clear hb hl;have hlen:L.length=max A.length (min k B.length):=by rw [hL,Zbv,List.length_take]
  clear hL;obtain⟨g,cap,rfl,hr⟩:=HL.o;have HR:=Zaa hr;clear hr
  by_cases hlt:k < B.length
  . obtain⟨b,off,rfl,hbw,-,hc⟩:=HVB.o.full' (by omega)
    obtain⟨hsz,hcc⟩:=hc k hlt;obtain⟨y,hy⟩:∃ y,y=B[k]:=⟨_,rfl⟩
    rw [<- hy] at hsz hcc;have HY:=Zaa hy;have HZ:=Zaa hsz;obtain⟨e0,e1⟩:=hcc.below HB.o hbw;have i0:(0:Int)<=(k:Int):=by omega
    have i1:(k:Int) < (B.length:Int):=by omega
    clear hc hcc hsz hy
    by_cases hq:A.length<=k
    . have hkl:L.length=k:=by omega
      have dk:((k:Int) == (L.length:Int))=true:=by rw [hkl];simp
      have HKL:=Zaa hkl;clear hkl hlen;have HN:Hd (Zas A (B.take (k+1))=L ++ [y]):=by unfold Hd;rw [Zel A B k hlt hq,<- HE.o,HY.o]
      go_wp2_with (at_builtin;refine ZbT (w:=wr.alloc _) (base:=w.heap.size) (L:=L) [y] rfl (.tmp 19) (.tmp 24) rfl rfl (HL.o.below (Zab _ _)) (some ⟨wr.heap.size,0,none⟩) 1 1 rfl rfl (fun e=>by cases e) (fun ad e j u hu=>by
       injection e with e
       subst e;rw [Addr.add_lit,Nat.zero_add,(Box.new wr _ _ _ rfl).cell j]
       simpa [Zai,rsL] using hu) (fun i hi=>by
       have:i=0:=by simp at hi;omega
       subst this;exact HZ.o) (by have:=HKL.o;simp;omega) (by have:=HB.o.size;simp;omega) ?_;intro v' w' h1 h2;have H1:=Zaa h1;have H2:=Zaa h2;clear h1 h2)
      go_roundw
      . exact⟨k+1,L ++ [y],by go_num,by omega,(bt HB.o (Zab _ _)).trans (H2.o.mono (by omega)),H1.o,HN.o.symm⟩
      . simp [intOf];omega
    . have hqa:k < A.length:=by omega
      have hkl:k < L.length:=by omega
      have dk:((k:Int) == (L.length:Int))=false:=by rw [beq_eq_false_iff_ne];omega
      have hx:L[k]=A[k]:=by
       have h1:k < (Zas A (B.take k)).length:=by rw [<- HE.o];exact hkl
       have:=Zej A B k hqa h1;rw [<- this]
       congr 1
      obtain⟨x,hxx⟩:∃ x,x=A[k]:=⟨_,rfl⟩
      obtain⟨f0,f1⟩:=HR.o.cells hkl;rw [hx,<- hxx] at f0 f1;rw [Nat.zero_add] at f0 f1;have HXX:=Zaa hxx;have HKL:=Zaa hkl;have i2:(k:Int) < (L.length:Int):=by omega
      have hth:∀ j,wr.frozen? ⟨g,j,none⟩=false:=HR.o.fz
      clear hx hxx hkl hlen;go_wp2
      go_cut [36] (fun c wc=>c=.bool (decide (x.ba < y.ba))/\Below wr.heap.size wr wc)
      case first=>
       go_quiet (fail)
       go_wp2;go_meet;exact⟨rfl,below_drewN Zb_ _⟩
      case rest=>
       obtain⟨rfl,hbc⟩:=hcut;have HBc:=Zaa hbc;have HRc:=Zaa (HR.o.below hbc);have hgl:=HR.o.lt;have q0:wc.cell? ⟨b,off+k*2,none⟩=some (.int .i64 y.ba):=(hbc.cell (p:=⟨b,off+k*2,none⟩) (Zk_ hbw HB.o.size)).trans e0;have q1:wc.cell? ⟨b,off+k*2+1,none⟩=some (.string y.tx):=(hbc.cell (p:=⟨b,off+k*2+1,none⟩) (Zk_ hbw HB.o.size)).trans e1;have q2:wc.cell? ⟨g,k*2,none⟩=some (.int .i64 x.ba):=(hbc.cell (p:=⟨g,k*2,none⟩) hgl).trans f0;have q3:wc.cell? ⟨g,k*2+1,none⟩=some (.string x.tx):=(hbc.cell (p:=⟨g,k*2+1,none⟩) hgl).trans f1;have hth:∀ j,wc.frozen? ⟨g,j,none⟩=false:=HRc.o.fz
       clear hbc e0 e1 f0 f1 dk
       cases dm:decide (x.ba < y.ba) with
       | true=>
        have HN:Hd (Zas A (B.take (k+1))=L.set k y):=by unfold Hd;rw [Zhk hlt hqa (by rw [<- HXX.o,<- HY.o];exact of_decide_eq_true dm),<- HE.o,HY.o]
        go_wp2;go_roundw
        . exact⟨k+1,L.set k y,by go_num,by omega,((bt HB.o HBc.o).setCell HR.o.bs _).setCell HR.o.bs _,⟨g,cap,by rw [List.length_set],HRc.o.store HKL.o y HZ.o⟩,HN.o.symm⟩
        . simp [intOf];omega
       | false=>
        have HN:Hd (Zas A (B.take (k+1))=L):=by unfold Hd;rw [Zf5 hlt hqa (by rw [<- HXX.o,<- HY.o];exact of_decide_eq_false dm),<- HE.o]
        go_wp2;go_roundw
        . exact⟨k+1,L,by go_num,by omega,bt HB.o HBc.o,⟨g,cap,rfl,HRc.o⟩,HN.o.symm⟩
        . simp [intOf];omega
  . have HN:Hd (L=Zas A B):=by unfold Hd;rw [HE.o,List.take_of_length_le (by omega)]
    go_wp2;go_ret;exact⟨_,rfl,HB.o,by rw [<- HN.o];exact HL.o⟩
theorem Za0 (lo:Nat) (cs:List Value) (U:Rr) (w:World) (h:RrC lo w cs U) :
 Calls prog 138 #[.agg cs.toArray] w fun e w'=>e=.returned (.bool (decide (U.he.length<=400)&&(List.range U.he.length).all (ZbS U)))/\Zw_ w w':=by
 obtain⟨a0,k0,a1,k1,a2,k2,a3,k3,a4,k4,a5,k5,a6,k6,hcs,h⟩:=h;have HL:=Zaa h;have c0:cs[0]?=some (.int .i64 U.nu):=by rw [hcs];rfl
 have c1:cs[1]?=some (.int .i64 U.of):=by rw [hcs];rfl
 have c9:cs[9]?=some (.slice a2 U.he.length k2):=by rw [hcs];rfl
 have hm:=h.l2.max;unfold maxLen at hm;clear h hcs;obtain⟨R,hR⟩:∃ R,R=(decide (U.he.length<=400)&&(List.range U.he.length).all (ZbS U)):=⟨_,rfl⟩
 rw [<- hR];have HR':=Zaa hR;clear hR
 by_cases q5:U.he.length<=400
 case neg=>
  have d5:decide ((400:Int) < (U.he.length:Int))=true:=by simp;omega
  go_enter func138,ntmps138;go_wp2;go_ret;exact⟨Zac (by rw [HR'.o,decide_eq_false q5];rfl),Zab _ _⟩
 have d5:decide ((400:Int) < (U.he.length:Int))=false:=by simp;omega
 have HE1:Hd (R=(List.range U.he.length).all (ZbS U)):=by unfold Hd;rw [HR'.o,decide_eq_true q5];rfl
 clear HR';go_enter func138,ntmps138;go_wp2;clear d5;generalize hWa:w.alloc _=Wa;have HB:Hd (Zw_ w Wa):=by unfold Hd;rw [<- hWa];exact (Zab w _)
 have F:Hd (Box Wa w.heap.size cs.toArray):=by unfold Hd;rw [<- hWa];exact (Box.new _ _ _ _ rfl)
 clear hWa
 go_loopw [12] (fun i wr=>∃ k:Nat,i=.int .i64 k/\k<=U.he.length/\Below Wa.heap.size Wa wr/\∀ j,j < k->ZbS U j=true) (fun i _=>U.he.length - (intOf i).toNat)
 case atStart=>exact⟨0,rfl,by omega,Below.refl _ _,fun j h=>by omega⟩
 case round=>
  obtain⟨k,rfl,hk,hb,hall⟩:=hrel;have HAL:=Zaa hall;have HBr:=Zaa hb;have FR:=Zaa (F.o.on hb);clear hall hb
  by_cases hlt:k < U.he.length
  . obtain⟨b,off,hab,hbw,-,hc⟩:=(HL.o.below HB.o).l2.full' (by omega)
    subst hab;obtain⟨m,hm'⟩:∃ m,m=U.he[k]:=⟨_,rfl⟩
    have HDK:Hd (ZbS U k=(Zds m U.of&&m.fr == U.nu)):=by unfold Hd ZbS;rw [List.getElem?_eq_getElem hlt,hm']
    obtain⟨ms,hr,b0,m0,rfl,hf⟩:=hc k hlt;rw [<- hm'] at hf hr;have HM:Hd (RmC lo wr (rmL m b0 m0) m):=⟨_,_,rfl,hf.below HBr.o⟩;have HR:=Zaz hr HBr.o hbw;have s0:wr.cell? ⟨b,off+k*8,none⟩=some (.int .i64 m.kd):=HR 0 _ rfl;have s1:wr.cell? ⟨b,off+k*8+1,none⟩=some (.int .i64 m.fr):=HR 1 _ rfl;have s2:wr.cell? ⟨b,off+k*8+2,none⟩=some (.int .i64 m.tt):=HR 2 _ rfl;have s3:wr.cell? ⟨b,off+k*8+3,none⟩=some (.int .i64 m.ba):=HR 3 _ rfl;have s4:wr.cell? ⟨b,off+k*8+4,none⟩=some (.int .i64 m.ix):=HR 4 _ rfl;have s5:wr.cell? ⟨b,off+k*8+5,none⟩=some (.int .i64 m.kn):=HR 5 _ rfl;have s6:wr.cell? ⟨b,off+k*8+6,none⟩=some (.string m.tx):=HR 6 _ rfl;have s7:wr.cell? ⟨b,off+k*8+7,none⟩=some (.slice b0 m.sl.length m0):=HR 7 _ rfl;have x0:∀ o,(wr.alloc o).cell? ⟨w.heap.size,0,none⟩=some (.int .i64 U.nu):=fun o=>by rw [(FR.o.on (Zab _ _)).cell 0,List.getElem?_toArray];exact c0
    have x1:∀ o,(wr.alloc o).cell? ⟨w.heap.size,1,none⟩=some (.int .i64 U.of):=fun o=>by rw [(FR.o.on (Zab _ _)).cell 1,List.getElem?_toArray];exact c1
    have i0:(0:Int)<=(k:Int):=by omega
    have i1:(k:Int) < (U.he.length:Int):=by omega
    clear hc hr hf hm' HR
    cases r2:(m.fr == U.nu) with
    | false=>
     have hne:(m.fr != U.nu)=true:=by rw [bne,r2];rfl
     have HNo:Hd (R=false):=by unfold Hd;rw [HE1.o];exact ZaN hlt (by rw [HDK.o,r2];simp)
     go_wp2;go_ret;exact⟨Zac HNo.o.symm,bt (bt HB.o HBr.o) (Zab _ _)⟩
    | true=>
     have hne:(m.fr != U.nu)=false:=by rw [bne,r2];rfl
     cases r1:Zds m U.of with
     | false=>
      have HNo:Hd (R=false):=by unfold Hd;rw [HE1.o];exact ZaN hlt (by rw [HDK.o,r1];rfl)
      go_wp2_with (go_at_call 172;refine (Zec lo _ m U.of _ (HM.o.below (Zab _ _))).mono ?_;rw [r1];rintro e w1 ⟨rfl,hb1⟩;have HB1:=Zaa hb1;clear hb1);go_ret;exact⟨Zac HNo.o.symm,bt (bt HB.o HBr.o) (bt (Zab _ _) HB1.o)⟩
     | true=>
      have HT:Hd (ZbS U k=true):=by unfold Hd;rw [HDK.o,r1,r2];rfl
      go_wp2_with (go_at_call 172;refine (Zec lo _ m U.of _ (HM.o.below (Zab _ _))).mono ?_;rw [r1];rintro e w1 ⟨rfl,hb1⟩;have HB1:=Zaa hb1;clear hb1);go_roundw
      case rel=>exact⟨k+1,by go_num,by omega,bt HBr.o (bt (Zab _ _) HB1.o),fun j hj=>by
                 by_cases e:j=k
                 . rw [e];exact HT.o
                 . exact HAL.o j (by omega)⟩
      . simp [intOf];omega
  . have HE2:Hd (R=true):=by unfold Hd;rw [HE1.o];exact Zbj (fun i hi=>HAL.o i (by omega))
    go_wp2;go_ret;exact⟨Zac HE2.o.symm,bt HB.o HBr.o⟩
def Zgw (U:Rr):List Bool:=[inB 1 5 U.of&&inB 1 U.of U.nu,ZaW U.sf,ZaW U.dk,decide (U.he.length<=400)&&(List.range U.he.length).all (ZbS U),ZbC U.wi,inB 0 1000000 U.hd,Zbq U.of U.ye,ZaI U.be,ZbH U.of U.ac]
def ZcF (U:Rr):Bool:=(inB 1 5 U.of&&inB 1 U.of U.nu)&&(ZaW U.sf&&(ZaW U.dk&&((decide (U.he.length<=400)&&(List.range U.he.length).all (ZbS U))&&(ZbC U.wi&&(inB 0 1000000 U.hd&&(Zbq U.of U.ye&&(ZaI U.be&&(ZbH U.of U.ac&&(Zcu U&&(U.up || ZdO U))))))))))
theorem Zgk (lo:Nat) (cs:List Value) (U:Rr) (w:World) (h:RrC lo w cs U) (hno:(Zgw U).all id=false) :
 Calls prog 70 #[.agg cs.toArray] w fun e w'=>e=.returned (.bool (ZcF U))/\Zw_ w w':=by
 have HNO:=Zaa hno;clear hno;have HC:=Zaa h;obtain⟨a0,k0,a1,k1,a2,k2,a3,k3,a4,k4,a5,k5,a6,k6,hcs,h⟩:=h;have HL:=Zaa h;have c0:cs[0]?=some (.int .i64 U.nu):=by rw [hcs];rfl
 have c1:cs[1]?=some (.int .i64 U.of):=by rw [hcs];rfl
 have c2:cs[2]?=some (.bool U.up):=by rw [hcs];rfl
 have c3:cs[3]?=some (.int .i64 U.sf.pr):=by rw [hcs];rfl
 have c4:cs[4]?=some (.int .i64 U.sf.kn):=by rw [hcs];rfl
 have c5:cs[5]?=some (.slice a0 U.sf.sl.length k0):=by rw [hcs];rfl
 have c6:cs[6]?=some (.int .i64 U.dk.pr):=by rw [hcs];rfl
 have c7:cs[7]?=some (.int .i64 U.dk.kn):=by rw [hcs];rfl
 have c8:cs[8]?=some (.slice a1 U.dk.sl.length k1):=by rw [hcs];rfl
 have c10:cs[10]?=some (.slice a3 U.wi.length k3):=by rw [hcs];rfl
 have c14:cs[14]?=some (.slice a4 U.ye.length k4):=by rw [hcs];rfl
 have c15:cs[15]?=some (.slice a5 U.be.length k5):=by rw [hcs];rfl
 have c16:cs[16]?=some (.slice a6 U.ac.length k6):=by rw [hcs];rfl
 have c17:cs[17]?=some (.int .i64 U.hd):=by rw [hcs];rfl
 clear h hcs;have HE:Hd (ZcF U=((inB 1 5 U.of&&inB 1 U.of U.nu)&&(ZaW U.sf&&(ZaW U.dk&&((decide (U.he.length<=400)&&(List.range U.he.length).all (ZbS U))&&(ZbC U.wi&&(inB 0 1000000 U.hd&&(Zbq U.of U.ye&&(ZaI U.be&&(ZbH U.of U.ac&&(Zcu U&&(U.up || ZdO U)))))))))))):=rfl;have HZ:Hd ((prog.info? 61).map (·.size)=some cs.length):=by unfold Hd;rw [HC.o.len];exact ZaA
 go_enter func70,ntmps70;go_wp2_with fail;generalize hWa:w.alloc _=Wa;have HB:Hd (Zw_ w Wa):=by unfold Hd;rw [<- hWa];exact (Zab w _)
 have F:Hd (Box Wa w.heap.size cs.toArray):=by unfold Hd;rw [<- hWa];exact (Box.new _ _ _ _ rfl)
 clear hWa;have xn:Nonempty (In (Up Wa)):=⟨⟨Wa,Below.refl _ _⟩⟩;have xs:=fun (X:In (Up Wa))=>Zbc X
 have x0:∀ X:In (Up Wa),X.w.cell? ⟨w.heap.size,0,none⟩=some (.int .i64 U.nu):=fun X=>Up.cell X (by rw [F.o.cell 0,List.getElem?_toArray];exact c0)
 have x1:∀ X:In (Up Wa),X.w.cell? ⟨w.heap.size,1,none⟩=some (.int .i64 U.of):=fun X=>Up.cell X (by rw [F.o.cell 1,List.getElem?_toArray];exact c1)
 have x2:∀ X:In (Up Wa),X.w.cell? ⟨w.heap.size,2,none⟩=some (.bool U.up):=fun X=>Up.cell X (by rw [F.o.cell 2,List.getElem?_toArray];exact c2)
 have x3:∀ X:In (Up Wa),X.w.cell? ⟨w.heap.size,3,none⟩=some (.int .i64 U.sf.pr):=fun X=>Up.cell X (by rw [F.o.cell 3,List.getElem?_toArray];exact c3)
 have x4:∀ X:In (Up Wa),X.w.cell? ⟨w.heap.size,4,none⟩=some (.int .i64 U.sf.kn):=fun X=>Up.cell X (by rw [F.o.cell 4,List.getElem?_toArray];exact c4)
 have x5:∀ X:In (Up Wa),X.w.cell? ⟨w.heap.size,5,none⟩=some (.slice a0 U.sf.sl.length k0):=fun X=>Up.cell X (by rw [F.o.cell 5,List.getElem?_toArray];exact c5)
 have x6:∀ X:In (Up Wa),X.w.cell? ⟨w.heap.size,6,none⟩=some (.int .i64 U.dk.pr):=fun X=>Up.cell X (by rw [F.o.cell 6,List.getElem?_toArray];exact c6)
 have x7:∀ X:In (Up Wa),X.w.cell? ⟨w.heap.size,7,none⟩=some (.int .i64 U.dk.kn):=fun X=>Up.cell X (by rw [F.o.cell 7,List.getElem?_toArray];exact c7)
 have x8:∀ X:In (Up Wa),X.w.cell? ⟨w.heap.size,8,none⟩=some (.slice a1 U.dk.sl.length k1):=fun X=>Up.cell X (by rw [F.o.cell 8,List.getElem?_toArray];exact c8)
 have x10:∀ X:In (Up Wa),X.w.cell? ⟨w.heap.size,10,none⟩=some (.slice a3 U.wi.length k3):=fun X=>Up.cell X (by rw [F.o.cell 10,List.getElem?_toArray];exact c10)
 have x14:∀ X:In (Up Wa),X.w.cell? ⟨w.heap.size,14,none⟩=some (.slice a4 U.ye.length k4):=fun X=>Up.cell X (by rw [F.o.cell 14,List.getElem?_toArray];exact c14)
 have x15:∀ X:In (Up Wa),X.w.cell? ⟨w.heap.size,15,none⟩=some (.slice a5 U.be.length k5):=fun X=>Up.cell X (by rw [F.o.cell 15,List.getElem?_toArray];exact c15)
 have x16:∀ X:In (Up Wa),X.w.cell? ⟨w.heap.size,16,none⟩=some (.slice a6 U.ac.length k6):=fun X=>Up.cell X (by rw [F.o.cell 16,List.getElem?_toArray];exact c16)
 have x17:∀ X:In (Up Wa),X.w.cell? ⟨w.heap.size,17,none⟩=some (.int .i64 U.hd):=fun X=>Up.cell X (by rw [F.o.cell 17,List.getElem?_toArray];exact c17)
 clear c0 c1 c2 c3 c4 c5 c6 c7 c8 c10 c14 c15 c16 c17
 cases h1:(inB 1 5 U.of&&inB 1 U.of U.nu) with
 | false=>
  refine Zaf (Up Wa) (by kernel_rfl) (by kernel_rfl) (Zb_.drew) ?_
  repeat (first
   | (with_reducible refine Zao ?_ 61 (.tmp 1) (by with_reducible rfl) w.heap.size 0 (by with_unfolding_all rfl) cs _ (fun W hW=>by obtain⟨X,rfl⟩:=hW;exact (F.o.on X.h).range rfl) underlying61 (by with_unfolding_all rfl) HZ.o ?_
      . with_unfolding_all rfl
      simp only [Act.put,List.setIfInBounds_toArray,List.set_cons_zero,List.set_cons_succ])
   | go_big_quiet_step (first
    | (go_at_call 136;rename_i Y;exact (Zau _ _ _).mono fun _ _ h=>⟨h.1.trans (rb h1),Up.same Y h.2⟩)))
  refine wpQuiet_nil ?_;intro wn hw;obtain⟨X,hX⟩:=hw;have HWN:Hd (Below Wa.heap.size Wa wn):=by unfold Hd;rw [hX];exact X.h
  clear hX X x0 x1 x2 x3 x4 x5 x6 x7 x8 x10 x14 x15 x16 x17 xs xn;go_wp2;go_ret;exact⟨Zac (by rw [HE.o,h1];rfl),bt HB.o HWN.o⟩
 | true=>
 cases h2:(ZaW U.sf) with
 | false=>
  refine Zaf (Up Wa) (by kernel_rfl) (by kernel_rfl) (Zb_.drew) ?_
  repeat (first
   | (with_reducible refine Zao ?_ 61 (.tmp 1) (by with_reducible rfl) w.heap.size 0 (by with_unfolding_all rfl) cs _ (fun W hW=>by obtain⟨X,rfl⟩:=hW;exact (F.o.on X.h).range rfl) underlying61 (by with_unfolding_all rfl) HZ.o ?_
      . with_unfolding_all rfl
      simp only [Act.put,List.setIfInBounds_toArray,List.set_cons_zero,List.set_cons_succ])
   | go_big_quiet_step (first
    | (go_at_call 136;rename_i Y;exact (Zau _ _ _).mono fun _ _ h=>⟨h.1.trans (rb h1),Up.same Y h.2⟩)
    | (go_at_call_of 137 (Value.agg #[.int .i64 U.sf.pr,.int .i64 U.sf.kn,.slice a0 U.sf.sl.length k0]);rename_i Y;exact (Zal lo _ U.sf _ ⟨_,_,rfl,⟨((HL.o.below (bt HB.o Y.h)).l0)⟩⟩).mono fun _ _ h=>⟨h.1.trans (rb h2),Up.next Y h.2⟩)))
  refine wpQuiet_nil ?_;intro wn hw;obtain⟨X,hX⟩:=hw;have HWN:Hd (Below Wa.heap.size Wa wn):=by unfold Hd;rw [hX];exact X.h
  clear hX X x0 x1 x2 x3 x4 x5 x6 x7 x8 x10 x14 x15 x16 x17 xs xn;go_wp2;go_ret;exact⟨Zac (by rw [HE.o,h1,h2];rfl),bt HB.o HWN.o⟩
 | true=>
 cases h3:(ZaW U.dk) with
 | false=>
  refine Zaf (Up Wa) (by kernel_rfl) (by kernel_rfl) (Zb_.drew) ?_
  repeat (first
   | (with_reducible refine Zao ?_ 61 (.tmp 1) (by with_reducible rfl) w.heap.size 0 (by with_unfolding_all rfl) cs _ (fun W hW=>by obtain⟨X,rfl⟩:=hW;exact (F.o.on X.h).range rfl) underlying61 (by with_unfolding_all rfl) HZ.o ?_
      . with_unfolding_all rfl
      simp only [Act.put,List.setIfInBounds_toArray,List.set_cons_zero,List.set_cons_succ])
   | go_big_quiet_step (first
    | (go_at_call 136;rename_i Y;exact (Zau _ _ _).mono fun _ _ h=>⟨h.1.trans (rb h1),Up.same Y h.2⟩)
    | (go_at_call_of 137 (Value.agg #[.int .i64 U.sf.pr,.int .i64 U.sf.kn,.slice a0 U.sf.sl.length k0]);rename_i Y;exact (Zal lo _ U.sf _ ⟨_,_,rfl,⟨((HL.o.below (bt HB.o Y.h)).l0)⟩⟩).mono fun _ _ h=>⟨h.1.trans (rb h2),Up.next Y h.2⟩)
    | (go_at_call_of 137 (Value.agg #[.int .i64 U.dk.pr,.int .i64 U.dk.kn,.slice a1 U.dk.sl.length k1]);rename_i Y;exact (Zal lo _ U.dk _ ⟨_,_,rfl,⟨((HL.o.below (bt HB.o Y.h)).l1)⟩⟩).mono fun _ _ h=>⟨h.1.trans (rb h3),Up.next Y h.2⟩)))
  refine wpQuiet_nil ?_;intro wn hw;obtain⟨X,hX⟩:=hw;have HWN:Hd (Below Wa.heap.size Wa wn):=by unfold Hd;rw [hX];exact X.h
  clear hX X x0 x1 x2 x3 x4 x5 x6 x7 x8 x10 x14 x15 x16 x17 xs xn;go_wp2;go_ret;exact⟨Zac (by rw [HE.o,h1,h2,h3];rfl),bt HB.o HWN.o⟩
 | true=>
 cases h4:(decide (U.he.length<=400)&&(List.range U.he.length).all (ZbS U)) with
 | false=>
  refine Zaf (Up Wa) (by kernel_rfl) (by kernel_rfl) (Zb_.drew) ?_
  repeat (first
   | (with_reducible refine Zao ?_ 61 (.tmp 1) (by with_reducible rfl) w.heap.size 0 (by with_unfolding_all rfl) cs _ (fun W hW=>by obtain⟨X,rfl⟩:=hW;exact (F.o.on X.h).range rfl) underlying61 (by with_unfolding_all rfl) HZ.o ?_
      . with_unfolding_all rfl
      simp only [Act.put,List.setIfInBounds_toArray,List.set_cons_zero,List.set_cons_succ])
   | go_big_quiet_step (first
    | (go_at_call 136;rename_i Y;exact (Zau _ _ _).mono fun _ _ h=>⟨h.1.trans (rb h1),Up.same Y h.2⟩)
    | (go_at_call_of 137 (Value.agg #[.int .i64 U.sf.pr,.int .i64 U.sf.kn,.slice a0 U.sf.sl.length k0]);rename_i Y;exact (Zal lo _ U.sf _ ⟨_,_,rfl,⟨((HL.o.below (bt HB.o Y.h)).l0)⟩⟩).mono fun _ _ h=>⟨h.1.trans (rb h2),Up.next Y h.2⟩)
    | (go_at_call_of 137 (Value.agg #[.int .i64 U.dk.pr,.int .i64 U.dk.kn,.slice a1 U.dk.sl.length k1]);rename_i Y;exact (Zal lo _ U.dk _ ⟨_,_,rfl,⟨((HL.o.below (bt HB.o Y.h)).l1)⟩⟩).mono fun _ _ h=>⟨h.1.trans (rb h3),Up.next Y h.2⟩)
    | (go_at_call 138;rename_i Y;exact (Za0 lo cs U _ (HC.o.below (bt HB.o Y.h))).mono fun _ _ h=>⟨h.1.trans (rb h4),Up.next Y h.2⟩)))
  refine wpQuiet_nil ?_;intro wn hw;obtain⟨X,hX⟩:=hw;have HWN:Hd (Below Wa.heap.size Wa wn):=by unfold Hd;rw [hX];exact X.h
  clear hX X x0 x1 x2 x3 x4 x5 x6 x7 x8 x10 x14 x15 x16 x17 xs xn;go_wp2;go_ret;exact⟨Zac (by rw [HE.o,h1,h2,h3,h4];rfl),bt HB.o HWN.o⟩
 | true=>
 cases h5:(ZbC U.wi) with
 | false=>
  refine Zaf (Up Wa) (by kernel_rfl) (by kernel_rfl) (Zb_.drew) ?_
  repeat (first
   | (with_reducible refine Zao ?_ 61 (.tmp 1) (by with_reducible rfl) w.heap.size 0 (by with_unfolding_all rfl) cs _ (fun W hW=>by obtain⟨X,rfl⟩:=hW;exact (F.o.on X.h).range rfl) underlying61 (by with_unfolding_all rfl) HZ.o ?_
      . with_unfolding_all rfl
      simp only [Act.put,List.setIfInBounds_toArray,List.set_cons_zero,List.set_cons_succ])
   | go_big_quiet_step (first
    | (go_at_call 136;rename_i Y;exact (Zau _ _ _).mono fun _ _ h=>⟨h.1.trans (rb h1),Up.same Y h.2⟩)
    | (go_at_call_of 137 (Value.agg #[.int .i64 U.sf.pr,.int .i64 U.sf.kn,.slice a0 U.sf.sl.length k0]);rename_i Y;exact (Zal lo _ U.sf _ ⟨_,_,rfl,⟨((HL.o.below (bt HB.o Y.h)).l0)⟩⟩).mono fun _ _ h=>⟨h.1.trans (rb h2),Up.next Y h.2⟩)
    | (go_at_call_of 137 (Value.agg #[.int .i64 U.dk.pr,.int .i64 U.dk.kn,.slice a1 U.dk.sl.length k1]);rename_i Y;exact (Zal lo _ U.dk _ ⟨_,_,rfl,⟨((HL.o.below (bt HB.o Y.h)).l1)⟩⟩).mono fun _ _ h=>⟨h.1.trans (rb h3),Up.next Y h.2⟩)
    | (go_at_call 138;rename_i Y;exact (Za0 lo cs U _ (HC.o.below (bt HB.o Y.h))).mono fun _ _ h=>⟨h.1.trans (rb h4),Up.next Y h.2⟩)
    | (go_at_call 139;rename_i Y;exact (ZaL lo _ U.wi _ ((HL.o.below (bt HB.o Y.h)).l3)).mono fun _ _ h=>⟨h.1.trans (rb h5),Up.same Y h.2⟩)))
  refine wpQuiet_nil ?_;intro wn hw;obtain⟨X,hX⟩:=hw;have HWN:Hd (Below Wa.heap.size Wa wn):=by unfold Hd;rw [hX];exact X.h
  clear hX X x0 x1 x2 x3 x4 x5 x6 x7 x8 x10 x14 x15 x16 x17 xs xn;go_wp2;go_ret;exact⟨Zac (by rw [HE.o,h1,h2,h3,h4,h5];rfl),bt HB.o HWN.o⟩
 | true=>
 cases h6:(inB 0 1000000 U.hd) with
 | false=>
  refine Zaf (Up Wa) (by kernel_rfl) (by kernel_rfl) (Zb_.drew) ?_
  repeat (first
   | (with_reducible refine Zao ?_ 61 (.tmp 1) (by with_reducible rfl) w.heap.size 0 (by with_unfolding_all rfl) cs _ (fun W hW=>by obtain⟨X,rfl⟩:=hW;exact (F.o.on X.h).range rfl) underlying61 (by with_unfolding_all rfl) HZ.o ?_
      . with_unfolding_all rfl
      simp only [Act.put,List.setIfInBounds_toArray,List.set_cons_zero,List.set_cons_succ])
   | go_big_quiet_step (first
    | (go_at_call 136;rename_i Y;exact (Zau _ _ _).mono fun _ _ h=>⟨h.1.trans (rb h1),Up.same Y h.2⟩)
    | (go_at_call_of 137 (Value.agg #[.int .i64 U.sf.pr,.int .i64 U.sf.kn,.slice a0 U.sf.sl.length k0]);rename_i Y;exact (Zal lo _ U.sf _ ⟨_,_,rfl,⟨((HL.o.below (bt HB.o Y.h)).l0)⟩⟩).mono fun _ _ h=>⟨h.1.trans (rb h2),Up.next Y h.2⟩)
    | (go_at_call_of 137 (Value.agg #[.int .i64 U.dk.pr,.int .i64 U.dk.kn,.slice a1 U.dk.sl.length k1]);rename_i Y;exact (Zal lo _ U.dk _ ⟨_,_,rfl,⟨((HL.o.below (bt HB.o Y.h)).l1)⟩⟩).mono fun _ _ h=>⟨h.1.trans (rb h3),Up.next Y h.2⟩)
    | (go_at_call 138;rename_i Y;exact (Za0 lo cs U _ (HC.o.below (bt HB.o Y.h))).mono fun _ _ h=>⟨h.1.trans (rb h4),Up.next Y h.2⟩)
    | (go_at_call 139;rename_i Y;exact (ZaL lo _ U.wi _ ((HL.o.below (bt HB.o Y.h)).l3)).mono fun _ _ h=>⟨h.1.trans (rb h5),Up.same Y h.2⟩)
    | (go_at_call 33;rename_i Y;exact (Zah _ _ _ _).mono fun _ _ h=>⟨h.1.trans (rb h6),Up.same Y h.2⟩)))
  refine wpQuiet_nil ?_;intro wn hw;obtain⟨X,hX⟩:=hw;have HWN:Hd (Below Wa.heap.size Wa wn):=by unfold Hd;rw [hX];exact X.h
  clear hX X x0 x1 x2 x3 x4 x5 x6 x7 x8 x10 x14 x15 x16 x17 xs xn;go_wp2;go_ret;exact⟨Zac (by rw [HE.o,h1,h2,h3,h4,h5,h6];rfl),bt HB.o HWN.o⟩
 | true=>
 cases h7:(Zbq U.of U.ye) with
 | false=>
  refine Zaf (Up Wa) (by kernel_rfl) (by kernel_rfl) (Zb_.drew) ?_
  repeat (first
   | (with_reducible refine Zao ?_ 61 (.tmp 1) (by with_reducible rfl) w.heap.size 0 (by with_unfolding_all rfl) cs _ (fun W hW=>by obtain⟨X,rfl⟩:=hW;exact (F.o.on X.h).range rfl) underlying61 (by with_unfolding_all rfl) HZ.o ?_
      . with_unfolding_all rfl
      simp only [Act.put,List.setIfInBounds_toArray,List.set_cons_zero,List.set_cons_succ])
   | go_big_quiet_step (first
    | (go_at_call 136;rename_i Y;exact (Zau _ _ _).mono fun _ _ h=>⟨h.1.trans (rb h1),Up.same Y h.2⟩)
    | (go_at_call_of 137 (Value.agg #[.int .i64 U.sf.pr,.int .i64 U.sf.kn,.slice a0 U.sf.sl.length k0]);rename_i Y;exact (Zal lo _ U.sf _ ⟨_,_,rfl,⟨((HL.o.below (bt HB.o Y.h)).l0)⟩⟩).mono fun _ _ h=>⟨h.1.trans (rb h2),Up.next Y h.2⟩)
    | (go_at_call_of 137 (Value.agg #[.int .i64 U.dk.pr,.int .i64 U.dk.kn,.slice a1 U.dk.sl.length k1]);rename_i Y;exact (Zal lo _ U.dk _ ⟨_,_,rfl,⟨((HL.o.below (bt HB.o Y.h)).l1)⟩⟩).mono fun _ _ h=>⟨h.1.trans (rb h3),Up.next Y h.2⟩)
    | (go_at_call 138;rename_i Y;exact (Za0 lo cs U _ (HC.o.below (bt HB.o Y.h))).mono fun _ _ h=>⟨h.1.trans (rb h4),Up.next Y h.2⟩)
    | (go_at_call 139;rename_i Y;exact (ZaL lo _ U.wi _ ((HL.o.below (bt HB.o Y.h)).l3)).mono fun _ _ h=>⟨h.1.trans (rb h5),Up.same Y h.2⟩)
    | (go_at_call 33;rename_i Y;exact (Zah _ _ _ _).mono fun _ _ h=>⟨h.1.trans (rb h6),Up.same Y h.2⟩)
    | (go_at_call 140;rename_i Y;exact (ZaF lo _ U.ye U.of _ ((HL.o.below (bt HB.o Y.h)).l4)).mono fun _ _ h=>⟨h.1.trans (rb h7),Up.same Y h.2⟩)))
  refine wpQuiet_nil ?_;intro wn hw;obtain⟨X,hX⟩:=hw;have HWN:Hd (Below Wa.heap.size Wa wn):=by unfold Hd;rw [hX];exact X.h
  clear hX X x0 x1 x2 x3 x4 x5 x6 x7 x8 x10 x14 x15 x16 x17 xs xn;go_wp2;go_ret;exact⟨Zac (by rw [HE.o,h1,h2,h3,h4,h5,h6,h7];rfl),bt HB.o HWN.o⟩
 | true=>
 cases h8:(ZaI U.be) with
 | false=>
  refine Zaf (Up Wa) (by kernel_rfl) (by kernel_rfl) (Zb_.drew) ?_
  repeat (first
   | (with_reducible refine Zao ?_ 61 (.tmp 1) (by with_reducible rfl) w.heap.size 0 (by with_unfolding_all rfl) cs _ (fun W hW=>by obtain⟨X,rfl⟩:=hW;exact (F.o.on X.h).range rfl) underlying61 (by with_unfolding_all rfl) HZ.o ?_
      . with_unfolding_all rfl
      simp only [Act.put,List.setIfInBounds_toArray,List.set_cons_zero,List.set_cons_succ])
   | go_big_quiet_step (first
    | (go_at_call 136;rename_i Y;exact (Zau _ _ _).mono fun _ _ h=>⟨h.1.trans (rb h1),Up.same Y h.2⟩)
    | (go_at_call_of 137 (Value.agg #[.int .i64 U.sf.pr,.int .i64 U.sf.kn,.slice a0 U.sf.sl.length k0]);rename_i Y;exact (Zal lo _ U.sf _ ⟨_,_,rfl,⟨((HL.o.below (bt HB.o Y.h)).l0)⟩⟩).mono fun _ _ h=>⟨h.1.trans (rb h2),Up.next Y h.2⟩)
    | (go_at_call_of 137 (Value.agg #[.int .i64 U.dk.pr,.int .i64 U.dk.kn,.slice a1 U.dk.sl.length k1]);rename_i Y;exact (Zal lo _ U.dk _ ⟨_,_,rfl,⟨((HL.o.below (bt HB.o Y.h)).l1)⟩⟩).mono fun _ _ h=>⟨h.1.trans (rb h3),Up.next Y h.2⟩)
    | (go_at_call 138;rename_i Y;exact (Za0 lo cs U _ (HC.o.below (bt HB.o Y.h))).mono fun _ _ h=>⟨h.1.trans (rb h4),Up.next Y h.2⟩)
    | (go_at_call 139;rename_i Y;exact (ZaL lo _ U.wi _ ((HL.o.below (bt HB.o Y.h)).l3)).mono fun _ _ h=>⟨h.1.trans (rb h5),Up.same Y h.2⟩)
    | (go_at_call 33;rename_i Y;exact (Zah _ _ _ _).mono fun _ _ h=>⟨h.1.trans (rb h6),Up.same Y h.2⟩)
    | (go_at_call 140;rename_i Y;exact (ZaF lo _ U.ye U.of _ ((HL.o.below (bt HB.o Y.h)).l4)).mono fun _ _ h=>⟨h.1.trans (rb h7),Up.same Y h.2⟩)
    | (go_at_call 141;rename_i Y;exact (Zav lo _ U.be _ ((HL.o.below (bt HB.o Y.h)).l5)).mono fun _ _ h=>⟨h.1.trans (rb h8),Up.next Y h.2⟩)))
  refine wpQuiet_nil ?_;intro wn hw;obtain⟨X,hX⟩:=hw;have HWN:Hd (Below Wa.heap.size Wa wn):=by unfold Hd;rw [hX];exact X.h
  clear hX X x0 x1 x2 x3 x4 x5 x6 x7 x8 x10 x14 x15 x16 x17 xs xn;go_wp2;go_ret;exact⟨Zac (by rw [HE.o,h1,h2,h3,h4,h5,h6,h7,h8];rfl),bt HB.o HWN.o⟩
 | true=>
 cases h9:(ZbH U.of U.ac) with
 | false=>
  refine Zaf (Up Wa) (by kernel_rfl) (by kernel_rfl) (Zb_.drew) ?_
  repeat (first
   | (with_reducible refine Zao ?_ 61 (.tmp 1) (by with_reducible rfl) w.heap.size 0 (by with_unfolding_all rfl) cs _ (fun W hW=>by obtain⟨X,rfl⟩:=hW;exact (F.o.on X.h).range rfl) underlying61 (by with_unfolding_all rfl) HZ.o ?_
      . with_unfolding_all rfl
      simp only [Act.put,List.setIfInBounds_toArray,List.set_cons_zero,List.set_cons_succ])
   | go_big_quiet_step (first
    | (go_at_call 136;rename_i Y;exact (Zau _ _ _).mono fun _ _ h=>⟨h.1.trans (rb h1),Up.same Y h.2⟩)
    | (go_at_call_of 137 (Value.agg #[.int .i64 U.sf.pr,.int .i64 U.sf.kn,.slice a0 U.sf.sl.length k0]);rename_i Y;exact (Zal lo _ U.sf _ ⟨_,_,rfl,⟨((HL.o.below (bt HB.o Y.h)).l0)⟩⟩).mono fun _ _ h=>⟨h.1.trans (rb h2),Up.next Y h.2⟩)
    | (go_at_call_of 137 (Value.agg #[.int .i64 U.dk.pr,.int .i64 U.dk.kn,.slice a1 U.dk.sl.length k1]);rename_i Y;exact (Zal lo _ U.dk _ ⟨_,_,rfl,⟨((HL.o.below (bt HB.o Y.h)).l1)⟩⟩).mono fun _ _ h=>⟨h.1.trans (rb h3),Up.next Y h.2⟩)
    | (go_at_call 138;rename_i Y;exact (Za0 lo cs U _ (HC.o.below (bt HB.o Y.h))).mono fun _ _ h=>⟨h.1.trans (rb h4),Up.next Y h.2⟩)
    | (go_at_call 139;rename_i Y;exact (ZaL lo _ U.wi _ ((HL.o.below (bt HB.o Y.h)).l3)).mono fun _ _ h=>⟨h.1.trans (rb h5),Up.same Y h.2⟩)
    | (go_at_call 33;rename_i Y;exact (Zah _ _ _ _).mono fun _ _ h=>⟨h.1.trans (rb h6),Up.same Y h.2⟩)
    | (go_at_call 140;rename_i Y;exact (ZaF lo _ U.ye U.of _ ((HL.o.below (bt HB.o Y.h)).l4)).mono fun _ _ h=>⟨h.1.trans (rb h7),Up.same Y h.2⟩)
    | (go_at_call 141;rename_i Y;exact (Zav lo _ U.be _ ((HL.o.below (bt HB.o Y.h)).l5)).mono fun _ _ h=>⟨h.1.trans (rb h8),Up.next Y h.2⟩)
    | (go_at_call 142;rename_i Y;exact (Zby lo _ U.ac U.of _ ((HL.o.below (bt HB.o Y.h)).l6)).mono fun _ _ h=>⟨h.1.trans (rb h9),Up.next Y h.2⟩)))
  refine wpQuiet_nil ?_;intro wn hw;obtain⟨X,hX⟩:=hw;have HWN:Hd (Below Wa.heap.size Wa wn):=by unfold Hd;rw [hX];exact X.h
  clear hX X x0 x1 x2 x3 x4 x5 x6 x7 x8 x10 x14 x15 x16 x17 xs xn;go_wp2;go_ret;exact⟨Zac (by rw [HE.o,h1,h2,h3,h4,h5,h6,h7,h8,h9];rfl),bt HB.o HWN.o⟩
 | true=>
 exact absurd HNO.o (by unfold Zgw;rw [h1,h2,h3,h4,h5,h6,h7,h8,h9];decide)
end Go.Proofs.YtdeammfdkaomlaaGreat
