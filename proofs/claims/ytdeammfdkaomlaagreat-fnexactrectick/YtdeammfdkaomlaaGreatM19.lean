import Derived.Test.YtdeammfdkaomlaaGreatM17
import Derived.Test.YtdeammfdkaomlaaGreatM18
set_option maxHeartbeats 16000000
set_option maxRecDepth 100000
open Go.Proofs.Tryz
namespace Go.Proofs.YtdeammfdkaomlaaGreat
open Go.RowKit Go.Deep
section
variable {cs:List Value} {U:Rr} {lo l u:Nat} {w w':World} {v:Value}
theorem szN (h:cs.length=18):(prog.info? 61).map (·.size)=some cs.toArray.size:=by rw [show cs.toArray.size=18 from h];exact ZaA
theorem Zjq (n of:Int) (up:Bool):Zba (nwU n of up):=by
 unfold Zba Zcx Zbn ZbJ Zbo ZaS Zb9 nwU;simp
theorem ZjR (h:ZaM U=true):0<=U.dk.kn/\U.dk.kn<=(U.dk.sl.length:Int):=by
 unfold ZaM at h;simp only [Bool.and_eq_true] at h;have h2:=h.2.2.2.1;unfold ZaW at h2;simp only [Bool.and_eq_true] at h2;have h3:=h2.2.2.1;unfold inB at h3
 simpa using h3
theorem Zcs (U:Rr) (a0:Option Addr) (k0:Nat) ( a1:Option Addr) (k1:Nat) ( a2:Option Addr) (k2:Nat) ( a3:Option Addr) (k3:Nat) ( a4:Option Addr) (k4:Nat) ( a5:Option Addr) (k5:Nat) (a6:Option Addr) (k6:Nat):(rrL U a0 k0 a1 k1 a2 k2 a3 k3 a4 k4 a5 k5 a6 k6).toArray.all (·.oneCell')=true:=by simp [rrL,Value.oneCell']
theorem Zid (n of:Int) (up:Bool):(nwL n of up).toArray.all (·.oneCell')=true:=by simp [nwL,Value.oneCell']
theorem Zad.belowB {hi:Nat} (h:Zad lo hi w w') {p:Addr} (hp:p.block < w.heap.size) (ho:hi<=p.block):w'.cell? p=w.cell? p:=h.cell hp (Or.inr ho)
theorem Zat.tup {L:List Rs} (h:Zat lo w v L) (ht:Zad l u w w') (hu:u<=lo):Zat lo w' v L:=by
 rcases h with h | ⟨b,off,cap,h1,h2,h3,h4,h5,h6,h7⟩
 . exact Or.inl h
 . refine Or.inr ⟨b,off,cap,h1,h2,h3,Zk_ h4 ht.size,h5,h6,fun i hi=>?_⟩
   obtain⟨hs,hc⟩:=h7 i hi;exact⟨hs,⟨(ht.belowB (p:=⟨b,_,none⟩) h4 (Nat.le_trans hu h5)).trans hc.c0,(ht.belowB (p:=⟨b,_,none⟩) h4 (Nat.le_trans hu h5)).trans hc.c1⟩⟩
theorem ZaR.tup {L:List Int} (h:ZaR lo w v L) (ht:Zad l u w w') (hu:u<=lo):ZaR lo w' v L:=by
 rcases h with h | ⟨b,off,cap,h1,h2,h3,h4,h5,h6,h7⟩
 . exact Or.inl h
 . exact Or.inr ⟨b,off,cap,h1,h2,h3,Zk_ h4 ht.size,h5,h6,fun i hi=>⟨(h7 i hi).1,(ht.belowB (p:=⟨b,_,none⟩) h4 (Nat.le_trans hu h5)).trans (h7 i hi).2⟩⟩
theorem Zbf.tup {L:List Zy_} (h:Zbf lo w v L) (ht:Zad l u w w') (hu:u<=lo):Zbf lo w' v L:=by
 rcases h with h | ⟨b,off,cap,h1,h2,h3,h4,h5,h6,h7⟩
 . exact Or.inl h
 . exact Or.inr ⟨b,off,cap,h1,h2,h3,Zk_ h4 ht.size,h5,h6,fun i hi=>⟨(h7 i hi).1,(ht.belowB (p:=⟨b,_,none⟩) h4 (Nat.le_trans hu h5)).trans (h7 i hi).2⟩⟩
theorem Zim {b o:Nat} (h:w.rangeAt b o cs) (ht:Zad l u w w') (hb:b < w.heap.size) (hu:u<=b):w'.rangeAt b o cs:=fun j v hv=>(ht.belowB (p:=⟨b,o+j,none⟩) hb hu).trans (h j v hv)
theorem Zbd.tup {L:List Rm} (h:Zbd lo w v L) (ht:Zad l u w w') (hu:u<=lo):Zbd lo w' v L:=by
 rcases h with h | ⟨b,off,cap,h1,h2,h3,h4,h5,h6,h7⟩
 . exact Or.inl h
 . refine Or.inr ⟨b,off,cap,h1,h2,h3,Zk_ h4 ht.size,h5,h6,fun i hi=>?_⟩
   obtain⟨cs,hr,a0,k0,e,hf⟩:=h7 i hi;exact⟨cs,Zim hr ht h4 (Nat.le_trans hu h5),a0,k0,e,⟨hf.l0.tup ht hu,hf.s0⟩⟩
theorem ZbA.tup {L:List Ra} (h:ZbA lo w v L) (ht:Zad l u w w') (hu:u<=lo):ZbA lo w' v L:=by
 rcases h with h | ⟨b,off,cap,h1,h2,h3,h4,h5,h6,h7⟩
 . exact Or.inl h
 . refine Or.inr ⟨b,off,cap,h1,h2,h3,Zk_ h4 ht.size,h5,h6,fun i hi=>?_⟩
   obtain⟨cs,hr,a0,k0,e,hf⟩:=h7 i hi;exact⟨cs,Zim hr ht h4 (Nat.le_trans hu h5),a0,k0,e,⟨hf.l0.tup ht hu⟩⟩
theorem Zgr.touchUp {v0 v1 v2 v3 v4 v5 v6:Value} (h:Zgr lo w v0 v1 v2 v3 v4 v5 v6 U) (ht:Zad l u w w') (hu:u<=lo):Zgr lo w' v0 v1 v2 v3 v4 v5 v6 U:=
 ⟨h.l0.tup ht hu,h.l1.tup ht hu,h.l2.tup ht hu,h.l3.tup ht hu,h.l4.tup ht hu,h.l5.tup ht hu,h.l6.tup ht hu⟩
end
theorem Zec (lo:Nat) (cs:List Value) (M:Rm) (of:Int) (w:World) (h:RmC lo w cs M) :
 Calls prog 172 #[.agg cs.toArray,.int .i64 of] w fun e w'=>e=.returned (.bool (Zds M of))/\Zw_ w w':=by
 obtain⟨a0,k0,rfl,h⟩:=h
 show Calls prog 172 #[.agg #[.int .i64 M.kd,.int .i64 M.fr,.int .i64 M.tt,.int .i64 M.ba,.int .i64 M.ix,.int .i64 M.kn,.string M.tx,.slice a0 M.sl.length k0],.int .i64 of] w _
 have HK:=Zaa h;have hs:=h.s0;unfold maxLen at hs;clear h
 have HI:Hd (Zds M of=(inB 1 9 M.kd&&(inB 1 of M.fr&&(inB 1 of M.tt&&(inB 0 1000000 M.ba&&(inB 0 120 M.ix&&(inB 0 120 M.kn&&(decide ((M.tx.size:Int)<=160)&&(ZaI M.sl))))))))):=by
  unfold Hd Zds;have:decide (M.tx.size<=160)=decide ((M.tx.size:Int)<=160):=by rw [decide_eq_decide];omega
  rw [this]
 have HO:∀ o,Hd (Zw_ w (w.alloc o)):=fun o=>Zab w o
 go_enter func172,ntmps172
 cases h0:inB 1 9 M.kd with
 | false=>
  have HE:Hd (Zds M of=false):=by unfold Hd;rw [HI.o,h0];rfl
  go_wp2_with (first
   | (go_at_call 33;refine (Zah _ _ _ _).mono ?_;rintro e w' ⟨rfl,rfl⟩)
   | (go_at_call 141;refine (Zav lo _ M.sl _ (HK.o.below (HO _).o).l0).mono ?_;rintro e w1 ⟨rfl,hb1⟩;have HB1:=Zaa hb1;clear hb1))
  go_ret;exact⟨Zac HE.o.symm,(HO _).o⟩
 | true=>
 cases h1:inB 1 of M.fr with
 | false=>
  have HE:Hd (Zds M of=false):=by unfold Hd;rw [HI.o,h0,h1];rfl
  go_wp2_with (first
   | (go_at_call 33;refine (Zah _ _ _ _).mono ?_;rintro e w' ⟨rfl,rfl⟩)
   | (go_at_call 141;refine (Zav lo _ M.sl _ (HK.o.below (HO _).o).l0).mono ?_;rintro e w1 ⟨rfl,hb1⟩;have HB1:=Zaa hb1;clear hb1))
  go_ret;exact⟨Zac HE.o.symm,(HO _).o⟩
 | true=>
 cases h2:inB 1 of M.tt with
 | false=>
  have HE:Hd (Zds M of=false):=by unfold Hd;rw [HI.o,h0,h1,h2];rfl
  go_wp2_with (first
   | (go_at_call 33;refine (Zah _ _ _ _).mono ?_;rintro e w' ⟨rfl,rfl⟩)
   | (go_at_call 141;refine (Zav lo _ M.sl _ (HK.o.below (HO _).o).l0).mono ?_;rintro e w1 ⟨rfl,hb1⟩;have HB1:=Zaa hb1;clear hb1))
  go_ret;exact⟨Zac HE.o.symm,(HO _).o⟩
 | true=>
 cases h3:inB 0 1000000 M.ba with
 | false=>
  have HE:Hd (Zds M of=false):=by unfold Hd;rw [HI.o,h0,h1,h2,h3];rfl
  go_wp2_with (first
   | (go_at_call 33;refine (Zah _ _ _ _).mono ?_;rintro e w' ⟨rfl,rfl⟩)
   | (go_at_call 141;refine (Zav lo _ M.sl _ (HK.o.below (HO _).o).l0).mono ?_;rintro e w1 ⟨rfl,hb1⟩;have HB1:=Zaa hb1;clear hb1))
  go_ret;exact⟨Zac HE.o.symm,(HO _).o⟩
 | true=>
 cases h4:inB 0 120 M.ix with
 | false=>
  have HE:Hd (Zds M of=false):=by unfold Hd;rw [HI.o,h0,h1,h2,h3,h4];rfl
  go_wp2_with (first
   | (go_at_call 33;refine (Zah _ _ _ _).mono ?_;rintro e w' ⟨rfl,rfl⟩)
   | (go_at_call 141;refine (Zav lo _ M.sl _ (HK.o.below (HO _).o).l0).mono ?_;rintro e w1 ⟨rfl,hb1⟩;have HB1:=Zaa hb1;clear hb1))
  go_ret;exact⟨Zac HE.o.symm,(HO _).o⟩
 | true=>
 cases h5:inB 0 120 M.kn with
 | false=>
  have HE:Hd (Zds M of=false):=by unfold Hd;rw [HI.o,h0,h1,h2,h3,h4,h5];rfl
  go_wp2_with (first
   | (go_at_call 33;refine (Zah _ _ _ _).mono ?_;rintro e w' ⟨rfl,rfl⟩)
   | (go_at_call 141;refine (Zav lo _ M.sl _ (HK.o.below (HO _).o).l0).mono ?_;rintro e w1 ⟨rfl,hb1⟩;have HB1:=Zaa hb1;clear hb1))
  go_ret;exact⟨Zac HE.o.symm,(HO _).o⟩
 | true=>
 cases h6:decide ((M.tx.size:Int)<=160) with
 | false=>
  have HE:Hd (Zds M of=false):=by unfold Hd;rw [HI.o,h0,h1,h2,h3,h4,h5,h6];rfl
  go_wp2_with (first
   | (go_at_call 33;refine (Zah _ _ _ _).mono ?_;rintro e w' ⟨rfl,rfl⟩)
   | (go_at_call 141;refine (Zav lo _ M.sl _ (HK.o.below (HO _).o).l0).mono ?_;rintro e w1 ⟨rfl,hb1⟩;have HB1:=Zaa hb1;clear hb1))
  go_ret;exact⟨Zac HE.o.symm,(HO _).o⟩
 | true=>
 have HE:Hd (Zds M of=ZaI M.sl):=by unfold Hd;rw [HI.o,h0,h1,h2,h3,h4,h5,h6];rfl
 go_wp2_with (first
  | (go_at_call 33;refine (Zah _ _ _ _).mono ?_;rintro e w' ⟨rfl,rfl⟩)
  | (go_at_call 141;refine (Zav lo _ M.sl _ (HK.o.below (HO _).o).l0).mono ?_;rintro e w1 ⟨rfl,hb1⟩;have HB1:=Zaa hb1;clear hb1))
 go_ret;exact⟨Zac HE.o.symm,bt (HO _).o HB1.o⟩
theorem Zd2 (lo:Nat) (cs:List Value) (U:Rr) (w:World) (h:RrC lo w cs U) :
 Calls prog 247 #[.agg cs.toArray] w fun e w'=>e=.returned (.bool (inB 1 U.dk.pr U.ba))/\Zw_ w w':=by
 obtain⟨-,-,-,-,-,c13,-,c6,-,-,-,-,-⟩:=Ze6 h;clear h;have HO:∀ o,Hd (Zw_ w (w.alloc o)):=fun o=>Zab w o
 go_enter func247,ntmps247;go_wp2_with (go_at_call 33;refine (Zah _ _ _ _).mono ?_;rintro e w' ⟨rfl,rfl⟩);go_ret;exact⟨rfl,(HO _).o⟩
def Zdy (U:Rr):Value:=if U.ld=true then .iface 217 (.agg #[]) else if U.ty=true then .iface 218 (.agg #[]) else .iface 219 (.agg #[])
theorem ZbM (lo:Nat) (cs:List Value) (U:Rr) (w:World) (h:RrC lo w cs U) :
 Calls prog 143 #[.agg cs.toArray] w fun e w'=>e=.returned (Zdy U)/\Zw_ w w':=by
 obtain⟨-,-,-,c11,c12,-,-,-,-,-,-,-,-⟩:=Ze6 h;clear h;have HO:∀ o,Hd (Zw_ w (w.alloc o)):=fun o=>Zab w o
 cases q1:U.ld with
 | true=>
  have HE:Hd (Zdy U=.iface 217 (.agg #[])):=by unfold Hd Zdy;rw [q1];rfl
  rw [q1] at c11;go_enter func143,ntmps143;go_wp2;go_ret;exact⟨by rw [HE.o];rfl,(HO _).o⟩
 | false=>
  rw [q1] at c11
  cases q2:U.ty with
  | true=>
   have HE:Hd (Zdy U=.iface 218 (.agg #[])):=by unfold Hd Zdy;rw [q1,q2];rfl
   rw [q2] at c12;go_enter func143,ntmps143;go_wp2;go_ret;exact⟨by rw [HE.o];rfl,(HO _).o⟩
  | false=>
   have HE:Hd (Zdy U=.iface 219 (.agg #[])):=by unfold Hd Zdy;rw [q1,q2];rfl
   rw [q2] at c12;go_enter func143,ntmps143;go_wp2;go_ret;exact⟨by rw [HE.o];rfl,(HO _).o⟩
def zB (n:Nat):Bool:=((n:Int) == 0)
def Zhi (U:Rr):Bool:=!U.ty&&(inB 1 U.dk.pr U.ba&&(zB U.ye.length&&zB U.be.length))
def ZkE (U:Rr):Bool:=inB 1 U.dk.pr U.ba&&zB U.ac.length
def ZeJ (U:Rr):Bool:=U.ba == 0&&(zB U.ye.length&&(zB U.be.length&&zB U.ac.length))
def ZdO (U:Rr):Bool:=!U.ld&&(!U.ty&&(zB U.he.length&&(zB U.wi.length&&U.hd == 0)))
def Zcu (U:Rr):Bool:=if U.ld then Zhi U else if U.ty then ZkE U else ZeJ U
theorem Zdw (lo:Nat) (cs:List Value) (U:Rr) (w:World) (h:RrC lo w cs U) :
 Calls prog 249 #[.agg #[],.agg cs.toArray] w fun e w'=>e=.returned (.bool (ZeJ U))/\Zw_ w w':=by
 obtain⟨-,-,-,-,-,c13,-,-,-,-,⟨a4,k4,c14⟩,⟨a5,k5,c15⟩,⟨a6,k6,c16⟩⟩:=Ze6 h;clear h;have HE:Hd (ZeJ U=(U.ba == 0&&(zB U.ye.length&&(zB U.be.length&&zB U.ac.length)))):=rfl;have HO:∀ o o',Hd (Zw_ w ((w.alloc o).alloc o')):=fun o o'=>(Zab w o).alloc (by simp) o'
 obtain⟨nye,hnye⟩:∃ n:Nat,n=U.ye.length:=⟨_,rfl⟩
 rw [<- hnye] at c14;have HNye:=Zaa hnye;clear hnye;obtain⟨nbe,hnbe⟩:∃ n:Nat,n=U.be.length:=⟨_,rfl⟩
 rw [<- hnbe] at c15;have HNbe:=Zaa hnbe;clear hnbe;obtain⟨nac,hnac⟩:∃ n:Nat,n=U.ac.length:=⟨_,rfl⟩
 rw [<- hnac] at c16;have HNac:=Zaa hnac;clear hnac
 cases q1:(U.ba == 0) with
 | false=>
  go_enter func249,ntmps249;go_wp2;go_ret;exact⟨Zac (by rw [HE.o,q1];rfl),(HO _ _).o⟩
 | true=>
 cases q2:((nye:Int) == 0) with
 | false=>
  go_enter func249,ntmps249;go_wp2;go_ret;exact⟨Zac (by rw [HE.o,q1,<- HNye.o,zB,q2];rfl),(HO _ _).o⟩
 | true=>
 cases q3:((nbe:Int) == 0) with
 | false=>
  go_enter func249,ntmps249;go_wp2;go_ret;exact⟨Zac (by rw [HE.o,q1,<- HNye.o,zB,q2,<- HNbe.o,zB,q3];rfl),(HO _ _).o⟩
 | true=>
  go_enter func249,ntmps249;go_wp2;go_ret;exact⟨Zac (by rw [HE.o,q1,<- HNye.o,zB,q2,<- HNbe.o,zB,q3,<- HNac.o];rfl),(HO _ _).o⟩
theorem ZdE (lo:Nat) (cs:List Value) (U:Rr) (w:World) (h:RrC lo w cs U) :
 Calls prog 144 #[.agg cs.toArray] w fun e w'=>e=.returned (.bool (ZdO U))/\Zw_ w w':=by
 obtain⟨-,-,-,c11,c12,-,c17,-,⟨a2,k2,c9⟩,⟨a3,k3,c10⟩,-,-,-⟩:=Ze6 h;clear h;have HE:Hd (ZdO U=(!U.ld&&(!U.ty&&(zB U.he.length&&(zB U.wi.length&&U.hd == 0))))):=rfl;have HO:∀ o,Hd (Zw_ w (w.alloc o)):=fun o=>Zab w o
 obtain⟨nhe,hnhe⟩:∃ n:Nat,n=U.he.length:=⟨_,rfl⟩
 rw [<- hnhe] at c9;have HNhe:=Zaa hnhe;clear hnhe;obtain⟨nwi,hnwi⟩:∃ n:Nat,n=U.wi.length:=⟨_,rfl⟩
 rw [<- hnwi] at c10;have HNwi:=Zaa hnwi;clear hnwi
 cases q1:U.ld with
 | true=>
  rw [q1] at c11;go_enter func144,ntmps144;go_wp2;go_ret;exact⟨Zac (by rw [HE.o,q1];rfl),(HO _).o⟩
 | false=>
 rw [q1] at c11
 cases q2:U.ty with
 | true=>
  rw [q2] at c12;go_enter func144,ntmps144;go_wp2;go_ret;exact⟨Zac (by rw [HE.o,q1,q2];rfl),(HO _).o⟩
 | false=>
 rw [q2] at c12
 cases q3:((nhe:Int) == 0) with
 | false=>
  go_enter func144,ntmps144;go_wp2;go_ret;exact⟨Zac (by rw [HE.o,q1,q2,<- HNhe.o,zB,q3];rfl),(HO _).o⟩
 | true=>
 cases q4:((nwi:Int) == 0) with
 | false=>
  go_enter func144,ntmps144;go_wp2;go_ret;exact⟨Zac (by rw [HE.o,q1,q2,<- HNhe.o,zB,q3,<- HNwi.o,zB,q4];rfl),(HO _).o⟩
 | true=>
  go_enter func144,ntmps144;go_wp2;go_ret;exact⟨Zac (by rw [HE.o,q1,q2,<- HNhe.o,zB,q3,<- HNwi.o,zB,q4];rfl),(HO _).o⟩
theorem Ze8 (lo:Nat) (cs:List Value) (U:Rr) (w:World) (h:RrC lo w cs U) :
 Calls prog 248 #[.agg #[],.agg cs.toArray] w fun e w'=>e=.returned (.bool (ZkE U))/\Zw_ w w':=by
 have HC:=Zaa h;obtain⟨-,-,-,-,-,-,-,-,-,-,-,-,⟨a6,k6,c16⟩⟩:=Ze6 h;clear h;have HE:Hd (ZkE U=(inB 1 U.dk.pr U.ba&&zB U.ac.length)):=rfl;have HO:∀ o o',Hd (Zw_ w ((w.alloc o).alloc o')):=fun o o'=>(Zab w o).alloc (by simp) o'
 have HZ:Hd ((prog.info? 61).map (·.size)=some cs.length):=by unfold Hd;rw [HC.o.len];exact ZaA
 obtain⟨nac,hnac⟩:∃ n:Nat,n=U.ac.length:=⟨_,rfl⟩
 rw [<- hnac] at c16;have HNac:=Zaa hnac;clear hnac;have HC16:=Zaa c16;clear c16;go_enter func248,ntmps248;go_wp2_with (first|(with_reducible refine wpList_load_mid (by with_reducible rfl) 61 (.tmp 3) (by with_reducible rfl) (w.heap.size+1) 0 (by with_unfolding_all rfl) cs _ ((Box.new _ _ _ _ (by simp)).range rfl) underlying61 (by with_unfolding_all rfl) HZ.o ?_)|(with_reducible refine ZaY (by with_unfolding_all rfl) 61 (.tmp 3) (by with_reducible rfl) (w.heap.size+1) 0 (by with_unfolding_all rfl) cs _ ((Box.new _ _ _ _ (by simp)).range rfl) underlying61 (by with_unfolding_all rfl) HZ.o ?_));refine (Zd2 lo cs U _ (HC.o.below (HO _ _).o)).mono ?_;rintro e w1 ⟨rfl,hb1⟩;have F1:Hd (Box w1 (w.heap.size+1) cs.toArray):=(Box.new _ _ _ _ (by simp)).on hb1;have HB1:Hd (Zw_ w w1):=bt (HO _ _).o hb1;clear hb1
 cases q1:inB 1 U.dk.pr U.ba with
 | false=>
  go_wp2;go_ret;exact⟨Zac (by rw [HE.o,q1];rfl),HB1.o⟩
 | true=>
  have g16:w1.cell? ⟨w.heap.size+1,16,none⟩=some (.slice a6 nac k6):=by rw [F1.o.cell _,List.getElem?_toArray];exact HC16.o
  go_wp2;go_ret;exact⟨Zac (by rw [HE.o,q1,<- HNac.o];rfl),HB1.o⟩
theorem Zee (lo:Nat) (cs:List Value) (U:Rr) (w:World) (h:RrC lo w cs U) :
 Calls prog 246 #[.agg #[],.agg cs.toArray] w fun e w'=>e=.returned (.bool (Zhi U))/\Zw_ w w':=by
 have HC:=Zaa h;obtain⟨-,-,-,-,c12,-,-,-,-,-,⟨a4,k4,c14⟩,⟨a5,k5,c15⟩,-⟩:=Ze6 h;clear h;have HE:Hd (Zhi U=(!U.ty&&(inB 1 U.dk.pr U.ba&&(zB U.ye.length&&zB U.be.length)))):=rfl;have HO:∀ o o',Hd (Zw_ w ((w.alloc o).alloc o')):=fun o o'=>(Zab w o).alloc (by simp) o'
 have HZ:Hd ((prog.info? 61).map (·.size)=some cs.length):=by unfold Hd;rw [HC.o.len];exact ZaA
 obtain⟨nye,hnye⟩:∃ n:Nat,n=U.ye.length:=⟨_,rfl⟩
 rw [<- hnye] at c14;have HNye:=Zaa hnye;clear hnye;obtain⟨nbe,hnbe⟩:∃ n:Nat,n=U.be.length:=⟨_,rfl⟩
 rw [<- hnbe] at c15;have HNbe:=Zaa hnbe;clear hnbe;have HC14:=Zaa c14;have HC15:=Zaa c15;clear c14 c15
 cases q0:U.ty with
 | true=>
  rw [q0] at c12;go_enter func246,ntmps246;go_wp2;go_ret;exact⟨Zac (by rw [HE.o,q0];rfl),(HO _ _).o⟩
 | false=>
 rw [q0] at c12;go_enter func246,ntmps246;go_wp2_with (first|(with_reducible refine wpList_load_mid (by with_reducible rfl) 61 (.tmp 3) (by with_reducible rfl) (w.heap.size+1) 0 (by with_unfolding_all rfl) cs _ ((Box.new _ _ _ _ (by simp)).range rfl) underlying61 (by with_unfolding_all rfl) HZ.o ?_)|(with_reducible refine ZaY (by with_unfolding_all rfl) 61 (.tmp 3) (by with_reducible rfl) (w.heap.size+1) 0 (by with_unfolding_all rfl) cs _ ((Box.new _ _ _ _ (by simp)).range rfl) underlying61 (by with_unfolding_all rfl) HZ.o ?_));refine (Zd2 lo cs U _ (HC.o.below (HO _ _).o)).mono ?_;rintro e w1 ⟨rfl,hb1⟩;have F1:Hd (Box w1 (w.heap.size+1) cs.toArray):=(Box.new _ _ _ _ (by simp)).on hb1;have HB1:Hd (Zw_ w w1):=bt (HO _ _).o hb1;clear hb1
 cases q1:inB 1 U.dk.pr U.ba with
 | false=>
  go_wp2;go_ret;exact⟨Zac (by rw [HE.o,q0,q1];rfl),HB1.o⟩
 | true=>
  have g14:w1.cell? ⟨w.heap.size+1,14,none⟩=some (.slice a4 nye k4):=by rw [F1.o.cell _,List.getElem?_toArray];exact HC14.o
  have g15:w1.cell? ⟨w.heap.size+1,15,none⟩=some (.slice a5 nbe k5):=by rw [F1.o.cell _,List.getElem?_toArray];exact HC15.o
  cases q2:((nye:Int) == 0) with
  | false=>
   go_wp2;go_ret;exact⟨Zac (by rw [HE.o,q0,q1,<- HNye.o,zB,q2];rfl),HB1.o⟩
  | true=>
   go_wp2;go_ret;exact⟨Zac (by rw [HE.o,q0,q1,<- HNye.o,zB,q2,<- HNbe.o];rfl),HB1.o⟩
end Go.Proofs.YtdeammfdkaomlaaGreat
