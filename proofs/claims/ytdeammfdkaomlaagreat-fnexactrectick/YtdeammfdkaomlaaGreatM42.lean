import Derived.Test.YtdeammfdkaomlaaGreatM41
set_option maxHeartbeats 16000000
set_option maxRecDepth 100000
open Go.Proofs.Tryz
namespace Go.Proofs.YtdeammfdkaomlaaGreat
open Go.RowKit Go.Deep
section
variable {lo hi lo' hi':Nat} {w w':World} {cs:List Value} {U:Rr}
def Za8 (T:Nat->Prop) (lo hi:Nat) (w:World) (cs:List Value) (U:Rr):Prop:=∃ a0 k0 a1 k1 a2 k2 a3 k3 a4 k4 a5 k5 a6 k6 S,cs=rrL U a0 k0 a1 k1 a2 k2 a3 k3 a4 k4 a5 k5 a6 k6/\ZkY lo hi w S (.slice a0 U.sf.sl.length k0) (.slice a1 U.dk.sl.length k1) (.slice a2 U.he.length k2) (.slice a3 U.wi.length k3) (.slice a4 U.ye.length k4) (.slice a5 U.be.length k5) (.slice a6 U.ac.length k6) U/\∀ i,i < 7->∀ k,S i k->T k
theorem Za8.own {T:Nat->Prop} (h:Za8 T lo hi w cs U):Zfb lo hi w cs U:=by
 obtain⟨a0,k0,a1,k1,a2,k2,a3,k3,a4,k4,a5,k5,a6,k6,S,h1,h2,_⟩:=h;exact⟨a0,k0,a1,k1,a2,k2,a3,k3,a4,k4,a5,k5,a6,k6,S,h1,h2⟩
theorem Za8.kept {T K:Nat->Prop} (h:Za8 T lo hi w cs U) (hk:Zag K w w') (ho:∀ k,lo<=k->k < hi->T k->K k):Za8 T lo hi w' cs U:=by
 obtain⟨a0,k0,a1,k1,a2,k2,a3,k3,a4,k4,a5,k5,a6,k6,S,h1,h,ht⟩:=h;have hh:∀ i,i < 7->∀ k,S i k->K k:=fun i hi k hs=>ho k (h.seg i hi k hs).1 (h.seg i hi k hs).2 (ht i hi k hs)
 exact⟨a0,k0,a1,k1,a2,k2,a3,k3,a4,k4,a5,k5,a6,k6,S,h1,⟨Nat.le_trans h.top hk.size,h.seg,h.ap,h.o0.kept hk (hh 0 (by decide)),h.o1.kept hk (hh 1 (by decide)),h.o2.kept hk (hh 2 (by decide)),h.o3.kept hk (hh 3 (by decide)),h.o4.kept hk (hh 4 (by decide)),h.o5.kept hk (hh 5 (by decide)),h.o6.kept hk (hh 6 (by decide))⟩,ht⟩
theorem Za8.top {T:Nat->Prop} (h:Za8 T lo hi w cs U):hi<=w.heap.size:=by
 obtain⟨a0,k0,a1,k1,a2,k2,a3,k3,a4,k4,a5,k5,a6,k6,S,h1,h2,h3⟩:=h;exact h2.top
theorem Za8.below {T:Nat->Prop} (h:Za8 T lo hi w cs U) (hb:Zw_ w w'):Za8 T lo hi w' cs U:=
 h.kept (Zag.below hb (fun _ h=>h)) (fun _ _ h2 _=>Zk_ h2 h.top)
theorem Za8.touch {T:Nat->Prop} (h:Za8 T lo hi w cs U) (ht:Zad lo' hi' w w') (ho:hi<=lo'\/hi'<=lo):Za8 T lo hi w' cs U:=
 h.kept (K:=fun k=>k < w.heap.size/\(k < lo'\/hi'<=k)) (Zag.touch ht (fun _ h=>h)) (fun k h1 h2 _=>by have:=h.top;omega)
theorem Za8.at {T:Nat->Prop} (h:Za8 T lo hi w cs U):RrC lo w cs U:=h.own.at
theorem Za8.wide {T T':Nat->Prop} (h:Za8 T lo hi w cs U) (h1:lo'<=lo) (h2:hi<=hi') (h3:hi'<=w.heap.size) (h4:∀ k,lo<=k->k < hi->T k->T' k):Za8 T' lo' hi' w cs U:=by
 obtain⟨a0,k0,a1,k1,a2,k2,a3,k3,a4,k4,a5,k5,a6,k6,S,e,h,ht⟩:=h;exact⟨a0,k0,a1,k1,a2,k2,a3,k3,a4,k4,a5,k5,a6,k6,S,e,⟨h3,fun i hi k hk=>by have:=h.seg i hi k hk;omega,h.ap,h.o0,h.o1,h.o2,h.o3,h.o4,h.o5,h.o6⟩,fun i hi k hk=>h4 k (h.seg i hi k hk).1 (h.seg i hi k hk).2 (ht i hi k hk)⟩
theorem Rz.ownT {K:Nat->Prop}{γ:Nat}{b:Nat->Option Addr}{m:Nat->Nat}{S:Nat->Nat->Prop} (h:Rz K lo w γ b m S U) (hz:RrZ U):Za8 (fun k=>¬ K k/\k≠γ) lo w.heap.size w (rrF U b m) U:=
 ⟨b 0,m 0,b 1,m 1,b 2,m 2,b 3,m 3,b 4,m 4,b 5,m 5,b 6,m 6,S,rfl,h.cp.own hz,fun i hi k hs=>⟨fun hk=>(h.prot k hk).2.2 i hi hs,fun e=>h.far i hi (e ▸ hs)⟩⟩
theorem Zei (T:Nat->Prop) (lo hi:Nat) (cs:List Value) (U:Rr) (k:Int) (w:World) (h:Za8 T lo hi w cs U) (hn:Zba U) (h0:0<=k) (hk:k<=1000000000000000) :
 Calls prog 20 #[.agg cs.toArray,.int .i64 k] w fun e w'=>e=.returned (.int .i64 (kR7 k U))/\Zaj T w w'/\Za8 T lo hi w' cs (Ze9 k U):=by
 have HN:=Zaa hn;obtain⟨b1,b2,b3,b4,b5,b6,b7⟩:=Zji hn h0 hk;have w3:=hn.2.2.2.1;have w4:=hn.2.2.2.2.1;unfold Zbo at w3;unfold ZaS at w4;obtain⟨a0,k0,a1,k1,a2,k2,a3,k3,a4,k4,a5,k5,a6,k6,S,hcs,h,hT⟩:=h;have HTT:=Zaa hT;clear hT;have c3:cs[3]?=some (.int .i64 U.sf.pr):=by rw [hcs];rfl
 have c4:cs[4]?=some (.int .i64 U.sf.kn):=by rw [hcs];rfl
 have c5:cs[5]?=some (.slice a0 U.sf.sl.length k0):=by rw [hcs];rfl
 have c6:cs[6]?=some (.int .i64 U.dk.pr):=by rw [hcs];rfl
 have c7:cs[7]?=some (.int .i64 U.dk.kn):=by rw [hcs];rfl
 have c8:cs[8]?=some (.slice a1 U.dk.sl.length k1):=by rw [hcs];rfl
 have c9:cs[9]?=some (.slice a2 U.he.length k2):=by rw [hcs];rfl
 have c10:cs[10]?=some (.slice a3 U.wi.length k3):=by rw [hcs];rfl
 have c14:cs[14]?=some (.slice a4 U.ye.length k4):=by rw [hcs];rfl
 have c15:cs[15]?=some (.slice a5 U.be.length k5):=by rw [hcs];rfl
 have c16:cs[16]?=some (.slice a6 U.ac.length k6):=by rw [hcs];rfl
 have HTP:=Zaa h.top;have HSG:=Zaa h.seg;have HAP:=Zaa h.ap;have HCS:=Zaa hcs;obtain⟨l0,u0,s0,o0⟩:=h.o0;have S0:=Zaa s0;have O0:=Zaa o0;clear o0 s0;obtain⟨l1,u1,s1,o1⟩:=h.o1;have S1:=Zaa s1;have O1:=Zaa o1;clear o1 s1;have o2:=h.o2;have O2:=Zaa o2;clear o2;obtain⟨l3,u3,s3,o3⟩:=h.o3;have S3:=Zaa s3;have O3:=Zaa o3;clear o3 s3;obtain⟨l4,u4,s4,o4⟩:=h.o4;have S4:=Zaa s4;have O4:=Zaa o4;clear o4 s4;obtain⟨l5,u5,s5,o5⟩:=h.o5;have S5:=Zaa s5;have O5:=Zaa o5;clear o5 s5;have o6:=h.o6;have O6:=Zaa o6;clear o6;clear h hcs hn;have HKS:Hd (∀ (W:World) i j,w.heap.size<=W.heap.size->i < 7->j < 7->i≠j->∀ k,S i k->k < W.heap.size/\¬ S j k):=fun W i j hW hi hj hne k hS=>⟨by have:=HSG.o i hi k hS;have:=HTP.o;omega,HAP.o i j hi hj hne k hS⟩
 have HKB:Hd (∀ (W:World) i,w.heap.size<=W.heap.size->i < 7->∀ k,S i k->k < W.heap.size):=fun W i hW hi k hS=>by have:=HSG.o i hi k hS;have:=HTP.o;omega
 go_enter func20,ntmps20;go_wp2_with fail;generalize hWa:w.alloc _=Wa;have HB:Hd (Zw_ w Wa):=by unfold Hd;rw [<- hWa];exact (Zab w _)
 have F:Hd (Box Wa w.heap.size cs.toArray):=by unfold Hd;rw [<- hWa];exact (Box.new _ _ _ _ rfl)
 have hz:w.heap.size<=Wa.heap.size:=HB.o.size;clear hWa;have HT:Hd (Zaj T w Wa):=Zaj.below HB.o;replace O0:=Zaa (O0.o.below HB.o);replace O1:=Zaa (O1.o.below HB.o);replace O2:=Zaa (O2.o.kept (Zag.below HB.o (fun _ h=>h)) (HKB.o _ 2 Zl_ (by decide)));replace O3:=Zaa (O3.o.below HB.o);replace O4:=Zaa (O4.o.below HB.o);replace O5:=Zaa (O5.o.below HB.o);replace O6:=Zaa (O6.o.kept (Zag.below HB.o (fun _ h=>h)) (HKB.o _ 6 Zl_ (by decide)));refine (Zeg l0 u0 a0 k0 U.sf (kR0 k U) _ O0.o HN.o.1 (show (0:Int)<=kR0 k U from h0) (show kR0 k U<=2000000000000000000 from Int.le_trans hk (by decide))).mono ?_;rintro e w11 ⟨rfl,ht,ho⟩;rw [show kR0 k U+(Zbr U.sf.sl U.sf.sl.length:Int)=kR1 k U from rfl];have hts:Zaj (S 0) Wa w11:=ht.toS S0.o
 have hkp:Zag (fun k=>k < Wa.heap.size/\¬ S 0 k) Wa w11:=Zag.touchS hts (fun _ h=>h);have hz0:w.heap.size<=w11.heap.size:=Nat.le_trans hz hts.size;replace HT:Hd (Zaj T w w11):=HT.o.trans (hts.wide (HTT.o 0 (by decide)));replace F:=Zaa (F.o.kept hkp ⟨F.o.lt,fun hS=>by have:=HSG.o 0 (by decide) _ hS;have:=HTP.o;omega⟩);replace O1:=Zaa (O1.o.kept hkp (fun k h1 h2=>HKS.o Wa 1 0 hz (by decide) (by decide) (by decide) k (S1.o k h1 h2)));replace O2:=Zaa (O2.o.kept hkp (HKS.o Wa 2 0 hz (by decide) (by decide) (by decide)));replace O3:=Zaa (O3.o.kept hkp (fun k h1 h2=>HKS.o Wa 3 0 hz (by decide) (by decide) (by decide) k (S3.o k h1 h2)));replace O4:=Zaa (O4.o.kept hkp (fun k h1 h2=>HKS.o Wa 4 0 hz (by decide) (by decide) (by decide) k (S4.o k h1 h2)))
 replace O5:=Zaa (O5.o.kept hkp (fun k h1 h2=>HKS.o Wa 5 0 hz (by decide) (by decide) (by decide) k (S5.o k h1 h2)));replace O6:=Zaa (O6.o.kept hkp (HKS.o Wa 6 0 hz (by decide) (by decide) (by decide)));clear O0 ht hts hkp hz;have O0:=Zaa ho;have hz:=hz0;clear ho hz0;have g6:w11.cell? ⟨w.heap.size,6,none⟩=some (.int .i64 U.dk.pr):=by rw [F.o.cell 6,List.getElem?_toArray];exact c6
 have g7:w11.cell? ⟨w.heap.size,7,none⟩=some (.int .i64 U.dk.kn):=by rw [F.o.cell 7,List.getElem?_toArray];exact c7
 have g8:w11.cell? ⟨w.heap.size,8,none⟩=some (.slice a1 U.dk.sl.length k1):=by rw [F.o.cell 8,List.getElem?_toArray];exact c8
 go_wp2_with fail;clear g6 g7 g8;refine (Zeg l1 u1 a1 k1 U.dk (kR1 k U) _ O1.o HN.o.2.1 (by omega) (by omega)).mono ?_;rintro e w12 ⟨rfl,ht,ho⟩;rw [show kR1 k U+(Zbr U.dk.sl U.dk.sl.length:Int)=kR2 k U from rfl];have hts:Zaj (S 1) w11 w12:=ht.toS S1.o;have hkp:Zag (fun k=>k < w11.heap.size/\¬ S 1 k) w11 w12:=Zag.touchS hts (fun _ h=>h);have hz1:w.heap.size<=w12.heap.size:=Nat.le_trans hz hts.size;replace HT:Hd (Zaj T w w12):=HT.o.trans (hts.wide (HTT.o 1 (by decide)));replace F:=Zaa (F.o.kept hkp ⟨F.o.lt,fun hS=>by have:=HSG.o 1 (by decide) _ hS;have:=HTP.o;omega⟩);replace O0:=Zaa (O0.o.kept hkp (fun k h1 h2=>HKS.o w11 0 1 hz (by decide) (by decide) (by decide) k (S0.o k h1 h2)));replace O2:=Zaa (O2.o.kept hkp (HKS.o w11 2 1 hz (by decide) (by decide) (by decide)))
 replace O3:=Zaa (O3.o.kept hkp (fun k h1 h2=>HKS.o w11 3 1 hz (by decide) (by decide) (by decide) k (S3.o k h1 h2)));replace O4:=Zaa (O4.o.kept hkp (fun k h1 h2=>HKS.o w11 4 1 hz (by decide) (by decide) (by decide) k (S4.o k h1 h2)));replace O5:=Zaa (O5.o.kept hkp (fun k h1 h2=>HKS.o w11 5 1 hz (by decide) (by decide) (by decide) k (S5.o k h1 h2)));replace O6:=Zaa (O6.o.kept hkp (HKS.o w11 6 1 hz (by decide) (by decide) (by decide)));clear O1 ht hts hkp hz;have O1:=Zaa ho;have hz:=hz1;clear ho hz1;have g9:w12.cell? ⟨w.heap.size,9,none⟩=some (.slice a2 U.he.length k2):=by rw [F.o.cell 9,List.getElem?_toArray];exact c9
 go_wp2_with fail;clear g9;refine (ZdJ (S 2) _ U.he (kR2 k U) _ O2.o HN.o.2.2.1 (by omega) (by omega)).mono ?_;rintro e w13 ⟨rfl,ht,ho⟩;rw [show kR2 k U+(ZbX U.he U.he.length:Int)=kR3 k U from rfl];have hts:Zaj (S 2) w12 w13:=ht;have hkp:Zag (fun k=>k < w12.heap.size/\¬ S 2 k) w12 w13:=Zag.touchS hts (fun _ h=>h);have hz2:w.heap.size<=w13.heap.size:=Nat.le_trans hz hts.size;replace HT:Hd (Zaj T w w13):=HT.o.trans (hts.wide (HTT.o 2 (by decide)));replace F:=Zaa (F.o.kept hkp ⟨F.o.lt,fun hS=>by have:=HSG.o 2 (by decide) _ hS;have:=HTP.o;omega⟩);replace O0:=Zaa (O0.o.kept hkp (fun k h1 h2=>HKS.o w12 0 2 hz (by decide) (by decide) (by decide) k (S0.o k h1 h2)));replace O1:=Zaa (O1.o.kept hkp (fun k h1 h2=>HKS.o w12 1 2 hz (by decide) (by decide) (by decide) k (S1.o k h1 h2)))
 replace O3:=Zaa (O3.o.kept hkp (fun k h1 h2=>HKS.o w12 3 2 hz (by decide) (by decide) (by decide) k (S3.o k h1 h2)));replace O4:=Zaa (O4.o.kept hkp (fun k h1 h2=>HKS.o w12 4 2 hz (by decide) (by decide) (by decide) k (S4.o k h1 h2)));replace O5:=Zaa (O5.o.kept hkp (fun k h1 h2=>HKS.o w12 5 2 hz (by decide) (by decide) (by decide) k (S5.o k h1 h2)));replace O6:=Zaa (O6.o.kept hkp (HKS.o w12 6 2 hz (by decide) (by decide) (by decide)));clear O2 ht hts hkp hz;have O2:=Zaa ho;have hz:=hz2;clear ho hz2;have g10:w13.cell? ⟨w.heap.size,10,none⟩=some (.slice a3 U.wi.length k3):=by rw [F.o.cell 10,List.getElem?_toArray];exact c10
 go_wp2_with fail;clear g10;refine (Zf4 l3 u3 _ U.wi (kR3 k U) _ O3.o (by omega) (by omega)).mono ?_;rintro e w14 ⟨rfl,ht,ho⟩;rw [show kR3 k U+(U.wi.length:Int)=kR4 k U from rfl];have hts:Zaj (S 3) w13 w14:=ht.toS S3.o;have hkp:Zag (fun k=>k < w13.heap.size/\¬ S 3 k) w13 w14:=Zag.touchS hts (fun _ h=>h);have hz3:w.heap.size<=w14.heap.size:=Nat.le_trans hz hts.size;replace HT:Hd (Zaj T w w14):=HT.o.trans (hts.wide (HTT.o 3 (by decide)));replace F:=Zaa (F.o.kept hkp ⟨F.o.lt,fun hS=>by have:=HSG.o 3 (by decide) _ hS;have:=HTP.o;omega⟩);replace O0:=Zaa (O0.o.kept hkp (fun k h1 h2=>HKS.o w13 0 3 hz (by decide) (by decide) (by decide) k (S0.o k h1 h2)));replace O1:=Zaa (O1.o.kept hkp (fun k h1 h2=>HKS.o w13 1 3 hz (by decide) (by decide) (by decide) k (S1.o k h1 h2)))
 replace O2:=Zaa (O2.o.kept hkp (HKS.o w13 2 3 hz (by decide) (by decide) (by decide)));replace O4:=Zaa (O4.o.kept hkp (fun k h1 h2=>HKS.o w13 4 3 hz (by decide) (by decide) (by decide) k (S4.o k h1 h2)));replace O5:=Zaa (O5.o.kept hkp (fun k h1 h2=>HKS.o w13 5 3 hz (by decide) (by decide) (by decide) k (S5.o k h1 h2)));replace O6:=Zaa (O6.o.kept hkp (HKS.o w13 6 3 hz (by decide) (by decide) (by decide)));clear O3 ht hts hkp hz;have O3:=Zaa ho;have hz:=hz3;clear ho hz3;have g14:w14.cell? ⟨w.heap.size,14,none⟩=some (.slice a4 U.ye.length k4):=by rw [F.o.cell 14,List.getElem?_toArray];exact c14
 go_wp2_with fail;clear g14;refine (Zeh l4 u4 _ U.ye (kR4 k U) _ O4.o (by omega) (by omega)).mono ?_;rintro e w15 ⟨rfl,ht,ho⟩;rw [show kR4 k U+(U.ye.length:Int)=kR5 k U from rfl];have hts:Zaj (S 4) w14 w15:=ht.toS S4.o;have hkp:Zag (fun k=>k < w14.heap.size/\¬ S 4 k) w14 w15:=Zag.touchS hts (fun _ h=>h);have hz4:w.heap.size<=w15.heap.size:=Nat.le_trans hz hts.size;replace HT:Hd (Zaj T w w15):=HT.o.trans (hts.wide (HTT.o 4 (by decide)));replace F:=Zaa (F.o.kept hkp ⟨F.o.lt,fun hS=>by have:=HSG.o 4 (by decide) _ hS;have:=HTP.o;omega⟩);replace O0:=Zaa (O0.o.kept hkp (fun k h1 h2=>HKS.o w14 0 4 hz (by decide) (by decide) (by decide) k (S0.o k h1 h2)));replace O1:=Zaa (O1.o.kept hkp (fun k h1 h2=>HKS.o w14 1 4 hz (by decide) (by decide) (by decide) k (S1.o k h1 h2)))
 replace O2:=Zaa (O2.o.kept hkp (HKS.o w14 2 4 hz (by decide) (by decide) (by decide)));replace O3:=Zaa (O3.o.kept hkp (fun k h1 h2=>HKS.o w14 3 4 hz (by decide) (by decide) (by decide) k (S3.o k h1 h2)));replace O5:=Zaa (O5.o.kept hkp (fun k h1 h2=>HKS.o w14 5 4 hz (by decide) (by decide) (by decide) k (S5.o k h1 h2)));replace O6:=Zaa (O6.o.kept hkp (HKS.o w14 6 4 hz (by decide) (by decide) (by decide)));clear O4 ht hts hkp hz;have O4:=Zaa ho;have hz:=hz4;clear ho hz4;have g15:w15.cell? ⟨w.heap.size,15,none⟩=some (.slice a5 U.be.length k5):=by rw [F.o.cell 15,List.getElem?_toArray];exact c15
 go_wp2_with fail;clear g15;refine (ZcW l5 u5 _ U.be (kR5 k U) _ O5.o HN.o.2.2.2.2.2.1 (by omega) (by omega)).mono ?_;rintro e w16 ⟨rfl,ht,ho⟩;rw [show kR5 k U+(Zbr U.be U.be.length:Int)=kR6 k U from rfl];have hts:Zaj (S 5) w15 w16:=ht.toS S5.o;have hkp:Zag (fun k=>k < w15.heap.size/\¬ S 5 k) w15 w16:=Zag.touchS hts (fun _ h=>h);have hz5:w.heap.size<=w16.heap.size:=Nat.le_trans hz hts.size;replace HT:Hd (Zaj T w w16):=HT.o.trans (hts.wide (HTT.o 5 (by decide)));replace F:=Zaa (F.o.kept hkp ⟨F.o.lt,fun hS=>by have:=HSG.o 5 (by decide) _ hS;have:=HTP.o;omega⟩);replace O0:=Zaa (O0.o.kept hkp (fun k h1 h2=>HKS.o w15 0 5 hz (by decide) (by decide) (by decide) k (S0.o k h1 h2)));replace O1:=Zaa (O1.o.kept hkp (fun k h1 h2=>HKS.o w15 1 5 hz (by decide) (by decide) (by decide) k (S1.o k h1 h2)))
 replace O2:=Zaa (O2.o.kept hkp (HKS.o w15 2 5 hz (by decide) (by decide) (by decide)));replace O3:=Zaa (O3.o.kept hkp (fun k h1 h2=>HKS.o w15 3 5 hz (by decide) (by decide) (by decide) k (S3.o k h1 h2)));replace O4:=Zaa (O4.o.kept hkp (fun k h1 h2=>HKS.o w15 4 5 hz (by decide) (by decide) (by decide) k (S4.o k h1 h2)));replace O6:=Zaa (O6.o.kept hkp (HKS.o w15 6 5 hz (by decide) (by decide) (by decide)));clear O5 ht hts hkp hz;have O5:=Zaa ho;have hz:=hz5;clear ho hz5;have g16:w16.cell? ⟨w.heap.size,16,none⟩=some (.slice a6 U.ac.length k6):=by rw [F.o.cell 16,List.getElem?_toArray];exact c16
 go_wp2_with fail;clear g16;refine (Zfo (S 6) _ U.ac (kR6 k U) _ O6.o HN.o.2.2.2.2.2.2 (by omega) (by omega)).mono ?_;rintro e w17 ⟨rfl,ht,ho⟩;rw [show kR6 k U+(Zb0 U.ac U.ac.length:Int)=kR7 k U from rfl];have hts:Zaj (S 6) w16 w17:=ht;have hkp:Zag (fun k=>k < w16.heap.size/\¬ S 6 k) w16 w17:=Zag.touchS hts (fun _ h=>h);have hz6:w.heap.size<=w17.heap.size:=Nat.le_trans hz hts.size;replace HT:Hd (Zaj T w w17):=HT.o.trans (hts.wide (HTT.o 6 (by decide)));replace F:=Zaa (F.o.kept hkp ⟨F.o.lt,fun hS=>by have:=HSG.o 6 (by decide) _ hS;have:=HTP.o;omega⟩);replace O0:=Zaa (O0.o.kept hkp (fun k h1 h2=>HKS.o w16 0 6 hz (by decide) (by decide) (by decide) k (S0.o k h1 h2)));replace O1:=Zaa (O1.o.kept hkp (fun k h1 h2=>HKS.o w16 1 6 hz (by decide) (by decide) (by decide) k (S1.o k h1 h2)))
 replace O2:=Zaa (O2.o.kept hkp (HKS.o w16 2 6 hz (by decide) (by decide) (by decide)));replace O3:=Zaa (O3.o.kept hkp (fun k h1 h2=>HKS.o w16 3 6 hz (by decide) (by decide) (by decide) k (S3.o k h1 h2)));replace O4:=Zaa (O4.o.kept hkp (fun k h1 h2=>HKS.o w16 4 6 hz (by decide) (by decide) (by decide) k (S4.o k h1 h2)));replace O5:=Zaa (O5.o.kept hkp (fun k h1 h2=>HKS.o w16 5 6 hz (by decide) (by decide) (by decide) k (S5.o k h1 h2)));clear O6 ht hts hkp hz;have O6:=Zaa ho;have hz:=hz6;clear ho hz6;go_wp2;go_ret
 exact⟨rfl,HT.o,a0,k0,a1,k1,a2,k2,a3,k3,a4,k4,a5,k5,a6,k6,S,by rw [ZjY];exact HCS.o,⟨Nat.le_trans HTP.o hz,HSG.o,HAP.o,⟨l0,u0,S0.o,by have:=O0.o;simp only [Ze9,ZaP];exact this⟩,⟨l1,u1,S1.o,by have:=O1.o;simp only [Ze9,ZaP];exact this⟩,by have:=O2.o;simp only [Ze9,Zbi];exact this,⟨l3,u3,S3.o,by have:=O3.o;simp only [Ze9,Za5];exact this⟩,⟨l4,u4,S4.o,by have:=O4.o;simp only [Ze9,ZaZ];exact this⟩,⟨l5,u5,S5.o,by have:=O5.o;simp only [Ze9,ZaP];exact this⟩,by have:=O6.o;simp only [Ze9,Zbh];exact this⟩,HTT.o⟩
end
section
variable {lo hi:Nat} {w:World} {v:Value}
theorem Zbm.sets {L:List Rm} (h:Zbm lo hi w v L):Za9 (fun k=>lo<=k/\k < hi) w v L:=by
 rcases h with h | ⟨b,off,cap,c,X,h1,h2,h3,h4,h5,h6⟩
 . exact Or.inl h
 . exact Or.inr ⟨b,off,cap,c,X,h1,h2,h3,h4,h5,⟨h6.lt,⟨h6.low,h6.bh⟩,fun i hi'=>⟨fun k a b=>by have:=h6.seg i hi';omega,(h6.seg i hi').2.2⟩,h6.ap,h6.frz,h6.row⟩⟩
theorem ZbV.sets {L:List Ra} (h:ZbV lo hi w v L):Zbx (fun k=>lo<=k/\k < hi) w v L:=by
 rcases h with h | ⟨b,off,cap,c,X,h1,h2,h3,h4,h5,h6⟩
 . exact Or.inl h
 . exact Or.inr ⟨b,off,cap,c,X,h1,h2,h3,h4,h5,⟨h6.lt,⟨h6.low,h6.bh⟩,fun i hi'=>⟨fun k a b=>by have:=h6.seg i hi';omega,(h6.seg i hi').2.2⟩,h6.ap,h6.frz,h6.row⟩⟩
theorem Zhy.ownT {cs:List Value}{U:Rr} (h:Zhy lo hi w cs U) (hh:hi<=w.heap.size):Za8 (fun k=>lo<=k/\k < hi) lo hi w cs U:=by
 obtain⟨a0,k0,a1,k1,a2,k2,a3,k3,a4,k4,a5,k5,a6,k6,c,h1,h2⟩:=h;have hs:∀ i,i < 7->∀ k,(c i).1<=k/\k < (c i).2->lo<=k/\k < hi:=fun i hi' k hk=>by have:=h2.seg i hi';omega
 exact⟨a0,k0,a1,k1,a2,k2,a3,k3,a4,k4,a5,k5,a6,k6,fun i k=>(c i).1<=k/\k < (c i).2,h1,⟨hh,hs,fun i j hi' hj hne k a b=>by have:=h2.ap i j hi' hj hne;omega,⟨_,_,fun _ a b=>⟨a,b⟩,h2.o0⟩,⟨_,_,fun _ a b=>⟨a,b⟩,h2.o1⟩,h2.o2.sets,⟨_,_,fun _ a b=>⟨a,b⟩,h2.o3⟩,⟨_,_,fun _ a b=>⟨a,b⟩,h2.o4⟩,⟨_,_,fun _ a b=>⟨a,b⟩,h2.o5⟩,h2.o6.sets⟩,hs⟩
theorem Zjj (cs0:List Value) (U V:Rr) (XL:List Rm) (w:World) (h0:RrC 0 w cs0 U)
 (hspec:Zba U->Zba V/\ZbJ XL/\∀ (cs:List Value) (w:World),RrC 0 w cs U->Calls prog 15 #[.agg cs.toArray] w fun e w'=>∃ cs' v,e=.returned (.tuple #[.agg cs'.toArray,v])/\Zw_ w w'/\RrC w.heap.size w' cs' V/\Zbd w.heap.size w' v XL)
 (himp:Zba U->∀ (cs:List Value) (w:World),RrC 0 w cs U->Calls prog 17 #[.agg cs.toArray] w fun e w'=>∃ cs' v S,e=.returned (.tuple #[.agg cs'.toArray,v])/\Zw_ w w'/\Za8 (fun k=>¬ S k) w.heap.size w'.heap.size w' cs' V/\Za9 S w' v XL/\∀ k,S k->w.heap.size<=k/\k < w'.heap.size) :
 Calls prog 4 #[.agg cs0.toArray] w fun e w'=>e=.returned (.bool true)/\Zw_ w w':=by
 have H0:=Zaa h0;have HIMP:=Zaa himp;have HSPEC:=Zaa hspec;have HZcs0:Hd ((prog.info? 54).map (·.size)=some cs0.length):=by unfold Hd;rw [h0.len];exact Zkv
 have HTN:Hd (∀ (X:World) (cs:List Value),cs.length=18->(X.alloc (.cells zR 61)).there X.heap.size 0 cs.toArray.size):=fun X cs h=>by rw [show cs.toArray.size=18 from h];exact ZdF _ _ _ _ rfl
 have HBX:Hd (∀ (X:World) (cs:List Value),cs.length=18->Box ((X.alloc (.cells zR 61)).setCells X.heap.size 0 cs.toArray.toList) X.heap.size cs.toArray):=fun X cs h=>(Box.new _ _ _ _ rfl).full (by rw [show cs.toArray.size=18 from h];rfl)
 clear himp hspec h0;go_enter func4,ntmps4;have HR0:Hd (World.rangeAt (w.alloc (.cells cs0.toArray 54)) w.heap.size 0 cs0):=(Box.new _ _ _ _ rfl).range rfl;go_wp2_with (with_reducible refine wpList_load_mid (by with_reducible rfl) 54 (.tmp 1) (by with_reducible rfl) w.heap.size 0 (by with_unfolding_all rfl) cs0 _ HR0.o underlying54 (by with_unfolding_all rfl) HZcs0.o ?_)
 obtain⟨w0,hw0,F0,HB⟩:∃ w0,w0=w.alloc (.cells cs0.toArray 54)/\Hd (Box w0 w.heap.size cs0.toArray)/\Hd (Zw_ w w0):=
  ⟨_,rfl,Box.new _ _ _ _ (by simp),Zab _ _⟩
 rw [<- hw0];clear hw0 HR0;have hs0:w.heap.size < w0.heap.size:=F0.o.lt
 refine (ZkS 0 _ U _ _ (by omega) (by omega) (H0.o.below HB.o)).mono ?_;rintro e w1 ⟨q0,rfl,hb,r0a,r0b,r0c⟩;have hz1:w0.heap.size<=w1.heap.size:=hb.size;replace HB:Hd (Zw_ w w1):=bt HB.o hb;replace F0:=Zaa (F0.o.on hb);clear hb;have HQ:=Zaa r0c;clear r0c
 by_cases hneg0:q0 < 0
 . go_wp2
   go_ret;exact⟨rfl,HB.o⟩
 have M0:Hd (Zba U):=HQ.o (by omega);clear HQ r0a r0b;obtain⟨hV,hX,hsp⟩:=HSPEC.o M0.o;have MV:=Zaa hV;have MX:=Zaa hX;have HSP:=Zaa hsp;have HIM:=Zaa (HIMP.o M0.o);clear hV hX hsp HSPEC HIMP;go_wp2_with (first|(with_reducible refine wpList_load_mid (by with_reducible rfl) 54 (.tmp 1) (by with_reducible rfl) w.heap.size 0 (by with_unfolding_all rfl) cs0 _ (F0.o.range rfl) underlying54 (by with_unfolding_all rfl) HZcs0.o ?_));refine (Zdh 0 _ U _ (H0.o.below HB.o) M0.o).mono ?_;rintro e w2 ⟨xsv4,rfl,hb,hs⟩;have hz2:w1.heap.size<=w2.heap.size:=hb.size;replace HB:Hd (Zw_ w w2):=bt HB.o hb;replace F0:=Zaa (F0.o.on hb);clear hb;have SX:Hd (RrC 0 w2 xsv4 U):=hs.at.mono Zz_;clear hs;go_wp2_with fail;refine (HSP.o _ _ SX.o).mono ?_;rintro e w3 ⟨cs4,v4,rfl,hb,hs,hm⟩;have hz3:w2.heap.size<=w3.heap.size:=hb.size
 replace HB:Hd (Zw_ w w3):=bt HB.o hb;replace F0:=Zaa (F0.o.on hb);clear hb;have S4:Hd (RrC 0 w3 cs4 V):=hs.mono Zz_;have M4:Hd (Zbd 0 w3 v4 XL):=hm.mono Zz_;have Lcs4:Hd (cs4.length=18):=hs.len;have ONcs4:Hd (cs4.toArray.all (·.oneCell')=true):=hs.one;have HZcs4:Hd ((prog.info? 61).map (·.size)=some cs4.length):=by unfold Hd;rw [Lcs4.o];exact ZaA
 clear hs hm SX;have B4:Hd (Below w3.heap.size w3 w3):=Below.refl _ _;clear hneg0;go_wp2_with (with_reducible refine stR (.tmp 4) (.tmp 23) w3.heap.size 0 cs4.toArray (HTN.o _ _ Lcs4.o) (szA Lcs4.o) ONcs4.o ?_;refine Hd.o ?_);generalize hW:World.setCells _ _ _ _=w4;have F4n:Hd (Box w4 w3.heap.size cs4.toArray):=by unfold Hd;rw [<- hW];exact HBX.o _ _ Lcs4.o
 have hb:Below w3.heap.size w3 w4:=by rw [<- hW];exact Below.sets Zl_ _ _ (Zab _ _)
 have hs4:w3.heap.size < w4.heap.size:=by have:=F4n.o.lt;omega
 clear hW;have hz4:w3.heap.size<=w4.heap.size:=hb.size;replace HB:Hd (Zw_ w w4):=bt HB.o hb;replace F0:=Zaa (F0.o.on hb);replace B4:Hd (Below w3.heap.size w3 w4):=bt B4.o hb;clear hb;have F4:=F4n;clear F4n;refine Zaa ?_;go_wp2_with (first|(with_reducible refine wpList_load_mid (by with_reducible rfl) 54 (.tmp 1) (by with_reducible rfl) w.heap.size 0 (by with_unfolding_all rfl) cs0 _ (F0.o.range rfl) underlying54 (by with_unfolding_all rfl) HZcs0.o ?_));refine (Zdh 0 _ U _ (H0.o.below HB.o) M0.o).mono ?_;rintro e w5 ⟨cs6,rfl,hb,hs⟩;have hz5:w4.heap.size<=w5.heap.size:=hb.size;replace HB:Hd (Zw_ w w5):=bt HB.o hb;replace F0:=Zaa (F0.o.on hb);replace F4:=Zaa (F4.o.on hb);replace B4:Hd (Below w3.heap.size w3 w5):=bt B4.o hb;clear hb;have T6:=Zaa (hs.ownT Zl_);have Lcs6:Hd (cs6.length=18):=hs.at.len
 have ONcs6:Hd (cs6.toArray.all (·.oneCell')=true):=hs.at.one;have HZcs6:Hd ((prog.info? 61).map (·.size)=some cs6.length):=by unfold Hd;rw [Lcs6.o];exact ZaA
 clear hs;go_wp2_with (with_reducible refine stR (.tmp 6) (.tmp 26) w5.heap.size 0 cs6.toArray (HTN.o _ _ Lcs6.o) (szA Lcs6.o) ONcs6.o ?_;refine Hd.o ?_);generalize hW:World.setCells _ _ _ _=w6;have F6n:Hd (Box w6 w5.heap.size cs6.toArray):=by unfold Hd;rw [<- hW];exact HBX.o _ _ Lcs6.o
 have hb:Below w5.heap.size w5 w6:=by rw [<- hW];exact Below.sets Zl_ _ _ (Zab _ _)
 have hs6:w5.heap.size < w6.heap.size:=by have:=F6n.o.lt;omega
 clear hW;have hz6:w5.heap.size<=w6.heap.size:=hb.size;replace HB:Hd (Zw_ w w6):=bt HB.o hb;replace F0:=Zaa (F0.o.on hb);replace F4:=Zaa (F4.o.on hb);replace B4:Hd (Below w3.heap.size w3 w6):=bt B4.o hb;replace T6:=Zaa (T6.o.below hb);clear hb;have F6:=F6n;clear F6n;refine Zaa ?_;go_wp2_with (first|(with_reducible refine wpList_load_mid (by with_reducible rfl) 61 (.tmp 6) (by with_reducible rfl) w5.heap.size 0 (by with_unfolding_all rfl) cs6 _ (F6.o.range rfl) underlying61 (by with_unfolding_all rfl) HZcs6.o ?_));refine (HIM.o _ _ (T6.o.at.mono Zz_)).mono ?_;rintro e w7 ⟨cs7,v7,S7,rfl,hb,hs,hm,hS⟩;have hz7:w6.heap.size<=w7.heap.size:=hb.size;replace HB:Hd (Zw_ w w7):=bt HB.o hb;replace F0:=Zaa (F0.o.on hb);replace F4:=Zaa (F4.o.on hb);replace F6:=Zaa (F6.o.on hb)
 replace B4:Hd (Below w3.heap.size w3 w7):=bt B4.o hb;replace T6:=Zaa (T6.o.below hb);clear hb;have T7:Hd (Za8 (fun k=>¬ S7 k/\(w6.heap.size<=k/\k < w7.heap.size)) w6.heap.size w7.heap.size w7 cs7 V):=hs.wide Zl_ Zl_ Zl_ (fun k a b h=>⟨h,a,b⟩);have M7:=Zaa hm;have HS7:=Zaa hS;have Lcs7:Hd (cs7.length=18):=hs.at.len;have ONcs7:Hd (cs7.toArray.all (·.oneCell')=true):=hs.at.one;have HZcs7:Hd ((prog.info? 61).map (·.size)=some cs7.length):=by unfold Hd;rw [Lcs7.o];exact ZaA
 clear hs hm hS;go_wp2_with (with_reducible refine stR (.tmp 7) (.tmp 30) w7.heap.size 0 cs7.toArray (HTN.o _ _ Lcs7.o) (szA Lcs7.o) ONcs7.o ?_;refine Hd.o ?_);generalize hW:World.setCells _ _ _ _=w8;have F7n:Hd (Box w8 w7.heap.size cs7.toArray):=by unfold Hd;rw [<- hW];exact HBX.o _ _ Lcs7.o
 have hb:Below w7.heap.size w7 w8:=by rw [<- hW];exact Below.sets Zl_ _ _ (Zab _ _)
 have hs8:w7.heap.size < w8.heap.size:=by have:=F7n.o.lt;omega
 clear hW;have hz8:w7.heap.size<=w8.heap.size:=hb.size;replace HB:Hd (Zw_ w w8):=bt HB.o hb;replace F0:=Zaa (F0.o.on hb);replace F4:=Zaa (F4.o.on hb);replace F6:=Zaa (F6.o.on hb);replace B4:Hd (Below w3.heap.size w3 w8):=bt B4.o hb;replace T6:=Zaa (T6.o.below hb);replace T7:=Zaa (T7.o.below hb);replace M7:=Zaa (M7.o.kept (Zag.below hb (fun k h=>by have:=HS7.o k h;omega)) (fun _ h=>h));clear hb;have F7:=F7n;clear F7n;refine Zaa ?_
 go_wp2_with (first|(with_reducible refine wpList_load_mid (by with_reducible rfl) 61 (.tmp 7) (by with_reducible rfl) w7.heap.size 0 (by with_unfolding_all rfl) cs7 _ (F7.o.range rfl) underlying61 (by with_unfolding_all rfl) HZcs7.o ?_)|(with_reducible refine wpList_load_mid (by with_reducible rfl) 61 (.tmp 4) (by with_reducible rfl) w3.heap.size 0 (by with_unfolding_all rfl) cs4 _ (F4.o.range rfl) underlying61 (by with_unfolding_all rfl) HZcs4.o ?_));refine (ZgA _ _ _ _ V _ T7.o.at (S4.o.below B4.o)).mono ?_;rintro e w9 ⟨rfl,hb⟩;have hz9:w8.heap.size<=w9.heap.size:=hb.size;replace HB:Hd (Zw_ w w9):=bt HB.o hb;replace F0:=Zaa (F0.o.on hb);replace F4:=Zaa (F4.o.on hb);replace F6:=Zaa (F6.o.on hb);replace F7:=Zaa (F7.o.on hb);replace B4:Hd (Below w3.heap.size w3 w9):=bt B4.o hb;replace T6:=Zaa (T6.o.below hb)
 replace T7:=Zaa (T7.o.below hb);replace M7:=Zaa (M7.o.kept (Zag.below hb (fun k h=>by have:=HS7.o k h;omega)) (fun _ h=>h));clear hb;go_wp2_with fail;refine (ZcK _ _ _ _ XL _ (M7.o.at (lo:=0) (fun _ _=>Nat.zero_le _)) (M4.o.below B4.o)).mono ?_;rintro e w10 ⟨rfl,hb⟩;have hz10:w9.heap.size<=w10.heap.size:=hb.size;replace HB:Hd (Zw_ w w10):=bt HB.o hb;replace F0:=Zaa (F0.o.on hb);replace F4:=Zaa (F4.o.on hb);replace F6:=Zaa (F6.o.on hb);replace F7:=Zaa (F7.o.on hb);replace B4:Hd (Below w3.heap.size w3 w10):=bt B4.o hb;replace T6:=Zaa (T6.o.below hb);replace T7:=Zaa (T7.o.below hb);replace M7:=Zaa (M7.o.kept (Zag.below hb (fun k h=>by have:=HS7.o k h;omega)) (fun _ h=>h));clear hb;have K:=Zaa (H0.o.below HB.o)
 have KP:Hd (∀ W,Below w10.heap.size w10 W->W.rangeAt w5.heap.size 0 cs6/\W.rangeAt (w.heap.size) 0 cs0):=fun W hW=>⟨(F6.o.on hW).range rfl,(F0.o.on hW).range rfl⟩
 go_wp2;refine wp_region_held_drew (S:=fun W=>W.rangeAt w5.heap.size 0 cs6/\W.rangeAt (w.heap.size) 0 cs0) (by kernel_rfl) (KP.o _ (Zb_.drew)) (fun hHeld=>?_);refine wpAnyH_take (i:=0) rfl (by kernel_rfl) (by kernel_rfl) (by kernel_rfl) (fun _ _ _ h=>h) (yieldsIf_load_mid (by rfl) 61 (.tmp 6) rfl w5.heap.size 0 rfl cs6 _ (fun _ h=>h.1) underlying61 rfl HZcs6.o) hHeld ?_
 try simp only [Act.put,sLs]
 refine wpAnyH_take (i:=1) rfl (by kernel_rfl) (by kernel_rfl) (by kernel_rfl) (fun _ _ _ h=>h) (yieldsIf_load_mid (by rfl) 54 (.tmp 1) rfl (w.heap.size) 0 rfl cs0 _ (fun _ h=>h.2) underlying54 rfl HZcs0.o) hHeld ?_
 try simp only [Act.put,sLs]
 refine wpAnyH_ready (rs:=[2]) (by kernel_rfl) (by simp) ?_;refine AllReadyH.cons rfl (fun KK hK=>?_) AllReadyH.nil
 go_simp
 refine (Zdh 0 _ U _ (K.o.below (Zb_.drew)) M0.o).mono ?_;rintro e ve ⟨zs,rfl,hbe,hse⟩;have CE:Hd (Below w10.heap.size w10 ve):=bt (Zb_.drew) hbe;have SE:=Zaa hse;clear hse hbe
 try go_wp2_with fail
 refine hK.out _ _ (KP.o _ CE.o) (fun hHeld=>?_);clear hK KK
 try simp only [Act.put,sLs]
 refine wpAnyH_ready (rs:=[3]) (by kernel_rfl) (by simp) ?_;refine AllReadyH.cons rfl (fun KK hK=>?_) AllReadyH.nil
 go_simp
 refine (ZgA _ _ _ _ U _ (T6.o.at.below CE.o) SE.o.at).mono ?_;rintro e vf11 ⟨rfl,hbf⟩;have CF:Hd (Below w10.heap.size w10 vf11):=bt CE.o hbf;clear hbf
 try go_wp2_with fail
 refine hK.out _ _ (KP.o _ CF.o) (fun hHeld=>?_);clear hK KK
 try simp only [Act.put,sLs]
 refine tH 4 (.bool false) rfl hHeld ?_
 try simp only [Act.put,sLs]
 refine wpAnyH_done (by kernel_rfl) ?_ _;have hb:=CF.o;clear CF CE SE K KP;have hz11:w10.heap.size<=vf11.heap.size:=hb.size;replace HB:Hd (Zw_ w vf11):=bt HB.o hb;replace F0:=Zaa (F0.o.on hb);replace F4:=Zaa (F4.o.on hb);replace F6:=Zaa (F6.o.on hb);replace F7:=Zaa (F7.o.on hb);replace B4:Hd (Below w3.heap.size w3 vf11):=bt B4.o hb;replace T6:=Zaa (T6.o.below hb);replace T7:=Zaa (T7.o.below hb);replace M7:=Zaa (M7.o.kept (Zag.below hb (fun k h=>by have:=HS7.o k h;omega)) (fun _ h=>h));clear hb;obtain⟨-,-,-,-,-,-,k6a,k6b⟩:=Zji M0.o (k:=1) (by omega) (by omega);obtain⟨-,-,-,-,-,-,k7a,k7b⟩:=Zji MV.o (k:=1) (by omega) (by omega)
 go_wp2_with (first|(with_reducible refine wpList_load_mid (by with_reducible rfl) 61 (.tmp 6) (by with_reducible rfl) w5.heap.size 0 (by with_unfolding_all rfl) cs6 _ (F6.o.range rfl) underlying61 (by with_unfolding_all rfl) HZcs6.o ?_));refine (Zei _ w4.heap.size w5.heap.size _ U 1 _ T6.o M0.o (by omega) (by omega)).mono ?_;rintro e w12 ⟨rfl,hts,-⟩;have ht:Zad w4.heap.size w5.heap.size vf11 w12:=hts.touch (fun k h=>h);have hz12:vf11.heap.size<=w12.heap.size:=ht.size;replace HB:Hd (Zw_ w w12):=HB.o.trans ((ht.under (by omega)).mono (by omega));replace F0:=Zaa (F0.o.tch2 ht (by omega));replace F4:=Zaa (F4.o.tch2 ht (by omega));replace F6:=Zaa (F6.o.tch2 ht (by omega));replace F7:=Zaa (F7.o.tch2 ht (by omega));replace B4:Hd (Below w3.heap.size w3 w12):=B4.o.trans ((ht.under (by omega)).mono (by omega))
 replace T7:=Zaa (T7.o.touch ht (by omega));replace M7:=Zaa (M7.o.kept (Zag.touch ht (fun k h=>⟨by have:=HS7.o k h;omega,by have:=HS7.o k h;omega⟩)) (fun _ h=>h));clear ht;clear T6 hts;obtain⟨q6,hq6⟩:∃ q:Int,q=kR7 1 U:=⟨_,rfl⟩
 rw [<- hq6] at k6a k6b;rw [<- hq6];have n6:decide (q6 < 0)=false:=by simp;omega
 clear hq6;go_wp2_with (first|(with_reducible refine ZaY (by with_unfolding_all rfl) 61 (.tmp 7) (by with_reducible rfl) w7.heap.size 0 (by with_unfolding_all rfl) cs7 _ (F7.o.range rfl) underlying61 (by with_unfolding_all rfl) HZcs7.o ?_)|(with_reducible refine ZaY (by with_unfolding_all rfl) 61 (.tmp 4) (by with_reducible rfl) w3.heap.size 0 (by with_unfolding_all rfl) cs4 _ (F4.o.range rfl) underlying61 (by with_unfolding_all rfl) HZcs4.o ?_));refine (ZgA _ _ _ _ V _ T7.o.at (S4.o.below B4.o)).mono ?_;rintro e w13 ⟨rfl,hb⟩;have hz13:w12.heap.size<=w13.heap.size:=hb.size;replace HB:Hd (Zw_ w w13):=bt HB.o hb;replace F0:=Zaa (F0.o.on hb);replace F4:=Zaa (F4.o.on hb);replace F6:=Zaa (F6.o.on hb);replace F7:=Zaa (F7.o.on hb);replace B4:Hd (Below w3.heap.size w3 w13):=bt B4.o hb
 replace T7:=Zaa (T7.o.below hb);replace M7:=Zaa (M7.o.kept (Zag.below hb (fun k h=>by have:=HS7.o k h;omega)) (fun _ h=>h));clear hb;go_wp2_with fail;refine (ZcK _ _ _ _ XL _ (M7.o.at (lo:=0) (fun _ _=>Nat.zero_le _)) (M4.o.below B4.o)).mono ?_;rintro e w14 ⟨rfl,hb⟩;have hz14:w13.heap.size<=w14.heap.size:=hb.size;replace HB:Hd (Zw_ w w14):=bt HB.o hb;replace F0:=Zaa (F0.o.on hb);replace F4:=Zaa (F4.o.on hb);replace F6:=Zaa (F6.o.on hb);replace F7:=Zaa (F7.o.on hb);replace B4:Hd (Below w3.heap.size w3 w14):=bt B4.o hb;replace T7:=Zaa (T7.o.below hb);replace M7:=Zaa (M7.o.kept (Zag.below hb (fun k h=>by have:=HS7.o k h;omega)) (fun _ h=>h));clear hb;clear n6
 go_wp2_with (first|(with_reducible refine wpList_load_mid (by with_reducible rfl) 61 (.tmp 7) (by with_reducible rfl) w7.heap.size 0 (by with_unfolding_all rfl) cs7 _ (F7.o.range rfl) underlying61 (by with_unfolding_all rfl) HZcs7.o ?_));refine (Zei _ w6.heap.size w7.heap.size _ V 1 _ T7.o MV.o (by omega) (by omega)).mono ?_;rintro e w15 ⟨rfl,hts,ho⟩;have M7n:=Zaa (M7.o.kept (Zag.touchS hts (fun k h=>⟨by have:=HS7.o k h;omega,fun a=>a.1 h⟩)) (fun _ h=>h));have ht:Zad w6.heap.size w7.heap.size w14 w15:=hts.touch (fun k h=>h.2);have hz15:w14.heap.size<=w15.heap.size:=ht.size;replace HB:Hd (Zw_ w w15):=HB.o.trans ((ht.under (by omega)).mono (by omega));replace F0:=Zaa (F0.o.tch2 ht (by omega));replace F4:=Zaa (F4.o.tch2 ht (by omega));replace F6:=Zaa (F6.o.tch2 ht (by omega));replace F7:=Zaa (F7.o.tch2 ht (by omega))
 replace B4:Hd (Below w3.heap.size w3 w15):=B4.o.trans ((ht.under (by omega)).mono (by omega));clear ht;clear T7 M7 hts;have T7:=Zaa ho;have M7:=M7n;clear ho M7n;obtain⟨q7,hq7⟩:∃ q:Int,q=kR7 1 V:=⟨_,rfl⟩
 rw [<- hq7] at k7a k7b;rw [<- hq7];have HQ7:=Zaa hq7;clear hq7;go_wp2_with fail;refine (ZdJ S7 _ XL q7 _ M7.o MX.o (by omega) (by omega)).mono ?_;rintro e w16 ⟨rfl,hts,ho⟩;have T7n:=Zaa (T7.o.kept (K:=fun k=>(¬ S7 k/\(w6.heap.size<=k/\k < w7.heap.size))) (Zag.touchS hts (fun k h=>⟨by omega,h.1⟩)) (fun _ _ _ h=>h));have ht:Zad w6.heap.size w7.heap.size w15 w16:=hts.touch (fun k h=>HS7.o k h);have hz16:w15.heap.size<=w16.heap.size:=ht.size;replace HB:Hd (Zw_ w w16):=HB.o.trans ((ht.under (by omega)).mono (by omega));replace F0:=Zaa (F0.o.tch2 ht (by omega));replace F4:=Zaa (F4.o.tch2 ht (by omega));replace F6:=Zaa (F6.o.tch2 ht (by omega));replace F7:=Zaa (F7.o.tch2 ht (by omega));replace B4:Hd (Below w3.heap.size w3 w16):=B4.o.trans ((ht.under (by omega)).mono (by omega));clear ht;clear T7 M7 hts;have M7:=Zaa ho;have T7:=T7n;clear ho T7n
 have hp0:ZbX XL XL.length<=1000000000000000000:=by have h1:=ZdV MX.o Zl_;have h2:=MX.o.1;omega
 obtain⟨q8,hq8⟩:∃ q:Int,q=q7+(ZbX XL XL.length:Int):=⟨_,rfl⟩
 rw [<- hq8];have HQ8:=Zaa hq8;have n7:decide (q7 < 0)=false:=by simp;omega
 have n8:decide (q8 < 0)=false:=by simp;omega
 clear hq8;go_wp2_with (first|(with_reducible refine wpList_load_mid (by with_reducible rfl) 61 (.tmp 7) (by with_reducible rfl) w7.heap.size 0 (by with_unfolding_all rfl) cs7 _ (F7.o.range rfl) underlying61 (by with_unfolding_all rfl) HZcs7.o ?_));refine (Zeb w6.heap.size w7.heap.size _ V 1 _ T7.o.own MV.o (by omega) (by omega)).mono ?_;rintro e w17 ⟨rfl,hb⟩;have hz17:w16.heap.size<=w17.heap.size:=hb.size;replace HB:Hd (Zw_ w w17):=bt HB.o hb;replace F0:=Zaa (F0.o.on hb);replace F4:=Zaa (F4.o.on hb);replace F6:=Zaa (F6.o.on hb);replace F7:=Zaa (F7.o.on hb);replace B4:Hd (Below w3.heap.size w3 w17):=bt B4.o hb;replace T7:=Zaa (T7.o.below hb);replace M7:=Zaa (M7.o.kept (Zag.below hb (fun k h=>by have:=HS7.o k h;omega)) (fun _ h=>h));clear hb;rw [<- HQ7.o];go_wp2_with fail
 refine (ZcC S7 _ XL q7 _ M7.o MX.o (by omega) (by omega)).mono ?_;rintro e w18 ⟨rfl,hb⟩;have hz18:w17.heap.size<=w18.heap.size:=hb.size;replace HB:Hd (Zw_ w w18):=bt HB.o hb;replace F0:=Zaa (F0.o.on hb);replace F4:=Zaa (F4.o.on hb);replace F6:=Zaa (F6.o.on hb);replace F7:=Zaa (F7.o.on hb);replace B4:Hd (Below w3.heap.size w3 w18):=bt B4.o hb;replace T7:=Zaa (T7.o.below hb);replace M7:=Zaa (M7.o.kept (Zag.below hb (fun k h=>by have:=HS7.o k h;omega)) (fun _ h=>h));clear hb;rw [<- HQ8.o];have HIC:Hd (∀ (cs:List Value) (w:World),RrC 0 w cs U->Calls prog 17 #[.agg cs.toArray] w fun e w'=>∃ cs' v,e=.returned (.tuple #[.agg cs'.toArray,v])/\Zw_ w w'/\RrC w.heap.size w' cs' V/\Zbd w.heap.size w' v XL):=fun cs w h=>(HIM.o cs w h).mono fun _ _ ⟨c,v,S,e,b,o,m,s⟩=>⟨c,v,e,b,o.at,m.at (fun k h=>(s k h).1)⟩
 go_wp2_with (first|(with_reducible refine wpList_load_mid (by with_reducible rfl) 54 (.tmp 1) (by with_reducible rfl) w.heap.size 0 (by with_unfolding_all rfl) cs0 _ (F0.o.range rfl) underlying54 (by with_unfolding_all rfl) HZcs0.o ?_));refine (Zdh 0 _ U _ (H0.o.below HB.o) M0.o).mono ?_;rintro e w19 ⟨xsv12,rfl,hb,hs⟩;have hz19:w18.heap.size<=w19.heap.size:=hb.size;replace HB:Hd (Zw_ w w19):=bt HB.o hb;replace F0:=Zaa (F0.o.on hb);replace F4:=Zaa (F4.o.on hb);replace F6:=Zaa (F6.o.on hb);replace F7:=Zaa (F7.o.on hb);replace B4:Hd (Below w3.heap.size w3 w19):=bt B4.o hb;replace T7:=Zaa (T7.o.below hb);replace M7:=Zaa (M7.o.kept (Zag.below hb (fun k h=>by have:=HS7.o k h;omega)) (fun _ h=>h));clear hb;have SX:Hd (RrC 0 w19 xsv12 U):=hs.at.mono Zz_;clear hs;go_wp2_with fail;refine (HIC.o _ _ SX.o).mono ?_
 rintro e w20 ⟨cs12,v12,rfl,hb,hs,hm⟩;have hz20:w19.heap.size<=w20.heap.size:=hb.size;replace HB:Hd (Zw_ w w20):=bt HB.o hb;replace F0:=Zaa (F0.o.on hb);replace F4:=Zaa (F4.o.on hb);replace F6:=Zaa (F6.o.on hb);replace F7:=Zaa (F7.o.on hb);replace B4:Hd (Below w3.heap.size w3 w20):=bt B4.o hb;replace T7:=Zaa (T7.o.below hb);replace M7:=Zaa (M7.o.kept (Zag.below hb (fun k h=>by have:=HS7.o k h;omega)) (fun _ h=>h));clear hb;have S12:Hd (RrC 0 w20 cs12 V):=hs.mono Zz_;have M12:Hd (Zbd 0 w20 v12 XL):=hm.mono Zz_;have Lcs12:Hd (cs12.length=18):=hs.len;have ONcs12:Hd (cs12.toArray.all (·.oneCell')=true):=hs.one;have HZcs12:Hd ((prog.info? 61).map (·.size)=some cs12.length):=by unfold Hd;rw [Lcs12.o];exact ZaA
 clear hs hm SX;have B12:Hd (Below w20.heap.size w20 w20):=Below.refl _ _;go_wp2_with (with_reducible refine stR (.tmp 12) (.tmp 87) w20.heap.size 0 cs12.toArray (HTN.o _ _ Lcs12.o) (szA Lcs12.o) ONcs12.o ?_;refine Hd.o ?_);generalize hW:World.setCells _ _ _ _=w21;have F12n:Hd (Box w21 w20.heap.size cs12.toArray):=by unfold Hd;rw [<- hW];exact HBX.o _ _ Lcs12.o
 have hb:Below w20.heap.size w20 w21:=by rw [<- hW];exact Below.sets Zl_ _ _ (Zab _ _)
 have hs21:w20.heap.size < w21.heap.size:=by have:=F12n.o.lt;omega
 clear hW;have hz21:w20.heap.size<=w21.heap.size:=hb.size;replace HB:Hd (Zw_ w w21):=bt HB.o hb;replace F0:=Zaa (F0.o.on hb);replace F4:=Zaa (F4.o.on hb);replace F6:=Zaa (F6.o.on hb);replace F7:=Zaa (F7.o.on hb);replace B4:Hd (Below w3.heap.size w3 w21):=bt B4.o hb;replace T7:=Zaa (T7.o.below hb);replace M7:=Zaa (M7.o.kept (Zag.below hb (fun k h=>by have:=HS7.o k h;omega)) (fun _ h=>h));replace B12:Hd (Below w20.heap.size w20 w21):=bt B12.o hb;clear hb;have F12:=F12n;clear F12n;refine Zaa ?_
 go_wp2_with (first|(with_reducible refine wpList_load_mid (by with_reducible rfl) 61 (.tmp 12) (by with_reducible rfl) w20.heap.size 0 (by with_unfolding_all rfl) cs12 _ (F12.o.range rfl) underlying61 (by with_unfolding_all rfl) HZcs12.o ?_)|(with_reducible refine wpList_load_mid (by with_reducible rfl) 61 (.tmp 4) (by with_reducible rfl) w3.heap.size 0 (by with_unfolding_all rfl) cs4 _ (F4.o.range rfl) underlying61 (by with_unfolding_all rfl) HZcs4.o ?_));refine (ZgA _ _ _ _ V _ (S12.o.below B12.o) (S4.o.below B4.o)).mono ?_;rintro e w22 ⟨rfl,hb⟩;have hz22:w21.heap.size<=w22.heap.size:=hb.size;replace HB:Hd (Zw_ w w22):=bt HB.o hb;replace F0:=Zaa (F0.o.on hb);replace F4:=Zaa (F4.o.on hb);replace F6:=Zaa (F6.o.on hb);replace F7:=Zaa (F7.o.on hb);replace F12:=Zaa (F12.o.on hb)
 replace B4:Hd (Below w3.heap.size w3 w22):=bt B4.o hb;replace T7:=Zaa (T7.o.below hb);replace M7:=Zaa (M7.o.kept (Zag.below hb (fun k h=>by have:=HS7.o k h;omega)) (fun _ h=>h));replace B12:Hd (Below w20.heap.size w20 w22):=bt B12.o hb;clear hb;go_wp2_with fail;refine (ZcK _ _ _ _ XL _ (M12.o.below B12.o) (M4.o.below B4.o)).mono ?_;rintro e w23 ⟨rfl,hb⟩;have hz23:w22.heap.size<=w23.heap.size:=hb.size;replace HB:Hd (Zw_ w w23):=bt HB.o hb;replace F0:=Zaa (F0.o.on hb);replace F4:=Zaa (F4.o.on hb);replace F6:=Zaa (F6.o.on hb);replace F7:=Zaa (F7.o.on hb);replace F12:=Zaa (F12.o.on hb);replace B4:Hd (Below w3.heap.size w3 w23):=bt B4.o hb;replace T7:=Zaa (T7.o.below hb);replace M7:=Zaa (M7.o.kept (Zag.below hb (fun k h=>by have:=HS7.o k h;omega)) (fun _ h=>h))
 replace B12:Hd (Below w20.heap.size w20 w23):=bt B12.o hb;clear hb;go_wp2_with (first|(with_reducible refine wpList_load_mid (by with_reducible rfl) 61 (.tmp 7) (by with_reducible rfl) w7.heap.size 0 (by with_unfolding_all rfl) cs7 _ (F7.o.range rfl) underlying61 (by with_unfolding_all rfl) HZcs7.o ?_));refine (Zeb w6.heap.size w7.heap.size _ V 1 _ T7.o.own MV.o (by omega) (by omega)).mono ?_;rintro e w24 ⟨rfl,hb⟩;have hz24:w23.heap.size<=w24.heap.size:=hb.size;replace HB:Hd (Zw_ w w24):=bt HB.o hb;replace F0:=Zaa (F0.o.on hb);replace F4:=Zaa (F4.o.on hb);replace F6:=Zaa (F6.o.on hb);replace F7:=Zaa (F7.o.on hb);replace F12:=Zaa (F12.o.on hb);replace B4:Hd (Below w3.heap.size w3 w24):=bt B4.o hb;replace T7:=Zaa (T7.o.below hb);replace M7:=Zaa (M7.o.kept (Zag.below hb (fun k h=>by have:=HS7.o k h;omega)) (fun _ h=>h))
 replace B12:Hd (Below w20.heap.size w20 w24):=bt B12.o hb;clear hb;rw [<- HQ7.o];go_wp2_with fail;refine (ZcC S7 _ XL q7 _ M7.o MX.o (by omega) (by omega)).mono ?_;rintro e w25 ⟨rfl,hb⟩;have hz25:w24.heap.size<=w25.heap.size:=hb.size;replace HB:Hd (Zw_ w w25):=bt HB.o hb;replace F0:=Zaa (F0.o.on hb);replace F4:=Zaa (F4.o.on hb);replace F6:=Zaa (F6.o.on hb);replace F7:=Zaa (F7.o.on hb);replace F12:=Zaa (F12.o.on hb);replace B4:Hd (Below w3.heap.size w3 w25):=bt B4.o hb;replace T7:=Zaa (T7.o.below hb);replace M7:=Zaa (M7.o.kept (Zag.below hb (fun k h=>by have:=HS7.o k h;omega)) (fun _ h=>h));replace B12:Hd (Below w20.heap.size w20 w25):=bt B12.o hb;clear hb;rw [<- HQ8.o];go_wp2;go_ret;exact⟨rfl,HB.o⟩
end
theorem ZfU (S3:Nat->Prop) (v:Value) (L:List Zy_) (β τ γ:Nat) (D:Rd) (da:Option Addr) (dc:Nat) (w:World) (h:NRS tyL 1 w S3 v L) (hz:∀ i (hi:i < L.length),L[i].size<=maxLen) (hd:∀ W,Zaj S3 w W->ZjS β τ γ W D da dc) (h0:0<=D.kn) (h1:D.kn<=(D.sl.length:Int)) :
 Calls prog 190 #[v,.func (.func 191) #[] #[.pointer (some ⟨β,0,none⟩)]] w fun e w'=>∃ a c,e=.returned (.slice a (L.filter (Zen D)).length c)/\Zaj S3 w w'/\NRS tyL 1 w' S3 (.slice a (L.filter (Zen D)).length c) (L.filter (Zen D)):=by
 rcases h with ⟨rfl,rfl⟩ | ⟨g,hg,g',cap,rfl,hf⟩
 . have HD:=Zaa hd
   clear hd;go_enter func190,ntmps190;go_wp2_with (go_at_call 201;refine (ZeE 0 (.slice none 0 0) [] β τ γ D da dc _ (Or.inl ⟨_,_,rfl,rfl⟩) (HD.o _ (Zaj.refl _ _)) h0 h1).mono ?_;rintro e w1 ⟨⟨r,rfl,hr⟩,hb⟩;have HB:=Zaa hb;have hr1:r= -1:=hr.elim (fun h=>h.1) (fun ⟨k,hk,_⟩=>absurd hk (by simp));subst hr1;clear hb hr);go_ret;exact⟨none,0,rfl,Zaj.below HB.o,Or.inl ⟨rfl,rfl⟩⟩
 . have hgg:g'=g:=by have:=hf.bs;have:=hf.up;omega
   subst hgg;have ht1:∀ k,g'<=k->k < g'+1->S3 k:=fun k a b=>(show k=g' by omega) ▸ hg
   refine (ZfT g' (g'+1) g' cap L β τ γ D da dc w hf hz (fun W hW=>hd W (hW.toS ht1)) h0 h1).mono ?_;rintro e w' ⟨rfl,ht,hf'⟩;exact⟨_,_,rfl,ht.toS ht1,Or.inr ⟨g',hg,g',cap,rfl,hf'⟩⟩
theorem Zaj.cell {S:Nat->Prop}{w w':World} (h:Zaj S w w') {p:Addr} (hp:p.block < w.heap.size) (hs:¬ S p.block):w'.cell? p=w.cell? p:=World.cell?_of_block (w:=w) (h.block p.block hp hs)
theorem ZhS (K:Nat->Prop) (lo:Nat) (w:World) (γ ρ τ:Nat) (U:Rr) (sv:Value) (h:Wk K lo w γ ρ U) (tb:Box w τ (tkC γ ρ sv)) (kt:K τ) (hz:RrZ U) (h0:0<=U.dk.kn) (h1:U.dk.kn<=(U.dk.sl.length:Int)) :
 Calls prog 180 #[.pointer (some ⟨τ,0,none⟩)] w fun e w'=>e=.returned (.tuple #[])/\Zag K w w'/\Wk K lo w' γ ρ { U with wi:=U.wi.filter (Zen U.dk) }:=by
 have HW:=Zaa h;have HTB:=Zaa tb;have HZ:=Zaa hz;clear h tb hz;go_enter func180,ntmps180
 go_upto_region 1 with fail
 obtain⟨W0,hW0,BB,TB,HK0,HWz⟩:∃ W0,W0=w.alloc (.cells #[.pointer (some ⟨τ,0,none⟩)] 187)/\Hd (Box W0 w.heap.size #[.pointer (some ⟨τ,0,none⟩)])/\Hd (Box W0 τ (tkC γ ρ sv))/\Hd (Zag K w W0)/\Hd (Wk (KN K w 1) lo W0 γ ρ U):=
  ⟨_,rfl,Box.new _ _ _ _ rfl,HTB.o.on (Zab _ _),HW.o.keep (Zab _ _),⟨HW.o.wz.shield (Zab _ _) (fun k hk=>hk.imp id (fun h=>⟨h.1,by simpa using h.2⟩)),Or.inl HW.o.kr,HW.o.rb.on (Zab _ _)⟩⟩
 rw [<- hW0];clear hW0;obtain⟨b,m,S,hR⟩:=HWz.o.wz;have HR:=Zaa hR;have hβK:KN K w 1 w.heap.size:=Or.inr ⟨Nat.le_refl _,Nat.lt_succ_self _⟩;have hτK:KN K w 1 τ:=Or.inl kt;have xb:W0.cell? ⟨w.heap.size,0,none⟩=some (.pointer (some ⟨τ,0,none⟩)):=BB.o.cell 0;have xt0:W0.cell? ⟨τ,0,none⟩=some (.pointer (some ⟨γ,0,none⟩)):=TB.o.cell 0;have x10:W0.cell? ⟨γ,10,none⟩=some (.slice (b 3) U.wi.length (m 3)):=hR.box.cell 10
 have HD:Hd (∀ W,Zaj (S 3) W0 W->ZjS w.heap.size τ γ W U.dk (b 1) (m 1)):=fun W hW=>by
  have pβ:=HR.o.prot _ hβK;have pτ:=HR.o.prot _ hτK;have far:=HR.o.far 3 (by decide);have lg:=HR.o.box.lt;refine⟨(hW.cell (p:=⟨w.heap.size,0,none⟩) pβ.1 (pβ.2.2 3 (by decide))).trans (BB.o.cell 0),(hW.cell (p:=⟨τ,0,none⟩) pτ.1 (pτ.2.2 3 (by decide))).trans (TB.o.cell 0),(hW.cell (p:=⟨γ,6,none⟩) lg far).trans (HR.o.box.cell 6),(hW.cell (p:=⟨γ,7,none⟩) lg far).trans (HR.o.box.cell 7),(hW.cell (p:=⟨γ,8,none⟩) lg far).trans (HR.o.box.cell 8),?_,Zk_ pβ.1 hW.size,Zk_ pτ.1 hW.size,Zk_ lg hW.size⟩;have hk:Zag (S 1) W0 W:=Zag.touchS hW fun k hk=>⟨(HR.o.cp.seg 1 (by decide) k hk).2,fun h3=>HR.o.cp.ap 1 3 (by decide) (by decide) (by decide) k hk h3⟩
  exact ((HR.o.cp.o1.kept hk (fun k h=>h)).rss HZ.o.z1).at (fun k _=>Nat.zero_le _)
 clear hR;refine Code.wp_mono NoPanic.imp ?_;refine Zan (S:=fun W=>W.cell? ⟨w.heap.size,0,none⟩=some (.pointer (some ⟨τ,0,none⟩))/\W.cell? ⟨τ,0,none⟩=some (.pointer (some ⟨γ,0,none⟩))/\W.cell? ⟨γ,10,none⟩=some (.slice (b 3) U.wi.length (m 3))) [17] (by kernel_rfl) ⟨xb,xt0,x10⟩ (fun hHeld=>?_);refine tB 0 (.pointer (some ⟨τ,0,none⟩)) [1,2,3,4,15,16,17] rfl hHeld ?_
 try simp only [Act.put,sLs]
 refine tB 1 (.pointer (some ⟨τ,0,none⟩)) [2,3,4,15,16,17] rfl hHeld ?_
 try simp only [Act.put,sLs]
 refine tB 2 (.pointer (some ⟨τ,0,none⟩)) [3,4,15,16,17] rfl hHeld ?_
 try simp only [Act.put,sLs]
 refine tB 3 (.pointer (some ⟨τ,0,none⟩)) [4,15,16,17] rfl hHeld ?_
 try simp only [Act.put,sLs]
 refine tB 4 (.pointer (some ⟨γ,0,none⟩)) [15,16,17] rfl hHeld ?_
 try simp only [Act.put,sLs]
 refine tB 5 (.pointer (some ⟨τ,0,none⟩)) [6,7,8,9,10,11,12,14,15,16,17] rfl hHeld ?_
 try simp only [Act.put,sLs]
 refine tB 6 (.pointer (some ⟨τ,0,none⟩)) [7,8,9,10,11,12,14,15,16,17] rfl hHeld ?_
 try simp only [Act.put,sLs]
 refine tB 7 (.pointer (some ⟨τ,0,none⟩)) [8,9,10,11,12,14,15,16,17] rfl hHeld ?_
 try simp only [Act.put,sLs]
 refine tB 8 (.pointer (some ⟨τ,0,none⟩)) [9,10,11,12,14,15,16,17] rfl hHeld ?_
 try simp only [Act.put,sLs]
 refine tB 9 (.pointer (some ⟨γ,0,none⟩)) [10,11,12,14,15,16,17] rfl hHeld ?_
 try simp only [Act.put,sLs]
 refine tB 10 (.pointer (some ⟨γ,0,none⟩)) [11,12,14,15,16,17] rfl hHeld ?_
 try simp only [Act.put,sLs]
 refine tB 11 (.pointer (some ⟨γ,10,none⟩)) [12,14,15,16,17] rfl hHeld ?_
 try simp only [Act.put,sLs]
 refine tB 12 (.slice (b 3) U.wi.length (m 3)) [14,15,16,17] rfl hHeld ?_
 try simp only [Act.put,sLs]
 refine tB 13 (.func (.func 191) #[] #[.pointer (some ⟨w.heap.size,0,none⟩)]) [14,15,16,17] rfl hHeld ?_
 try simp only [Act.put,sLs]
 refine oB 14 rfl (fun KC hK=>?_)
 go_simp
 refine (ZfU (S 3) _ U.wi w.heap.size τ γ U.dk (b 1) (m 1) _ (HR.o.on Zb_.drew).cp.o3 HZ.o.z3 (fun W hW=>HD.o W (⟨hW.os,hW.tape,hW.output,hW.size,hW.block⟩)) h0 h1).mono ?_;rintro e w2 ⟨a2,c2,rfl,ht,hrow⟩;have HT:Hd (Zaj (S 3) W0 w2):=⟨ht.os,ht.tape,ht.output,ht.size,ht.block⟩;have HROW:=Zaa hrow;have pβ:=HR.o.prot _ hβK;have pτ:=HR.o.prot _ hτK;have far:=HR.o.far 3 (by decide);have lg:=HR.o.box.lt;refine hK.out _ _ (fun _=>⟨(HT.o.cell (p:=⟨w.heap.size,0,none⟩) pβ.1 (pβ.2.2 3 (by decide))).trans xb,(HT.o.cell (p:=⟨τ,0,none⟩) pτ.1 (pτ.2.2 3 (by decide))).trans xt0,(HT.o.cell (p:=⟨γ,10,none⟩) lg far).trans x10⟩) (fun hHeld=>?_);replace hHeld:=hHeld (by decide);clear hK KC ht hrow
 try simp only [Act.put,sLs]
 refine tB 15 (.pointer (some ⟨γ,0,none⟩)) [16,17] rfl hHeld ?_
 try simp only [Act.put,sLs]
 refine tB 16 (.pointer (some ⟨γ,10,none⟩)) [17] rfl hHeld ?_
 try simp only [Act.put,sLs]
 have y10:w2.cell? ⟨γ,10,none⟩=some (.slice (b 3) U.wi.length (m 3)):=(HT.o.cell (p:=⟨γ,10,none⟩) lg far).trans x10;have yf:w2.frozen? ⟨γ,10,none⟩=false:=(World.frozen?_of_block (w:=W0) (HT.o.block γ lg far)).trans (HR.o.box.free 10);refine oB 17 rfl (fun KC hK=>?_)
 go_simp
 refine hK.out _ _ (fun h=>absurd (by decide) h) (fun _=>?_);clear hK KC
 try simp only [Act.put,sLs]
 refine Zak (by kernel_rfl) ?_ _;refine NoPanic.normal ?_;have hp:=HR.o.part3 (L':=U.wi.filter (Zen U.dk)) (a':=a2) (m':=c2) HT.o (HROW.o.wide fun k hk=>Or.inl hk);have HRB:Hd (Box (w2.setCell ⟨γ,10,none⟩ (.slice a2 (U.wi.filter (Zen U.dk)).length c2)) ρ #[.pointer (some ⟨γ,0,none⟩)]):=HWz.o.rb.kept hp.2 (Or.inl HW.o.kr)
 have HF:Hd (Zag K w (w2.setCell ⟨γ,10,none⟩ (.slice a2 (U.wi.filter (Zen U.dk)).length c2))/\Wk K lo (w2.setCell ⟨γ,10,none⟩ (.slice a2 (U.wi.filter (Zen U.dk)).length c2)) γ ρ { U with wi:=U.wi.filter (Zen U.dk) }):=
  ⟨HK0.o.trans (hp.2.less fun k hk=>Or.inl hk),Wz.less ⟨_,_,_,hp.1⟩ (fun k hk=>Or.inl hk),HW.o.kr,HRB.o⟩
 clear hp
 go_end0
 exact⟨rfl,HF.o⟩
theorem Rz.absorb0 {K:Nat->Prop}{lo:Nat}{w:World}{γ:Nat}{b:Nat->Option Addr}{m:Nat->Nat}{S:Nat->Nat->Prop}{U:Rr} (h:Rz K lo w γ b m S U) (E:Nat->Prop) (hE:∀ k,E k->lo<=k/\k < w.heap.size/\k≠γ/\¬ K k/\∀ i,i < 7->¬ S i k):Rz K lo w γ b m (upd S 0 (fun k=>S 0 k\/E k)) U:=by
 refine⟨h.box,⟨fun i hi k hS=>?_,fun i j hi hj hne k hS hS'=>?_,h.cp.o0.wide (fun k h=>Or.inl h),h.cp.o1,h.cp.o2,h.cp.o3,h.cp.o4,h.cp.o5,h.cp.o6⟩,h.low,fun i hi hS=>?_,fun k hk=>⟨(h.prot k hk).1,(h.prot k hk).2.1,fun i hi hS=>?_⟩⟩
 . by_cases e:i=0
   . subst e
     rw [Zam] at hS
     rcases hS with hS | hS
     . exact h.cp.seg 0 (by decide) k hS
     . exact⟨(hE k hS).1,(hE k hS).2.1⟩
   . rw [ZaG _ _ e] at hS
     exact h.cp.seg i hi k hS
 . by_cases e:i=0
   . subst e
     rw [Zam] at hS;rw [ZaG _ _ (Ne.symm hne)] at hS'
     rcases hS with hS | hS
     . exact h.cp.ap 0 j hi hj hne k hS hS'
     . exact (hE k hS).2.2.2.2 j hj hS'
   . rw [ZaG _ _ e] at hS
     by_cases e':j=0
     . subst e'
       rw [Zam] at hS'
       rcases hS' with hS' | hS'
       . exact h.cp.ap i 0 hi hj hne k hS hS'
       . exact (hE k hS').2.2.2.2 i hi hS
     . rw [ZaG _ _ e'] at hS'
       exact h.cp.ap i j hi hj hne k hS hS'
 . by_cases e:i=0
   . subst e
     rw [Zam] at hS
     rcases hS with hS | hS
     . exact h.far 0 (by decide) hS
     . exact (hE γ hS).2.2.1 rfl
   . rw [ZaG _ _ e] at hS
     exact h.far i hi hS
 . by_cases e:i=0
   . subst e
     rw [Zam] at hS
     rcases hS with hS | hS
     . exact (h.prot k hk).2.2 0 (by decide) hS
     . exact (hE k hS).2.2.2.1 hk
   . rw [ZaG _ _ e] at hS
     exact (h.prot k hk).2.2 i hi hS
theorem ZiK (K:Nat->Prop) (lo:Nat) (w:World) (γ ρ τ:Nat) (U:Rr) (sv:Value) (h:Wk K lo w γ ρ U) (tb:Box w τ (tkC γ ρ sv)) (hz:RrZ U) (hl:U.dk.sl.length<=1048576) :
 Calls prog 178 #[.pointer (some ⟨τ,0,none⟩)] w fun e w'=>e=.returned (.tuple #[])/\Zag K w w'/\Wk K lo w' γ ρ (Zev U):=by
 have HW:=Zaa h;have HZ:=Zaa hz;obtain⟨⟨b,m,S,hR⟩,kr,rb⟩:=h;have HR:=Zaa hR;have HRB:=Zaa rb;have xt0:w.cell? ⟨τ,0,none⟩=some (.pointer (some ⟨γ,0,none⟩)):=tb.cell 0;have x6:w.cell? ⟨γ,6,none⟩=some (.int .i64 U.dk.pr):=hR.box.cell 6;have x7:w.cell? ⟨γ,7,none⟩=some (.int .i64 U.dk.kn):=hR.box.cell 7;have x8:w.cell? ⟨γ,8,none⟩=some (.slice (b 1) U.dk.sl.length (m 1)):=hR.box.cell 8;have HTB:=Zaa tb;clear hR tb hz rb;go_enter func178,ntmps178;refine Code.wp_mono NoPanic.imp ?_;refine Zan (S:=fun W=>W.cell? ⟨τ,0,none⟩=some (.pointer (some ⟨γ,0,none⟩))/\W.cell? ⟨γ,6,none⟩=some (.int .i64 U.dk.pr)/\W.cell? ⟨γ,7,none⟩=some (.int .i64 U.dk.kn)/\W.cell? ⟨γ,8,none⟩=some (.slice (b 1) U.dk.sl.length (m 1))) [16] (by kernel_rfl) ⟨xt0,x6,x7,x8⟩ (fun hHeld=>?_);refine tB 0 (.pointer (some ⟨τ,0,none⟩)) [1,2,3,4,14,15,16] rfl hHeld ?_
 try simp only [Act.put,sLs]
 refine tB 1 (.pointer (some ⟨τ,0,none⟩)) [2,3,4,14,15,16] rfl hHeld ?_
 try simp only [Act.put,sLs]
 refine tB 2 (.pointer (some ⟨τ,0,none⟩)) [3,4,14,15,16] rfl hHeld ?_
 try simp only [Act.put,sLs]
 refine tB 3 (.pointer (some ⟨τ,0,none⟩)) [4,14,15,16] rfl hHeld ?_
 try simp only [Act.put,sLs]
 refine tB 4 (.pointer (some ⟨γ,0,none⟩)) [14,15,16] rfl hHeld ?_
 try simp only [Act.put,sLs]
 refine tB 5 (.pointer (some ⟨τ,0,none⟩)) [6,7,8,9,10,11,12,13,14,15,16] rfl hHeld ?_
 try simp only [Act.put,sLs]
 refine tB 6 (.pointer (some ⟨τ,0,none⟩)) [7,8,9,10,11,12,13,14,15,16] rfl hHeld ?_
 try simp only [Act.put,sLs]
 refine tB 7 (.pointer (some ⟨τ,0,none⟩)) [8,9,10,11,12,13,14,15,16] rfl hHeld ?_
 try simp only [Act.put,sLs]
 refine tB 8 (.pointer (some ⟨τ,0,none⟩)) [9,10,11,12,13,14,15,16] rfl hHeld ?_
 try simp only [Act.put,sLs]
 refine tB 9 (.pointer (some ⟨γ,0,none⟩)) [10,11,12,13,14,15,16] rfl hHeld ?_
 try simp only [Act.put,sLs]
 refine tB 10 (.pointer (some ⟨γ,0,none⟩)) [11,12,13,14,15,16] rfl hHeld ?_
 try simp only [Act.put,sLs]
 refine tB 11 (.pointer (some ⟨γ,6,none⟩)) [12,13,14,15,16] rfl hHeld ?_
 try simp only [Act.put,sLs]
 refine tB 12 (.agg #[.int .i64 U.dk.pr,.int .i64 U.dk.kn,.slice (b 1) U.dk.sl.length (m 1)]) [13,14,15,16] rfl hHeld ?_
 try simp only [Act.put,sLs]
 refine oB 13 rfl (fun KC hK=>?_)
 go_simp
 have HVS:Hd (Zat 0 w (.slice (b 1) U.dk.sl.length (m 1)) U.dk.sl):=(HR.o.cp.o1.rss HZ.o.z1).at (fun _ _=>Nat.zero_le _);refine (Zdo 0 U.dk (b 1) (m 1) _ (HVS.o.below Zb_.drew) hl).mono ?_;rintro e w8 ⟨a8,c8,rfl,hb0,hrow⟩;have hb:Zw_ w w8:=(Zb_.drew).trans hb0;have HROW:Hd (Zay rsL 2 w8 w.heap.size w8.heap.size (.slice a8 U.dk.sl.length c8) U.dk.sl):=hrow;have HB8:=Zaa hb;have B8:=Zaa (HTB.o.on hb);have R8:=Zaa (HR.o.on hb);clear hb0 hrow HVS hHeld hb;refine hK.out _ _ (fun _=>⟨B8.o.cell 0,R8.o.box.cell 6,R8.o.box.cell 7,R8.o.box.cell 8⟩) (fun hHx=>?_);have hHeld:=hHx (by decide);clear hK hHx KC
 try simp only [Act.put,sLs]
 refine tB 14 (.pointer (some ⟨γ,0,none⟩)) [15,16] rfl hHeld ?_
 try simp only [Act.put,sLs]
 refine tB 15 (.pointer (some ⟨γ,3,none⟩)) [16] rfl hHeld ?_
 try simp only [Act.put,sLs]
 have x3:w8.cell? ⟨γ,3,none⟩=some (.int .i64 U.sf.pr):=R8.o.box.cell 3;have x4:w8.cell? ⟨γ,4,none⟩=some (.int .i64 U.sf.kn):=R8.o.box.cell 4;have x5:w8.cell? ⟨γ,5,none⟩=some (.slice (b 0) U.sf.sl.length (m 0)):=R8.o.box.cell 5;have gf:=R8.o.box.free;refine oB 16 rfl (fun KC hK=>?_)
 go_simp
 refine hK.out _ _ (fun h=>absurd (by decide) h) (fun _=>?_);clear hK KC
 try simp only [Act.put,sLs]
 refine Zak (by kernel_rfl) ?_ _;refine NoPanic.normal ?_;have hγ:=HR.o.box.lt;have hlo:=HR.o.low;have hsz:=HB8.o.size;have HA:=Zaa (R8.o.absorb0 (fun k=>w.heap.size<=k/\k < w8.heap.size) (fun k hk=>⟨by omega,hk.2,by omega,fun hKk=>by have:=(HR.o.prot k hKk).1;omega,fun i hi hS=>by have:=(HR.o.cp.seg i hi k hS).2;omega⟩));have hp0:=HA.o.scal (U':={ U with sf:={ U.sf with pr:=U.dk.pr } }) (j:=3) (v:=.int .i64 U.dk.pr) (by show 3 < 18;omega) rfl (fun _ h=>⟨h.seg,h.ap,h.o0,h.o1,h.o2,h.o3,h.o4,h.o5,h.o6⟩);have hp1:=hp0.1.scal (U':={ U with sf:={ U.sf with pr:=U.dk.pr,kn:=U.dk.kn } }) (j:=4) (v:=.int .i64 U.dk.kn) (by show 4 < 18;omega) rfl (fun _ h=>⟨h.seg,h.ap,h.o0,h.o1,h.o2,h.o3,h.o4,h.o5,h.o6⟩)
 have hrw:NRS rsL 2 ((w8.setCell ⟨γ,3,none⟩ (.int .i64 U.dk.pr)).setCell ⟨γ,4,none⟩ (.int .i64 U.dk.kn)) (Gr ((upd S 0 (fun k=>S 0 k\/(w.heap.size<=k/\k < w8.heap.size))) 0) ((w8.setCell ⟨γ,3,none⟩ (.int .i64 U.dk.pr)).setCell ⟨γ,4,none⟩ (.int .i64 U.dk.kn)) ((w8.setCell ⟨γ,3,none⟩ (.int .i64 U.dk.pr)).setCell ⟨γ,4,none⟩ (.int .i64 U.dk.kn))) (.slice a8 U.dk.sl.length c8) U.dk.sl:=by
  rcases HROW.o with h | ⟨g,cap,hv,hf⟩
  . exact Or.inl h
  . have hg1:=hf.bs
    have hg2:=hf.up;exact Or.inr ⟨g,Or.inl (by rw [Zam];exact Or.inr ⟨hg1,hg2⟩),g,cap,hv,((hf.own'.touch (Zad.setCell γ (γ+1) _ ⟨γ,3,none⟩ _ ⟨Nat.le_refl _,Nat.lt_succ_self _⟩) (by omega)).touch (Zad.setCell γ (γ+1) _ ⟨γ,4,none⟩ _ ⟨Nat.le_refl _,Nat.lt_succ_self _⟩) (by omega))⟩
 have hp2:=hp1.1.part0 (Zaj.refl _ _) hrw;have HP:=Zaa hp2.1;have HKK:Hd (Zag K w (((w8.setCell ⟨γ,3,none⟩ (.int .i64 U.dk.pr)).setCell ⟨γ,4,none⟩ (.int .i64 U.dk.kn)).setCell ⟨γ,5,none⟩ (.slice a8 U.dk.sl.length c8))):=((HW.o.keep HB8.o).trans (hp0.2.trans hp1.2)).trans hp2.2;have HRB8:=Zaa ((HRB.o.on HB8.o).kept (K:=K) ((hp0.2.trans hp1.2).trans hp2.2) kr);clear hp0 hp1 hp2 hrw x3 x4 x5 gf
 go_end0
 exact⟨rfl,HKK.o,⟨⟨_,_,_,HP.o⟩,kr,HRB8.o⟩⟩
theorem Zii (K:Nat->Prop) (lo:Nat) (w:World) (U:Rr) (b:Nat->Option Addr) (m:Nat->Nat) (S:Nat->Nat->Prop) (n:Int) (va:Option Addr) (vc:Nat) (L:List Rs) (h:Cz K lo w b m S U) (hv:Zat 0 w (.slice va L.length vc) L) (hz:RrZ U) (h0:0<=U.dk.kn) (h1:U.dk.kn<=(U.dk.sl.length:Int)) (hl:U.dk.sl.length<=1000) (hyl:U.ye.length<=1000) (hbl:U.be.length<=1000) (hll:L.length<=1000) :
 Calls prog 57 #[.agg (rrF U b m).toArray,.int .i64 n,.slice va L.length vc] w fun e w'=>∃ b' m' S',e=.returned (.agg (rrF (Zb1 U n L) b' m').toArray)/\Zag K w w'/\Cz K lo w' b' m' S' (Zb1 U n L):=by
 have HC:=Zaa h;have HKw:Hd (∀ k,K k->k < w.heap.size):=fun k hk=>(h.prot k hk).1
 obtain⟨cs,hcs⟩:∃ cs,cs=rrF U b m:=⟨_,rfl⟩
 rw [<- hcs];have HCS:=Zaa hcs;clear hcs h;go_enter func57,ntmps57
 go_upto_region 1 with fail
 obtain⟨wz,hwz,FB,RB,HB⟩:∃ wz,wz=(w.alloc (.cells cs.toArray 61)).alloc (.cells zR 61)/\Hd (Box wz w.heap.size (rrF U b m).toArray)/\Hd (Box wz (w.heap.size+1) zR)/\Hd (Zw_ w wz):=⟨_,rfl,by unfold Hd;rw [<- HCS.o];exact ((Box.new w _ _ _ rfl).on (Zab _ _)),Box.new _ _ _ _ (by simp),(bt (Zab _ _) (Zab _ _))⟩
 rw [<- hwz];clear hwz;have hwn:w.heap.size+2<=wz.heap.size:=by have:=RB.o.lt;omega
 have HR:Hd (Rz (fun k=>K k\/(w.heap.size+1<=k/\k < w.heap.size+2)) lo wz w.heap.size b m S U):=HC.o.rz HB.o FB.o Zl_ (fun k hk=>hk.imp (fun h=>h) (fun h=>⟨by omega,by omega,by omega⟩));have HKP:Hd (Zag K w wz):=Zag.below HB.o HKw.o;have HKPz:=HKP;have HBz:=HB;clear FB HB;have HVV:=Zaa hv;have HZ:=Zaa hz;clear hz hv;have x14:wz.cell? ⟨w.heap.size,14,none⟩=some (.slice (b 4) U.ye.length (m 4)):=HR.o.box.cell 14;go_wp2_with fail;clear x14;refine (ZdT lo _ U.ye n _ ((HR.o.cp.o4.ris).at (fun k hk=>(HR.o.cp.seg 4 (by decide) k hk).1)) (by omega)).mono ?_;rintro e w1 ⟨v1,rfl,hb1,hrow⟩;have hs1:=hb1.size;have HB1:Hd (Zw_ w w1):=bt HBz.o hb1
 have hrow2:NRS inL 1 w1 (Gr (S 4) wz w1) v1 (ZbD U.ye n):=by
  rcases hrow with ⟨e1,e2⟩ | h
  . rw [e1,e2]
    exact (HR.o.cp.o4.kept (Zag.below hb1 fun _ h=>h) (fun k hk=>(HR.o.cp.seg 4 (by decide) k hk).2)).wide (fun k h=>Or.inl h)
  . exact Zay.set1 (Or.inr h) (fun k p q=>Or.inr ⟨p,q⟩)
 obtain⟨a1,c1,rfl⟩:=hrow2.form;have HP:=Zaa (HR.o.part4 (Zaj.below hb1) hrow2);have BG:=Zaa (HR.o.box.on hb1);have RB1:=Zaa (RB.o.on hb1);have HKP1:Hd (Zag K w w1):=HKP.o.trans (Zag.below hb1 (fun k hk=>by have:=HKw.o k hk;omega));have x14:w1.cell? ⟨w.heap.size,14,none⟩=some (.slice (b 4) U.ye.length (m 4)):=BG.o.cell 14;have gf:=BG.o.free;clear hrow hrow2 hb1
 go_upto_region 2 with fail
 clear x14 gf;obtain⟨w2,hw2⟩:∃ x,x=w1.setCell ⟨w.heap.size,14,none⟩ (.slice a1 (ZbD U.ye n).length c1):=⟨_,rfl⟩
 rw [<- hw2] at HP |-;have RB2:Hd (Box w2 (w.heap.size+1) zR):=by unfold Hd;rw [hw2];exact RB1.o.setFar (by simp only [];omega) _
 have hs2:w1.heap.size=w2.heap.size:=by rw [hw2];simp [World.setCell]
 have HB2:Hd (Zw_ w w2):=by unfold Hd;rw [hw2];exact HB1.o.setCell (p:=⟨w.heap.size,14,none⟩) Zl_ _
 clear hw2 RB RB1 HR BG;have RB:=RB2;obtain⟨b1,m1,S1,HR⟩:∃ b' m' S',Hd (Rz (fun k=>K k\/(w.heap.size+1<=k/\k < w.heap.size+2)) lo w2 w.heap.size b' m' S' (ZkX U n)):=⟨_,_,_,HP.o.1⟩
 have HKP2:Hd (Zag K w w2):=Zag.trans HKPz.o (HP.o.2.less fun k hk=>Or.inl hk);clear HP RB2 HKP HKP1;have HKP:=HKP2;clear HKP2;have hsz2:w.heap.size+2<=w2.heap.size:=by omega
 have x15:w2.cell? ⟨w.heap.size,15,none⟩=some (.slice (b1 5) U.be.length (m1 5)):=HR.o.box.cell 15;go_wp2_with fail;clear x15;refine (Zex 0 _ _ U.be L _ ((HR.o.cp.o5.rss HZ.o.z5).at (fun k hk=>Nat.zero_le _)) (HVV.o.below HB2.o) (by omega) (by omega)).mono ?_;rintro e w3 ⟨v3,rfl,hb3,hlr⟩;obtain⟨B,hB⟩:∃ B,B=Zas U.be L:=⟨_,rfl⟩
 rw [<- hB] at hlr;have hBl:B.length<=1000:=by rw [hB,Zbv];omega
 have HBE:Hd (ZbP U n L={ ZkX U n with be:=B }):=by unfold Hd ZbP;rw [hB]
 have HPU:Hd (Zb1 U n L=if 2*((ZbD U.ye n).length:Int)<=U.of then ZbP U n L else Zeu (ZdS (ZbP U n L)) B):=by unfold Hd Zb1;rw [hB]
 clear hB;obtain⟨g5,cap5,rfl,hf5⟩:=hlr.frow;have h5a:=hf5.bs;have h5b:=hf5.lt;have HBF0:Hd (FR rsL 2 w3 g5 (g5+1) g5 cap5 B):=hf5.own';have hrow5:NRS rsL 2 w3 (Gr (S1 5) w2 w3) (.slice (some ⟨g5,0,none⟩) B.length cap5) B:=Or.inr ⟨g5,Or.inr ⟨h5a,h5b⟩,g5,cap5,rfl,hf5.own'⟩;have hs3:=hb3.size;have HP:=Zaa (HR.o.part5 (Zaj.below hb3) hrow5);have BG:=Zaa (HR.o.box.on hb3);have RB1:=Zaa (RB.o.on hb3);have x15:w3.cell? ⟨w.heap.size,15,none⟩=some (.slice (b1 5) U.be.length (m1 5)):=BG.o.cell 15;have gf:=BG.o.free;clear hrow5 hb3 hlr hf5
 go_upto_region 3 with fail
 clear x15 gf;obtain⟨w4,hw4⟩:∃ x,x=w3.setCell ⟨w.heap.size,15,none⟩ (.slice (some ⟨g5,0,none⟩) B.length cap5):=⟨_,rfl⟩
 rw [<- hw4] at HP |-;have RB2:Hd (Box w4 (w.heap.size+1) zR):=by unfold Hd;rw [hw4];exact RB1.o.setFar (by simp only [];omega) _
 have HBF:Hd (FR rsL 2 w4 g5 (g5+1) g5 cap5 B):=by unfold Hd;rw [hw4];exact HBF0.o.touch (Zad.setCell w.heap.size (w.heap.size+1) w3 _ _ ⟨Nat.le_refl _,Nat.lt_succ_self _⟩) (Or.inr (by omega))
 have hs4:w3.heap.size=w4.heap.size:=by rw [hw4];simp [World.setCell]
 clear hw4 RB RB1 HR BG HBF0;have RB:=RB2;have HR0:=Zaa HP.o.1;have HS5g:Hd (upd S1 5 (Gr (S1 5) w2 w3) 5 g5):=by unfold Hd;rw [Zam];exact Or.inr ⟨h5a,h5b⟩
 rw [<- HBE.o] at HR0;replace HKP:Hd (Zag K w w4):=HKP.o.trans (HP.o.2.less fun k hk=>Or.inl hk);clear HP RB2;obtain⟨b2,m2,S2,HR,HG5⟩:∃ b' m' S',Hd (Rz (fun k=>K k\/(w.heap.size+1<=k/\k < w.heap.size+2)) lo w4 w.heap.size b' m' S' (ZbP U n L))/\Hd (b' 5=some ⟨g5,0,none⟩/\m' 5=cap5/\S' 5 g5):=⟨_,_,_,HR0,rfl,rfl,HS5g.o⟩
 clear HR0 HS5g;have hsz4:w.heap.size+2<=w4.heap.size:=by omega
 have hal:=ZbU U.ye n;have x14:w4.cell? ⟨w.heap.size,14,none⟩=some (.slice (b2 4) (ZbD U.ye n).length (m2 4)):=HR.o.box.cell 14;have x1:w4.cell? ⟨w.heap.size,1,none⟩=some (.int .i64 U.of):=HR.o.box.cell 1;have wf:IntKind.wrap .i64 (2*((ZbD U.ye n).length:Int))=2*((ZbD U.ye n).length:Int):=by rw [IntKind.wrap_i64];omega
 by_cases h3:2*((ZbD U.ye n).length:Int)<=U.of
 case pos=>
  have d3:decide (2*((ZbD U.ye n).length:Int)<=U.of)=true:=decide_eq_true h3;have HE:Hd (Zb1 U n L=ZbP U n L):=by unfold Hd;rw [HPU.o,if_pos h3]
  go_upto_region 4 with fail
  clear x14 x1 wf d3;obtain⟨b9,m9,S9,yl,HRx,HYL,HRA,HTH,HON,HSy,hy18⟩:=exA (U:=ZbP U n L) HR.o RB.o rfl;clear HR
  go_wp2_with (first
   | (with_reducible refine ldR (.tmp 3) w.heap.size 0 yl HRA.o HSy.o ?_)
   | (with_reducible refine stR (.tmp 6) (.tmp 27) (w.heap.size+1) 0 yl.toArray HTH.o (szN hy18) HON.o ?_;refine Hd.o ?_))
  generalize hW9:World.setCells _ _ _ _=W9;obtain⟨FR9,HKn,HRn⟩:=exB hW9 RB.o hy18 HRx.o (Or.inr (by omega)) HKP.o HKw.o (by omega);clear hW9;refine Zaa ?_;go_wp2;exact bodyPost_ret (v:=.agg yl.toArray) (Zks (p:=6) results57 FR9.o HSy.o rfl) rfl ⟨b9,m9,S9,by rw [HYL.o,HE.o],HKn.o,by rw [HE.o];exact HRn.o⟩
 have d3:decide (2*((ZbD U.ye n).length:Int)<=U.of)=false:=decide_eq_false h3;have HE0:Hd (Zb1 U n L=Zeu (ZdS (ZbP U n L)) B):=by unfold Hd;rw [HPU.o,if_neg h3]
 have x13:w4.cell? ⟨w.heap.size,13,none⟩=some (.int .i64 U.ba):=HR.o.box.cell 13;have x15:w4.cell? ⟨w.heap.size,15,none⟩=some (.slice (some ⟨g5,0,none⟩) B.length cap5):=by rw [HR.o.box.cell 15,HBE.o,<- HG5.o.1,<- HG5.o.2.1];rfl
 go_upto_region 7 with fail
 clear x14 x1 wf d3 x13 x15;obtain⟨X,hX⟩:∃ X,X=ZbP U n L:=⟨_,rfl⟩
 have xba:X.ba=U.ba:=by rw [hX];rfl
 have xkn:X.dk.kn=U.dk.kn:=by rw [hX];rfl
 have xsl:X.dk.sl=U.dk.sl:=by rw [hX];rfl
 rw [<- hX] at HR HE0;clear hX HBE HPU
 have HPre:Hd (∀ (S':Nat->Nat->Prop),Cz (fun k=>(fun k=>K k\/(w.heap.size+1<=k/\k < w.heap.size+2)) k\/k=w.heap.size) lo w4 b2 m2 S2 X->(∀ k,S' 5 k->w4.heap.size<=k)->(∀ i,i < 7->∀ k,S' i k->k < w4.heap.size->S2 i k)->∀ i,i < 7->¬ S' i g5):=fun S' hc h5 hI i hi hS=>by
  by_cases e:i=5
  . subst e;have:=h5 g5 hS;omega
  . exact hc.cp.ap i 5 hi (by decide) e g5 (hI i hi g5 hS (by omega)) HG5.o.2.2
 obtain⟨b8,m8,S8,HRx,HPr⟩:∃ b' m' S',Hd (Rz (fun k=>K k\/(w.heap.size+1<=k/\k < w.heap.size+2)) lo w4 w.heap.size b' m' S' (X))/\Hd (∀ (T:Nat->Nat->Prop),(∀ k,T 5 k->w4.heap.size<=k)->(∀ i,i < 7->∀ k,T i k->k < w4.heap.size->S' i k)->∀ i,i < 7->¬ T i g5):=⟨_,_,_,HR,fun T=>HPre.o T HR.o.czg⟩
 clear HR HPre;have HRA:Hd (World.rangeAt w4 w.heap.size 0 (rrF (X) b8 m8)):=HRx.o.box.range rfl;have HSy:Hd ((prog.info? 61).map (·.size)=some (rrF (X) b8 m8).length):=by unfold Hd;exact ZaA
 go_wp2_with (first
  | (with_reducible refine ldR (.tmp 3) w.heap.size 0 (rrF (X) b8 m8) HRA.o HSy.o ?_))
 clear HRA HSy;refine (ZhM (fun k=>(fun k=>K k\/(w.heap.size+1<=k/\k < w.heap.size+2)) k\/k=w.heap.size) lo _ X b8 m8 S8 HRx.o.czg).mono ?_;rintro e w5a ⟨b7,m7,S7,rfl,hk,hc,hbw,hs5,hsi⟩;have HNG:=Zaa (HPr.o S7 hs5 hsi);have HBF5:=Zaa (HBF.o.below (lo:=g5) (hi:=g5+1) hbw);have HKc:=Zaa hk;have HCc:=Zaa hc;have HBX:Hd (Box w5a w.heap.size (rrF (X) b8 m8).toArray):=HRx.o.box.kept hk (Or.inr rfl);replace RB:=Zaa (RB.o.kept hk (Or.inl (Or.inr (by omega))));replace HKP:Hd (Zag K w w5a):=HKP.o.trans (hk.less fun k h=>Or.inl (Or.inl h));have hsw5a:w.heap.size+2<=w5a.heap.size:=Nat.le_trans (by omega) hk.size;have HKne:Hd (∀ k,(fun k=>K k\/(w.heap.size+1<=k/\k < w.heap.size+2)) k->k≠w.heap.size):=fun k h=>(HRx.o.prot k h).2.1
 clear hk hc HRx;have HTH:Hd (World.there w5a w.heap.size 0 (rrF (Za7 X) b7 m7).toArray.size):=HBX.o.there rfl;have HON:Hd ((rrF (Za7 X) b7 m7).toArray.all (·.oneCell')=true):=Zb5 _ _ _;go_wp2_with (with_reducible refine stR (.tmp 3) (.tmp 33) w.heap.size 0 (rrF (Za7 X) b7 m7).toArray HTH.o (szN (Zb4 _ _ _)) HON.o ?_;refine Hd.o ?_);generalize hW9:World.setCells _ _ _ _=w5;obtain⟨hr,ht⟩:=HCc.o.put HBX.o rfl HKne.o hW9.symm;have HR:=Zaa hr;replace RB:=Zaa (RB.o.tch2 ht (Or.inr (by omega)));replace HBF5:=Zaa (HBF5.o.touch ht (Or.inr (by omega)));replace HKP:Hd (Zag K w w5):=HKP.o.trans (Zag.box ht (fun k h=>⟨by have:=HKw.o k h;omega,by have:=HKw.o k h;omega⟩));have hsw5:w.heap.size+2<=w5.heap.size:=Nat.le_trans hsw5a ht.size;clear hr ht hW9 HBX HKc HCc HTH HON HKne;refine Zaa ?_;clear HBF;have HBF:=HBF5;clear HBF5
 have hg5:g5 < w5.heap.size:=HBF.o.lt
 obtain⟨b3,m3,S3,HRg⟩:∃ b' m' S',Hd (Rz (fun k=>K k\/((w.heap.size+1<=k/\k < w.heap.size+2)\/k=g5)) lo w5 w.heap.size b' m' S' (Za7 X)):=⟨_,_,_,HR.o.guard hg5 (by omega) HNG.o⟩
 clear HR HNG HPr HG5;have HR:=HRg;clear HRg;have xc:w5.cell? ⟨w.heap.size,11,none⟩=some (.bool false):=HR.o.box.cell 11;have gf:=HR.o.box.free
 go_upto_region 9 with fail
 clear xc gf;obtain⟨w6,hwn'⟩:∃ wx_,wx_=w5.setCell ⟨w.heap.size,11,none⟩ (.bool true):=⟨_,rfl⟩
 rw [<- hwn'];have hp:=HR.o.scal (U':={ Za7 X with ld:=true }) (j:=11) (v:=.bool true) (by show 11 < 18;omega) rfl (fun _ h=>⟨h.seg,h.ap,h.o0,h.o1,h.o2,h.o3,h.o4,h.o5,h.o6⟩);rw [<- hwn'] at hp;have hss:w5.heap.size=w6.heap.size:=by rw [hwn'];simp [World.setCell]
 have RBn:Hd (Box w6 (w.heap.size+1) zR):=by unfold Hd;rw [hwn'];exact RB.o.setFar (by simp only [];omega) _
 have hsw6:w.heap.size+2<=w6.heap.size:=by omega
 clear hwn' RB HR hss;have RB:=RBn;have HR:=Zaa hp.1;replace HBF:=Zaa (HBF.o.kept hp.2 (Or.inr (Or.inr rfl)));replace HKP:Hd (Zag K w w6):=HKP.o.trans (hp.2.less fun k hk=>Or.inl hk);clear hp RBn;have xc:w6.cell? ⟨w.heap.size,13,none⟩=some (.int .i64 0):=HR.o.box.cell 13;have gf:=HR.o.box.free
 go_upto_region 10 with fail
 clear xc gf;obtain⟨w7,hwn'⟩:∃ wx_,wx_=w6.setCell ⟨w.heap.size,13,none⟩ (.int .i64 U.ba):=⟨_,rfl⟩
 rw [<- hwn'];have hp:=HR.o.scal (U':={ Za7 X with ld:=true,ba:=U.ba }) (j:=13) (v:=.int .i64 U.ba) (by show 13 < 18;omega) rfl (fun _ h=>⟨h.seg,h.ap,h.o0,h.o1,h.o2,h.o3,h.o4,h.o5,h.o6⟩);rw [<- hwn'] at hp;have hss:w6.heap.size=w7.heap.size:=by rw [hwn'];simp [World.setCell]
 have RBn:Hd (Box w7 (w.heap.size+1) zR):=by unfold Hd;rw [hwn'];exact RB.o.setFar (by simp only [];omega) _
 have hsw7:w.heap.size+2<=w7.heap.size:=by omega
 clear hwn' RB HR hss;have RB:=RBn;have HR:=Zaa hp.1;replace HBF:=Zaa (HBF.o.kept hp.2 (Or.inr (Or.inr rfl)));replace HKP:Hd (Zag K w w7):=HKP.o.trans (hp.2.less fun k hk=>Or.inl hk);clear hp RBn;have HLE:Hd (ZdS X={ Za7 X with ld:=true,ba:=U.ba }):=by unfold Hd ZdS;rw [xba]
 rw [<- HLE.o] at HR;obtain⟨Y,hY⟩:∃ Y,Y=ZdS X:=⟨_,rfl⟩
 have yba:Y.ba=U.ba:=by rw [hY];exact xba
 have ykn:Y.dk.kn=U.dk.kn:=by rw [hY];exact xkn
 have ysl:Y.dk.sl.length<=1000:=by rw [hY];show X.dk.sl.length<=1000;rw [xsl];exact hl
 rw [<- hY] at HR HE0;clear hY HLE;obtain⟨k0,hk0⟩:∃ k0:Nat,(k0:Int)=U.dk.kn:=⟨U.dk.kn.toNat,by omega⟩
 have HEL:Hd (Zb1 U n L=ZbQ Y B k0 (B.length - k0)):=by unfold Hd;rw [HE0.o];unfold Zeu;rw [ykn,<- hk0];rfl
 have HLL:=Zaa (Zef Y B k0 hBl ysl);have HLB:=Zaa (Ze0 Y B k0);have x7:w7.cell? ⟨w.heap.size,7,none⟩=some (.int .i64 (k0:Int)):=by rw [HR.o.box.cell 7,hk0,<- ykn];rfl
 have hk0b:k0<=1000:=by omega
 have HK0:=Zaa hk0;clear hk0;go_wp2;clear x7
 go_loopw [9] (fun iv wr=>∃ (i j:Nat) (b':Nat->Option Addr) (m':Nat->Nat) (S':Nat->Nat->Prop),iv=.int .i64 (j:Int)/\j=k0+i/\i<=B.length - k0/\Rz (fun k=>K k\/((w.heap.size+1<=k/\k < w.heap.size+2)\/k=g5)) lo wr w.heap.size b' m' S' (ZbQ Y B k0 i)/\Zag K w wr/\w.heap.size+2<=wr.heap.size/\FR rsL 2 wr g5 (g5+1) g5 cap5 B/\Box wr (w.heap.size+1) zR) (fun iv _=>B.length - (intOf iv).toNat)
 case atStart=>exact⟨0,k0,_,_,_,rfl,rfl,by omega,HR.o,HKP.o,hsw7,HBF.o,RB.o⟩
 case round=>
  obtain⟨i,j,b5,m5,S5,rfl,hj,hi,hr,hkp,hsz,hbf,hrb⟩:=hrel;clear HR HKP RB HBF;have HR:=Zaa hr;have HKP:=Zaa hkp;have HBF:=Zaa hbf;have RB:=Zaa hrb;have HJ:=Zaa hj;clear hr hkp hbf hrb
  by_cases hlt:j < B.length
  . have j0:(0:Int)<=(j:Int):=by omega
    have j1:(j:Int) < (B.length:Int):=by omega
    have wj:IntKind.wrap .i64 ((j:Int)+1)=((j+1:Nat):Int):=by rw [IntKind.wrap_i64];omega
    obtain⟨sj,hsj⟩:∃ x,x=B[j]:=⟨_,rfl⟩
    have z1:wr.cell? ⟨g5,j*2+1,none⟩=some (.string sj.tx):=by rw [hsj];exact HBF.o.get ZaC hlt (t:=1) (by omega) rfl
    have HNX:Hd (ZbQ Y B k0 (i+1)=ZdA (ZbQ Y B k0 i) (j+1) ⟨U.ba,sj.tx⟩):=by
     unfold Hd
     conv=>lhs;unfold ZbQ
     rw [<- hj,List.getElem?_eq_getElem hlt,<- hsj,yba]
    have hln:=HLL.o i;have hg5r:g5 < wr.heap.size:=HBF.o.lt
    have hi2:i+1<=B.length - k0:=by omega
    obtain⟨N1,hN1⟩:∃ N1,N1=ZbQ Y B k0 i:=⟨_,rfl⟩
    rw [<- hN1] at HR HNX hln;clear hN1 hsj hj;have HRA:Hd (World.rangeAt wr w.heap.size 0 (rrF N1 b5 m5)):=HR.o.box.range rfl;have HSy:Hd ((prog.info? 61).map (·.size)=some (rrF N1 b5 m5).length):=by unfold Hd;exact ZaA
    go_upto_region 13 with fail
    refine Code.wp_mono NoPanic.imp ?_;refine Zan (S:=fun W=>W.rangeAt w.heap.size 0 (rrF N1 b5 m5)/\W.cell? ⟨g5,j*2+1,none⟩=some (.string sj.tx)) [10,11] (by kernel_rfl) ⟨HRA.o,z1⟩ (fun hHeld=>?_);refine tB 0 _ [10,11] rfl hHeld ?_ (hy:=yieldsIf_load_mid (by rfl) 61 (.tmp 3) rfl w.heap.size 0 rfl (rrF N1 b5 m5) _ (fun _ h=>h.1) underlying61 rfl HSy.o)
    try simp only [Act.put,List.getElem_toArray,List.getElem_cons_zero,List.setIfInBounds_toArray,List.set_cons_zero,List.set_cons_succ]
    refine tB 1 (.int .i64 (j:Int)) [2,10,11] rfl hHeld ?_
    try simp only [Act.put,sLs]
    refine tB 2 (.int .i64 ((j+1:Nat):Int)) [10,11] rfl hHeld ?_
    try simp only [Act.put,sLs]
    refine tB 3 (.int .i64 U.ba) [9,10,11] rfl hHeld ?_
    try simp only [Act.put,sLs]
    refine tB 4 (.slice (some ⟨g5,0,none⟩) B.length cap5) [6,7,8,9,10,11] rfl hHeld ?_
    try simp only [Act.put,sLs]
    refine tB 5 (.int .i64 (j:Int)) [6,7,8,9,10,11] rfl hHeld ?_
    try simp only [Act.put,sLs]
    refine tB 6 (.pointer (some ⟨g5,j*2,none⟩)) [7,8,9,10,11] rfl hHeld ?_
    try simp only [Act.put,sLs]
    refine tB 7 (.pointer (some ⟨g5,j*2+1,none⟩)) [8,9,10,11] rfl hHeld ?_
    try simp only [Act.put,sLs]
    refine tB 8 (.string sj.tx) [9,10,11] rfl hHeld ?_
    try simp only [Act.put,sLs]
    refine tB 9 (.agg #[.int .i64 U.ba,.string sj.tx]) [10,11] rfl hHeld ?_
    try simp only [Act.put,sLs]
    refine oB 10 rfl (fun KC hK=>?_)
    go_simp
    refine (ZgR (fun k=>(fun k=>K k\/((w.heap.size+1<=k/\k < w.heap.size+2)\/k=g5)) k\/k=w.heap.size) lo _ N1 b5 m5 S5 (j+1) ⟨U.ba,sj.tx⟩ (HR.o.on (Zb_.drew)).czg (by omega) (by omega) hln).mono ?_;rintro e wc ⟨b7,m7,S7,rfl,hk,hc⟩;have HCc:=Zaa hc;have hk0:Zag (fun k=>(fun k=>K k\/((w.heap.size+1<=k/\k < w.heap.size+2)\/k=g5)) k\/k=w.heap.size) wr wc:=(Zag.below (Zb_.drew) (fun k h=>by rcases h with h | h;exact (HR.o.prot k h).1;rw [h];exact HR.o.box.lt)).trans hk;have HBX:Hd (Box wc w.heap.size (rrF N1 b5 m5).toArray):=HR.o.box.kept hk0 (Or.inr rfl);replace RB:=Zaa (RB.o.kept hk0 (Or.inl (Or.inr (Or.inl (by omega)))));replace HBF:=Zaa (HBF.o.kept hk0 (Or.inl (Or.inr (Or.inr rfl))));replace HKP:Hd (Zag K w wc):=HKP.o.trans (hk0.less fun k h=>Or.inl (Or.inl h));have hswc:w.heap.size+2<=wc.heap.size:=Nat.le_trans (by omega) hk0.size
    have HKne:Hd (∀ k,(fun k=>K k\/((w.heap.size+1<=k/\k < w.heap.size+2)\/k=g5)) k->k≠w.heap.size):=fun k h=>(HR.o.prot k h).2.1
    clear hk hc hk0 HR hHeld z1 HRA;have HTH:Hd (World.there wc w.heap.size 0 (rrF (ZdA N1 (j+1) ⟨U.ba,sj.tx⟩) b7 m7).toArray.size):=HBX.o.there rfl;have HON:Hd ((rrF (ZdA N1 (j+1) ⟨U.ba,sj.tx⟩) b7 m7).toArray.all (·.oneCell')=true):=Zb5 _ _ _;refine hK.out _ _ (fun h=>absurd (by decide) h) (fun _=>?_);clear hK
    try simp only [Act.put,sLs]
    refine oB 11 rfl (fun KC hK=>?_);refine Zcf rfl 61 (.tmp 3) (.tmp 56) rfl w.heap.size 0 (rrF (ZdA N1 (j+1) ⟨U.ba,sj.tx⟩) b7 m7).toArray rfl rfl HTH.o (szN (Zb4 _ _ _)) HON.o ?_;refine hK.out _ _ (fun h=>absurd (by decide) h) (fun _=>?_);clear hK
    try simp only [Act.put,List.getElem_toArray,List.getElem_cons_succ,List.getElem_cons_zero]
    refine Zak (by kernel_rfl) ?_ _;refine NoPanic.normal ?_;generalize hW9:World.setCells _ _ _ _=wd;obtain⟨hr,ht⟩:=HCc.o.put HBX.o rfl HKne.o hW9.symm;have HRn:=Zaa hr;have HTT:=Zaa ht;clear hr ht hW9;go_wp2;go_roundw
    . 
     have ht:=HTT.o;have hjj:=HJ.o;exact⟨i+1,j+1,b7,m7,S7,by go_num,by omega,hi2,by rw [HNX.o];exact HRn.o,HKP.o.trans (Zag.box ht (fun k h=>⟨by have:=HKw.o k h;omega,by have:=HKw.o k h;omega⟩)),Nat.le_trans hswc ht.size,HBF.o.touch ht (Or.inr (by omega)),RB.o.tch2 ht (Or.inr (by omega))⟩
    . simp [intOf];omega
  . have hii:i=B.length - k0:=by omega
    have HE2:Hd (Zb1 U n L=ZbQ Y B k0 i):=by unfold Hd;rw [HEL.o,hii]
    have dn:decide ((j:Int) < (B.length:Int))=false:=by simp;omega
    clear hii
    go_upto_region 14 with fail
    clear dn;obtain⟨b9,m9,S9,yl,HRx,HYL,HRA,HTH,HON,HSy,hy18⟩:=exA (U:=ZbQ Y B k0 i) HR.o RB.o rfl;clear HR
    go_wp2_with (first
     | (with_reducible refine ldR (.tmp 3) w.heap.size 0 yl HRA.o HSy.o ?_)
     | (with_reducible refine stR (.tmp 6) (.tmp 57) (w.heap.size+1) 0 yl.toArray HTH.o (szN hy18) HON.o ?_;refine Hd.o ?_))
    generalize hW9:World.setCells _ _ _ _=W9;obtain⟨FR9,HKn,HRn⟩:=exB hW9 RB.o hy18 HRx.o (Or.inr (by omega)) HKP.o HKw.o (by omega);clear hW9;refine Zaa ?_;go_wp2;exact bodyPost_ret (v:=.agg yl.toArray) (Zks (p:=6) results57 FR9.o HSy.o rfl) rfl ⟨b9,m9,S9,by rw [HYL.o,HE2.o],HKn.o,by rw [HE2.o];exact HRn.o⟩
end Go.Proofs.YtdeammfdkaomlaaGreat
