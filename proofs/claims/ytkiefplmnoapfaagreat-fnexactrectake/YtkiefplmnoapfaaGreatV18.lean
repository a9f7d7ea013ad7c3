import Derived.Test.YtkiefplmnoapfaaGreatV15
import Derived.Test.YtkiefplmnoapfaaGreatV17
set_option maxHeartbeats 16000000
set_option maxRecDepth 100000
open Go.Proofs.Tryz
namespace Go.Proofs.YtkiefplmnoapfaaGreat
open Go.RowKit Go.Deep
theorem ZcB (lo hi:Nat) (a:Option Addr) (m:Nat) (D:Rd) (k:Int) (w:World) (h:Zap lo hi w (.slice a D.sl.length m) D.sl) (hn:Zcx D) (h0:0<=k) (hk:k<=2000000000000000000) :
 Calls prog 47 #[.agg #[.int .i64 D.pr,.int .i64 D.kn,.slice a D.sl.length m],.int .i64 k] w fun e w'=>e=.returned (.int .i64 (k+(Zbo D.sl D.sl.length:Int)))/\Zad lo hi w w'/\Zap lo hi w' (.slice a D.sl.length m) (Zct k D.sl):=by
 have H:=Zaa h;clear h;have HO:∀ o,Hd (Zw_ w (w.alloc o)):=fun o=>Zab w o
 go_enter func47,ntmps47;go_wp2_with fail;refine (ZcD lo hi _ D.sl k _ (H.o.below (HO _).o) hn h0 hk).mono ?_;rintro e w1 ⟨rfl,ht,ho⟩;have HT:=Zaa ((Zad.below (HO _).o).trans ht);have HW:=Zaa ho;clear ht ho;go_wp2;go_ret;exact⟨rfl,HT.o,HW.o⟩
theorem Zhg (lo hi:Nat) (cs:List Value) (U:Rr) (k:Int) (w:World) (h:Zfq lo hi w cs U) (hhi:hi<=w.heap.size) (hn:Zbd U) (h0:0<=k) (hk:k<=1000000000000000) :
 Calls prog 13 #[.agg cs.toArray,.int .i64 k] w fun e w'=>e=.returned (.int .i64 (kR7 k U))/\Zad lo hi w w'/\Zfq lo hi w' cs (ZdL k U):=by
 have HN:=Zaa hn;obtain⟨b1,b2,b3,b4,b5,b6,b7⟩:=ZhZ hn h0 hk;have w3:=hn.2.2.2.1;have w4:=hn.2.2.2.2.1;unfold Zbf at w3;unfold ZaN at w4;obtain⟨a0,k0,a1,k1,a2,k2,a3,k3,a4,k4,a5,k5,a6,k6,c,hcs,h⟩:=h;have c3:cs[3]?=some (.int .i64 U.sf.pr):=by rw [hcs];rfl
 have c4:cs[4]?=some (.int .i64 U.sf.kn):=by rw [hcs];rfl
 have c5:cs[5]?=some (.slice a0 U.sf.sl.length k0):=by rw [hcs];rfl
 have c6:cs[6]?=some (.int .i64 U.dk.pr):=by rw [hcs];rfl
 have c7:cs[7]?=some (.int .i64 U.dk.kn):=by rw [hcs];rfl
 have c8:cs[8]?=some (.slice a1 U.dk.sl.length k1):=by rw [hcs];rfl
 have c9:cs[9]?=some (.slice a2 U.he.length k2):=by rw [hcs];rfl
 have c10:cs[10]?=some (.slice a3 U.wi.length k3):=by rw [hcs];rfl
 have c14:cs[14]?=some (.slice a4 U.ye.length k4):=by rw [hcs];rfl
 have c15:cs[15]?=some (.slice a5 U.be.length k5):=by rw [hcs];rfl
 have c16:cs[16]?=some (.slice a6 U.ac.length k6):=by rw [hcs];rfl
 have HCS:=Zaa hcs;have HSG:=Zaa h.seg;have HAP:=Zaa h.ap;have O0:=Zaa h.o0;have O1:=Zaa h.o1;have O2:=Zaa h.o2;have O3:=Zaa h.o3;have O4:=Zaa h.o4;have O5:=Zaa h.o5;have O6:=Zaa h.o6;clear h hcs hn;go_enter func13,ntmps13;go_wp2_with fail;generalize hWa:w.alloc _=Wa;have HB:Hd (Zw_ w Wa):=by unfold Hd;rw [<- hWa];exact (Zab w _)
 have F:Hd (Box Wa w.heap.size cs.toArray):=by unfold Hd;rw [<- hWa];exact (Box.new _ _ _ _ rfl)
 clear hWa;have HT:Hd (Zad lo hi w Wa):=Zad.below HB.o;replace O0:=Zaa (O0.o.below HB.o);replace O1:=Zaa (O1.o.below HB.o);replace O2:=Zaa (O2.o.below HB.o);replace O3:=Zaa (O3.o.below HB.o);replace O4:=Zaa (O4.o.below HB.o);replace O5:=Zaa (O5.o.below HB.o);replace O6:=Zaa (O6.o.below HB.o);refine (ZcB (c 0).1 (c 0).2 a0 k0 U.sf (kR0 k U) _ O0.o HN.o.1 (show (0:Int)<=kR0 k U from h0) (show kR0 k U<=2000000000000000000 from Int.le_trans hk (by decide))).mono ?_;rintro e w11 ⟨rfl,ht,ho⟩;rw [show kR0 k U+(Zbo U.sf.sl U.sf.sl.length:Int)=kR1 k U from rfl];replace HT:Hd (Zad lo hi w w11):=HT.o.trans (ht.wide (HSG.o 0 (by decide)).1 (HSG.o 0 (by decide)).2);replace F:=Zaa (F.o.tch ht (Nat.le_trans (HSG.o 0 (by decide)).2 hhi));replace O1:=Zaa (O1.o.touch ht (HAP.o 1 0 (by decide) (by decide) (by decide)))
 replace O2:=Zaa (O2.o.touch ht (HAP.o 2 0 (by decide) (by decide) (by decide)));replace O3:=Zaa (O3.o.touch ht (HAP.o 3 0 (by decide) (by decide) (by decide)));replace O4:=Zaa (O4.o.touch ht (HAP.o 4 0 (by decide) (by decide) (by decide)));replace O5:=Zaa (O5.o.touch ht (HAP.o 5 0 (by decide) (by decide) (by decide)));replace O6:=Zaa (O6.o.touch ht (HAP.o 6 0 (by decide) (by decide) (by decide)));clear O0 ht;have O0:=Zaa ho;clear ho;have g6:w11.cell? ⟨w.heap.size,6,none⟩=some (.int .i64 U.dk.pr):=by rw [F.o.cell 6,List.getElem?_toArray];exact c6
 have g7:w11.cell? ⟨w.heap.size,7,none⟩=some (.int .i64 U.dk.kn):=by rw [F.o.cell 7,List.getElem?_toArray];exact c7
 have g8:w11.cell? ⟨w.heap.size,8,none⟩=some (.slice a1 U.dk.sl.length k1):=by rw [F.o.cell 8,List.getElem?_toArray];exact c8
 go_wp2_with fail;clear g6 g7 g8;refine (ZcB (c 1).1 (c 1).2 a1 k1 U.dk (kR1 k U) _ O1.o HN.o.2.1 (by omega) (by omega)).mono ?_;rintro e w12 ⟨rfl,ht,ho⟩;rw [show kR1 k U+(Zbo U.dk.sl U.dk.sl.length:Int)=kR2 k U from rfl];replace HT:Hd (Zad lo hi w w12):=HT.o.trans (ht.wide (HSG.o 1 (by decide)).1 (HSG.o 1 (by decide)).2);replace F:=Zaa (F.o.tch ht (Nat.le_trans (HSG.o 1 (by decide)).2 hhi));replace O0:=Zaa (O0.o.touch ht (HAP.o 0 1 (by decide) (by decide) (by decide)));replace O2:=Zaa (O2.o.touch ht (HAP.o 2 1 (by decide) (by decide) (by decide)));replace O3:=Zaa (O3.o.touch ht (HAP.o 3 1 (by decide) (by decide) (by decide)));replace O4:=Zaa (O4.o.touch ht (HAP.o 4 1 (by decide) (by decide) (by decide)));replace O5:=Zaa (O5.o.touch ht (HAP.o 5 1 (by decide) (by decide) (by decide)))
 replace O6:=Zaa (O6.o.touch ht (HAP.o 6 1 (by decide) (by decide) (by decide)));clear O1 ht;have O1:=Zaa ho;clear ho;have g9:w12.cell? ⟨w.heap.size,9,none⟩=some (.slice a2 U.he.length k2):=by rw [F.o.cell 9,List.getElem?_toArray];exact c9
 go_wp2_with fail;clear g9;refine (Zgd (c 2).1 (c 2).2 _ U.he (kR2 k U) _ O2.o HN.o.2.2.1 (by omega) (by omega)).mono ?_;rintro e w13 ⟨rfl,ht,ho⟩;rw [show kR2 k U+(ZbC U.he U.he.length:Int)=kR3 k U from rfl];replace HT:Hd (Zad lo hi w w13):=HT.o.trans (ht.wide (HSG.o 2 (by decide)).1 (HSG.o 2 (by decide)).2);replace F:=Zaa (F.o.tch ht (Nat.le_trans (HSG.o 2 (by decide)).2 hhi));replace O0:=Zaa (O0.o.touch ht (HAP.o 0 2 (by decide) (by decide) (by decide)));replace O1:=Zaa (O1.o.touch ht (HAP.o 1 2 (by decide) (by decide) (by decide)));replace O3:=Zaa (O3.o.touch ht (HAP.o 3 2 (by decide) (by decide) (by decide)));replace O4:=Zaa (O4.o.touch ht (HAP.o 4 2 (by decide) (by decide) (by decide)));replace O5:=Zaa (O5.o.touch ht (HAP.o 5 2 (by decide) (by decide) (by decide)))
 replace O6:=Zaa (O6.o.touch ht (HAP.o 6 2 (by decide) (by decide) (by decide)));clear O2 ht;have O2:=Zaa ho;clear ho;have g10:w13.cell? ⟨w.heap.size,10,none⟩=some (.slice a3 U.wi.length k3):=by rw [F.o.cell 10,List.getElem?_toArray];exact c10
 go_wp2_with fail;clear g10;refine (Zef (c 3).1 (c 3).2 _ U.wi (kR3 k U) _ O3.o (by omega) (by omega)).mono ?_;rintro e w14 ⟨rfl,ht,ho⟩;rw [show kR3 k U+(U.wi.length:Int)=kR4 k U from rfl];replace HT:Hd (Zad lo hi w w14):=HT.o.trans (ht.wide (HSG.o 3 (by decide)).1 (HSG.o 3 (by decide)).2);replace F:=Zaa (F.o.tch ht (Nat.le_trans (HSG.o 3 (by decide)).2 hhi));replace O0:=Zaa (O0.o.touch ht (HAP.o 0 3 (by decide) (by decide) (by decide)));replace O1:=Zaa (O1.o.touch ht (HAP.o 1 3 (by decide) (by decide) (by decide)));replace O2:=Zaa (O2.o.touch ht (HAP.o 2 3 (by decide) (by decide) (by decide)));replace O4:=Zaa (O4.o.touch ht (HAP.o 4 3 (by decide) (by decide) (by decide)));replace O5:=Zaa (O5.o.touch ht (HAP.o 5 3 (by decide) (by decide) (by decide)));replace O6:=Zaa (O6.o.touch ht (HAP.o 6 3 (by decide) (by decide) (by decide)))
 clear O3 ht;have O3:=Zaa ho;clear ho;have g14:w14.cell? ⟨w.heap.size,14,none⟩=some (.slice a4 U.ye.length k4):=by rw [F.o.cell 14,List.getElem?_toArray];exact c14
 go_wp2_with fail;clear g14;refine (ZcC (c 4).1 (c 4).2 _ U.ye (kR4 k U) _ O4.o (by omega) (by omega)).mono ?_;rintro e w15 ⟨rfl,ht,ho⟩;rw [show kR4 k U+(U.ye.length:Int)=kR5 k U from rfl];replace HT:Hd (Zad lo hi w w15):=HT.o.trans (ht.wide (HSG.o 4 (by decide)).1 (HSG.o 4 (by decide)).2);replace F:=Zaa (F.o.tch ht (Nat.le_trans (HSG.o 4 (by decide)).2 hhi));replace O0:=Zaa (O0.o.touch ht (HAP.o 0 4 (by decide) (by decide) (by decide)));replace O1:=Zaa (O1.o.touch ht (HAP.o 1 4 (by decide) (by decide) (by decide)));replace O2:=Zaa (O2.o.touch ht (HAP.o 2 4 (by decide) (by decide) (by decide)));replace O3:=Zaa (O3.o.touch ht (HAP.o 3 4 (by decide) (by decide) (by decide)));replace O5:=Zaa (O5.o.touch ht (HAP.o 5 4 (by decide) (by decide) (by decide)));replace O6:=Zaa (O6.o.touch ht (HAP.o 6 4 (by decide) (by decide) (by decide)))
 clear O4 ht;have O4:=Zaa ho;clear ho;have g15:w15.cell? ⟨w.heap.size,15,none⟩=some (.slice a5 U.be.length k5):=by rw [F.o.cell 15,List.getElem?_toArray];exact c15
 go_wp2_with fail;clear g15;refine (ZcD (c 5).1 (c 5).2 _ U.be (kR5 k U) _ O5.o HN.o.2.2.2.2.2.1 (by omega) (by omega)).mono ?_;rintro e w16 ⟨rfl,ht,ho⟩;rw [show kR5 k U+(Zbo U.be U.be.length:Int)=kR6 k U from rfl];replace HT:Hd (Zad lo hi w w16):=HT.o.trans (ht.wide (HSG.o 5 (by decide)).1 (HSG.o 5 (by decide)).2);replace F:=Zaa (F.o.tch ht (Nat.le_trans (HSG.o 5 (by decide)).2 hhi));replace O0:=Zaa (O0.o.touch ht (HAP.o 0 5 (by decide) (by decide) (by decide)));replace O1:=Zaa (O1.o.touch ht (HAP.o 1 5 (by decide) (by decide) (by decide)));replace O2:=Zaa (O2.o.touch ht (HAP.o 2 5 (by decide) (by decide) (by decide)));replace O3:=Zaa (O3.o.touch ht (HAP.o 3 5 (by decide) (by decide) (by decide)));replace O4:=Zaa (O4.o.touch ht (HAP.o 4 5 (by decide) (by decide) (by decide)))
 replace O6:=Zaa (O6.o.touch ht (HAP.o 6 5 (by decide) (by decide) (by decide)));clear O5 ht;have O5:=Zaa ho;clear ho;have g16:w16.cell? ⟨w.heap.size,16,none⟩=some (.slice a6 U.ac.length k6):=by rw [F.o.cell 16,List.getElem?_toArray];exact c16
 go_wp2_with fail;clear g16;refine (Zgc (c 6).1 (c 6).2 _ U.ac (kR6 k U) _ O6.o HN.o.2.2.2.2.2.2 (by omega) (by omega)).mono ?_;rintro e w17 ⟨rfl,ht,ho⟩;rw [show kR6 k U+(ZbB U.ac U.ac.length:Int)=kR7 k U from rfl];replace HT:Hd (Zad lo hi w w17):=HT.o.trans (ht.wide (HSG.o 6 (by decide)).1 (HSG.o 6 (by decide)).2);replace F:=Zaa (F.o.tch ht (Nat.le_trans (HSG.o 6 (by decide)).2 hhi));replace O0:=Zaa (O0.o.touch ht (HAP.o 0 6 (by decide) (by decide) (by decide)));replace O1:=Zaa (O1.o.touch ht (HAP.o 1 6 (by decide) (by decide) (by decide)));replace O2:=Zaa (O2.o.touch ht (HAP.o 2 6 (by decide) (by decide) (by decide)));replace O3:=Zaa (O3.o.touch ht (HAP.o 3 6 (by decide) (by decide) (by decide)));replace O4:=Zaa (O4.o.touch ht (HAP.o 4 6 (by decide) (by decide) (by decide)))
 replace O5:=Zaa (O5.o.touch ht (HAP.o 5 6 (by decide) (by decide) (by decide)));clear O6 ht;have O6:=Zaa ho;clear ho;go_wp2;go_ret;exact⟨rfl,HT.o,a0,k0,a1,k1,a2,k2,a3,k3,a4,k4,a5,k5,a6,k6,c,by rw [Zh4];exact HCS.o,⟨HSG.o,HAP.o,by have:=O0.o;simp only [ZdL,ZaL];exact this,by have:=O1.o;simp only [ZdL,ZaL];exact this,by have:=O2.o;simp only [ZdL,ZaQ];exact this,by have:=O3.o;simp only [ZdL,Za6];exact this,by have:=O4.o;simp only [ZdL,Za0];exact this,by have:=O5.o;simp only [ZdL,ZaL];exact this,by have:=O6.o;simp only [ZdL,ZaP];exact this⟩⟩
theorem Zea (lo hi:Nat) (a:Option Addr) (m:Nat) (D:Rd) (k:Int) (w:World) (h:Zap lo hi w (.slice a D.sl.length m) (Zct k D.sl)) (hn:Zcx D) (h0:0<=k) (hk:k<=2000000000000000000) :
 Calls prog 52 #[.agg #[.int .i64 D.pr,.int .i64 D.kn,.slice a D.sl.length m],.int .i64 k] w fun e w'=>e=.returned (.int .i64 (k+(Zbo D.sl D.sl.length:Int)))/\Zw_ w w':=by
 have H:=Zaa h;clear h;have HO:∀ o,Hd (Zw_ w (w.alloc o)):=fun o=>Zab w o
 go_enter func52,ntmps52;go_wp2_with fail;refine (Zdc lo hi _ D.sl k _ (H.o.below (HO _).o) hn h0 hk).mono ?_;rintro e w1 ⟨rfl,hb⟩;have HB:=Zaa (bt (HO _).o hb);clear hb;obtain⟨q,hq⟩:∃ q:Int,q=k+(Zbo D.sl D.sl.length:Int):=⟨_,rfl⟩
 rw [<- hq];have hq0:¬ q < 0:=by omega
 have HQ:=Zaa hq;clear hq;go_wp2;go_ret;exact⟨Zfe HQ.o,HB.o⟩
section
variable {w w':World} {v:Value} {L:List Rs} {lo hi lo' hi':Nat} {U:Rr} {cs:List Value}
def Zje (S:Nat->Prop) (w:World) (v:Value) (L:List Rs):Prop:=∃ l u,(∀ k,l<=k->k < u->S k)/\Zap l u w v L
def Zj4 (S:Nat->Prop) (w:World) (v:Value) (L:List Zy_):Prop:=∃ l u,(∀ k,l<=k->k < u->S k)/\Za5 l u w v L
def Zj3 (S:Nat->Prop) (w:World) (v:Value) (L:List Int):Prop:=∃ l u,(∀ k,l<=k->k < u->S k)/\ZaF l u w v L
theorem Zje.kept {K S:Nat->Prop} (h:Zje S w v L) (hk:Zag K w w') (ho:∀ k,S k->K k):Zje S w' v L:=by
 obtain⟨l,u,h1,h2⟩:=h;exact⟨l,u,h1,h2.kept hk fun k a b=>ho k (h1 k a b)⟩
theorem Zj4.kept {K S:Nat->Prop}{L:List Zy_} (h:Zj4 S w v L) (hk:Zag K w w') (ho:∀ k,S k->K k):Zj4 S w' v L:=by
 obtain⟨l,u,h1,h2⟩:=h;exact⟨l,u,h1,h2.kept hk fun k a b=>ho k (h1 k a b)⟩
theorem Zj3.kept {K S:Nat->Prop}{L:List Int} (h:Zj3 S w v L) (hk:Zag K w w') (ho:∀ k,S k->K k):Zj3 S w' v L:=by
 obtain⟨l,u,h1,h2⟩:=h;exact⟨l,u,h1,h2.kept hk fun k a b=>ho k (h1 k a b)⟩
structure ZkB (lo hi:Nat) (w:World) (S:Nat->Nat->Prop) (v0 v1 v2 v3 v4 v5 v6:Value) (U:Rr):Prop where
 top:hi<=w.heap.size
 seg:∀ i,i < 7->∀ k,S i k->lo<=k/\k < hi
 ap:∀ i j,i < 7->j < 7->i≠j->∀ k,S i k->¬ S j k
 o0:Zje (S 0) w v0 U.sf.sl
 o1:Zje (S 1) w v1 U.dk.sl
 o2:ZbH (S 2) w v2 U.he
 o3:Zj4 (S 3) w v3 U.wi
 o4:Zj3 (S 4) w v4 U.ye
 o5:Zje (S 5) w v5 U.be
 o6:ZbG (S 6) w v6 U.ac
theorem ZkB.kept {K:Nat->Prop}{S:Nat->Nat->Prop}{v0 v1 v2 v3 v4 v5 v6:Value} (h:ZkB lo hi w S v0 v1 v2 v3 v4 v5 v6 U) (hk:Zag K w w') (ho:∀ k,lo<=k->k < hi->K k):ZkB lo hi w' S v0 v1 v2 v3 v4 v5 v6 U:=
 ⟨Nat.le_trans h.top hk.size,h.seg,h.ap,h.o0.kept hk (fun k hs=>ho k (h.seg 0 (by decide) k hs).1 (h.seg 0 (by decide) k hs).2),h.o1.kept hk (fun k hs=>ho k (h.seg 1 (by decide) k hs).1 (h.seg 1 (by decide) k hs).2),h.o2.kept hk (fun k hs=>ho k (h.seg 2 (by decide) k hs).1 (h.seg 2 (by decide) k hs).2),h.o3.kept hk (fun k hs=>ho k (h.seg 3 (by decide) k hs).1 (h.seg 3 (by decide) k hs).2),h.o4.kept hk (fun k hs=>ho k (h.seg 4 (by decide) k hs).1 (h.seg 4 (by decide) k hs).2),h.o5.kept hk (fun k hs=>ho k (h.seg 5 (by decide) k hs).1 (h.seg 5 (by decide) k hs).2),h.o6.kept hk (fun k hs=>ho k (h.seg 6 (by decide) k hs).1 (h.seg 6 (by decide) k hs).2)⟩
def Zbl (lo hi:Nat) (w:World) (cs:List Value) (U:Rr):Prop:=∃ a0 k0 a1 k1 a2 k2 a3 k3 a4 k4 a5 k5 a6 k6 S,cs=rrL U a0 k0 a1 k1 a2 k2 a3 k3 a4 k4 a5 k5 a6 k6/\ZkB lo hi w S (.slice a0 U.sf.sl.length k0) (.slice a1 U.dk.sl.length k1) (.slice a2 U.he.length k2) (.slice a3 U.wi.length k3) (.slice a4 U.ye.length k4) (.slice a5 U.be.length k5) (.slice a6 U.ac.length k6) U
theorem Zbl.kept {K:Nat->Prop} (h:Zbl lo hi w cs U) (hk:Zag K w w') (ho:∀ k,lo<=k->k < hi->K k):Zbl lo hi w' cs U:=by
 obtain⟨a0,k0,a1,k1,a2,k2,a3,k3,a4,k4,a5,k5,a6,k6,S,h1,h2⟩:=h;exact⟨a0,k0,a1,k1,a2,k2,a3,k3,a4,k4,a5,k5,a6,k6,S,h1,h2.kept hk ho⟩
theorem Zbl.below (h:Zbl lo hi w cs U) (hb:Zw_ w w'):Zbl lo hi w' cs U:=by
 have ht:hi<=w.heap.size:=by obtain⟨a0,k0,a1,k1,a2,k2,a3,k3,a4,k4,a5,k5,a6,k6,S,h1,h2⟩:=h;exact h2.top
 exact h.kept (Zag.below hb (fun _ h=>h)) (fun k _ h2=>Zk_ h2 ht)
theorem Zbl.touch (h:Zbl lo hi w cs U) (ht:Zad lo' hi' w w') (ho:hi<=lo'\/hi'<=lo):Zbl lo hi w' cs U:=by
 have htp:hi<=w.heap.size:=by obtain⟨a0,k0,a1,k1,a2,k2,a3,k3,a4,k4,a5,k5,a6,k6,S,h1,h2⟩:=h;exact h2.top
 exact h.kept (K:=fun k=>k < w.heap.size/\(k < lo'\/hi'<=k)) (Zag.touch ht (fun _ h=>h)) (fun k h1 h2=>by omega)
theorem Zbl.wide (h:Zbl lo hi w cs U) (h1:lo'<=lo) (h2:hi<=hi') (h3:hi'<=w.heap.size):Zbl lo' hi' w cs U:=by
 obtain⟨a0,k0,a1,k1,a2,k2,a3,k3,a4,k4,a5,k5,a6,k6,S,e,h⟩:=h;exact⟨a0,k0,a1,k1,a2,k2,a3,k3,a4,k4,a5,k5,a6,k6,S,e,⟨h3,fun i hi k hk=>by have:=h.seg i hi k hk;omega,h.ap,h.o0,h.o1,h.o2,h.o3,h.o4,h.o5,h.o6⟩⟩
theorem Zje.at {S:Nat->Prop} (h:Zje S w v L) (hS:∀ k,S k->lo<=k):Zaq lo w v L:=by
 obtain⟨l,u,h1,h2⟩:=h;exact h2.at_ge fun k a b=>hS k (h1 k a b)
theorem Zj4.at {S:Nat->Prop}{L:List Zy_} (h:Zj4 S w v L) (hS:∀ k,S k->lo<=k):Za2 lo w v L:=by
 obtain⟨l,u,h1,h2⟩:=h;exact h2.at_ge fun k a b=>hS k (h1 k a b)
theorem Zj3.at {S:Nat->Prop}{L:List Int} (h:Zj3 S w v L) (hS:∀ k,S k->lo<=k):ZaJ lo w v L:=by
 obtain⟨l,u,h1,h2⟩:=h;exact h2.at_ge fun k a b=>hS k (h1 k a b)
theorem Zbl.at (h:Zbl lo hi w cs U):RrC lo w cs U:=by
 obtain⟨a0,k0,a1,k1,a2,k2,a3,k3,a4,k4,a5,k5,a6,k6,S,h1,h2⟩:=h;exact⟨a0,k0,a1,k1,a2,k2,a3,k3,a4,k4,a5,k5,a6,k6,h1,⟨h2.o0.at (fun k hs=>(h2.seg 0 (by decide) k hs).1),h2.o1.at (fun k hs=>(h2.seg 1 (by decide) k hs).1),h2.o2.at (fun k hs=>(h2.seg 2 (by decide) k hs).1),h2.o3.at (fun k hs=>(h2.seg 3 (by decide) k hs).1),h2.o4.at (fun k hs=>(h2.seg 4 (by decide) k hs).1),h2.o5.at (fun k hs=>(h2.seg 5 (by decide) k hs).1),h2.o6.at (fun k hs=>(h2.seg 6 (by decide) k hs).1)⟩⟩
theorem Zge (lo hi:Nat) (cs:List Value) (U:Rr) (k:Int) (w:World) (h:Zbl lo hi w cs U) (hn:Zbd U) (h0:0<=k) (hk:k<=1000000000000000) :
 Calls prog 13 #[.agg cs.toArray,.int .i64 k] w fun e w'=>e=.returned (.int .i64 (kR7 k U))/\Zad lo hi w w'/\Zbl lo hi w' cs (ZdL k U):=by
 have HN:=Zaa hn;obtain⟨b1,b2,b3,b4,b5,b6,b7⟩:=ZhZ hn h0 hk;have w3:=hn.2.2.2.1;have w4:=hn.2.2.2.2.1;unfold Zbf at w3;unfold ZaN at w4;obtain⟨a0,k0,a1,k1,a2,k2,a3,k3,a4,k4,a5,k5,a6,k6,S,hcs,h⟩:=h;have c3:cs[3]?=some (.int .i64 U.sf.pr):=by rw [hcs];rfl
 have c4:cs[4]?=some (.int .i64 U.sf.kn):=by rw [hcs];rfl
 have c5:cs[5]?=some (.slice a0 U.sf.sl.length k0):=by rw [hcs];rfl
 have c6:cs[6]?=some (.int .i64 U.dk.pr):=by rw [hcs];rfl
 have c7:cs[7]?=some (.int .i64 U.dk.kn):=by rw [hcs];rfl
 have c8:cs[8]?=some (.slice a1 U.dk.sl.length k1):=by rw [hcs];rfl
 have c9:cs[9]?=some (.slice a2 U.he.length k2):=by rw [hcs];rfl
 have c10:cs[10]?=some (.slice a3 U.wi.length k3):=by rw [hcs];rfl
 have c14:cs[14]?=some (.slice a4 U.ye.length k4):=by rw [hcs];rfl
 have c15:cs[15]?=some (.slice a5 U.be.length k5):=by rw [hcs];rfl
 have c16:cs[16]?=some (.slice a6 U.ac.length k6):=by rw [hcs];rfl
 have HTP:=Zaa h.top;have HSG:=Zaa h.seg;have HAP:=Zaa h.ap;have HCS:=Zaa hcs;obtain⟨l0,u0,s0,o0⟩:=h.o0;have S0:=Zaa s0;have O0:=Zaa o0;clear o0 s0;obtain⟨l1,u1,s1,o1⟩:=h.o1;have S1:=Zaa s1;have O1:=Zaa o1;clear o1 s1;have o2:=h.o2;have O2:=Zaa o2;clear o2;obtain⟨l3,u3,s3,o3⟩:=h.o3;have S3:=Zaa s3;have O3:=Zaa o3;clear o3 s3;obtain⟨l4,u4,s4,o4⟩:=h.o4;have S4:=Zaa s4;have O4:=Zaa o4;clear o4 s4;obtain⟨l5,u5,s5,o5⟩:=h.o5;have S5:=Zaa s5;have O5:=Zaa o5;clear o5 s5;have o6:=h.o6;have O6:=Zaa o6;clear o6;clear h hcs hn;have HKS:Hd (∀ (W:World) i j,w.heap.size<=W.heap.size->i < 7->j < 7->i≠j->∀ k,S i k->k < W.heap.size/\¬ S j k):=fun W i j hW hi hj hne k hS=>⟨by have:=HSG.o i hi k hS;have:=HTP.o;omega,HAP.o i j hi hj hne k hS⟩
 have HKB:Hd (∀ (W:World) i,w.heap.size<=W.heap.size->i < 7->∀ k,S i k->k < W.heap.size):=fun W i hW hi k hS=>by have:=HSG.o i hi k hS;have:=HTP.o;omega
 go_enter func13,ntmps13;go_wp2_with fail;generalize hWa:w.alloc _=Wa;have HB:Hd (Zw_ w Wa):=by unfold Hd;rw [<- hWa];exact (Zab w _)
 have F:Hd (Box Wa w.heap.size cs.toArray):=by unfold Hd;rw [<- hWa];exact (Box.new _ _ _ _ rfl)
 have hz:w.heap.size<=Wa.heap.size:=HB.o.size;clear hWa;have HT:Hd (Zad lo hi w Wa):=Zad.below HB.o;replace O0:=Zaa (O0.o.below HB.o);replace O1:=Zaa (O1.o.below HB.o);replace O2:=Zaa (O2.o.kept (Zag.below HB.o (fun _ h=>h)) (HKB.o _ 2 Zl_ (by decide)));replace O3:=Zaa (O3.o.below HB.o);replace O4:=Zaa (O4.o.below HB.o);replace O5:=Zaa (O5.o.below HB.o);replace O6:=Zaa (O6.o.kept (Zag.below HB.o (fun _ h=>h)) (HKB.o _ 6 Zl_ (by decide)));refine (ZcB l0 u0 a0 k0 U.sf (kR0 k U) _ O0.o HN.o.1 (show (0:Int)<=kR0 k U from h0) (show kR0 k U<=2000000000000000000 from Int.le_trans hk (by decide))).mono ?_;rintro e w11 ⟨rfl,ht,ho⟩;rw [show kR0 k U+(Zbo U.sf.sl U.sf.sl.length:Int)=kR1 k U from rfl];have hts:Zal (S 0) Wa w11:=ht.toS S0.o
 have hkp:Zag (fun k=>k < Wa.heap.size/\¬ S 0 k) Wa w11:=Zag.touchS hts (fun _ h=>h);have hz0:w.heap.size<=w11.heap.size:=Nat.le_trans hz hts.size;replace HT:Hd (Zad lo hi w w11):=HT.o.trans (hts.touch (HSG.o 0 (by decide)));replace F:=Zaa (F.o.kept hkp ⟨F.o.lt,fun hS=>by have:=HSG.o 0 (by decide) _ hS;have:=HTP.o;omega⟩);replace O1:=Zaa (O1.o.kept hkp (fun k h1 h2=>HKS.o Wa 1 0 hz (by decide) (by decide) (by decide) k (S1.o k h1 h2)));replace O2:=Zaa (O2.o.kept hkp (HKS.o Wa 2 0 hz (by decide) (by decide) (by decide)));replace O3:=Zaa (O3.o.kept hkp (fun k h1 h2=>HKS.o Wa 3 0 hz (by decide) (by decide) (by decide) k (S3.o k h1 h2)));replace O4:=Zaa (O4.o.kept hkp (fun k h1 h2=>HKS.o Wa 4 0 hz (by decide) (by decide) (by decide) k (S4.o k h1 h2)))
 replace O5:=Zaa (O5.o.kept hkp (fun k h1 h2=>HKS.o Wa 5 0 hz (by decide) (by decide) (by decide) k (S5.o k h1 h2)));replace O6:=Zaa (O6.o.kept hkp (HKS.o Wa 6 0 hz (by decide) (by decide) (by decide)));clear O0 ht hts hkp hz;have O0:=Zaa ho;have hz:=hz0;clear ho hz0;have g6:w11.cell? ⟨w.heap.size,6,none⟩=some (.int .i64 U.dk.pr):=by rw [F.o.cell 6,List.getElem?_toArray];exact c6
 have g7:w11.cell? ⟨w.heap.size,7,none⟩=some (.int .i64 U.dk.kn):=by rw [F.o.cell 7,List.getElem?_toArray];exact c7
 have g8:w11.cell? ⟨w.heap.size,8,none⟩=some (.slice a1 U.dk.sl.length k1):=by rw [F.o.cell 8,List.getElem?_toArray];exact c8
 go_wp2_with fail;clear g6 g7 g8;refine (ZcB l1 u1 a1 k1 U.dk (kR1 k U) _ O1.o HN.o.2.1 (by omega) (by omega)).mono ?_;rintro e w12 ⟨rfl,ht,ho⟩;rw [show kR1 k U+(Zbo U.dk.sl U.dk.sl.length:Int)=kR2 k U from rfl];have hts:Zal (S 1) w11 w12:=ht.toS S1.o;have hkp:Zag (fun k=>k < w11.heap.size/\¬ S 1 k) w11 w12:=Zag.touchS hts (fun _ h=>h);have hz1:w.heap.size<=w12.heap.size:=Nat.le_trans hz hts.size;replace HT:Hd (Zad lo hi w w12):=HT.o.trans (hts.touch (HSG.o 1 (by decide)));replace F:=Zaa (F.o.kept hkp ⟨F.o.lt,fun hS=>by have:=HSG.o 1 (by decide) _ hS;have:=HTP.o;omega⟩);replace O0:=Zaa (O0.o.kept hkp (fun k h1 h2=>HKS.o w11 0 1 hz (by decide) (by decide) (by decide) k (S0.o k h1 h2)));replace O2:=Zaa (O2.o.kept hkp (HKS.o w11 2 1 hz (by decide) (by decide) (by decide)))
 replace O3:=Zaa (O3.o.kept hkp (fun k h1 h2=>HKS.o w11 3 1 hz (by decide) (by decide) (by decide) k (S3.o k h1 h2)));replace O4:=Zaa (O4.o.kept hkp (fun k h1 h2=>HKS.o w11 4 1 hz (by decide) (by decide) (by decide) k (S4.o k h1 h2)));replace O5:=Zaa (O5.o.kept hkp (fun k h1 h2=>HKS.o w11 5 1 hz (by decide) (by decide) (by decide) k (S5.o k h1 h2)));replace O6:=Zaa (O6.o.kept hkp (HKS.o w11 6 1 hz (by decide) (by decide) (by decide)));clear O1 ht hts hkp hz;have O1:=Zaa ho;have hz:=hz1;clear ho hz1;have g9:w12.cell? ⟨w.heap.size,9,none⟩=some (.slice a2 U.he.length k2):=by rw [F.o.cell 9,List.getElem?_toArray];exact c9
 go_wp2_with fail;clear g9;refine (ZfF (S 2) _ U.he (kR2 k U) _ O2.o HN.o.2.2.1 (by omega) (by omega)).mono ?_;rintro e w13 ⟨rfl,ht,ho⟩;rw [show kR2 k U+(ZbC U.he U.he.length:Int)=kR3 k U from rfl];have hts:Zal (S 2) w12 w13:=ht;have hkp:Zag (fun k=>k < w12.heap.size/\¬ S 2 k) w12 w13:=Zag.touchS hts (fun _ h=>h);have hz2:w.heap.size<=w13.heap.size:=Nat.le_trans hz hts.size;replace HT:Hd (Zad lo hi w w13):=HT.o.trans (hts.touch (HSG.o 2 (by decide)));replace F:=Zaa (F.o.kept hkp ⟨F.o.lt,fun hS=>by have:=HSG.o 2 (by decide) _ hS;have:=HTP.o;omega⟩);replace O0:=Zaa (O0.o.kept hkp (fun k h1 h2=>HKS.o w12 0 2 hz (by decide) (by decide) (by decide) k (S0.o k h1 h2)));replace O1:=Zaa (O1.o.kept hkp (fun k h1 h2=>HKS.o w12 1 2 hz (by decide) (by decide) (by decide) k (S1.o k h1 h2)))
 replace O3:=Zaa (O3.o.kept hkp (fun k h1 h2=>HKS.o w12 3 2 hz (by decide) (by decide) (by decide) k (S3.o k h1 h2)));replace O4:=Zaa (O4.o.kept hkp (fun k h1 h2=>HKS.o w12 4 2 hz (by decide) (by decide) (by decide) k (S4.o k h1 h2)));replace O5:=Zaa (O5.o.kept hkp (fun k h1 h2=>HKS.o w12 5 2 hz (by decide) (by decide) (by decide) k (S5.o k h1 h2)));replace O6:=Zaa (O6.o.kept hkp (HKS.o w12 6 2 hz (by decide) (by decide) (by decide)));clear O2 ht hts hkp hz;have O2:=Zaa ho;have hz:=hz2;clear ho hz2;have g10:w13.cell? ⟨w.heap.size,10,none⟩=some (.slice a3 U.wi.length k3):=by rw [F.o.cell 10,List.getElem?_toArray];exact c10
 go_wp2_with fail;clear g10;refine (Zef l3 u3 _ U.wi (kR3 k U) _ O3.o (by omega) (by omega)).mono ?_;rintro e w14 ⟨rfl,ht,ho⟩;rw [show kR3 k U+(U.wi.length:Int)=kR4 k U from rfl];have hts:Zal (S 3) w13 w14:=ht.toS S3.o;have hkp:Zag (fun k=>k < w13.heap.size/\¬ S 3 k) w13 w14:=Zag.touchS hts (fun _ h=>h);have hz3:w.heap.size<=w14.heap.size:=Nat.le_trans hz hts.size;replace HT:Hd (Zad lo hi w w14):=HT.o.trans (hts.touch (HSG.o 3 (by decide)));replace F:=Zaa (F.o.kept hkp ⟨F.o.lt,fun hS=>by have:=HSG.o 3 (by decide) _ hS;have:=HTP.o;omega⟩);replace O0:=Zaa (O0.o.kept hkp (fun k h1 h2=>HKS.o w13 0 3 hz (by decide) (by decide) (by decide) k (S0.o k h1 h2)));replace O1:=Zaa (O1.o.kept hkp (fun k h1 h2=>HKS.o w13 1 3 hz (by decide) (by decide) (by decide) k (S1.o k h1 h2)))
 replace O2:=Zaa (O2.o.kept hkp (HKS.o w13 2 3 hz (by decide) (by decide) (by decide)));replace O4:=Zaa (O4.o.kept hkp (fun k h1 h2=>HKS.o w13 4 3 hz (by decide) (by decide) (by decide) k (S4.o k h1 h2)));replace O5:=Zaa (O5.o.kept hkp (fun k h1 h2=>HKS.o w13 5 3 hz (by decide) (by decide) (by decide) k (S5.o k h1 h2)));replace O6:=Zaa (O6.o.kept hkp (HKS.o w13 6 3 hz (by decide) (by decide) (by decide)));clear O3 ht hts hkp hz;have O3:=Zaa ho;have hz:=hz3;clear ho hz3;have g14:w14.cell? ⟨w.heap.size,14,none⟩=some (.slice a4 U.ye.length k4):=by rw [F.o.cell 14,List.getElem?_toArray];exact c14
 go_wp2_with fail;clear g14;refine (ZcC l4 u4 _ U.ye (kR4 k U) _ O4.o (by omega) (by omega)).mono ?_;rintro e w15 ⟨rfl,ht,ho⟩;rw [show kR4 k U+(U.ye.length:Int)=kR5 k U from rfl];have hts:Zal (S 4) w14 w15:=ht.toS S4.o;have hkp:Zag (fun k=>k < w14.heap.size/\¬ S 4 k) w14 w15:=Zag.touchS hts (fun _ h=>h);have hz4:w.heap.size<=w15.heap.size:=Nat.le_trans hz hts.size;replace HT:Hd (Zad lo hi w w15):=HT.o.trans (hts.touch (HSG.o 4 (by decide)));replace F:=Zaa (F.o.kept hkp ⟨F.o.lt,fun hS=>by have:=HSG.o 4 (by decide) _ hS;have:=HTP.o;omega⟩);replace O0:=Zaa (O0.o.kept hkp (fun k h1 h2=>HKS.o w14 0 4 hz (by decide) (by decide) (by decide) k (S0.o k h1 h2)));replace O1:=Zaa (O1.o.kept hkp (fun k h1 h2=>HKS.o w14 1 4 hz (by decide) (by decide) (by decide) k (S1.o k h1 h2)))
 replace O2:=Zaa (O2.o.kept hkp (HKS.o w14 2 4 hz (by decide) (by decide) (by decide)));replace O3:=Zaa (O3.o.kept hkp (fun k h1 h2=>HKS.o w14 3 4 hz (by decide) (by decide) (by decide) k (S3.o k h1 h2)));replace O5:=Zaa (O5.o.kept hkp (fun k h1 h2=>HKS.o w14 5 4 hz (by decide) (by decide) (by decide) k (S5.o k h1 h2)));replace O6:=Zaa (O6.o.kept hkp (HKS.o w14 6 4 hz (by decide) (by decide) (by decide)));clear O4 ht hts hkp hz;have O4:=Zaa ho;have hz:=hz4;clear ho hz4;have g15:w15.cell? ⟨w.heap.size,15,none⟩=some (.slice a5 U.be.length k5):=by rw [F.o.cell 15,List.getElem?_toArray];exact c15
 go_wp2_with fail;clear g15;refine (ZcD l5 u5 _ U.be (kR5 k U) _ O5.o HN.o.2.2.2.2.2.1 (by omega) (by omega)).mono ?_;rintro e w16 ⟨rfl,ht,ho⟩;rw [show kR5 k U+(Zbo U.be U.be.length:Int)=kR6 k U from rfl];have hts:Zal (S 5) w15 w16:=ht.toS S5.o;have hkp:Zag (fun k=>k < w15.heap.size/\¬ S 5 k) w15 w16:=Zag.touchS hts (fun _ h=>h);have hz5:w.heap.size<=w16.heap.size:=Nat.le_trans hz hts.size;replace HT:Hd (Zad lo hi w w16):=HT.o.trans (hts.touch (HSG.o 5 (by decide)));replace F:=Zaa (F.o.kept hkp ⟨F.o.lt,fun hS=>by have:=HSG.o 5 (by decide) _ hS;have:=HTP.o;omega⟩);replace O0:=Zaa (O0.o.kept hkp (fun k h1 h2=>HKS.o w15 0 5 hz (by decide) (by decide) (by decide) k (S0.o k h1 h2)));replace O1:=Zaa (O1.o.kept hkp (fun k h1 h2=>HKS.o w15 1 5 hz (by decide) (by decide) (by decide) k (S1.o k h1 h2)))
 replace O2:=Zaa (O2.o.kept hkp (HKS.o w15 2 5 hz (by decide) (by decide) (by decide)));replace O3:=Zaa (O3.o.kept hkp (fun k h1 h2=>HKS.o w15 3 5 hz (by decide) (by decide) (by decide) k (S3.o k h1 h2)));replace O4:=Zaa (O4.o.kept hkp (fun k h1 h2=>HKS.o w15 4 5 hz (by decide) (by decide) (by decide) k (S4.o k h1 h2)));replace O6:=Zaa (O6.o.kept hkp (HKS.o w15 6 5 hz (by decide) (by decide) (by decide)));clear O5 ht hts hkp hz;have O5:=Zaa ho;have hz:=hz5;clear ho hz5;have g16:w16.cell? ⟨w.heap.size,16,none⟩=some (.slice a6 U.ac.length k6):=by rw [F.o.cell 16,List.getElem?_toArray];exact c16
 go_wp2_with fail;clear g16;refine (ZfE (S 6) _ U.ac (kR6 k U) _ O6.o HN.o.2.2.2.2.2.2 (by omega) (by omega)).mono ?_;rintro e w17 ⟨rfl,ht,ho⟩;rw [show kR6 k U+(ZbB U.ac U.ac.length:Int)=kR7 k U from rfl];have hts:Zal (S 6) w16 w17:=ht;have hkp:Zag (fun k=>k < w16.heap.size/\¬ S 6 k) w16 w17:=Zag.touchS hts (fun _ h=>h);have hz6:w.heap.size<=w17.heap.size:=Nat.le_trans hz hts.size;replace HT:Hd (Zad lo hi w w17):=HT.o.trans (hts.touch (HSG.o 6 (by decide)));replace F:=Zaa (F.o.kept hkp ⟨F.o.lt,fun hS=>by have:=HSG.o 6 (by decide) _ hS;have:=HTP.o;omega⟩);replace O0:=Zaa (O0.o.kept hkp (fun k h1 h2=>HKS.o w16 0 6 hz (by decide) (by decide) (by decide) k (S0.o k h1 h2)));replace O1:=Zaa (O1.o.kept hkp (fun k h1 h2=>HKS.o w16 1 6 hz (by decide) (by decide) (by decide) k (S1.o k h1 h2)))
 replace O2:=Zaa (O2.o.kept hkp (HKS.o w16 2 6 hz (by decide) (by decide) (by decide)));replace O3:=Zaa (O3.o.kept hkp (fun k h1 h2=>HKS.o w16 3 6 hz (by decide) (by decide) (by decide) k (S3.o k h1 h2)));replace O4:=Zaa (O4.o.kept hkp (fun k h1 h2=>HKS.o w16 4 6 hz (by decide) (by decide) (by decide) k (S4.o k h1 h2)));replace O5:=Zaa (O5.o.kept hkp (fun k h1 h2=>HKS.o w16 5 6 hz (by decide) (by decide) (by decide) k (S5.o k h1 h2)));clear O6 ht hts hkp hz;have O6:=Zaa ho;have hz:=hz6;clear ho hz6;go_wp2;go_ret
 exact⟨rfl,HT.o,a0,k0,a1,k1,a2,k2,a3,k3,a4,k4,a5,k5,a6,k6,S,by rw [Zh4];exact HCS.o,⟨Nat.le_trans HTP.o hz,HSG.o,HAP.o,⟨l0,u0,S0.o,by have:=O0.o;simp only [ZdL,ZaL];exact this⟩,⟨l1,u1,S1.o,by have:=O1.o;simp only [ZdL,ZaL];exact this⟩,by have:=O2.o;simp only [ZdL,ZaQ];exact this,⟨l3,u3,S3.o,by have:=O3.o;simp only [ZdL,Za6];exact this⟩,⟨l4,u4,S4.o,by have:=O4.o;simp only [ZdL,Za0];exact this⟩,⟨l5,u5,S5.o,by have:=O5.o;simp only [ZdL,ZaL];exact this⟩,by have:=O6.o;simp only [ZdL,ZaP];exact this⟩⟩
theorem Zec (lo hi:Nat) (cs:List Value) (U:Rr) (k:Int) (w:World) (h:Zbl lo hi w cs (ZdL k U)) (hn:Zbd U) (h0:0<=k) (hk:k<=1000000000000000) :
 Calls prog 15 #[.agg cs.toArray,.int .i64 k] w fun e w'=>e=.returned (.int .i64 (kR7 k U))/\Zw_ w w':=by
 have HN:=Zaa hn;obtain⟨b1,b2,b3,b4,b5,b6,b7⟩:=ZhZ hn h0 hk;have w3:=hn.2.2.2.1;have w4:=hn.2.2.2.2.1;unfold Zbf at w3;unfold ZaN at w4;obtain⟨a0,k0,a1,k1,a2,k2,a3,k3,a4,k4,a5,k5,a6,k6,S,hcs,h⟩:=h;rw [Zh4] at hcs;have c3:cs[3]?=some (.int .i64 U.sf.pr):=by rw [hcs];rfl
 have c4:cs[4]?=some (.int .i64 U.sf.kn):=by rw [hcs];rfl
 have c5:cs[5]?=some (.slice a0 U.sf.sl.length k0):=by rw [hcs];rfl
 have c6:cs[6]?=some (.int .i64 U.dk.pr):=by rw [hcs];rfl
 have c7:cs[7]?=some (.int .i64 U.dk.kn):=by rw [hcs];rfl
 have c8:cs[8]?=some (.slice a1 U.dk.sl.length k1):=by rw [hcs];rfl
 have c9:cs[9]?=some (.slice a2 U.he.length k2):=by rw [hcs];rfl
 have c10:cs[10]?=some (.slice a3 U.wi.length k3):=by rw [hcs];rfl
 have c14:cs[14]?=some (.slice a4 U.ye.length k4):=by rw [hcs];rfl
 have c15:cs[15]?=some (.slice a5 U.be.length k5):=by rw [hcs];rfl
 have c16:cs[16]?=some (.slice a6 U.ac.length k6):=by rw [hcs];rfl
 have HTP:=Zaa h.top;have HSG:=Zaa h.seg;have HAP:=Zaa h.ap;obtain⟨l0,u0,s0,o0⟩:=h.o0;have S0:=Zaa s0;have O0:Hd (Zap l0 u0 w (.slice a0 U.sf.sl.length k0) (Zct (kR0 k U) U.sf.sl)):=by have:=o0;simp only [ZdL,ZaL] at this;exact this
 clear o0 s0;obtain⟨l1,u1,s1,o1⟩:=h.o1;have S1:=Zaa s1;have O1:Hd (Zap l1 u1 w (.slice a1 U.dk.sl.length k1) (Zct (kR1 k U) U.dk.sl)):=by have:=o1;simp only [ZdL,ZaL] at this;exact this
 clear o1 s1;have o2:=h.o2;have O2:Hd (ZbH (S 2) w (.slice a2 U.he.length k2) (Ze5 (kR2 k U) U.he)):=by have:=o2;simp only [ZdL,ZaQ] at this;exact this
 clear o2;obtain⟨l3,u3,s3,o3⟩:=h.o3;have S3:=Zaa s3;have O3:Hd (Za5 l3 u3 w (.slice a3 U.wi.length k3) (Zdy (kR3 k U) U.wi.length)):=by have:=o3;simp only [ZdL,Za6] at this;exact this
 clear o3 s3;obtain⟨l4,u4,s4,o4⟩:=h.o4;have S4:=Zaa s4;have O4:Hd (ZaF l4 u4 w (.slice a4 U.ye.length k4) (Zcs (kR4 k U) U.ye.length)):=by have:=o4;simp only [ZdL,Za0] at this;exact this
 clear o4 s4;obtain⟨l5,u5,s5,o5⟩:=h.o5;have S5:=Zaa s5;have O5:Hd (Zap l5 u5 w (.slice a5 U.be.length k5) (Zct (kR5 k U) U.be)):=by have:=o5;simp only [ZdL,ZaL] at this;exact this
 clear o5 s5;have o6:=h.o6;have O6:Hd (ZbG (S 6) w (.slice a6 U.ac.length k6) (Ze4 (kR6 k U) U.ac)):=by have:=o6;simp only [ZdL,ZaP] at this;exact this
 clear o6;clear h hcs hn;have HKB:Hd (∀ (W:World) i,w.heap.size<=W.heap.size->i < 7->∀ k,S i k->k < W.heap.size):=fun W i hW hi k hS=>by have:=HSG.o i hi k hS;have:=HTP.o;omega
 go_enter func15,ntmps15;go_wp2_with fail;generalize hWa:w.alloc _=Wa;have HB:Hd (Zw_ w Wa):=by unfold Hd;rw [<- hWa];exact (Zab w _)
 have F:Hd (Box Wa w.heap.size cs.toArray):=by unfold Hd;rw [<- hWa];exact (Box.new _ _ _ _ rfl)
 have hz:w.heap.size<=Wa.heap.size:=HB.o.size;clear hWa;replace O0:=Zaa (O0.o.below HB.o);replace O1:=Zaa (O1.o.below HB.o);replace O2:=Zaa (O2.o.kept (Zag.below HB.o (fun _ h=>h)) (HKB.o _ 2 Zl_ (by decide)));replace O3:=Zaa (O3.o.below HB.o);replace O4:=Zaa (O4.o.below HB.o);replace O5:=Zaa (O5.o.below HB.o);replace O6:=Zaa (O6.o.kept (Zag.below HB.o (fun _ h=>h)) (HKB.o _ 6 Zl_ (by decide)));refine (Zea l0 u0 a0 k0 U.sf (kR0 k U) _ O0.o HN.o.1 (show (0:Int)<=kR0 k U from h0) (show kR0 k U<=2000000000000000000 from Int.le_trans hk (by decide))).mono ?_;rintro e w11 ⟨rfl,hb⟩;rw [show kR0 k U+(Zbo U.sf.sl U.sf.sl.length:Int)=kR1 k U from rfl];have hz0:w.heap.size<=w11.heap.size:=Nat.le_trans hz hb.size;replace HB:Hd (Zw_ w w11):=bt HB.o hb;replace F:=Zaa (F.o.on hb)
 replace O1:=Zaa (O1.o.below hb);replace O2:=Zaa (O2.o.kept (Zag.below hb (fun _ h=>h)) (HKB.o _ 2 hz (by decide)));replace O3:=Zaa (O3.o.below hb);replace O4:=Zaa (O4.o.below hb);replace O5:=Zaa (O5.o.below hb);replace O6:=Zaa (O6.o.kept (Zag.below hb (fun _ h=>h)) (HKB.o _ 6 hz (by decide)));clear hb hz;have hz:=hz0;clear hz0;have z1:¬ kR1 k U < 0:=by omega
 have g6:w11.cell? ⟨w.heap.size,6,none⟩=some (.int .i64 U.dk.pr):=by rw [F.o.cell 6,List.getElem?_toArray];exact c6
 have g7:w11.cell? ⟨w.heap.size,7,none⟩=some (.int .i64 U.dk.kn):=by rw [F.o.cell 7,List.getElem?_toArray];exact c7
 have g8:w11.cell? ⟨w.heap.size,8,none⟩=some (.slice a1 U.dk.sl.length k1):=by rw [F.o.cell 8,List.getElem?_toArray];exact c8
 go_wp2_with fail;clear g6 g7 g8;refine (Zea l1 u1 a1 k1 U.dk (kR1 k U) _ O1.o HN.o.2.1 (by omega) (by omega)).mono ?_;rintro e w12 ⟨rfl,hb⟩;rw [show kR1 k U+(Zbo U.dk.sl U.dk.sl.length:Int)=kR2 k U from rfl];have hz1:w.heap.size<=w12.heap.size:=Nat.le_trans hz hb.size;replace HB:Hd (Zw_ w w12):=bt HB.o hb;replace F:=Zaa (F.o.on hb);replace O2:=Zaa (O2.o.kept (Zag.below hb (fun _ h=>h)) (HKB.o _ 2 hz (by decide)));replace O3:=Zaa (O3.o.below hb);replace O4:=Zaa (O4.o.below hb);replace O5:=Zaa (O5.o.below hb);replace O6:=Zaa (O6.o.kept (Zag.below hb (fun _ h=>h)) (HKB.o _ 6 hz (by decide)));clear hb hz;have hz:=hz1;clear hz1;have z2:¬ kR2 k U < 0:=by omega
 have g9:w12.cell? ⟨w.heap.size,9,none⟩=some (.slice a2 U.he.length k2):=by rw [F.o.cell 9,List.getElem?_toArray];exact c9
 go_wp2_with fail;clear g9;refine (Zfz (S 2) _ U.he (kR2 k U) _ O2.o HN.o.2.2.1 (by omega) (by omega)).mono ?_;rintro e w13 ⟨rfl,hb⟩;rw [show kR2 k U+(ZbC U.he U.he.length:Int)=kR3 k U from rfl];have hz2:w.heap.size<=w13.heap.size:=Nat.le_trans hz hb.size;replace HB:Hd (Zw_ w w13):=bt HB.o hb;replace F:=Zaa (F.o.on hb);replace O3:=Zaa (O3.o.below hb);replace O4:=Zaa (O4.o.below hb);replace O5:=Zaa (O5.o.below hb);replace O6:=Zaa (O6.o.kept (Zag.below hb (fun _ h=>h)) (HKB.o _ 6 hz (by decide)));clear hb hz;have hz:=hz2;clear hz2;have z3:¬ kR3 k U < 0:=by omega
 have g10:w13.cell? ⟨w.heap.size,10,none⟩=some (.slice a3 U.wi.length k3):=by rw [F.o.cell 10,List.getElem?_toArray];exact c10
 go_wp2_with fail;clear g10;refine (Zf9 _ _ U.wi.length (kR3 k U) _ O3.o.at (by omega) (by omega)).mono ?_;rintro e w14 ⟨rfl,hb⟩;rw [show kR3 k U+(U.wi.length:Int)=kR4 k U from rfl];have hz3:w.heap.size<=w14.heap.size:=Nat.le_trans hz hb.size;replace HB:Hd (Zw_ w w14):=bt HB.o hb;replace F:=Zaa (F.o.on hb);replace O4:=Zaa (O4.o.below hb);replace O5:=Zaa (O5.o.below hb);replace O6:=Zaa (O6.o.kept (Zag.below hb (fun _ h=>h)) (HKB.o _ 6 hz (by decide)));clear hb hz;have hz:=hz3;clear hz3;have z4:¬ kR4 k U < 0:=by omega
 have g14:w14.cell? ⟨w.heap.size,14,none⟩=some (.slice a4 U.ye.length k4):=by rw [F.o.cell 14,List.getElem?_toArray];exact c14
 go_wp2_with fail;clear g14;refine (Zeb _ _ U.ye.length (kR4 k U) _ O4.o.at (by omega) (by omega)).mono ?_;rintro e w15 ⟨rfl,hb⟩;rw [show kR4 k U+(U.ye.length:Int)=kR5 k U from rfl];have hz4:w.heap.size<=w15.heap.size:=Nat.le_trans hz hb.size;replace HB:Hd (Zw_ w w15):=bt HB.o hb;replace F:=Zaa (F.o.on hb);replace O5:=Zaa (O5.o.below hb);replace O6:=Zaa (O6.o.kept (Zag.below hb (fun _ h=>h)) (HKB.o _ 6 hz (by decide)));clear hb hz;have hz:=hz4;clear hz4;have z5:¬ kR5 k U < 0:=by omega
 have g15:w15.cell? ⟨w.heap.size,15,none⟩=some (.slice a5 U.be.length k5):=by rw [F.o.cell 15,List.getElem?_toArray];exact c15
 go_wp2_with fail;clear g15;refine (Zdc l5 u5 _ U.be (kR5 k U) _ O5.o HN.o.2.2.2.2.2.1 (by omega) (by omega)).mono ?_;rintro e w16 ⟨rfl,hb⟩;rw [show kR5 k U+(Zbo U.be U.be.length:Int)=kR6 k U from rfl];have hz5:w.heap.size<=w16.heap.size:=Nat.le_trans hz hb.size;replace HB:Hd (Zw_ w w16):=bt HB.o hb;replace F:=Zaa (F.o.on hb);replace O6:=Zaa (O6.o.kept (Zag.below hb (fun _ h=>h)) (HKB.o _ 6 hz (by decide)));clear hb hz;have hz:=hz5;clear hz5;have z6:¬ kR6 k U < 0:=by omega
 have g16:w16.cell? ⟨w.heap.size,16,none⟩=some (.slice a6 U.ac.length k6):=by rw [F.o.cell 16,List.getElem?_toArray];exact c16
 go_wp2_with fail;clear g16;refine (Zfy (S 6) _ U.ac (kR6 k U) _ O6.o HN.o.2.2.2.2.2.2 (by omega) (by omega)).mono ?_;rintro e w17 ⟨rfl,hb⟩;rw [show kR6 k U+(ZbB U.ac U.ac.length:Int)=kR7 k U from rfl];have hz6:w.heap.size<=w17.heap.size:=Nat.le_trans hz hb.size;replace HB:Hd (Zw_ w w17):=bt HB.o hb;replace F:=Zaa (F.o.on hb);clear hb hz;have hz:=hz6;clear hz6;have z7:¬ kR7 k U < 0:=by omega
 go_wp2;go_ret;exact⟨rfl,HB.o⟩
end
theorem ZfN (x:Rs) (w:World) (hz:ZaV x) :
 Calls prog 112 #[.agg #[.int .i64 x.ba,.string x.tx]] w fun e w'=>e=.returned (.bool (ZbO x))/\Zw_ w w':=by
 have hs:=hz.s0;unfold maxLen at hs;clear hz;have HI:Hd (ZbO x=(inB 0 1000000 x.ba&&(decide (x.tx.size<=160)&&!(x.ba == 0&&!x.tx.toList.isEmpty)))):=rfl;have HO:∀ o,Hd (Zw_ w (w.alloc o)):=fun o=>Zab w o
 cases h1:inB 0 1000000 x.ba with
 | false=>
  have HE:Hd (ZbO x=false):=by unfold Hd;rw [HI.o,h1];rfl
  go_enter func112,ntmps112;go_wp2_with (go_at_call 89;refine (Zah _ _ _ _).mono ?_;rintro e w' ⟨rfl,rfl⟩);go_ret;exact⟨Zac HE.o.symm,(HO _).o⟩
 | true=>
  have hr:=h1;simp only [inB,decide_eq_true_eq] at hr;have HR:=Zaa hr;clear hr
  by_cases h2:x.tx.size<=160
  case neg=>
   have HE:Hd (ZbO x=false):=by unfold Hd;rw [HI.o,h1,decide_eq_false h2];rfl
   have d2:decide ((x.tx.size:Int)<=160)=false:=by simp;omega
   go_enter func112,ntmps112;go_wp2_with (go_at_call 89;refine (Zah _ _ _ _).mono ?_;rintro e w' ⟨rfl,rfl⟩);go_ret;exact⟨Zac HE.o.symm,(HO _).o⟩
  have d2:decide ((x.tx.size:Int)<=160)=true:=by simp;omega
  have HE1:Hd (ZbO x=!(x.ba == 0&&!x.tx.toList.isEmpty)):=by unfold Hd;rw [HI.o,h1,decide_eq_true h2];rfl
  by_cases h3:0 < x.ba
  . have d3:decide ((0:Int) < x.ba)=true:=decide_eq_true h3
    have HE:Hd (ZbO x=true):=by
     unfold Hd;rw [HE1.o,show (x.ba == 0)=false by simp;omega];rfl
    go_enter func112,ntmps112;go_wp2_with (go_at_call 89;refine (Zah _ _ _ _).mono ?_;rintro e w' ⟨rfl,rfl⟩);go_ret;exact⟨Zac HE.o.symm,(HO _).o⟩
  . have d3:decide ((0:Int) < x.ba)=false:=decide_eq_false h3
    have HE2:Hd (ZbO x=x.tx.toList.isEmpty):=by
     unfold Hd;have:=HR.o;rw [HE1.o,show (x.ba == 0)=true by simp;omega];simp
    cases h4:x.tx.toList.isEmpty with
    | true=>
     have HE:Hd (ZbO x=true):=by unfold Hd;rw [HE2.o,h4]
     go_enter func112,ntmps112;go_wp2_with (go_at_call 89;refine (Zah _ _ _ _).mono ?_;rintro e w' ⟨rfl,rfl⟩);go_ret;exact⟨Zac HE.o.symm,(HO _).o⟩
    | false=>
     have HE:Hd (ZbO x=false):=by unfold Hd;rw [HE2.o,h4]
     go_enter func112,ntmps112;go_wp2_with (go_at_call 89;refine (Zah _ _ _ _).mono ?_;rintro e w' ⟨rfl,rfl⟩);go_ret;exact⟨Zac HE.o.symm,(HO _).o⟩
theorem Zau (lo:Nat) (v:Value) (L:List Rs) (w:World) (hv:Zaq lo w v L) :
 Calls prog 91 #[v] w fun e w'=>e=.returned (.bool (ZaT L))/\Zw_ w w':=by
 have HV:=Zaa hv;have hm:=hv.max;unfold maxLen at hm;obtain⟨a,cap,rfl⟩:=hv.form;clear hv;have HI:Hd (ZaT L=(decide (L.length<=120)&&L.all ZbO)):=rfl
 by_cases l0:L.length<=120
 case neg=>
  have HE:Hd (ZaT L=false):=by unfold Hd;rw [HI.o,decide_eq_false l0];rfl
  have d0:decide ((120:Int) < (L.length:Int))=true:=by simp;omega
  go_enter func91,ntmps91;go_wp2;go_ret;exact⟨Zac HE.o.symm,Below.refl _ _⟩
 have d0:decide ((120:Int) < (L.length:Int))=false:=by simp;omega
 have HE1:Hd (ZaT L=L.all ZbO):=by unfold Hd;rw [HI.o,decide_eq_true l0];rfl
 go_enter func91,ntmps91;go_wp2;clear d0
 go_loopw [10] (fun i wr=>∃ k:Nat,i=.int .i64 k/\k<=L.length/\Zw_ w wr/\∀ j (hj:j < L.length),j < k->ZbO L[j]=true) (fun i _=>L.length - (intOf i).toNat)
 case atStart=>exact⟨0,rfl,by omega,Below.refl _ _,fun j _ h=>by omega⟩
 case round=>
  obtain⟨k,rfl,hk,hb,hall⟩:=hrel;have HAL:=Zaa hall;have HB:=Zaa hb;clear hall hb
  by_cases hlt:k < L.length
  . obtain⟨b,off,rfl,hbw,-,hc⟩:=HV.o.full' (by omega)
    obtain⟨hsz,hcc⟩:=hc k hlt;obtain⟨x,hx⟩:∃ x,x=L[k]:=⟨_,rfl⟩
    rw [<- hx] at hsz hcc;have HX:=Zaa hx;have HZ:=Zaa hsz;obtain⟨e0,e1⟩:=hcc.below HB.o hbw;have i0:(0:Int)<=(k:Int):=by omega
    have i1:(k:Int) < (L.length:Int):=by omega
    clear hc hcc hsz hx
    cases h1:ZbO x with
    | false=>
     go_wp2_with (go_at_call 112;refine (ZfN x _ HZ.o).mono ?_;rw [h1];rintro e w1 ⟨rfl,hb1⟩;have HB1:=Zaa hb1;clear hb1);go_ret;exact⟨Zac (by rw [HE1.o];exact (Zfr hlt (by rw [<- HX.o];exact h1)).symm),bt HB.o (bt (Zab _ _) HB1.o)⟩
    | true=>
     go_wp2_with (go_at_call 112;refine (ZfN x _ HZ.o).mono ?_;rw [h1];rintro e w1 ⟨rfl,hb1⟩;have HB1:=Zaa hb1;clear hb1);go_roundw
     . exact⟨k+1,by go_num,by omega,bt HB.o (bt (Zab _ _) HB1.o),Zd1 HAL.o hlt (by rw [<- HX.o];exact h1)⟩
     . simp [intOf];omega
  . have HT:Hd (L.all ZbO=true):=Zf0 (fun i hi=>HAL.o i hi (by omega))
    go_wp2;go_ret;exact⟨Zac (by rw [HE1.o,HT.o]),HB.o⟩
def Zjj (lo hi:Int) (L:List Rs):Bool:=L.all (fun x=>inB lo hi x.ba)
theorem Zdo (l:Nat) (v:Value) (L:List Rs) (lo hi:Int) (w:World) (hv:Zaq l w v L) :
 Calls prog 110 #[v,.int .i64 lo,.int .i64 hi] w fun e w'=>e=.returned (.bool (Zjj lo hi L))/\Zw_ w w':=by
 have HV:=Zaa hv;have hm:=hv.max;unfold maxLen at hm;obtain⟨a,cap,rfl⟩:=hv.form;clear hv;have HE1:Hd (Zjj lo hi L=L.all (fun x=>inB lo hi x.ba)):=rfl;go_enter func110,ntmps110;go_wp2
 go_loopw [11] (fun i wr=>∃ k:Nat,i=.int .i64 k/\k<=L.length/\Zw_ w wr/\∀ j (hj:j < L.length),j < k->inB lo hi L[j].ba=true) (fun i _=>L.length - (intOf i).toNat)
 case atStart=>exact⟨0,rfl,by omega,Below.refl _ _,fun j _ h=>by omega⟩
 case round=>
  obtain⟨k,rfl,hk,hb,hall⟩:=hrel;have HAL:=Zaa hall;have HB:=Zaa hb;clear hall hb
  by_cases hlt:k < L.length
  . obtain⟨b,off,rfl,hbw,-,hc⟩:=HV.o.full' (by omega)
    obtain⟨hsz,hcc⟩:=hc k hlt;obtain⟨x,hx⟩:∃ x,x=L[k]:=⟨_,rfl⟩
    rw [<- hx] at hsz hcc;have HX:=Zaa hx;obtain⟨e0,e1⟩:=hcc.below HB.o hbw;have i0:(0:Int)<=(k:Int):=by omega
    have i1:(k:Int) < (L.length:Int):=by omega
    clear hc hcc hsz hx
    cases h1:inB lo hi x.ba with
    | false=>
     go_wp2_with (go_at_call 89;refine (Zah _ _ _ _).mono ?_;rw [h1];rintro e w' ⟨rfl,rfl⟩);go_ret;exact⟨Zac (by rw [HE1.o];exact (Zfr hlt (by rw [<- HX.o];exact h1)).symm),bt HB.o (Zab _ _)⟩
    | true=>
     go_wp2_with (go_at_call 89;refine (Zah _ _ _ _).mono ?_;rw [h1];rintro e w' ⟨rfl,rfl⟩);go_roundw
     . exact⟨k+1,by go_num,by omega,bt HB.o (Zab _ _),Zd1 (f:=fun x=>inB lo hi x.ba) HAL.o hlt (by rw [<- HX.o];exact h1)⟩
     . simp [intOf];omega
  . have HT:Hd (L.all (fun x=>inB lo hi x.ba)=true):=Zf0 (fun i hi=>HAL.o i hi (by omega))
    go_wp2;go_ret;exact⟨Zac (by rw [HE1.o,HT.o]),HB.o⟩
theorem Zb2 {w:World}{base:Nat}{v:Value}{L:List Rs} (M:List Rs) {ops:Array Oper} {rest:List Oper} {o:Oper} {a:Act} {Q:Exit->Act->World->Prop} (hgd:o.guard=none) (s x:Operand)
 (ho:o.op=.call { callee:=.builtin .append,args:=#[s,x],argTypes:=#[35,35] }) (hs:a.eval s=v) (h:ZeR w base v L) (ao:Option Addr) (m c:Nat) (hx:a.eval x=.slice ao m c) (hM:m=M.length) (hm:ao=none->m=0)
 (hsrc:∀ ad,ao=some ad->∀ j u,(Zai rsL M)[j]?=some u->w.cell? (ad.add j)=some u) (hz:∀ i (h:i < M.length),ZaV M[i]) (hb:L.length+M.length<=10000000) (hbase:base<=w.heap.size)
 (K:∀ v' w',ZeR w' base v' (L ++ M)->Below base w w'->wpList prog ops Q rest (a.put o.dst v') w'):wpList prog ops Q (o :: rest) a w:=by
 obtain⟨v',w',h1,h2,h3⟩:=ZjO o.type h ao m c hM hm hsrc hz hb hbase;exact wpList_append_run hgd s x _ ho hs hx h1 (K v' w' h2 h3)
theorem ZjX (X:World) (cs:Array Value) (t:TypeId) (cap:Nat) (hs:cs.size=cap*2) (hm:cap<=maxLen):LR (X.alloc (.cells cs t)) X.heap.size X.heap.size cap []:=
 ⟨Nat.le_refl _,by simp,Nat.zero_le _,hm,fun j hj=>by rw [(Box.new X cs t _ rfl).cell j,Array.getElem?_eq_getElem (by omega)];rfl,fun j=>(Box.new X cs t _ rfl).free j,fun j u hu=>by simp [Zai] at hu,fun i hi=>by simp at hi⟩
theorem ZfC (lo:Nat) (v:Value) (L:List Rs) (w:World) (hv:Zaq lo w v L) (hn:L.length<=1048576) :
 Calls prog 77 #[v] w fun e w'=>∃ v',e=.returned v'/\Zw_ w w'/\ZeR w' w.heap.size v' L:=by
 have HV:=Zaa hv;obtain⟨a,cap,rfl⟩:=hv.form;clear hv;have HO:∀ o,Hd (Zw_ w (w.alloc o)):=fun o=>Zab w o
 go_enter func77,ntmps77;go_wp2_with (at_builtin;refine Zb2 (w:=w.alloc _) (base:=w.heap.size) (L:=[]) L rfl (.tmp 3) (.tmp 4) rfl rfl ⟨w.heap.size,0,rfl,ZjX w _ _ 0 rfl Zz_⟩ a L.length cap rfl rfl (fun e=>HV.o.nilN e) ((HV.o.below (HO _).o).src) (fun i hi=>HV.o.sizes i hi) (by simp;omega) (by simp) ?_;intro v' w' h1 h2;have H1:=Zaa h1;have H2:=Zaa h2;clear h1 h2);go_ret;refine⟨v',rfl,(HO _).o.trans H2.o,?_⟩;have:=H1.o
 rwa [List.nil_append] at this
theorem ZeR.frow {w:World}{base:Nat}{v:Value}{L:List Rs} (h:ZeR w base v L):ZaK rsL 2 w base w.heap.size v L:=by
 obtain⟨g,cap,h1,h2⟩:=h;exact⟨g,cap,h1,⟨h2.bs,h2.lt,h2.lt,h2.le,h2.mx,h2.th,h2.fz,h2.rg⟩⟩
theorem Zey (lo:Nat) (va vb:Value) (A B:List Rs) (w:World) (ha:Zaq lo w va A) (hb:Zaq lo w vb B) (hna:A.length<=1048576) (hnb:B.length<=1048576) :
 Calls prog 107 #[va,vb] w fun e w'=>∃ v',e=.returned v'/\Zw_ w w'/\ZeR w' w.heap.size v' (Zax A B):=by
 have HVA:=Zaa ha;have HVB:=Zaa hb;obtain⟨aa,ca,rfl⟩:=ha.form;obtain⟨ab,cb,rfl⟩:=hb.form;clear ha hb;go_enter func107,ntmps107;go_wp2_with fail;refine (ZfC lo _ A _ HVA.o hna).mono ?_;rintro e w1 ⟨o1,rfl,hb1,hl1⟩;have HB1:=Zaa hb1;have HL1:=Zaa hl1;clear hb1 hl1;go_wp2
 go_loopw [5,6] (fun o i wr=>∃ (k:Nat) (L:List Rs),i=.int .i64 k/\k<=B.length/\Zw_ w wr/\ZeR wr w.heap.size o L/\L=Zax A (B.take k)) (fun _ i _=>B.length - (intOf i).toNat)
 case atStart=>exact⟨0,A,rfl,by omega,HB1.o,HL1.o,by rw [List.take_zero,ZeJ]⟩
 case round=>
  obtain⟨k,L,rfl,hk,hb,hl,hL⟩:=hrel;have HB:=Zaa hb;have HL:=Zaa hl;have HE:=Zaa hL;clear hb hl;have hlen:L.length=max A.length (min k B.length):=by rw [hL,ZbK,List.length_take]
  clear hL;obtain⟨g,cap,rfl,hr⟩:=HL.o;have HR:=Zaa hr;clear hr
  by_cases hlt:k < B.length
  . obtain⟨b,off,rfl,hbw,-,hc⟩:=HVB.o.full' (by omega)
    obtain⟨hsz,hcc⟩:=hc k hlt;obtain⟨y,hy⟩:∃ y,y=B[k]:=⟨_,rfl⟩
    rw [<- hy] at hsz hcc;have HY:=Zaa hy;have HZ:=Zaa hsz;obtain⟨e0,e1⟩:=hcc.below HB.o hbw;have i0:(0:Int)<=(k:Int):=by omega
    have i1:(k:Int) < (B.length:Int):=by omega
    clear hc hcc hsz hy
    by_cases hq:A.length<=k
    . have hkl:L.length=k:=by omega
      have dk:((k:Int) == (L.length:Int))=true:=by rw [hkl];simp
      have HKL:=Zaa hkl;clear hkl hlen;have HN:Hd (Zax A (B.take (k+1))=L ++ [y]):=by unfold Hd;rw [Zei A B k hlt hq,<- HE.o,HY.o]
      go_wp2_with (at_builtin;refine Zb2 (w:=wr.alloc _) (base:=w.heap.size) (L:=L) [y] rfl (.tmp 19) (.tmp 24) rfl rfl (HL.o.below (Zab _ _)) (some ⟨wr.heap.size,0,none⟩) 1 1 rfl rfl (fun e=>by cases e) (fun ad e j u hu=>by
       injection e with e
       subst e;rw [Addr.add_lit,Nat.zero_add,(Box.new wr _ _ _ rfl).cell j]
       simpa [Zai,rsL] using hu) (fun i hi=>by
       have:i=0:=by simp at hi;omega
       subst this;exact HZ.o) (by have:=HKL.o;simp;omega) (by have:=HB.o.size;simp;omega) ?_;intro v' w' h1 h2;have H1:=Zaa h1;have H2:=Zaa h2;clear h1 h2)
      go_roundw
      . exact⟨k+1,L ++ [y],by go_num,by omega,(bt HB.o (Zab _ _)).trans (H2.o.mono (by omega)),H1.o,HN.o.symm⟩
      . simp [intOf];omega
    . have hqa:k < A.length:=by omega
      have hkl:k < L.length:=by omega
      have dk:((k:Int) == (L.length:Int))=false:=by rw [beq_eq_false_iff_ne];omega
      have hx:L[k]=A[k]:=by
       have h1:k < (Zax A (B.take k)).length:=by rw [<- HE.o];exact hkl
       have:=Zeg A B k hqa h1;rw [<- this]
       congr 1
      obtain⟨x,hxx⟩:∃ x,x=A[k]:=⟨_,rfl⟩
      obtain⟨f0,f1⟩:=HR.o.cells hkl;rw [hx,<- hxx] at f0 f1;rw [Nat.zero_add] at f0 f1;have HXX:=Zaa hxx;have HKL:=Zaa hkl;have i2:(k:Int) < (L.length:Int):=by omega
      have hth:∀ j,wr.frozen? ⟨g,j,none⟩=false:=HR.o.fz
      clear hx hxx hkl hlen;go_wp2
      go_cut [36] (fun c wc=>c=.bool (decide (x.ba < y.ba))/\Below wr.heap.size wr wc)
      case first=>
       go_quiet (fail)
       go_wp2;go_meet;exact⟨rfl,below_drewN Zb_ _⟩
      case rest=>
       obtain⟨rfl,hbc⟩:=hcut;have HBc:=Zaa hbc;have HRc:=Zaa (HR.o.below hbc);have hgl:=HR.o.lt;have q0:wc.cell? ⟨b,off+k*2,none⟩=some (.int .i64 y.ba):=(hbc.cell (p:=⟨b,off+k*2,none⟩) (Zk_ hbw HB.o.size)).trans e0;have q1:wc.cell? ⟨b,off+k*2+1,none⟩=some (.string y.tx):=(hbc.cell (p:=⟨b,off+k*2+1,none⟩) (Zk_ hbw HB.o.size)).trans e1;have q2:wc.cell? ⟨g,k*2,none⟩=some (.int .i64 x.ba):=(hbc.cell (p:=⟨g,k*2,none⟩) hgl).trans f0;have q3:wc.cell? ⟨g,k*2+1,none⟩=some (.string x.tx):=(hbc.cell (p:=⟨g,k*2+1,none⟩) hgl).trans f1;have hth:∀ j,wc.frozen? ⟨g,j,none⟩=false:=HRc.o.fz
       clear hbc e0 e1 f0 f1 dk
       cases dm:decide (x.ba < y.ba) with
       | true=>
        have HN:Hd (Zax A (B.take (k+1))=L.set k y):=by unfold Hd;rw [Zhh hlt hqa (by rw [<- HXX.o,<- HY.o];exact of_decide_eq_true dm),<- HE.o,HY.o]
        go_wp2;go_roundw
        . exact⟨k+1,L.set k y,by go_num,by omega,((bt HB.o HBc.o).setCell HR.o.bs _).setCell HR.o.bs _,⟨g,cap,by rw [List.length_set],HRc.o.store HKL.o y HZ.o⟩,HN.o.symm⟩
        . simp [intOf];omega
       | false=>
        have HN:Hd (Zax A (B.take (k+1))=L):=by unfold Hd;rw [Zgf hlt hqa (by rw [<- HXX.o,<- HY.o];exact of_decide_eq_false dm),<- HE.o]
        go_wp2;go_roundw
        . exact⟨k+1,L,by go_num,by omega,bt HB.o HBc.o,⟨g,cap,rfl,HRc.o⟩,HN.o.symm⟩
        . simp [intOf];omega
  . have HN:Hd (L=Zax A B):=by unfold Hd;rw [HE.o,List.take_of_length_le (by omega)]
    go_wp2;go_ret;exact⟨_,rfl,HB.o,by rw [<- HN.o];exact HL.o⟩
end Go.Proofs.YtkiefplmnoapfaaGreat
