import Derived.Test.YtdeammfdkaomlaaGreatM10
import Derived.Test.YtdeammfdkaomlaaGreatM20
set_option maxHeartbeats 16000000
set_option maxRecDepth 100000
open Go.Proofs.Tryz
namespace Go.Proofs.YtdeammfdkaomlaaGreat
open Go.RowKit Go.Deep
section
variable {w w':World} {v:Value} {L:List Rs} {lo:Nat}
def Zi7 (S:Nat->Prop) (w:World) (v:Value) (L:List Rs):Prop:=∃ l u,(∀ k,l<=k->k < u->S k)/\Zap l u w v L
def Zj6 (S:Nat->Prop) (w:World) (v:Value) (L:List Zy_):Prop:=∃ l u,(∀ k,l<=k->k < u->S k)/\ZaX l u w v L
def Zj4 (S:Nat->Prop) (w:World) (v:Value) (L:List Int):Prop:=∃ l u,(∀ k,l<=k->k < u->S k)/\ZaD l u w v L
theorem Zi7.kept {K S:Nat->Prop} (h:Zi7 S w v L) (hk:Zag K w w') (ho:∀ k,S k->K k):Zi7 S w' v L:=by
 obtain⟨l,u,h1,h2⟩:=h;exact⟨l,u,h1,h2.kept hk fun k a b=>ho k (h1 k a b)⟩
theorem Zj6.kept {K S:Nat->Prop}{L:List Zy_} (h:Zj6 S w v L) (hk:Zag K w w') (ho:∀ k,S k->K k):Zj6 S w' v L:=by
 obtain⟨l,u,h1,h2⟩:=h;exact⟨l,u,h1,h2.kept hk fun k a b=>ho k (h1 k a b)⟩
theorem Zj4.kept {K S:Nat->Prop}{L:List Int} (h:Zj4 S w v L) (hk:Zag K w w') (ho:∀ k,S k->K k):Zj4 S w' v L:=by
 obtain⟨l,u,h1,h2⟩:=h;exact⟨l,u,h1,h2.kept hk fun k a b=>ho k (h1 k a b)⟩
structure ZkY (lo hi:Nat) (w:World) (S:Nat->Nat->Prop) (v0 v1 v2 v3 v4 v5 v6:Value) (U:Rr):Prop where
 top:hi<=w.heap.size
 seg:∀ i,i < 7->∀ k,S i k->lo<=k/\k < hi
 ap:∀ i j,i < 7->j < 7->i≠j->∀ k,S i k->¬ S j k
 o0:Zi7 (S 0) w v0 U.sf.sl
 o1:Zi7 (S 1) w v1 U.dk.sl
 o2:Za9 (S 2) w v2 U.he
 o3:Zj6 (S 3) w v3 U.wi
 o4:Zj4 (S 4) w v4 U.ye
 o5:Zi7 (S 5) w v5 U.be
 o6:Zbx (S 6) w v6 U.ac
def Zfb (lo hi:Nat) (w:World) (cs:List Value) (U:Rr):Prop:=∃ a0 k0 a1 k1 a2 k2 a3 k3 a4 k4 a5 k5 a6 k6 S,cs=rrL U a0 k0 a1 k1 a2 k2 a3 k3 a4 k4 a5 k5 a6 k6/\ZkY lo hi w S (.slice a0 U.sf.sl.length k0) (.slice a1 U.dk.sl.length k1) (.slice a2 U.he.length k2) (.slice a3 U.wi.length k3) (.slice a4 U.ye.length k4) (.slice a5 U.be.length k5) (.slice a6 U.ac.length k6) U
theorem Zi7.at {S:Nat->Prop} (h:Zi7 S w v L) (hS:∀ k,S k->lo<=k):Zat lo w v L:=by
 obtain⟨l,u,h1,h2⟩:=h;exact h2.at_ge fun k a b=>hS k (h1 k a b)
theorem Zj6.at {S:Nat->Prop}{L:List Zy_} (h:Zj6 S w v L) (hS:∀ k,S k->lo<=k):Zbf lo w v L:=by
 obtain⟨l,u,h1,h2⟩:=h;exact h2.at_ge fun k a b=>hS k (h1 k a b)
theorem Zj4.at {S:Nat->Prop}{L:List Int} (h:Zj4 S w v L) (hS:∀ k,S k->lo<=k):ZaR lo w v L:=by
 obtain⟨l,u,h1,h2⟩:=h;exact h2.at_ge fun k a b=>hS k (h1 k a b)
theorem Zfb.at {hi:Nat}{cs:List Value}{U:Rr} (h:Zfb lo hi w cs U):RrC lo w cs U:=by
 obtain⟨a0,k0,a1,k1,a2,k2,a3,k3,a4,k4,a5,k5,a6,k6,S,h1,h2⟩:=h;exact⟨a0,k0,a1,k1,a2,k2,a3,k3,a4,k4,a5,k5,a6,k6,h1,⟨h2.o0.at (fun k hs=>(h2.seg 0 (by decide) k hs).1),h2.o1.at (fun k hs=>(h2.seg 1 (by decide) k hs).1),h2.o2.at (fun k hs=>(h2.seg 2 (by decide) k hs).1),h2.o3.at (fun k hs=>(h2.seg 3 (by decide) k hs).1),h2.o4.at (fun k hs=>(h2.seg 4 (by decide) k hs).1),h2.o5.at (fun k hs=>(h2.seg 5 (by decide) k hs).1),h2.o6.at (fun k hs=>(h2.seg 6 (by decide) k hs).1)⟩⟩
theorem Zeb (lo hi:Nat) (cs:List Value) (U:Rr) (k:Int) (w:World) (h:Zfb lo hi w cs (Ze9 k U)) (hn:Zba U) (h0:0<=k) (hk:k<=1000000000000000) :
 Calls prog 22 #[.agg cs.toArray,.int .i64 k] w fun e w'=>e=.returned (.int .i64 (kR7 k U))/\Zw_ w w':=by
 have HN:=Zaa hn;obtain⟨b1,b2,b3,b4,b5,b6,b7⟩:=Zji hn h0 hk;have w3:=hn.2.2.2.1;have w4:=hn.2.2.2.2.1;unfold Zbo at w3;unfold ZaS at w4;obtain⟨a0,k0,a1,k1,a2,k2,a3,k3,a4,k4,a5,k5,a6,k6,S,hcs,h⟩:=h;rw [ZjY] at hcs;have c3:cs[3]?=some (.int .i64 U.sf.pr):=by rw [hcs];rfl
 have c4:cs[4]?=some (.int .i64 U.sf.kn):=by rw [hcs];rfl
 have c5:cs[5]?=some (.slice a0 U.sf.sl.length k0):=by rw [hcs];rfl
 have c6:cs[6]?=some (.int .i64 U.dk.pr):=by rw [hcs];rfl
 have c7:cs[7]?=some (.int .i64 U.dk.kn):=by rw [hcs];rfl
 have c8:cs[8]?=some (.slice a1 U.dk.sl.length k1):=by rw [hcs];rfl
 have c9:cs[9]?=some (.slice a2 U.he.length k2):=by rw [hcs];rfl
 have c10:cs[10]?=some (.slice a3 U.wi.length k3):=by rw [hcs];rfl
 have c14:cs[14]?=some (.slice a4 U.ye.length k4):=by rw [hcs];rfl
 have c15:cs[15]?=some (.slice a5 U.be.length k5):=by rw [hcs];rfl
 have c16:cs[16]?=some (.slice a6 U.ac.length k6):=by rw [hcs];rfl
 have HTP:=Zaa h.top;have HSG:=Zaa h.seg;have HAP:=Zaa h.ap;obtain⟨l0,u0,s0,o0⟩:=h.o0;have S0:=Zaa s0;have O0:Hd (Zap l0 u0 w (.slice a0 U.sf.sl.length k0) (Zcr (kR0 k U) U.sf.sl)):=by have:=o0;simp only [Ze9,ZaP] at this;exact this
 clear o0 s0;obtain⟨l1,u1,s1,o1⟩:=h.o1;have S1:=Zaa s1;have O1:Hd (Zap l1 u1 w (.slice a1 U.dk.sl.length k1) (Zcr (kR1 k U) U.dk.sl)):=by have:=o1;simp only [Ze9,ZaP] at this;exact this
 clear o1 s1;have o2:=h.o2;have O2:Hd (Za9 (S 2) w (.slice a2 U.he.length k2) (Zfs (kR2 k U) U.he)):=by have:=o2;simp only [Ze9,Zbi] at this;exact this
 clear o2;obtain⟨l3,u3,s3,o3⟩:=h.o3;have S3:=Zaa s3;have O3:Hd (ZaX l3 u3 w (.slice a3 U.wi.length k3) (Zdg (kR3 k U) U.wi.length)):=by have:=o3;simp only [Ze9,Za5] at this;exact this
 clear o3 s3;obtain⟨l4,u4,s4,o4⟩:=h.o4;have S4:=Zaa s4;have O4:Hd (ZaD l4 u4 w (.slice a4 U.ye.length k4) (Zct (kR4 k U) U.ye.length)):=by have:=o4;simp only [Ze9,ZaZ] at this;exact this
 clear o4 s4;obtain⟨l5,u5,s5,o5⟩:=h.o5;have S5:=Zaa s5;have O5:Hd (Zap l5 u5 w (.slice a5 U.be.length k5) (Zcr (kR5 k U) U.be)):=by have:=o5;simp only [Ze9,ZaP] at this;exact this
 clear o5 s5;have o6:=h.o6;have O6:Hd (Zbx (S 6) w (.slice a6 U.ac.length k6) (Zfq (kR6 k U) U.ac)):=by have:=o6;simp only [Ze9,Zbh] at this;exact this
 clear o6;clear h hcs hn;have HKB:Hd (∀ (W:World) i,w.heap.size<=W.heap.size->i < 7->∀ k,S i k->k < W.heap.size):=fun W i hW hi k hS=>by have:=HSG.o i hi k hS;have:=HTP.o;omega
 go_enter func22,ntmps22;go_wp2_with fail;generalize hWa:w.alloc _=Wa;have HB:Hd (Zw_ w Wa):=by unfold Hd;rw [<- hWa];exact (Zab w _)
 have F:Hd (Box Wa w.heap.size cs.toArray):=by unfold Hd;rw [<- hWa];exact (Box.new _ _ _ _ rfl)
 have hz:w.heap.size<=Wa.heap.size:=HB.o.size;clear hWa;replace O0:=Zaa (O0.o.below HB.o);replace O1:=Zaa (O1.o.below HB.o);replace O2:=Zaa (O2.o.kept (Zag.below HB.o (fun _ h=>h)) (HKB.o _ 2 Zl_ (by decide)));replace O3:=Zaa (O3.o.below HB.o);replace O4:=Zaa (O4.o.below HB.o);replace O5:=Zaa (O5.o.below HB.o);replace O6:=Zaa (O6.o.kept (Zag.below HB.o (fun _ h=>h)) (HKB.o _ 6 Zl_ (by decide)));refine (Zd9 l0 u0 a0 k0 U.sf (kR0 k U) _ O0.o HN.o.1 (show (0:Int)<=kR0 k U from h0) (show kR0 k U<=2000000000000000000 from Int.le_trans hk (by decide))).mono ?_;rintro e w11 ⟨rfl,hb⟩;rw [show kR0 k U+(Zbr U.sf.sl U.sf.sl.length:Int)=kR1 k U from rfl];have hz0:w.heap.size<=w11.heap.size:=Nat.le_trans hz hb.size;replace HB:Hd (Zw_ w w11):=bt HB.o hb;replace F:=Zaa (F.o.on hb)
 replace O1:=Zaa (O1.o.below hb);replace O2:=Zaa (O2.o.kept (Zag.below hb (fun _ h=>h)) (HKB.o _ 2 hz (by decide)));replace O3:=Zaa (O3.o.below hb);replace O4:=Zaa (O4.o.below hb);replace O5:=Zaa (O5.o.below hb);replace O6:=Zaa (O6.o.kept (Zag.below hb (fun _ h=>h)) (HKB.o _ 6 hz (by decide)));clear hb hz;have hz:=hz0;clear hz0;have z1:¬ kR1 k U < 0:=by omega
 have g6:w11.cell? ⟨w.heap.size,6,none⟩=some (.int .i64 U.dk.pr):=by rw [F.o.cell 6,List.getElem?_toArray];exact c6
 have g7:w11.cell? ⟨w.heap.size,7,none⟩=some (.int .i64 U.dk.kn):=by rw [F.o.cell 7,List.getElem?_toArray];exact c7
 have g8:w11.cell? ⟨w.heap.size,8,none⟩=some (.slice a1 U.dk.sl.length k1):=by rw [F.o.cell 8,List.getElem?_toArray];exact c8
 go_wp2_with fail;clear g6 g7 g8;refine (Zd9 l1 u1 a1 k1 U.dk (kR1 k U) _ O1.o HN.o.2.1 (by omega) (by omega)).mono ?_;rintro e w12 ⟨rfl,hb⟩;rw [show kR1 k U+(Zbr U.dk.sl U.dk.sl.length:Int)=kR2 k U from rfl];have hz1:w.heap.size<=w12.heap.size:=Nat.le_trans hz hb.size;replace HB:Hd (Zw_ w w12):=bt HB.o hb;replace F:=Zaa (F.o.on hb);replace O2:=Zaa (O2.o.kept (Zag.below hb (fun _ h=>h)) (HKB.o _ 2 hz (by decide)));replace O3:=Zaa (O3.o.below hb);replace O4:=Zaa (O4.o.below hb);replace O5:=Zaa (O5.o.below hb);replace O6:=Zaa (O6.o.kept (Zag.below hb (fun _ h=>h)) (HKB.o _ 6 hz (by decide)));clear hb hz;have hz:=hz1;clear hz1;have z2:¬ kR2 k U < 0:=by omega
 have g9:w12.cell? ⟨w.heap.size,9,none⟩=some (.slice a2 U.he.length k2):=by rw [F.o.cell 9,List.getElem?_toArray];exact c9
 go_wp2_with fail;clear g9;refine (ZcC (S 2) _ U.he (kR2 k U) _ O2.o HN.o.2.2.1 (by omega) (by omega)).mono ?_;rintro e w13 ⟨rfl,hb⟩;rw [show kR2 k U+(ZbX U.he U.he.length:Int)=kR3 k U from rfl];have hz2:w.heap.size<=w13.heap.size:=Nat.le_trans hz hb.size;replace HB:Hd (Zw_ w w13):=bt HB.o hb;replace F:=Zaa (F.o.on hb);replace O3:=Zaa (O3.o.below hb);replace O4:=Zaa (O4.o.below hb);replace O5:=Zaa (O5.o.below hb);replace O6:=Zaa (O6.o.kept (Zag.below hb (fun _ h=>h)) (HKB.o _ 6 hz (by decide)));clear hb hz;have hz:=hz2;clear hz2;have z3:¬ kR3 k U < 0:=by omega
 have g10:w13.cell? ⟨w.heap.size,10,none⟩=some (.slice a3 U.wi.length k3):=by rw [F.o.cell 10,List.getElem?_toArray];exact c10
 go_wp2_with fail;clear g10;refine (ZfZ _ _ U.wi.length (kR3 k U) _ O3.o.at (by omega) (by omega)).mono ?_;rintro e w14 ⟨rfl,hb⟩;rw [show kR3 k U+(U.wi.length:Int)=kR4 k U from rfl];have hz3:w.heap.size<=w14.heap.size:=Nat.le_trans hz hb.size;replace HB:Hd (Zw_ w w14):=bt HB.o hb;replace F:=Zaa (F.o.on hb);replace O4:=Zaa (O4.o.below hb);replace O5:=Zaa (O5.o.below hb);replace O6:=Zaa (O6.o.kept (Zag.below hb (fun _ h=>h)) (HKB.o _ 6 hz (by decide)));clear hb hz;have hz:=hz3;clear hz3;have z4:¬ kR4 k U < 0:=by omega
 have g14:w14.cell? ⟨w.heap.size,14,none⟩=some (.slice a4 U.ye.length k4):=by rw [F.o.cell 14,List.getElem?_toArray];exact c14
 go_wp2_with fail;clear g14;refine (Zea _ _ U.ye.length (kR4 k U) _ O4.o.at (by omega) (by omega)).mono ?_;rintro e w15 ⟨rfl,hb⟩;rw [show kR4 k U+(U.ye.length:Int)=kR5 k U from rfl];have hz4:w.heap.size<=w15.heap.size:=Nat.le_trans hz hb.size;replace HB:Hd (Zw_ w w15):=bt HB.o hb;replace F:=Zaa (F.o.on hb);replace O5:=Zaa (O5.o.below hb);replace O6:=Zaa (O6.o.kept (Zag.below hb (fun _ h=>h)) (HKB.o _ 6 hz (by decide)));clear hb hz;have hz:=hz4;clear hz4;have z5:¬ kR5 k U < 0:=by omega
 have g15:w15.cell? ⟨w.heap.size,15,none⟩=some (.slice a5 U.be.length k5):=by rw [F.o.cell 15,List.getElem?_toArray];exact c15
 go_wp2_with fail;clear g15;refine (ZcV l5 u5 _ U.be (kR5 k U) _ O5.o HN.o.2.2.2.2.2.1 (by omega) (by omega)).mono ?_;rintro e w16 ⟨rfl,hb⟩;rw [show kR5 k U+(Zbr U.be U.be.length:Int)=kR6 k U from rfl];have hz5:w.heap.size<=w16.heap.size:=Nat.le_trans hz hb.size;replace HB:Hd (Zw_ w w16):=bt HB.o hb;replace F:=Zaa (F.o.on hb);replace O6:=Zaa (O6.o.kept (Zag.below hb (fun _ h=>h)) (HKB.o _ 6 hz (by decide)));clear hb hz;have hz:=hz5;clear hz5;have z6:¬ kR6 k U < 0:=by omega
 have g16:w16.cell? ⟨w.heap.size,16,none⟩=some (.slice a6 U.ac.length k6):=by rw [F.o.cell 16,List.getElem?_toArray];exact c16
 go_wp2_with fail;clear g16;refine (Zfj (S 6) _ U.ac (kR6 k U) _ O6.o HN.o.2.2.2.2.2.2 (by omega) (by omega)).mono ?_;rintro e w17 ⟨rfl,hb⟩;rw [show kR6 k U+(Zb0 U.ac U.ac.length:Int)=kR7 k U from rfl];have hz6:w.heap.size<=w17.heap.size:=Nat.le_trans hz hb.size;replace HB:Hd (Zw_ w w17):=bt HB.o hb;replace F:=Zaa (F.o.on hb);clear hb hz;have hz:=hz6;clear hz6;have z7:¬ kR7 k U < 0:=by omega
 go_wp2;go_ret;exact⟨rfl,HB.o⟩
end
variable {g n lo hi cap p:Nat} {w w' y y':World} {v:Value}
theorem ZcX {S:Nat->Prop} (h:S g):∀ k,g<=k->k < g+1->S k:=fun k a b=>by
 have e:k=g:=by omega
 rw [e];exact h
theorem FR.kept {X:Type}{f:X->List Value}{K:Nat->Prop}{L:List X} (h:FR f n w lo hi g cap L) (hk:Zag K w w') (hg:K g):FR f n w' lo hi g cap L:=
 ⟨h.bs,h.up,Zk_ h.lt hk.size,h.le,h.mx,fun j hj=>by rw [hk.cell (p:=⟨g,j,none⟩) hg];exact h.th j hj,fun j=>by rw [hk.frozen (p:=⟨g,j,none⟩) hg];exact h.fz j,fun j v hv=>by rw [hk.cell (p:=⟨g,0+j,none⟩) hg];exact h.rg j v hv⟩
theorem FR.own' {X:Type}{f:X->List Value}{L:List X} (h:FR f n w lo hi g cap L):FR f n w g (g+1) g cap L:=⟨Nat.le_refl _,Nat.lt_succ_self _,h.lt,h.le,h.mx,h.th,h.fz,h.rg⟩
theorem ZaH.kept {X:Type}{f:X->List Value}{K:Nat->Prop}{L:List X} (h:ZaH f n w lo hi v L) (hk:Zag K w w') (hg:∀ k,lo<=k->k < hi->K k):ZaH f n w' lo hi v L:=by
 obtain⟨g,cap,h1,h2⟩:=h;exact⟨g,cap,h1,h2.kept hk (hg g h2.bs h2.up)⟩
theorem Zay.kept {X:Type}{f:X->List Value}{K:Nat->Prop}{L:List X} (h:Zay f n w lo hi v L) (hk:Zag K w w') (hg:∀ k,lo<=k->k < hi->K k):Zay f n w' lo hi v L:=h.imp id fun h=>h.kept hk hg
def NRS {X:Type} (f:X->List Value) (n:Nat) (w:World) (S:Nat->Prop) (v:Value) (L:List X):Prop:=(v=.slice none 0 0/\L=[])\/∃ g,S g/\ZaH f n w g (g+1) v L
theorem NRS.kept {X:Type}{f:X->List Value}{K S:Nat->Prop}{L:List X} (h:NRS f n w S v L) (hk:Zag K w w') (ho:∀ k,S k->K k):NRS f n w' S v L:=
 h.imp id fun ⟨g,h1,h2⟩=>⟨g,h1,h2.kept hk (ZcX (S:=K) (ho g h1))⟩
theorem NRS.wide {X:Type}{f:X->List Value}{S S':Nat->Prop}{L:List X} (h:NRS f n w S v L) (hs:∀ k,S k->S' k):NRS f n w S' v L:=h.imp id fun ⟨g,h1,h2⟩=>⟨g,hs g h1,h2⟩
theorem Zay.set1 {X:Type}{f:X->List Value}{S:Nat->Prop}{L:List X} (h:Zay f n w lo hi v L) (hs:∀ k,lo<=k->k < hi->S k):NRS f n w S v L:=by
 rcases h with h | ⟨g,cap,h1,h2⟩
 . exact Or.inl h
 . exact Or.inr ⟨g,hs g h2.bs h2.up,g,cap,h1,h2.own'⟩
theorem NRS.form {X:Type}{f:X->List Value}{S:Nat->Prop}{L:List X} (h:NRS f n w S v L):∃ a c,v=.slice a L.length c:=by
 rcases h with ⟨h,rfl⟩ | ⟨_,_,g,cap,h,_⟩
 . exact⟨none,0,h⟩
 . exact⟨_,_,h⟩
theorem NRS.rss {S:Nat->Prop}{L:List Rs} (h:NRS rsL 2 w S v L) (hz:∀ i (h:i < L.length),ZaJ L[i]):Zi7 S w v L:=by
 rcases h with h | ⟨g,h1,h2⟩
 . exact⟨0,0,fun k _ h=>by omega,Zay.rss (Or.inl h) hz⟩
 . exact⟨g,g+1,ZcX h1,Zay.rss (Or.inr h2) hz⟩
theorem NRS.rts {S:Nat->Prop}{L:List Zy_} (h:NRS tyL 1 w S v L) (hz:∀ i (h:i < L.length),L[i].size<=maxLen):Zj6 S w v L:=by
 rcases h with h | ⟨g,h1,h2⟩
 . exact⟨0,0,fun k _ h=>by omega,Zay.rts (Or.inl h) hz⟩
 . exact⟨g,g+1,ZcX h1,Zay.rts (Or.inr h2) hz⟩
theorem NRS.ris {S:Nat->Prop}{L:List Int} (h:NRS inL 1 w S v L):Zj4 S w v L:=by
 rcases h with h | ⟨g,h1,h2⟩
 . exact⟨0,0,fun k _ h=>by omega,Zay.ris (Or.inl h)⟩
 . exact⟨g,g+1,ZcX h1,Zay.ris (Or.inr h2)⟩
def Gr (S:Nat->Prop) (w w':World):Nat->Prop:=fun k=>S k\/(w.heap.size<=k/\k < w'.heap.size)
theorem bwT {S:Nat->Prop} (hb:Below n w y) (ht:Zaj S y y') (hs:∀ k,S k->n<=k) (hn:n<=w.heap.size:=by exact Nat.le_refl _):Below n w y':=
 hb.trans ⟨ht.os,ht.tape,ht.output,ht.size,fun k hk=>ht.block k (by have:=hb.size;omega) (fun hS=>by have:=hs k hS;omega)⟩
theorem bwS {S:Nat->Prop} (hb:Zw_ w y) (ht:Zaj S y y') (hs:∀ k,S k->w.heap.size<=k/\k < y.heap.size/\k≠p) (hp:p < y.heap.size):∀ k,Gr S y y' k->w.heap.size<=k/\k < y'.heap.size/\k≠p:=fun k hk=>by
 have:=hb.size;have:=ht.size
 rcases hk with hk | hk
 . have:=hs k hk;omega
 . omega
theorem bwR {S:Nat->Prop} (hb:Zw_ w y) (ht:Zaj S y y') (hs:∀ k,S k->w.heap.size<=k/\k < y.heap.size):∀ k,Gr S y y' k->w.heap.size<=k/\k < y'.heap.size:=fun k hk=>by
 have:=hb.size;have:=ht.size
 rcases hk with hk | hk
 . have:=hs k hk;omega
 . omega
theorem b6T {S:Nat->Prop}{X:Array Value} (h:Box y p X) (ht:Zaj S y y') (hs:∀ k,S k->n<=k/\k < y.heap.size/\k≠p):Box y' p X:=
 h.kept (Zag.touchS ht (fun _ h=>h)) ⟨h.lt,fun hS=>(hs _ hS).2.2 rfl⟩
theorem ZaK {X:Type}{f:X->List Value}{bytes:Nat} (hf:∀ x,(f x).length=n) (hn:0 < n) {t e:TypeId} {z:Value} (ht:prog.underlying t=some (.slice e)) (hi:(prog.info? e).map (fun i=>(i.zero,i.size,i.bytes))=some (some z,n,bytes)) (hzs:z.cells.size=n)
 {w:World} {S:Nat->Prop} {v:Value} {L M:List X} (ty:TypeId) (h:NRS f n w S v L) (ao:Option Addr) (m c:Nat) (hM:m=M.length) (hm:ao=none->m=0)
 (hsrc:∀ ad,ao=some ad->∀ j u,(Zai f M)[j]?=some u->w.cell? (ad.add j)=some u) (h1:∀ u ∈ Zai f M,u.oneCell'=true) (hb:L.length+M.length<=10000000) (hby:bytes<=1000000) :
 ∃ v' w',(Builtin.append_ #[t,t] ty #[v,.slice ao m c]).run prog w=.ok v' w'/\Zaj S w w'/\NRS f n w' (Gr S w w') v' (L ++ M):=by
 rcases h with ⟨rfl,rfl⟩ | ⟨g,hg,h⟩
 . obtain⟨v',w',h2,h3,h4⟩:=ZdM hf hn ht hi hzs ty (Zay.nil f n w 0 0) ao m c hM hm hsrc h1 hb hby
   refine⟨v',w',h2,h3.toS (fun k _ h=>by omega),?_⟩
   rcases h4 with h4 | h4
   . exact h4.set1 (fun k _ h=>by omega)
   . exact h4.set1 (fun k a b=>Or.inr ⟨a,b⟩)
 . obtain⟨v',w',h2,h3,h4⟩:=ZdM hf hn ht hi hzs ty (Or.inr h) ao m c hM hm hsrc h1 hb hby
   have hS:∀ k,g<=k->k < g+1->S k:=ZcX hg
   refine⟨v',w',h2,h3.toS hS,?_⟩
   rcases h4 with h4 | h4
   . exact h4.set1 (fun k a b=>Or.inl (hS k a b))
   . exact h4.set1 (fun k a b=>Or.inr ⟨a,b⟩)
structure ZcP {X:Type} (P:X->World->Nat->Nat->Prop) (w:World) (S:Nat->Prop) (g:Nat) (L:List X) (c:Nat->Nat×Nat):Prop where
 seg:∀ i,i < L.length->(c i).1<=(c i).2/\(∀ k,(c i).1<=k->k < (c i).2->S k)/\(g < (c i).1\/(c i).2<=g)
 one:∀ i,i < L.length->(c i).2<=(c i).1+1
 ap:∀ i j,i < L.length->j < L.length->i≠j->(c i).2<=(c j).1\/(c j).2<=(c i).1
 inn:∀ i (h:i < L.length),P L[i] w (c i).1 (c i).2
structure ZkU {X:Type} (P:X->World->Nat->Nat->Prop):Prop where
 kp:∀ {K:Nat->Prop} {x:X} {w w':World} {lo hi:Nat},P x w lo hi->Zag K w w'->(∀ k,lo<=k->k < hi->K k)->P x w' lo hi
theorem Zdn:ZkU PM:=⟨fun h hk ho=>Zay.kept h hk ho⟩
theorem Zdm:ZkU PA:=⟨fun h hk ho=>Zay.kept h hk ho⟩
def NGS {X:Type} (P:X->World->Nat->Nat->Prop) (f:X->List Value) (n:Nat) (w:World) (S:Nat->Prop) (v:Value) (L:List X):Prop:=(v=.slice none 0 0/\L=[])\/∃ g c,S g/\ZaH f n w g (g+1) v L/\ZcP P w S g L c
theorem NGS.kept {X:Type}{P:X->World->Nat->Nat->Prop} (hP:ZkU P) {f:X->List Value} {n:Nat} {K S:Nat->Prop} {w w':World} {v:Value} {L:List X} (h:NGS P f n w S v L) (hk:Zag K w w') (ho:∀ k,S k->K k):NGS P f n w' S v L:=
 h.imp id fun ⟨g,c,h1,h2,h3⟩=>⟨g,c,h1,h2.kept hk (ZcX (S:=K) (ho g h1)),h3.seg,h3.one,h3.ap,fun i hi=>hP.kp (h3.inn i hi) hk (fun k a b=>ho k ((h3.seg i hi).2.1 k a b))⟩
theorem NGS.wide {X:Type}{P:X->World->Nat->Nat->Prop}{f:X->List Value}{S S':Nat->Prop}{L:List X} (h:NGS P f n w S v L) (hs:∀ k,S k->S' k):NGS P f n w S' v L:=
 h.imp id fun ⟨g,c,h1,h2,h3⟩=>⟨g,c,hs g h1,h2,⟨fun i hi=>⟨(h3.seg i hi).1,fun k a b=>hs k ((h3.seg i hi).2.1 k a b),(h3.seg i hi).2.2⟩,h3.one,h3.ap,h3.inn⟩⟩
structure Shr {X:Type} (P:X->World->Nat->Nat->Prop):Prop where
 sh:∀ {x:X} {w:World} {lo hi:Nat},P x w lo hi->lo<=hi->∃ l u,l<=u/\u<=l+1/\lo<=l/\u<=hi/\P x w l u
theorem Zay.shr {X:Type}{f:X->List Value}{L:List X} (h:Zay f n w lo hi v L) (hl:lo<=hi):∃ l u,l<=u/\u<=l+1/\lo<=l/\u<=hi/\Zay f n w l u v L:=by
 rcases h with h | ⟨g,cap,h1,h2⟩
 . exact⟨lo,lo,Nat.le_refl _,by omega,Nat.le_refl _,hl,Or.inl h⟩
 . exact⟨g,g+1,by omega,Nat.le_refl _,h2.bs,h2.up,Or.inr ⟨g,cap,h1,h2.own'⟩⟩
theorem Zlc:Shr PM:=⟨fun h hl=>Zay.shr h hl⟩
theorem Zli:Shr PA:=⟨fun h hl=>Zay.shr h hl⟩
theorem ZbO.set1 {X:Type}{P:X->World->Nat->Nat->Prop} (hP:Shr P) {f:X->List Value} {n:Nat} {S:Nat->Prop} {w:World} {lo hi:Nat} {v:Value} {L:List X} (h:ZbO P f n w lo hi v L) (hs:∀ k,lo<=k->k < hi->S k):NGS P f n w S v L:=by
 rcases h with h | ⟨g,c,h1,h2,h3,h4⟩
 . exact Or.inl h
 . have ch:∀ i,∃ p:Nat×Nat,∀ (hi:i < L.length),p.1<=p.2/\p.2<=p.1+1/\(c i).1<=p.1/\p.2<=(c i).2/\P L[i] w p.1 p.2:=fun i=>by
    by_cases hi:i < L.length
    . obtain⟨l,u,a1,a2,a3,a4,a5⟩:=hP.sh (h4.inn i hi) (h4.seg i hi).2.1
      exact⟨(l,u),fun _=>⟨a1,a2,a3,a4,a5⟩⟩
    . exact⟨(0,0),fun h=>absurd h hi⟩
   refine Or.inr ⟨g,fun i=>Classical.choose (ch i),hs g h2 h3,h1,⟨fun i hi=>?_,fun i hi=>?_,fun i j hi hj hne=>?_,fun i hi=>?_⟩⟩
   . have:=Classical.choose_spec (ch i) hi
     have q:=h4.seg i hi;exact⟨this.1,fun k a b=>hs k (by omega) (by omega),by omega⟩
   . exact (Classical.choose_spec (ch i) hi).2.1
   . have a:=Classical.choose_spec (ch i) hi
     have b:=Classical.choose_spec (ch j) hj;have q:=h4.ap i j hi hj hne
     omega
   . exact (Classical.choose_spec (ch i) hi).2.2.2.2
theorem NGS.rms {S:Nat->Prop}{L:List MX}{Xl:List Rm} (h:NGS PM mxL 8 w S v L) (hL:L.map (·.1)=Xl) (hz:∀ i (h:i < Xl.length),(∀ j (hj:j < Xl[i].sl.length),ZaJ Xl[i].sl[j])/\Xl[i].tx.size<=maxLen):Za9 S w v Xl:=by
 subst hL
 rcases h with ⟨h,rfl⟩ | ⟨g,c,hg,⟨g',cap,h1,h2⟩,hi4⟩
 . exact Or.inl ⟨_,_,h,rfl⟩
 . obtain rfl:g'=g:=by have:=h2.bs;have:=h2.up;omega
   by_cases hne:L=[]
   . subst hne;exact Or.inl ⟨_,_,h1,rfl⟩
   have h0:0 < L.length:=List.length_pos_iff.2 hne
   have hcell:∀ i (hi:i < L.length) (t:Nat) (ht:t < 8) (u:Value),(mxL L[i])[t]?=some u->w.cell? ⟨g',0+i*8+t,none⟩=some u:=fun i hi t ht u hu=>by
    rw [Nat.zero_add];exact h2.get Zb3 hi ht hu
   refine Or.inr ⟨g',0,cap,c,fun i=>if h:i < L.length then L[i].1 else L[0].1,by rw [List.length_map];exact h1,by simpa using hne,by rw [List.length_map];exact Nat.le_trans h2.le h2.mx,by rw [List.length_map];exact h2.le,fun i hi=>?_,h2.lt,hg,fun i hi=>⟨(hi4.seg i (by simpa using hi)).2.1,(hi4.seg i (by simpa using hi)).2.2⟩,fun i j hi hj=>hi4.ap i j (by simpa using hi) (by simpa using hj),h2.fz,fun i hi=>?_⟩
   . rw [List.length_map] at hi
     simp [hi]
   . rw [List.length_map] at hi
     have hzi:=hz i (by simpa using hi);simp only [List.getElem_map] at hzi;simp only [hi,dif_pos];have hin:Zay rsL 2 w (c i).1 (c i).2 (.slice L[i].2.1 L[i].1.sl.length L[i].2.2) L[i].1.sl:=hi4.inn i hi;exact⟨⟨hzi.2⟩,.slice L[i].2.1 L[i].1.sl.length L[i].2.2,(hi4.seg i hi).1,⟨hcell i hi 0 (by omega) _ rfl,hcell i hi 1 (by omega) _ rfl,hcell i hi 2 (by omega) _ rfl,hcell i hi 3 (by omega) _ rfl,hcell i hi 4 (by omega) _ rfl,hcell i hi 5 (by omega) _ rfl,hcell i hi 6 (by omega) _ rfl,hcell i hi 7 (by omega) _ rfl⟩,hin.rss hzi.1⟩
theorem NGS.ras {S:Nat->Prop}{L:List AX}{Xl:List Ra} (h:NGS PA axL 2 w S v L) (hL:L.map (·.1)=Xl):Zbx S w v Xl:=by
 subst hL
 rcases h with ⟨h,rfl⟩ | ⟨g,c,hg,⟨g',cap,h1,h2⟩,hi4⟩
 . exact Or.inl ⟨_,_,h,rfl⟩
 . obtain rfl:g'=g:=by have:=h2.bs;have:=h2.up;omega
   by_cases hne:L=[]
   . subst hne;exact Or.inl ⟨_,_,h1,rfl⟩
   have h0:0 < L.length:=List.length_pos_iff.2 hne
   have hcell:∀ i (hi:i < L.length) (t:Nat) (ht:t < 2) (u:Value),(axL L[i])[t]?=some u->w.cell? ⟨g',0+i*2+t,none⟩=some u:=fun i hi t ht u hu=>by
    rw [Nat.zero_add];exact h2.get Zar hi ht hu
   refine Or.inr ⟨g',0,cap,c,fun i=>if h:i < L.length then L[i].1 else L[0].1,by rw [List.length_map];exact h1,by simpa using hne,by rw [List.length_map];exact Nat.le_trans h2.le h2.mx,by rw [List.length_map];exact h2.le,fun i hi=>?_,h2.lt,hg,fun i hi=>⟨(hi4.seg i (by simpa using hi)).2.1,(hi4.seg i (by simpa using hi)).2.2⟩,fun i j hi hj=>hi4.ap i j (by simpa using hi) (by simpa using hj),h2.fz,fun i hi=>?_⟩
   . rw [List.length_map] at hi
     simp [hi]
   . rw [List.length_map] at hi
     simp only [hi,dif_pos];have hin:Zay inL 1 w (c i).1 (c i).2 (.slice L[i].2.1 L[i].1.fr.length L[i].2.2) L[i].1.fr:=hi4.inn i hi;exact⟨rfl,.slice L[i].2.1 L[i].1.fr.length L[i].2.2,(hi4.seg i hi).1,⟨hcell i hi 0 (by omega) _ rfl,hcell i hi 1 (by omega) _ rfl⟩,hin.ris⟩
theorem NGS.form {X:Type}{P:X->World->Nat->Nat->Prop}{f:X->List Value}{S:Nat->Prop}{L:List X} (h:NGS P f n w S v L):∃ a c,v=.slice a L.length c:=by
 rcases h with ⟨h,rfl⟩ | ⟨_,_,_,⟨g,cap,h,_⟩,_⟩
 . exact⟨none,0,h⟩
 . exact⟨_,_,h⟩
theorem ZjZ {X:Type}{P:X->World->Nat->Nat->Prop} (hP:ZkU P) (hQ:Shr P) {f:X->List Value} {n bytes:Nat} (hf:∀ x,(f x).length=n) (hn:0 < n) {t e:TypeId} {z:Value} (ht:prog.underlying t=some (.slice e)) (hi:(prog.info? e).map (fun i=>(i.zero,i.size,i.bytes))=some (some z,n,bytes)) (hzs:z.cells.size=n)
 {w:World} {S S1:Nat->Prop} {v:Value} {L:List X} {x:X} (ty:TypeId) (h:NGS P f n w S v L) (lx ux:Nat) (hlu:lx<=ux) (hx:P x w lx ux) (hxs:∀ k,lx<=k->k < ux->k < w.heap.size/\S1 k/\¬ S k) (ad:Addr) (cp:Nat)
 (hsrc:∀ j u,(Zai f [x])[j]?=some u->w.cell? (ad.add j)=some u) (h1:∀ u ∈ Zai f [x],u.oneCell'=true) (hb:L.length+1<=10000000) (hby:bytes<=1000000) (hS1:∀ k,S k->S1 k/\k < w.heap.size) :
 ∃ v' w',(Builtin.append_ #[t,t] ty #[v,.slice (some ad) 1 cp]).run prog w=.ok v' w'/\Zaj S w w'/\NGS P f n w' (Gr S1 w w') v' (L ++ [x]):=by
 obtain⟨l,u,q1,q2,q3,q4,q5⟩:=hQ.sh hx hlu;have hxs':∀ k,l<=k->k < u->k < w.heap.size/\S1 k/\¬ S k:=fun k a b=>hxs k (by omega) (by omega)
 rcases h with ⟨rfl,rfl⟩ | ⟨g,c,hg,hr,hI⟩
 . obtain⟨v',w',h2,h3,h4⟩:=ZdM hf hn ht hi hzs ty (Zay.nil f n w 0 0) (some ad) 1 cp rfl (fun e=>by cases e) (fun ad' e=>by injection e with e;subst e;exact hsrc) h1 hb hby
   refine⟨v',w',h2,h3.toS (fun k _ h=>by omega),?_⟩;have hkp:Zag (fun k=>k < w.heap.size) w w':=Zag.touch h3 (fun k hk=>⟨hk,Or.inr Zz_⟩)
   have fin:∀ g',ZaH f n w' g' (g'+1) v' ([] ++ [x])->w.heap.size<=g'->g' < w'.heap.size->NGS P f n w' (Gr S1 w w') v' ([] ++ [x]):=fun g' hr a b=>
    Or.inr ⟨g',fun _=>(l,u),Or.inr ⟨a,b⟩,hr,⟨fun i hi=>⟨q1,fun k a b=>Or.inl (hxs' k a b).2.1,by
     rcases Nat.lt_or_ge l u with hlt | hge
     . exact Or.inr (by have:=(hxs' (u - 1) (by omega) (by omega)).1;omega)
     . omega⟩,fun i hi=>q2,fun i j hi hj hne=>by simp at hi hj;omega,fun i hi=>by
       have e:i=0:=by simp at hi;exact hi
       subst e;exact hP.kp q5 hkp (fun k a b=>(hxs' k a b).1)⟩⟩
   rcases h4 with h4 | h4
   . rcases h4 with ⟨_,h⟩ | ⟨g',cap,e1,e2⟩
     . simp at h
     . have:=e2.bs;have:=e2.up;omega
   . rcases h4 with ⟨_,h⟩ | ⟨g',cap,e1,e2⟩
     . simp at h
     . exact fin g' ⟨g',cap,e1,e2.own'⟩ e2.bs e2.up
 . obtain⟨v',w',h2,h3,h4⟩:=ZdM hf hn ht hi hzs ty (Or.inr hr) (some ad) 1 cp rfl (fun e=>by cases e) (fun ad' e=>by injection e with e;subst e;exact hsrc) h1 hb hby
   refine⟨v',w',h2,h3.toS (ZcX hg),?_⟩;have hsz:=h3.size;have hkp:Zag (fun k=>k < w.heap.size/\(k < g\/g+1<=k)) w w':=Zag.touch h3 (fun k hk=>hk)
   have hgl:g < l\/u<=g:=by
    rcases Nat.lt_or_ge g l with a | a
    . exact Or.inl a
    . rcases Nat.lt_or_ge g u with b | b
      . exact absurd hg (hxs' g a b).2.2
      . exact Or.inr b
   have hgw:g < w.heap.size:=(hS1 g hg).2
   have fin:∀ g',ZaH f n w' g' (g'+1) v' (L ++ [x])->(g'=g\/(w.heap.size<=g'/\g' < w'.heap.size))->NGS P f n w' (Gr S1 w w') v' (L ++ [x]):=fun g' hr hg'=>by
    have e1:∀ i,i < L.length->Zfg c L.length (l,u) i=c i:=fun i hi=>if_neg (by omega)
    have e2:Zfg c L.length (l,u) L.length=(l,u):=if_pos rfl;have hl:(L ++ [x]).length=L.length+1:=by simp
    have fresh:∀ a b:Nat,a<=b->b<=a+1->(∀ k,a<=k->k < b->k < w.heap.size)->(g < a\/b<=g)->(g' < a\/b<=g'):=fun a b hab hb1 hk hga=>by
     rcases hg' with rfl | hg'
     . exact hga
     . rcases Nat.lt_or_ge a b with h | h
       . have:=hk a Zl_ h
         omega
       . omega
    refine Or.inr ⟨g',Zfg c L.length (l,u),?_,hr,⟨fun i hi=>?_,fun i hi=>?_,fun i j hi hj hne=>?_,fun i hi=>?_⟩⟩
    . rcases hg' with rfl | hg'
      . exact Or.inl (hS1 _ hg).1
      . exact Or.inr hg'
    . by_cases e:i < L.length
      . rw [e1 i e]
        have q:=hI.seg i e;exact⟨q.1,fun k a b=>Or.inl (hS1 k (q.2.1 k a b)).1,fresh _ _ q.1 (hI.one i e) (fun k a b=>(hS1 k (q.2.1 k a b)).2) q.2.2⟩
      . obtain rfl:i=L.length:=by omega
        rw [e2];exact⟨q1,fun k a b=>Or.inl (hxs' k a b).2.1,fresh _ _ q1 q2 (fun k a b=>(hxs' k a b).1) hgl⟩
    . by_cases e:i < L.length
      . rw [e1 i e];exact hI.one i e
      . obtain rfl:i=L.length:=by omega
        rw [e2];exact q2
    . have key:∀ i,i < L.length->(c i).2<=l\/u<=(c i).1:=fun i hi=>by
       have q:=hI.seg i hi;have o:=hI.one i hi
       rcases Nat.lt_or_ge (c i).1 (c i).2 with h | h
       . rcases Nat.lt_or_ge l u with h' | h'
         . by_cases heq:(c i).1=l
           . exact absurd (q.2.1 l (by omega) (by omega)) (hxs' l Zl_ h').2.2
           . omega
         . omega
       . omega
      by_cases e:i < L.length
      . rw [e1 i e]
        by_cases e':j < L.length
        . rw [e1 j e'];exact hI.ap i j e e' hne
        . obtain rfl:j=L.length:=by omega
          rw [e2];exact key i e
      . obtain rfl:i=L.length:=by omega
        rw [e2,e1 j (by omega)];exact (key j (by omega)).symm
    . by_cases e:i < L.length
      . rw [e1 i e,List.getElem_append_left e]
        have q:=hI.seg i e;exact hP.kp (hI.inn i e) hkp (fun k a b=>⟨(hS1 k (q.2.1 k a b)).2,by omega⟩)
      . obtain rfl:i=L.length:=by omega
        rw [e2];have:(L ++ [x])[L.length]=x:=by simp
        rw [this];exact hP.kp q5 hkp (fun k a b=>⟨(hxs' k a b).1,by omega⟩)
   rcases h4 with h4 | h4
   . rcases h4 with ⟨_,h⟩ | ⟨g',cap,e1,e2⟩
     . simp at h
     . have a:=e2.bs
       have b:=e2.up;exact fin g' ⟨g',cap,e1,e2.own'⟩ (Or.inl (by omega))
   . rcases h4 with ⟨_,h⟩ | ⟨g',cap,e1,e2⟩
     . simp at h
     . exact fin g' ⟨g',cap,e1,e2.own'⟩ (Or.inr ⟨e2.bs,e2.up⟩)
end Go.Proofs.YtdeammfdkaomlaaGreat
