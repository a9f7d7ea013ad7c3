import Derived.Test.YtkiefplmnoapfaaGreatV09
import Derived.Test.YtkiefplmnoapfaaGreatV10
import Derived.Test.YtkiefplmnoapfaaGreatV12
import Derived.Test.YtkiefplmnoapfaaGreatV14
set_option maxHeartbeats 16000000
set_option maxRecDepth 100000
open Go.Proofs.Tryz
namespace Go.Proofs.YtkiefplmnoapfaaGreat
open Go.RowKit Go.Deep
section
variable {w w':World} {β lo hi:Nat} {cs:Array Value} {v0 v1 v2 v3 v4 v5 v6:Value} {U:Rr}
theorem Box.tch (h:Box w β cs) (ht:Zad lo hi w w') (ho:hi<=β):Box w' β cs:=
 ⟨Zk_ h.lt ht.size,fun i=>(ht.cell (p:=⟨β,i,none⟩) h.lt (Or.inr ho)).trans (h.cell i),fun i=>(ht.frozen (p:=⟨β,i,none⟩) h.lt (Or.inr ho)).trans (h.free i)⟩
theorem Box.tch2 (h:Box w β cs) (ht:Zad lo hi w w') (ho:β < lo\/hi<=β):Box w' β cs:=
 ⟨Zk_ h.lt ht.size,fun i=>(ht.cell (p:=⟨β,i,none⟩) h.lt ho).trans (h.cell i),fun i=>(ht.frozen (p:=⟨β,i,none⟩) h.lt ho).trans (h.free i)⟩
structure RrO (lo hi:Nat) (w:World) (c:Nat->Nat×Nat) (v0 v1 v2 v3 v4 v5 v6:Value) (U:Rr):Prop where
 seg:∀ i,i < 7->lo<=(c i).1/\(c i).2<=hi
 ap:∀ i j,i < 7->j < 7->i≠j->(c i).2<=(c j).1\/(c j).2<=(c i).1
 o0:Zap (c 0).1 (c 0).2 w v0 U.sf.sl
 o1:Zap (c 1).1 (c 1).2 w v1 U.dk.sl
 o2:Zbs (c 2).1 (c 2).2 w v2 U.he
 o3:Za5 (c 3).1 (c 3).2 w v3 U.wi
 o4:ZaF (c 4).1 (c 4).2 w v4 U.ye
 o5:Zap (c 5).1 (c 5).2 w v5 U.be
 o6:ZbJ (c 6).1 (c 6).2 w v6 U.ac
theorem RrO.below {c:Nat->Nat×Nat} (h:RrO lo hi w c v0 v1 v2 v3 v4 v5 v6 U) (hb:Zw_ w w'):RrO lo hi w' c v0 v1 v2 v3 v4 v5 v6 U:=⟨h.seg,h.ap,h.o0.below hb,h.o1.below hb,h.o2.below hb,h.o3.below hb,h.o4.below hb,h.o5.below hb,h.o6.below hb⟩
theorem RrO.touch {lo' hi':Nat}{c:Nat->Nat×Nat} (h:RrO lo hi w c v0 v1 v2 v3 v4 v5 v6 U) (ht:Zad lo' hi' w w') (ho:hi<=lo'\/hi'<=lo):RrO lo hi w' c v0 v1 v2 v3 v4 v5 v6 U:=by
 have s0:=h.seg 0 (by omega);have s1:=h.seg 1 (by omega);have s2:=h.seg 2 (by omega);have s3:=h.seg 3 (by omega);have s4:=h.seg 4 (by omega);have s5:=h.seg 5 (by omega);have s6:=h.seg 6 (by omega);exact⟨h.seg,h.ap,h.o0.touch ht (by omega),h.o1.touch ht (by omega),h.o2.touch ht (by omega),h.o3.touch ht (by omega),h.o4.touch ht (by omega),h.o5.touch ht (by omega),h.o6.touch ht (by omega)⟩
def Zfq (lo hi:Nat) (w:World) (cs:List Value) (U:Rr):Prop:=∃ a0 k0 a1 k1 a2 k2 a3 k3 a4 k4 a5 k5 a6 k6 c,cs=rrL U a0 k0 a1 k1 a2 k2 a3 k3 a4 k4 a5 k5 a6 k6/\RrO lo hi w c (.slice a0 U.sf.sl.length k0) (.slice a1 U.dk.sl.length k1) (.slice a2 U.he.length k2) (.slice a3 U.wi.length k3) (.slice a4 U.ye.length k4) (.slice a5 U.be.length k5) (.slice a6 U.ac.length k6) U
theorem Zfq.below {cs:List Value} (h:Zfq lo hi w cs U) (hb:Zw_ w w'):Zfq lo hi w' cs U:=by
 obtain⟨a0,k0,a1,k1,a2,k2,a3,k3,a4,k4,a5,k5,a6,k6,c,h1,h2⟩:=h;exact⟨a0,k0,a1,k1,a2,k2,a3,k3,a4,k4,a5,k5,a6,k6,c,h1,h2.below hb⟩
theorem Zfq.at {cs:List Value} (h:Zfq lo hi w cs U):RrC lo w cs U:=by
 obtain⟨a0,k0,a1,k1,a2,k2,a3,k3,a4,k4,a5,k5,a6,k6,c,h1,h2⟩:=h;exact⟨a0,k0,a1,k1,a2,k2,a3,k3,a4,k4,a5,k5,a6,k6,h1,⟨h2.o0.at.mono (h2.seg 0 (by omega)).1,h2.o1.at.mono (h2.seg 1 (by omega)).1,h2.o2.at.mono (h2.seg 2 (by omega)).1,h2.o3.at.mono (h2.seg 3 (by omega)).1,h2.o4.at.mono (h2.seg 4 (by omega)).1,h2.o5.at.mono (h2.seg 5 (by omega)).1,h2.o6.at.mono (h2.seg 6 (by omega)).1⟩⟩
def kR0 (k:Int) (_U:Rr):Int:=k
def kR1 (k:Int) (U:Rr):Int:=kR0 k U+(Zbo U.sf.sl U.sf.sl.length:Int)
def kR2 (k:Int) (U:Rr):Int:=kR1 k U+(Zbo U.dk.sl U.dk.sl.length:Int)
def kR3 (k:Int) (U:Rr):Int:=kR2 k U+(ZbC U.he U.he.length:Int)
def kR4 (k:Int) (U:Rr):Int:=kR3 k U+(U.wi.length:Int)
def kR5 (k:Int) (U:Rr):Int:=kR4 k U+(U.ye.length:Int)
def kR6 (k:Int) (U:Rr):Int:=kR5 k U+(Zbo U.be U.be.length:Int)
def kR7 (k:Int) (U:Rr):Int:=kR6 k U+(ZbB U.ac U.ac.length:Int)
def ZdL (k:Int) (U:Rr):Rr:={ U with sf:={ U.sf with sl:=Zct (kR0 k U) U.sf.sl },dk:={ U.dk with sl:=Zct (kR1 k U) U.dk.sl },he:=Ze5 (kR2 k U) U.he,wi:=Zdy (kR3 k U) U.wi.length,ye:=Zcs (kR4 k U) U.ye.length,be:=Zct (kR5 k U) U.be,ac:=Ze4 (kR6 k U) U.ac }
theorem Zh4 (k:Int) (U:Rr) (a0:Option Addr) (k0:Nat) ( a1:Option Addr) (k1:Nat) ( a2:Option Addr) (k2:Nat) ( a3:Option Addr) (k3:Nat) ( a4:Option Addr) (k4:Nat) ( a5:Option Addr) (k5:Nat) (a6:Option Addr) (k6:Nat):rrL (ZdL k U) a0 k0 a1 k1 a2 k2 a3 k3 a4 k4 a5 k5 a6 k6=rrL U a0 k0 a1 k1 a2 k2 a3 k3 a4 k4 a5 k5 a6 k6:=by
 simp [rrL,ZdL,ZaL,ZaQ,Za6,Za0,ZaP]
theorem ZhZ {k:Int} (hn:Zbd U) (h0:0<=k) (hk:k<=1000000000000000):(0<=kR1 k U/\kR1 k U<=10000000000000000)/\(0<=kR2 k U/\kR2 k U<=20000000000000000)/\(0<=kR3 k U/\kR3 k U<=30000000000000000)/\(0<=kR4 k U/\kR4 k U<=40000000000000000)/\(0<=kR5 k U/\kR5 k U<=50000000000000000)/\(0<=kR6 k U/\kR6 k U<=60000000000000000)/\(0<=kR7 k U/\kR7 k U<=70000000000000000):=by
 obtain⟨n0,n1,n2,n3,n4,n5,n6⟩:=hn;unfold Zcx at n0 n1;have p0:=Zdu n0 Zl_;have p1:=Zdu n1 Zl_;have p2:=ZdZ n2 Zl_;have p5:=Zdu n5 Zl_;have p6:=ZdY n6 Zl_;have q0:=n0.1;have q1:=n1.1;have q2:=n2.1;have q5:=n5.1;have q6:=n6.1;unfold Zbf at n3;unfold ZaN at n4;unfold kR7 kR6 kR5 kR4 kR3 kR2 kR1 kR0
 omega
end
section
variable {w:World} {lo hi lo' n cap:Nat} {v:Value} {ao:Option Addr}
def tyL (s:Zy_):List Value:=[.string s]
def inL (x:Int):List Value:=[.int .i64 x]
abbrev MX:=Rm×Option Addr×Nat
abbrev AX:=Ra×Option Addr×Nat
def mxL (x:MX):List Value:=rmL x.1 x.2.1 x.2.2
def axL (x:AX):List Value:=raL x.1 x.2.1 x.2.2
theorem Zcb (s:Zy_):(tyL s).length=1:=rfl
theorem ZaG (s:Int):(inL s).length=1:=rfl
theorem ZcT (s:MX):(mxL s).length=8:=rfl
theorem Zat (s:AX):(axL s).length=2:=rfl
theorem Zfj (L:List Zy_):∀ u ∈ Zai tyL L,u.oneCell'=true:=fun u hu=>by
 obtain⟨x,-,hx⟩:=ZcR hu;simp only [tyL,List.mem_cons,List.not_mem_nil,or_false] at hx;rw [hx];rfl
theorem ZaX (L:List Int):∀ u ∈ Zai inL L,u.oneCell'=true:=fun u hu=>by
 obtain⟨x,-,hx⟩:=ZcR hu;simp only [inL,List.mem_cons,List.not_mem_nil,or_false] at hx;rw [hx];rfl
theorem Ze7 (L:List MX):∀ u ∈ Zai mxL L,u.oneCell'=true:=fun u hu=>by
 obtain⟨x,-,hx⟩:=ZcR hu;simp only [mxL,rmL,List.mem_cons,List.not_mem_nil,or_false] at hx
 rcases hx with rfl | rfl | rfl | rfl | rfl | rfl | rfl | rfl <;> rfl
theorem Za3 (L:List AX):∀ u ∈ Zai axL L,u.oneCell'=true:=fun u hu=>by
 obtain⟨x,-,hx⟩:=ZcR hu;simp only [axL,raL,List.mem_cons,List.not_mem_nil,or_false] at hx
 rcases hx with rfl | rfl <;> rfl
theorem ZgF:(prog.info? 9).map (fun i=>(i.zero,i.size,i.bytes))=some (some (.string ⟨#[]⟩),1,16):=by kernel_rfl
theorem Zbj:(prog.info? 3).map (fun i=>(i.zero,i.size,i.bytes))=some (some (.int .i64 0),1,8):=by kernel_rfl
theorem ZaK.rts {L:List Zy_} (h:ZaK tyL 1 w lo hi v L) (hz:∀ i (h:i < L.length),L[i].size<=maxLen):Za5 lo hi w v L:=by
 obtain⟨g,cap,h1,h2⟩:=h
 by_cases hL:L=[]
 . subst hL;exact Or.inl ⟨_,_,h1,rfl⟩
 . refine Or.inr ⟨g,0,cap,h1,hL,Nat.le_trans h2.le h2.mx,h2.le,h2.lt,fun i hi=>⟨hz i hi,?_⟩,h2.bs,h2.up,fun i=>h2.fz _⟩
   have:=h2.get Zcb hi (t:=0) (by omega) (v:=.string L[i]) rfl
   rwa [show i*1+0=0+i by omega] at this
theorem ZaK.ris {L:List Int} (h:ZaK inL 1 w lo hi v L):ZaF lo hi w v L:=by
 obtain⟨g,cap,h1,h2⟩:=h
 by_cases hL:L=[]
 . subst hL;exact Or.inl ⟨_,_,h1,rfl⟩
 . refine Or.inr ⟨g,0,cap,h1,hL,Nat.le_trans h2.le h2.mx,h2.le,h2.lt,fun i hi=>?_,h2.bs,h2.up,fun i=>h2.fz _⟩
   have:=h2.get ZaG hi (t:=0) (by omega) (v:=.int .i64 L[i]) rfl
   rwa [show i*1+0=0+i by omega] at this
theorem ZaK.rss {L:List Rs} (h:ZaK rsL 2 w lo hi v L) (hz:∀ i (h:i < L.length),ZaV L[i]):Zap lo hi w v L:=by
 obtain⟨g,cap,h1,h2⟩:=h
 by_cases hL:L=[]
 . subst hL;exact Or.inl ⟨_,_,h1,rfl⟩
 . have h0:0 < L.length:=List.length_pos_iff.2 hL
   refine Or.inr ⟨g,0,cap,fun _=>g+1,fun i=>if h:i < L.length then L[i] else L[0],h1,hL,Nat.le_trans h2.le h2.mx,h2.le,fun i hi=>by simp [hi],h2.lt,h2.bs,Nat.lt_succ_self _,h2.up,fun _ _=>Nat.le_refl _,h2.up,h2.fz,fun i hi=>?_⟩;simp only [hi,dif_pos];have e0:=h2.get ZaI hi (t:=0) (by omega) (v:=.int .i64 L[i].ba) rfl;have e1:=h2.get ZaI hi (t:=1) (by omega) (v:=.string L[i].tx) rfl;exact⟨hz i hi,⟨by rw [Nat.zero_add];exact e0,by rw [Nat.zero_add];exact e1⟩⟩
theorem ZaK.rms {L:List MX} (h:ZaK mxL 8 w lo hi v L) (hlo:lo'<=lo) (hz:∀ i (h:i < L.length),Zaq lo' w (.slice L[i].2.1 L[i].1.sl.length L[i].2.2) L[i].1.sl/\L[i].1.tx.size<=maxLen):Zbg lo' w v (L.map (·.1)):=by
 obtain⟨g,cap,h1,h2⟩:=h
 by_cases hL:L=[]
 . subst hL;exact Or.inl ⟨_,_,h1,rfl⟩
 . refine Or.inr ⟨g,0,cap,by rw [List.length_map];exact h1,by simpa using hL,by rw [List.length_map];exact Nat.le_trans h2.le h2.mx,h2.lt,Nat.le_trans hlo h2.bs,by rw [List.length_map];exact h2.le,fun i hi=>?_⟩
   rw [List.length_map] at hi;obtain⟨z1,z2⟩:=hz i hi;refine⟨mxL L[i],fun j u hu=>?_,L[i].2.1,L[i].2.2,by simp [mxL],by simp only [List.getElem_map];exact⟨z1,z2⟩⟩;have hj:j < 8:=by have:=(List.getElem?_eq_some_iff.1 hu).1;rwa [ZcT] at this
   have:=h2.get ZcT hi hj hu
   rwa [show 0+i*8+j=i*8+j by omega]
theorem ZaK.ras {L:List AX} (h:ZaK axL 2 w lo hi v L) (hlo:lo'<=lo) (hz:∀ i (h:i < L.length),ZaJ lo' w (.slice L[i].2.1 L[i].1.fr.length L[i].2.2) L[i].1.fr):Zbm lo' w v (L.map (·.1)):=by
 obtain⟨g,cap,h1,h2⟩:=h
 by_cases hL:L=[]
 . subst hL;exact Or.inl ⟨_,_,h1,rfl⟩
 . refine Or.inr ⟨g,0,cap,by rw [List.length_map];exact h1,by simpa using hL,by rw [List.length_map];exact Nat.le_trans h2.le h2.mx,h2.lt,Nat.le_trans hlo h2.bs,by rw [List.length_map];exact h2.le,fun i hi=>?_⟩
   rw [List.length_map] at hi;refine⟨axL L[i],fun j u hu=>?_,L[i].2.1,L[i].2.2,by simp [axL],by simp only [List.getElem_map];exact⟨hz i hi⟩⟩;have hj:j < 2:=by have:=(List.getElem?_eq_some_iff.1 hu).1;rwa [Zat] at this
   have:=h2.get Zat hi hj hu
   rwa [show 0+i*2+j=i*2+j by omega]
theorem Za2.src {L:List Zy_} (h:Za2 lo w (.slice ao n cap) L):∀ ad,ao=some ad->∀ j u,(Zai tyL L)[j]?=some u->w.cell? (ad.add j)=some u:=by
 rintro ad rfl j u hu;have hj:=(List.getElem?_eq_some_iff.1 hu).1;rw [Zaw Zcb] at hj;obtain⟨b,off,e,-,-,hc⟩:=h.full' (by omega);injection e with e
 subst e;have:=Zbw Zcb L j 0 (by omega) (by omega);rw [show j*1+0=j by omega,hu] at this;have hu':u=.string (L[j]'(by omega)):=by simpa [tyL] using this
 rw [hu',Addr.add_lit];exact (hc j (by omega)).2
theorem ZaJ.src {L:List Int} (h:ZaJ lo w (.slice ao n cap) L):∀ ad,ao=some ad->∀ j u,(Zai inL L)[j]?=some u->w.cell? (ad.add j)=some u:=by
 rintro ad rfl j u hu;have hj:=(List.getElem?_eq_some_iff.1 hu).1;rw [Zaw ZaG] at hj;obtain⟨b,off,e,-,-,hc⟩:=h.full' (by omega);injection e with e
 subst e;have:=Zbw ZaG L j 0 (by omega) (by omega);rw [show j*1+0=j by omega,hu] at this;have hu':u=.int .i64 (L[j]'(by omega)):=by simpa [inL] using this
 rw [hu',Addr.add_lit];exact (hc j (by omega)).2
theorem Za2.nilN {L:List Zy_} (h:Za2 lo w (.slice ao n cap) L):ao=none->L.length=0:=by
 rintro rfl
 rcases h with ⟨_,_,_,rfl⟩ | ⟨_,_,_,h1,_⟩
 . rfl
 . injection h1 with e;cases e
theorem ZaJ.nilN {L:List Int} (h:ZaJ lo w (.slice ao n cap) L):ao=none->L.length=0:=by
 rintro rfl
 rcases h with ⟨_,_,_,rfl⟩ | ⟨_,_,_,h1,_⟩
 . rfl
 . injection h1 with e;cases e
theorem Za2.sizes {L:List Zy_} (h:Za2 lo w v L):∀ i (hi:i < L.length),L[i].size<=maxLen:=by
 intro i hi;obtain⟨_,_,_,_,_,_,_,hc⟩:=h.full (fun e=>by rw [e] at hi;simp at hi);exact (hc i hi).1
theorem ZaK.fresh {X:Type}{f:X->List Value}{w':World}{L:List X} (h:ZaK f n w' w.heap.size (w.heap.size+1) v L\/ZaK f n w' (w.heap.size+1) w'.heap.size v L) (hs:w.heap.size+1<=w'.heap.size):ZaK f n w' w.heap.size w'.heap.size v L:=by
 rcases h with h | h
 . exact h.wide Zl_ hs
 . exact h.wide (by omega) Zl_
theorem Zc2 (lo:Nat) (v:Value) (L:List Rs) (w:World) (hv:Zaq lo w v L) (hn:L.length<=1048576) :
 Calls prog 77 #[v] w fun e w'=>∃ v',e=.returned v'/\Zw_ w w'/\ZaK rsL 2 w' w.heap.size w'.heap.size v' L:=by
 have HV:=Zaa hv;obtain⟨a,cap,rfl⟩:=hv.form;clear hv;have HO:∀ o,Hd (Zw_ w (w.alloc o)):=fun o=>Zab w o
 go_enter func77,ntmps77;go_wp2_with (at_builtin;refine ZdA ZaI (by decide) underlying35 ZeH rfl (w:=w.alloc _) (lo:=w.heap.size) (hi':=w.heap.size+1) (L:=[]) L rfl (.tmp 3) (.tmp 4) rfl rfl ⟨w.heap.size,0,rfl,Zbx rsL 2 w _ _ 0 rfl Zz_⟩ a L.length cap rfl rfl (fun e=>HV.o.nilN e) ((HV.o.below (HO _).o).src) (Zel L) (by simp;omega) (by decide) ?_;intro v' w' h1 h2;have H1:=Zaa h1;have H2:=Zaa h2;clear h1 h2);go_ret;have hsz:w.heap.size+1<=w'.heap.size:=by have:=H1.o.size;simp at this;omega
 refine⟨v',rfl,(HO _).o.trans (H1.o.under (by simp)),?_⟩;have h2:=H2.o;rw [List.nil_append] at h2;exact ZaK.fresh (by simpa using h2) hsz
end
theorem ZaK.set {X:Type}{f:X->List Value}{n:Nat}{w:World}{lo hi:Nat}{v:Value}{L:List X} (h:ZaK f n w lo hi v L) {p:Addr} (hp:p.block < lo) (u:Value):ZaK f n (w.setCell p u) lo hi v L:=
 h.touch (Zad.setCell p.block (p.block+1) w p u ⟨Nat.le_refl _,Nat.lt_succ_self _⟩) (Or.inr hp)
theorem Zfu (lo:Nat) (D:Rd) (a:Option Addr) (c:Nat) (w:World) (hv:Zaq lo w (.slice a D.sl.length c) D.sl) (hn:D.sl.length<=1048576) :
 Calls prog 57 #[.agg #[.int .i64 D.pr,.int .i64 D.kn,.slice a D.sl.length c]] w fun e w'=>∃ b m,e=.returned (.agg #[.int .i64 D.pr,.int .i64 D.kn,.slice b D.sl.length m])/\Zw_ w w'/\ZaK rsL 2 w' w.heap.size w'.heap.size (.slice b D.sl.length m) D.sl:=by
 have HV:=Zaa hv;clear hv;go_enter func57,ntmps57;go_wp2_with fail
 obtain⟨wz,hwz,FX,FR,HB⟩:∃ wz,wz=(w.alloc (.cells #[.int .i64 D.pr,.int .i64 D.kn,.slice a D.sl.length c] 37)).alloc (.cells #[.int .i64 0,.int .i64 0,.slice none 0 0] 37)/\
  Hd (Box wz w.heap.size #[.int .i64 D.pr,.int .i64 D.kn,.slice a D.sl.length c])/\Hd (Box wz (w.heap.size+1) #[.int .i64 0,.int .i64 0,.slice none 0 0])/\Hd (Zw_ w wz):=
  ⟨_,rfl,(Box.new w _ _ _ rfl).on (Zab _ _),Box.new _ _ _ _ (by simp),(Zab _ _).trans ((Zab _ _).mono (by simp))⟩
 rw [<- hwz];clear hwz;have hz0:w.heap.size+2<=wz.heap.size:=by have:=FR.o.lt;omega
 refine (Zc2 lo _ D.sl _ (HV.o.below HB.o) hn).mono ?_;rintro e x0 ⟨u,rfl,hb,hs⟩;obtain⟨g,m0,rfl,hr⟩:=hs;have hx0:wz.heap.size<=x0.heap.size:=hb.size;have N0:Hd (ZaK rsL 2 x0 wz.heap.size x0.heap.size (.slice (some ⟨g,0,none⟩) D.sl.length m0) D.sl):=⟨g,m0,rfl,hr⟩;replace FX:=Zaa (FX.o.on hb);replace FR:=Zaa (FR.o.on hb);replace HB:=Zaa (bt HB.o hb);clear hb hr;have g0:=FX.o.cell;have g1:=FX.o.free;have g2:=FR.o.cell;have g3:=FR.o.free;go_wp2;refine bodyPost_ret (v:=.agg #[.int .i64 D.pr,.int .i64 D.kn,.slice (some ⟨g,0,none⟩) D.sl.length m0]) (by simp [results,results57,go_sem,g2]) rfl ⟨some ⟨g,0,none⟩,m0,rfl,?_,?_⟩
 . repeat (refine Below.setCell ?_ (by simp only [];omega) _)
   exact HB.o
 . refine ZaK.wide (lo:=wz.heap.size) (hi:=x0.heap.size) ?_ (by omega) (by simp [World.setCell])
   repeat (refine ZaK.set ?_ (by simp only [];omega) _)
   exact N0.o
theorem ZgI (lo:Nat) (M:Rm) (a:Option Addr) (c:Nat) (w:World) (hv:Zaq lo w (.slice a M.sl.length c) M.sl) (hn:M.sl.length<=1048576) :
 Calls prog 31 #[.agg (rmL M a c).toArray] w fun e w'=>∃ b m,e=.returned (.agg (rmL M b m).toArray)/\Zw_ w w'/\ZaK rsL 2 w' w.heap.size w'.heap.size (.slice b M.sl.length m) M.sl:=by
 have HV:=Zaa hv;clear hv
 show Calls prog 31 #[.agg #[.int .i64 M.kd,.int .i64 M.fr,.int .i64 M.tt,.int .i64 M.ba,.int .i64 M.ix,.int .i64 M.kn,.string M.tx,.slice a M.sl.length c]] w _
 go_enter func31,ntmps31;go_wp2_with fail
 obtain⟨wz,hwz,FX,FR,HB⟩:∃ wz,wz=(w.alloc (.cells #[.int .i64 M.kd,.int .i64 M.fr,.int .i64 M.tt,.int .i64 M.ba,.int .i64 M.ix,.int .i64 M.kn,.string M.tx,.slice a M.sl.length c] 45)).alloc (.cells #[.int .i64 0,.int .i64 0,.int .i64 0,.int .i64 0,.int .i64 0,.int .i64 0,.string ⟨#[]⟩,.slice none 0 0] 45)/\
  Hd (Box wz w.heap.size #[.int .i64 M.kd,.int .i64 M.fr,.int .i64 M.tt,.int .i64 M.ba,.int .i64 M.ix,.int .i64 M.kn,.string M.tx,.slice a M.sl.length c])/\Hd (Box wz (w.heap.size+1) #[.int .i64 0,.int .i64 0,.int .i64 0,.int .i64 0,.int .i64 0,.int .i64 0,.string ⟨#[]⟩,.slice none 0 0])/\Hd (Zw_ w wz):=
  ⟨_,rfl,(Box.new w _ _ _ rfl).on (Zab _ _),Box.new _ _ _ _ (by simp),(Zab _ _).trans ((Zab _ _).mono (by simp))⟩
 rw [<- hwz];clear hwz;have hz0:w.heap.size+2<=wz.heap.size:=by have:=FR.o.lt;omega
 refine (Zc2 lo _ M.sl _ (HV.o.below HB.o) hn).mono ?_;rintro e x0 ⟨u,rfl,hb,hs⟩;obtain⟨g,m0,rfl,hr⟩:=hs;have hx0:wz.heap.size<=x0.heap.size:=hb.size;have N0:Hd (ZaK rsL 2 x0 wz.heap.size x0.heap.size (.slice (some ⟨g,0,none⟩) M.sl.length m0) M.sl):=⟨g,m0,rfl,hr⟩;replace FX:=Zaa (FX.o.on hb);replace FR:=Zaa (FR.o.on hb);replace HB:=Zaa (bt HB.o hb);clear hb hr;have g0:=FX.o.cell;have g1:=FX.o.free;have g2:=FR.o.cell;have g3:=FR.o.free;go_wp2;refine bodyPost_ret (v:=.agg (rmL M (some ⟨g,0,none⟩) m0).toArray) (by simp [results,results31,go_sem,g2,rmL]) rfl ⟨some ⟨g,0,none⟩,m0,rfl,?_,?_⟩
 . repeat (refine Below.setCell ?_ (by simp only [];omega) _)
   exact HB.o
 . refine ZaK.wide (lo:=wz.heap.size) (hi:=x0.heap.size) ?_ (by omega) (by simp [World.setCell])
   repeat (refine ZaK.set ?_ (by simp only [];omega) _)
   exact N0.o
section
variable {n lo hi g:Nat} {w w':World} {L:List MX} {v:Value} {Xl:List Rm}
theorem FR.own {X:Type}{f:X->List Value}{cap:Nat}{L:List X} (h:FR f n w lo hi g cap L):FR f n w g (g+1) g cap L:=⟨Nat.le_refl _,Nat.lt_succ_self _,h.lt,h.le,h.mx,h.th,h.fz,h.rg⟩
def Inn (w:World) (lo hi g:Nat) (x:MX):Prop:=∃ l u,lo<=l/\l<=u/\u<=hi/\(g < l\/u<=g)/\ZaK rsL 2 w l u (.slice x.2.1 x.1.sl.length x.2.2) x.1.sl
structure MR (w:World) (lo hi g:Nat) (v:Value) (L:List MX):Prop where
 row:ZaK mxL 8 w g (g+1) v L
 low:lo<=g
 up:g < hi
 inn:∃ c:Nat->Nat×Nat,(∀ i,i < L.length->lo<=(c i).1/\(c i).1<=(c i).2/\(c i).2<=hi/\(g < (c i).1\/(c i).2<=g))/\(∀ i j,i < L.length->j < L.length->i≠j->(c i).2<=(c j).1\/(c j).2<=(c i).1)/\∀ i (h:i < L.length),ZaK rsL 2 w (c i).1 (c i).2 (.slice L[i].2.1 L[i].1.sl.length L[i].2.2) L[i].1.sl
theorem MR.below (h:MR w lo hi g v L) (hb:Zw_ w w'):MR w' lo hi g v L:=by
 obtain⟨c,h1,h2,h3⟩:=h.inn;exact⟨h.row.below hb,h.low,h.up,c,h1,h2,fun i hi=>(h3 i hi).below hb⟩
theorem MR.touch (h:MR w lo hi g v L) {lo' hi':Nat} (ht:Zad lo' hi' w w') (hh:hi<=lo'\/hi'<=lo):MR w' lo hi g v L:=by
 obtain⟨c,h1,h2,h3⟩:=h.inn;exact⟨h.row.touch ht (by have:=h.low;have:=h.up;omega),h.low,h.up,c,h1,h2,fun i hi=>(h3 i hi).touch ht (by have:=h1 i hi;omega)⟩
theorem MR.lt (h:MR w lo hi g v L):g < w.heap.size:=by
 obtain⟨g',cap,-,hr⟩:=h.row;have h1:=hr.bs;have h2:=hr.up;have h3:=hr.lt
 omega
theorem MR.snoc {W W':World}{v':Value}{x:MX} (h:MR W lo n g v L) (_hn:n<=W.heap.size) (hx:Inn W n W.heap.size g x) (ht:Zad g (g+1) W W') (hf:ZaK mxL 8 W' g (g+1) v' (L ++ [x])\/ZaK mxL 8 W' W.heap.size W'.heap.size v' (L ++ [x])) (hlo:lo<=n):∃ g',MR W' lo W'.heap.size g' v' (L ++ [x]):=by
 obtain⟨c,h1,h2,h3⟩:=h.inn;obtain⟨l,u,x1,x2,x3,x4,x5⟩:=hx;have hsz:=ht.size;have hll:(L ++ [x]).length=L.length+1:=by simp
 obtain⟨d,hd⟩:∃ d:Nat->Nat×Nat,d=fun i=>if i=L.length then (l,u) else c i:=⟨_,rfl⟩
 have e1:∀ i,i < L.length->d i=c i:=fun i hi=>by rw [hd];exact if_neg (by omega)
 have e2:d L.length=(l,u):=by rw [hd];exact if_pos rfl
 have seg:∀ i,i < (L ++ [x]).length->lo<=(d i).1/\(d i).1<=(d i).2/\(d i).2<=W.heap.size/\(g < (d i).1\/(d i).2<=g):=fun i hi=>by
  by_cases q:i < L.length
  . rw [e1 i q];have:=h1 i q;omega
  . rw [show i=L.length by omega,e2];exact⟨by omega,x2,x3,x4⟩
 have ap:∀ i j,i < (L ++ [x]).length->j < (L ++ [x]).length->i≠j->(d i).2<=(d j).1\/(d j).2<=(d i).1:=fun i j hi hj hne=>by
  by_cases q:i < L.length
  . by_cases r:j < L.length
    . rw [e1 i q,e1 j r];exact h2 i j q r hne
    . rw [e1 i q,show j=L.length by omega,e2];have:=h1 i q;simp only [];omega
  . rw [show i=L.length by omega,e2,e1 j (by omega)];have:=h1 j (by omega);simp only [];omega
 have inn:∀ i (hi:i < (L ++ [x]).length),ZaK rsL 2 W' (d i).1 (d i).2 (.slice (L ++ [x])[i].2.1 (L ++ [x])[i].1.sl.length (L ++ [x])[i].2.2) (L ++ [x])[i].1.sl:=fun i hi=>by
  have hs:=seg i hi;refine ZaK.touch ?_ ht (by omega)
  by_cases q:i < L.length
  . rw [e1 i q,List.getElem_append_left q];exact h3 i q
  . have e:i=L.length:=by omega
    subst e;have ex:(L ++ [x])[L.length]=x:=by simp
    rw [e2,ex];exact x5
 rcases hf with hf | hf
 . exact⟨g,hf,h.low,by have:=h.up;omega,d,fun i hi=>by have:=seg i hi;omega,ap,inn⟩
 . obtain⟨g',cap,q1,q2⟩:=hf
   have hbs:=q2.bs;exact⟨g',⟨g',cap,q1,q2.own⟩,by omega,q2.lt,d,fun i hi=>by have:=seg i hi;omega,ap,inn⟩
theorem MR.rms (h:MR w lo hi g v L) (hL:L.map (·.1)=Xl) (hz:∀ i (h:i < Xl.length),(∀ j (hj:j < Xl[i].sl.length),ZaV Xl[i].sl[j])/\Xl[i].tx.size<=maxLen):Zbg lo w v Xl:=by
 subst hL;refine h.row.rms h.low fun i hi=>?_
 obtain⟨c,h1,h2,h3⟩:=h.inn;have:=hz i (by simpa using hi);simp only [List.getElem_map] at this;exact⟨((h3 i hi).rss this.1).at.mono (h1 i hi).1,this.2⟩
theorem Zbg.sizes (h:Zbg lo w v Xl):∀ i (h:i < Xl.length),(∀ j (hj:j < Xl[i].sl.length),ZaV Xl[i].sl[j])/\Xl[i].tx.size<=maxLen:=by
 intro i hi;obtain⟨a,cap,rfl⟩:=h.form;obtain⟨b,off,-,-,-,hc⟩:=h.full' (by omega);obtain⟨cs,-,a0,k0,-,hf⟩:=hc i hi;exact⟨fun j hj=>hf.l0.sizes j hj,hf.s0⟩
theorem Zh5 (lo:Nat) (v:Value) (Xl:List Rm) (w:World) (hv:Zbg lo w v Xl) (hn:ZbQ Xl) :
 Calls prog 61 #[v] w fun e w'=>∃ v' g L,e=.returned v'/\Zw_ w w'/\MR w' w.heap.size w'.heap.size g v' L/\L.map (·.1)=Xl:=by
 have HV:=Zaa hv;have HN:=Zaa hn.2;have hn1:=hn.1;obtain⟨a,cap,rfl⟩:=hv.form;clear hv hn;go_enter func61,ntmps61;go_wp2
 go_loopw [3,4] (fun o i wr=>∃ (k g:Nat) (L:List MX),i=.int .i64 k/\k<=Xl.length/\Zw_ w wr/\MR wr w.heap.size wr.heap.size g o L/\L.map (·.1)=Xl.take k) (fun _ i _=>Xl.length - (intOf i).toNat)
 case atStart=>
  exact⟨0,w.heap.size,[],rfl,by omega,Zab _ _,⟨⟨w.heap.size,0,rfl,(Zbx mxL 8 w _ _ 0 rfl Zz_).own⟩,Nat.le_refl _,by simp,⟨fun _=>(0,0),fun i hi=>absurd hi (Nat.not_lt_zero _),fun i j hi=>absurd hi (Nat.not_lt_zero _),fun i hi=>absurd hi (Nat.not_lt_zero _)⟩⟩,by simp⟩
 case round=>
  obtain⟨k,g,L,rfl,hk,hb,hm,hL⟩:=hrel;have HB:=Zaa hb;have HM:=Zaa hm;have HL:=Zaa hL
  have HLl:Hd (L.length=k):=by
   unfold Hd;have:=congrArg List.length hL;rw [List.length_map,List.length_take] at this
   omega
  clear hb hm hL;obtain⟨gg,cp,ho,hfr⟩:=HM.o.row;subst ho;clear hfr
  by_cases hlt:k < Xl.length
  . obtain⟨b,off,rfl,hbw,-,hc⟩:=HV.o.full' (by omega)
    obtain⟨m,hm'⟩:∃ m,m=Xl[k]:=⟨_,rfl⟩
    obtain⟨ms,hr,b0,m0,rfl,hf⟩:=hc k hlt;rw [<- hm'] at hf hr;have HS:Hd (m.sl.length<=1048576):=by unfold Hd;rw [hm'];exact (HN.o k hlt).1
    have HF:Hd (Zaq lo wr (.slice b0 m.sl.length m0) m.sl):=hf.l0.below HB.o;have HR:=Zas hr HB.o hbw;have HX:=Zaa hm';have s0:wr.cell? ⟨b,off+k*8,none⟩=some (.int .i64 m.kd):=HR 0 _ rfl;have s1:wr.cell? ⟨b,off+k*8+1,none⟩=some (.int .i64 m.fr):=HR 1 _ rfl;have s2:wr.cell? ⟨b,off+k*8+2,none⟩=some (.int .i64 m.tt):=HR 2 _ rfl;have s3:wr.cell? ⟨b,off+k*8+3,none⟩=some (.int .i64 m.ba):=HR 3 _ rfl;have s4:wr.cell? ⟨b,off+k*8+4,none⟩=some (.int .i64 m.ix):=HR 4 _ rfl;have s5:wr.cell? ⟨b,off+k*8+5,none⟩=some (.int .i64 m.kn):=HR 5 _ rfl;have s6:wr.cell? ⟨b,off+k*8+6,none⟩=some (.string m.tx):=HR 6 _ rfl;have s7:wr.cell? ⟨b,off+k*8+7,none⟩=some (.slice b0 m.sl.length m0):=HR 7 _ rfl;have i0:(0:Int)<=(k:Int):=by omega
    have i1:(k:Int) < (Xl.length:Int):=by omega
    clear hc hr hf hm' HR;go_wp2_with fail;clear s0 s1 s2 s3 s4 s5 s6 s7;refine (ZgI lo m b0 m0 _ HF.o HS.o).mono ?_;rintro e w1 ⟨b1,m1,rfl,hb1,hf1⟩;have HB1:Hd (Zw_ w w1):=bt HB.o hb1;have HM1:=Zaa (HM.o.below hb1);have hnw:=hb1.size;have hlw:=HB.o.size;have HI1:Hd (Inn w1 wr.heap.size w1.heap.size g (m,b1,m1)):=⟨_,_,Nat.le_refl _,hb1.size,Nat.le_refl _,Or.inl HM.o.up,hf1⟩;clear hb1 hf1 HM HB HF;rw [show (rmL m b1 m1).toArray=#[.int .i64 m.kd,.int .i64 m.fr,.int .i64 m.tt,.int .i64 m.ba,.int .i64 m.ix,.int .i64 m.kn,.string m.tx,.slice b1 m.sl.length m1] from rfl]
    have HIo:Hd (∀ o,Inn (w1.alloc o) wr.heap.size (w1.alloc o).heap.size g (m,b1,m1)):=fun o=>by
     obtain⟨l,u,h1,h0,h2,h3,h4⟩:=HI1.o;exact⟨l,u,h1,h0,Nat.le_trans h2 (Zab w1 o).size,h3,h4.below (Zab _ _)⟩
    go_wp2_with (at_builtin;refine ZdA ZcT (by decide) underlying38 Zc9 rfl (w:=w1.alloc _) (lo:=g) (hi':=g+1) (L:=L) [(m,b1,m1)] rfl (.tmp 12) (.tmp 18) rfl rfl (HM1.o.below (Zab _ _)).row (some ⟨w1.heap.size,0,none⟩) 1 1 rfl rfl (fun e=>by cases e) (fun ad e j u hu=>by
     injection e with e
     subst e;rw [Addr.add_lit,Nat.zero_add,(Box.new w1 _ _ _ rfl).cell j]
     simpa [Zai,mxL,rmL] using hu) (Ze7 _) (by have:=HLl.o;simp;omega) (by decide) ?_;intro v' w' h1 h2;have H1:=Zaa h1;have H2:=Zaa h2;clear h1 h2)
    have hsz:=HB1.o.size;obtain⟨g',hg'⟩:=(HM1.o.below (Zab _ _)).snoc (by simp;omega) (HIo.o _) H1.o H2.o hlw;have HG:=Zaa hg';have HBn:Hd (Zw_ w w'):=(bt HB1.o (Zab _ _)).trans ((H1.o.under (by have:=HM1.o.lt;simp;omega)).mono HM1.o.low);clear hg';go_roundw
    . exact⟨k+1,g',L ++ [(m,b1,m1)],by go_num,by omega,HBn.o,HG.o,by rw [List.map_append,HL.o,List.take_succ_eq_append_getElem hlt,HX.o];rfl⟩
    . simp [intOf];omega
  . go_wp2
    go_ret;exact⟨_,g,L,rfl,HB.o,HM.o,by rw [HL.o,List.take_of_length_le (by omega)]⟩
end
section
variable {w w':World} {lo hi g:Nat} {v:Value} {L:List AX}
def InA (w:World) (lo hi g:Nat) (x:AX):Prop:=∃ l u,lo<=l/\l<=u/\u<=hi/\(g < l\/u<=g)/\ZaK inL 1 w l u (.slice x.2.1 x.1.fr.length x.2.2) x.1.fr
structure AR (w:World) (lo hi g:Nat) (v:Value) (L:List AX):Prop where
 row:ZaK axL 2 w g (g+1) v L
 low:lo<=g
 up:g < hi
 inn:∃ c:Nat->Nat×Nat,(∀ i,i < L.length->lo<=(c i).1/\(c i).1<=(c i).2/\(c i).2<=hi/\(g < (c i).1\/(c i).2<=g))/\(∀ i j,i < L.length->j < L.length->i≠j->(c i).2<=(c j).1\/(c j).2<=(c i).1)/\∀ i (h:i < L.length),ZaK inL 1 w (c i).1 (c i).2 (.slice L[i].2.1 L[i].1.fr.length L[i].2.2) L[i].1.fr
theorem AR.below (h:AR w lo hi g v L) (hb:Zw_ w w'):AR w' lo hi g v L:=by
 obtain⟨c,h1,h2,h3⟩:=h.inn;exact⟨h.row.below hb,h.low,h.up,c,h1,h2,fun i hi=>(h3 i hi).below hb⟩
theorem AR.touch (h:AR w lo hi g v L) {lo' hi':Nat} (ht:Zad lo' hi' w w') (hh:hi<=lo'\/hi'<=lo):AR w' lo hi g v L:=by
 obtain⟨c,h1,h2,h3⟩:=h.inn;exact⟨h.row.touch ht (by have:=h.low;have:=h.up;omega),h.low,h.up,c,h1,h2,fun i hi=>(h3 i hi).touch ht (by have:=h1 i hi;omega)⟩
theorem AR.lt (h:AR w lo hi g v L):g < w.heap.size:=by
 obtain⟨g',cap,-,hr⟩:=h.row;have h1:=hr.bs;have h2:=hr.up;have h3:=hr.lt
 omega
theorem AR.snoc {W W':World}{n:Nat}{v':Value}{x:AX} (h:AR W lo n g v L) (_hn:n<=W.heap.size) (hx:InA W n W.heap.size g x) (ht:Zad g (g+1) W W') (hf:ZaK axL 2 W' g (g+1) v' (L ++ [x])\/ZaK axL 2 W' W.heap.size W'.heap.size v' (L ++ [x])) (hlo:lo<=n):∃ g',AR W' lo W'.heap.size g' v' (L ++ [x]):=by
 obtain⟨c,h1,h2,h3⟩:=h.inn;obtain⟨l,u,x1,x2,x3,x4,x5⟩:=hx;have hsz:=ht.size;have hll:(L ++ [x]).length=L.length+1:=by simp
 obtain⟨d,hd⟩:∃ d:Nat->Nat×Nat,d=fun i=>if i=L.length then (l,u) else c i:=⟨_,rfl⟩
 have e1:∀ i,i < L.length->d i=c i:=fun i hi=>by rw [hd];exact if_neg (by omega)
 have e2:d L.length=(l,u):=by rw [hd];exact if_pos rfl
 have seg:∀ i,i < (L ++ [x]).length->lo<=(d i).1/\(d i).1<=(d i).2/\(d i).2<=W.heap.size/\(g < (d i).1\/(d i).2<=g):=fun i hi=>by
  by_cases q:i < L.length
  . rw [e1 i q];have:=h1 i q;omega
  . rw [show i=L.length by omega,e2];exact⟨by omega,x2,x3,x4⟩
 have ap:∀ i j,i < (L ++ [x]).length->j < (L ++ [x]).length->i≠j->(d i).2<=(d j).1\/(d j).2<=(d i).1:=fun i j hi hj hne=>by
  by_cases q:i < L.length
  . by_cases r:j < L.length
    . rw [e1 i q,e1 j r];exact h2 i j q r hne
    . rw [e1 i q,show j=L.length by omega,e2];have:=h1 i q;simp only [];omega
  . rw [show i=L.length by omega,e2,e1 j (by omega)];have:=h1 j (by omega);simp only [];omega
 have inn:∀ i (hi:i < (L ++ [x]).length),ZaK inL 1 W' (d i).1 (d i).2 (.slice (L ++ [x])[i].2.1 (L ++ [x])[i].1.fr.length (L ++ [x])[i].2.2) (L ++ [x])[i].1.fr:=fun i hi=>by
  have hs:=seg i hi;refine ZaK.touch ?_ ht (by omega)
  by_cases q:i < L.length
  . rw [e1 i q,List.getElem_append_left q];exact h3 i q
  . have e:i=L.length:=by omega
    subst e;have ex:(L ++ [x])[L.length]=x:=by simp
    rw [e2,ex];exact x5
 rcases hf with hf | hf
 . exact⟨g,hf,h.low,by have:=h.up;omega,d,fun i hi=>by have:=seg i hi;omega,ap,inn⟩
 . obtain⟨g',cap,q1,q2⟩:=hf
   have hbs:=q2.bs;exact⟨g',⟨g',cap,q1,q2.own⟩,by omega,q2.lt,d,fun i hi=>by have:=seg i hi;omega,ap,inn⟩
theorem AR.ras {Xl:List Ra} (h:AR w lo hi g v L) (hL:L.map (·.1)=Xl):Zbm lo w v Xl:=by
 subst hL;refine h.row.ras h.low fun i hi=>?_
 obtain⟨c,h1,h2,h3⟩:=h.inn;exact (h3 i hi).ris.at.mono (h1 i hi).1
end
variable {a b:List Rs} {k:Nat}
def mrg (x y:Rs):Rs:=if x.ba < y.ba then y else x
def Zax:List Rs->List Rs->List Rs
 | [],b=>b
 | x :: a,[]=>x :: a
 | x :: a,y :: b=>mrg x y :: Zax a b
theorem ZeJ (a:List Rs):Zax a []=a:=by cases a <;> rfl
theorem ZbK:∀ a b:List Rs,(Zax a b).length=max a.length b.length
 | [],b=>by simp [Zax]
 | x :: a,[]=>by simp [Zax]
 | x :: a,y :: b=>by simp only [Zax,List.length_cons,ZbK a b];omega
theorem Zei:∀ (a b:List Rs) (k:Nat) (h:k < b.length),a.length<=k->Zax a (b.take (k+1))=Zax a (b.take k) ++ [b[k]]
 | [],b,k,h,_=>by
  simp only [Zax];rw [List.take_succ_eq_append_getElem h]
 | x :: a,[],k,h,_=>by simp at h
 | x :: a,y :: b,0,h,hk=>by simp at hk
 | x :: a,y :: b,k+1,h,hk=>by
  simp only [List.take_succ_cons,Zax,List.cons_append,List.getElem_cons_succ];rw [Zei a b k (by simpa using h) (by simpa using hk)]
theorem Zeh:∀ (a b:List Rs) (k:Nat) (h:k < b.length) (ha:k < a.length),Zax a (b.take (k+1))=(Zax a (b.take k)).set k (mrg a[k] b[k])
 | [],b,k,h,ha=>by simp at ha
 | x :: a,[],k,h,_=>by simp at h
 | x :: a,y :: b,0,h,ha=>by simp [Zax,ZeJ]
 | x :: a,y :: b,k+1,h,ha=>by
  simp only [List.take_succ_cons,Zax,List.set_cons_succ,List.getElem_cons_succ];rw [Zeh a b k (by simpa using h) (by simpa using ha)]
theorem Zeg:∀ (a b:List Rs) (k:Nat) (ha:k < a.length) (hk:k < (Zax a (b.take k)).length),(Zax a (b.take k))[k]=a[k]
 | [],b,k,ha,_=>by simp at ha
 | x :: a,[],k,ha,hk=>by simp [Zax]
 | x :: a,y :: b,0,ha,hk=>by simp [Zax]
 | x :: a,y :: b,k+1,ha,hk=>by
  simp only [List.take_succ_cons,Zax,List.getElem_cons_succ];exact Zeg a b k (by simpa using ha) _
theorem Zgf (h:k < b.length) (ha:k < a.length) (hq:¬ a[k].ba < b[k].ba):Zax a (b.take (k+1))=Zax a (b.take k):=by
 have hl:k < (Zax a (b.take k)).length:=by rw [ZbK];omega
 rw [Zeh a b k h ha,mrg,if_neg hq]
 conv=>lhs;rw [<- Zeg a b k ha hl]
 exact List.set_getElem_self _
theorem Zhh (h:k < b.length) (ha:k < a.length) (hq:a[k].ba < b[k].ba):Zax a (b.take (k+1))=(Zax a (b.take k)).set k b[k]:=by
 rw [Zeh a b k h ha,mrg,if_pos hq]
def ZgW (a b:List Rs) (k:Nat):List Rs:=(List.range k).map (fun i=>mrg (a.getD i ⟨0,⟨#[]⟩⟩) (b.getD i ⟨0,⟨#[]⟩⟩))
theorem Zjk (a b:List Rs) (k:Nat):(ZgW a b k).length=k:=by unfold ZgW;simp
theorem ZhK (a b:List Rs) (k:Nat) (ha:k < a.length) (hb:k < b.length):ZgW a b (k+1)=ZgW a b k ++ [mrg a[k] b[k]]:=by
 unfold ZgW;rw [List.range_succ,List.map_append];simp [List.getD_eq_getElem?_getD,ha,hb]
theorem ZfG:∀ a b:List Rs,Zax a b=ZgW a b (min a.length b.length) ++ a.drop (min a.length b.length) ++ b.drop (min a.length b.length)
 | [],b=>by simp [Zax,ZgW]
 | x :: a,[]=>by simp [Zax,ZgW]
 | x :: a,y :: b=>by
  have hm:min (a.length+1) (b.length+1)=min a.length b.length+1:=by omega
  simp only [Zax,List.length_cons,hm,List.drop_succ_cons];rw [ZfG a b];unfold ZgW;rw [List.range_succ_eq_map,List.map_cons,List.map_map];simp only [List.cons_append]
  congr 1
theorem LR.store {w:World}{base g cap:Nat}{L:List Rs} (h:LR w base g cap L) {k:Nat} (hk:k < L.length) (x:Rs) (hx:ZaV x) :
 LR ((w.setCell ⟨g,k*2,none⟩ (.int .i64 x.ba)).setCell ⟨g,k*2+1,none⟩ (.string x.tx)) base g cap (L.set k x):=by
 have hle:=h.le;have hf:∀ (W:World) (p:Addr) (u:Value) (q:Addr),(W.setCell p u).frozen? q=W.frozen? q:=fun W p u q=>World.frozen?_setCell _ _ _ _
 have hc:∀ j,((w.setCell ⟨g,k*2,none⟩ (.int .i64 x.ba)).setCell ⟨g,k*2+1,none⟩ (.string x.tx)).cell? ⟨g,j,none⟩=if j=k*2+1 then some (.string x.tx) else if j=k*2 then some (.int .i64 x.ba) else w.cell? ⟨g,j,none⟩:=by
  intro j;have s1:(w.cell? ⟨g,k*2,none⟩).isSome=true:=h.th _ (by omega);have s2:(w.cell? ⟨g,k*2+1,none⟩).isSome=true:=h.th _ (by omega);have:=World.cell?_setCells_in g [.int .i64 x.ba,.string x.tx] (k*2) w (fun j hj=>h.th _ (by simp at hj;omega))
  by_cases e1:j=k*2+1
  . subst e1
    rw [if_pos rfl];exact this 1 (by simp)
  . rw [if_neg e1]
    by_cases e2:j=k*2
    . subst e2
      rw [if_pos rfl];exact this 0 (by simp)
    . rw [if_neg e2]
      exact World.cell?_setCells_out g [.int .i64 x.ba,.string x.tx] (k*2) w ⟨g,j,none⟩ (fun _ _=>by simp only [List.length_cons,List.length_nil];omega)
 refine⟨h.bs,by simpa [World.setCell] using h.lt,by rw [List.length_set];exact h.le,h.mx,fun j hj=>?_,fun j=>by rw [hf,hf];exact h.fz j,fun j u hu=>?_,fun i hi=>?_⟩
 . rw [hc]
   split
   . rfl
   . split
     . rfl
     . exact h.th j hj
 . rw [Nat.zero_add,hc]
   have hj:=(List.getElem?_eq_some_iff.1 hu).1;rw [Zaw ZaI,List.length_set] at hj;have hi:j / 2 < (L.set k x).length:=by rw [List.length_set];omega
   have e0:=Zbw ZaI (L.set k x) (j / 2) (j % 2) hi (by omega);rw [show j / 2*2+j % 2=j by omega,hu,List.getElem_set] at e0
   by_cases e1:j=k*2+1
   . rw [if_pos e1]
     rw [if_pos (by omega),show j % 2=1 by omega] at e0;exact e0.symm
   . rw [if_neg e1]
     by_cases e2:j=k*2
     . rw [if_pos e2]
       rw [if_pos (by omega),show j % 2=0 by omega] at e0;exact e0.symm
     . rw [if_neg e2]
       have hi':j / 2 < L.length:=by omega
       rw [if_neg (by omega)] at e0;have e3:=Zbw ZaI L (j / 2) (j % 2) hi' (by omega);rw [show j / 2*2+j % 2=j by omega,<- e0] at e3;have:=h.rg j u e3
       rwa [Nat.zero_add] at this
 . rw [List.getElem_set]
   split
   . exact hx
   . exact h.sz i (by simpa using hi)
end Go.Proofs.YtkiefplmnoapfaaGreat
