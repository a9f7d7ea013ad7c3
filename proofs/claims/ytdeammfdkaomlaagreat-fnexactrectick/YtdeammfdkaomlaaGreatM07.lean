import Derived.Test.YtdeammfdkaomlaaGreatM06
set_option maxHeartbeats 16000000
set_option maxRecDepth 100000
open Go.Proofs.Tryz
namespace Go.Proofs.YtdeammfdkaomlaaGreat
open Go.RowKit Go.Deep
section
variable {w:World} {lo hi lo' n cap:Nat} {v:Value} {ao:Option Addr}
def tyL (s:Zy_):List Value:=[.string s]
def inL (x:Int):List Value:=[.int .i64 x]
abbrev MX:=Rm×Option Addr×Nat
abbrev AX:=Ra×Option Addr×Nat
def mxL (x:MX):List Value:=rmL x.1 x.2.1 x.2.2
def axL (x:AX):List Value:=raL x.1 x.2.1 x.2.2
theorem ZbN (s:Zy_):(tyL s).length=1:=rfl
theorem ZaE (s:Int):(inL s).length=1:=rfl
theorem Zb3 (s:MX):(mxL s).length=8:=rfl
theorem Zar (s:AX):(axL s).length=2:=rfl
theorem Zgj (L:List Zy_):∀ u ∈ Zai tyL L,u.oneCell'=true:=fun u hu=>by
 obtain⟨x,-,hx⟩:=ZcB hu;simp only [tyL,List.mem_cons,List.not_mem_nil,or_false] at hx;rw [hx];rfl
theorem ZaO (L:List Int):∀ u ∈ Zai inL L,u.oneCell'=true:=fun u hu=>by
 obtain⟨x,-,hx⟩:=ZcB hu;simp only [inL,List.mem_cons,List.not_mem_nil,or_false] at hx;rw [hx];rfl
theorem Zdt (L:List MX):∀ u ∈ Zai mxL L,u.oneCell'=true:=fun u hu=>by
 obtain⟨x,-,hx⟩:=ZcB hu;simp only [mxL,rmL,List.mem_cons,List.not_mem_nil,or_false] at hx
 rcases hx with rfl | rfl | rfl | rfl | rfl | rfl | rfl | rfl <;> rfl
theorem ZaV (L:List AX):∀ u ∈ Zai axL L,u.oneCell'=true:=fun u hu=>by
 obtain⟨x,-,hx⟩:=ZcB hu;simp only [axL,raL,List.mem_cons,List.not_mem_nil,or_false] at hx
 rcases hx with rfl | rfl <;> rfl
theorem Zh2:(prog.info? 9).map (fun i=>(i.zero,i.size,i.bytes))=some (some (.string ⟨#[]⟩),1,16):=by kernel_rfl
theorem Zbe:(prog.info? 3).map (fun i=>(i.zero,i.size,i.bytes))=some (some (.int .i64 0),1,8):=by kernel_rfl
theorem ZaH.rts {L:List Zy_} (h:ZaH tyL 1 w lo hi v L) (hz:∀ i (h:i < L.length),L[i].size<=maxLen):ZaX lo hi w v L:=by
 obtain⟨g,cap,h1,h2⟩:=h
 by_cases hL:L=[]
 . subst hL;exact Or.inl ⟨_,_,h1,rfl⟩
 . refine Or.inr ⟨g,0,cap,h1,hL,Nat.le_trans h2.le h2.mx,h2.le,h2.lt,fun i hi=>⟨hz i hi,?_⟩,h2.bs,h2.up,fun i=>h2.fz _⟩
   have:=h2.get ZbN hi (t:=0) (by omega) (v:=.string L[i]) rfl
   rwa [show i*1+0=0+i by omega] at this
theorem ZaH.ris {L:List Int} (h:ZaH inL 1 w lo hi v L):ZaD lo hi w v L:=by
 obtain⟨g,cap,h1,h2⟩:=h
 by_cases hL:L=[]
 . subst hL;exact Or.inl ⟨_,_,h1,rfl⟩
 . refine Or.inr ⟨g,0,cap,h1,hL,Nat.le_trans h2.le h2.mx,h2.le,h2.lt,fun i hi=>?_,h2.bs,h2.up,fun i=>h2.fz _⟩
   have:=h2.get ZaE hi (t:=0) (by omega) (v:=.int .i64 L[i]) rfl
   rwa [show i*1+0=0+i by omega] at this
theorem ZaH.rss {L:List Rs} (h:ZaH rsL 2 w lo hi v L) (hz:∀ i (h:i < L.length),ZaJ L[i]):Zap lo hi w v L:=by
 obtain⟨g,cap,h1,h2⟩:=h
 by_cases hL:L=[]
 . subst hL;exact Or.inl ⟨_,_,h1,rfl⟩
 . have h0:0 < L.length:=List.length_pos_iff.2 hL
   refine Or.inr ⟨g,0,cap,fun _=>g+1,fun i=>if h:i < L.length then L[i] else L[0],h1,hL,Nat.le_trans h2.le h2.mx,h2.le,fun i hi=>by simp [hi],h2.lt,h2.bs,Nat.lt_succ_self _,h2.up,fun _ _=>Nat.le_refl _,h2.up,h2.fz,fun i hi=>?_⟩;simp only [hi,dif_pos];have e0:=h2.get ZaC hi (t:=0) (by omega) (v:=.int .i64 L[i].ba) rfl;have e1:=h2.get ZaC hi (t:=1) (by omega) (v:=.string L[i].tx) rfl;exact⟨hz i hi,⟨by rw [Nat.zero_add];exact e0,by rw [Nat.zero_add];exact e1⟩⟩
theorem ZaH.rms {L:List MX} (h:ZaH mxL 8 w lo hi v L) (hlo:lo'<=lo) (hz:∀ i (h:i < L.length),Zat lo' w (.slice L[i].2.1 L[i].1.sl.length L[i].2.2) L[i].1.sl/\L[i].1.tx.size<=maxLen):Zbd lo' w v (L.map (·.1)):=by
 obtain⟨g,cap,h1,h2⟩:=h
 by_cases hL:L=[]
 . subst hL;exact Or.inl ⟨_,_,h1,rfl⟩
 . refine Or.inr ⟨g,0,cap,by rw [List.length_map];exact h1,by simpa using hL,by rw [List.length_map];exact Nat.le_trans h2.le h2.mx,h2.lt,Nat.le_trans hlo h2.bs,by rw [List.length_map];exact h2.le,fun i hi=>?_⟩
   rw [List.length_map] at hi;obtain⟨z1,z2⟩:=hz i hi;refine⟨mxL L[i],fun j u hu=>?_,L[i].2.1,L[i].2.2,by simp [mxL],by simp only [List.getElem_map];exact⟨z1,z2⟩⟩;have hj:j < 8:=by have:=(List.getElem?_eq_some_iff.1 hu).1;rwa [Zb3] at this
   have:=h2.get Zb3 hi hj hu
   rwa [show 0+i*8+j=i*8+j by omega]
theorem ZaH.ras {L:List AX} (h:ZaH axL 2 w lo hi v L) (hlo:lo'<=lo) (hz:∀ i (h:i < L.length),ZaR lo' w (.slice L[i].2.1 L[i].1.fr.length L[i].2.2) L[i].1.fr):ZbA lo' w v (L.map (·.1)):=by
 obtain⟨g,cap,h1,h2⟩:=h
 by_cases hL:L=[]
 . subst hL;exact Or.inl ⟨_,_,h1,rfl⟩
 . refine Or.inr ⟨g,0,cap,by rw [List.length_map];exact h1,by simpa using hL,by rw [List.length_map];exact Nat.le_trans h2.le h2.mx,h2.lt,Nat.le_trans hlo h2.bs,by rw [List.length_map];exact h2.le,fun i hi=>?_⟩
   rw [List.length_map] at hi;refine⟨axL L[i],fun j u hu=>?_,L[i].2.1,L[i].2.2,by simp [axL],by simp only [List.getElem_map];exact⟨hz i hi⟩⟩;have hj:j < 2:=by have:=(List.getElem?_eq_some_iff.1 hu).1;rwa [Zar] at this
   have:=h2.get Zar hi hj hu
   rwa [show 0+i*2+j=i*2+j by omega]
theorem Zbf.src {L:List Zy_} (h:Zbf lo w (.slice ao n cap) L):∀ ad,ao=some ad->∀ j u,(Zai tyL L)[j]?=some u->w.cell? (ad.add j)=some u:=by
 rintro ad rfl j u hu;have hj:=(List.getElem?_eq_some_iff.1 hu).1;rw [Zaw ZbN] at hj;obtain⟨b,off,e,-,-,hc⟩:=h.full' (by omega);injection e with e
 subst e;have:=Zbt ZbN L j 0 (by omega) (by omega);rw [show j*1+0=j by omega,hu] at this;have hu':u=.string (L[j]'(by omega)):=by simpa [tyL] using this
 rw [hu',Addr.add_lit];exact (hc j (by omega)).2
theorem ZaR.src {L:List Int} (h:ZaR lo w (.slice ao n cap) L):∀ ad,ao=some ad->∀ j u,(Zai inL L)[j]?=some u->w.cell? (ad.add j)=some u:=by
 rintro ad rfl j u hu;have hj:=(List.getElem?_eq_some_iff.1 hu).1;rw [Zaw ZaE] at hj;obtain⟨b,off,e,-,-,hc⟩:=h.full' (by omega);injection e with e
 subst e;have:=Zbt ZaE L j 0 (by omega) (by omega);rw [show j*1+0=j by omega,hu] at this;have hu':u=.int .i64 (L[j]'(by omega)):=by simpa [inL] using this
 rw [hu',Addr.add_lit];exact (hc j (by omega)).2
theorem Zbf.nilN {L:List Zy_} (h:Zbf lo w (.slice ao n cap) L):ao=none->L.length=0:=by
 rintro rfl
 rcases h with ⟨_,_,_,rfl⟩ | ⟨_,_,_,h1,_⟩
 . rfl
 . injection h1 with e;cases e
theorem ZaR.nilN {L:List Int} (h:ZaR lo w (.slice ao n cap) L):ao=none->L.length=0:=by
 rintro rfl
 rcases h with ⟨_,_,_,rfl⟩ | ⟨_,_,_,h1,_⟩
 . rfl
 . injection h1 with e;cases e
theorem Zbf.sizes {L:List Zy_} (h:Zbf lo w v L):∀ i (hi:i < L.length),L[i].size<=maxLen:=by
 intro i hi;obtain⟨_,_,_,_,_,_,_,hc⟩:=h.full (fun e=>by rw [e] at hi;simp at hi);exact (hc i hi).1
theorem ZaH.fresh {X:Type}{f:X->List Value}{w':World}{L:List X} (h:ZaH f n w' w.heap.size (w.heap.size+1) v L\/ZaH f n w' (w.heap.size+1) w'.heap.size v L) (hs:w.heap.size+1<=w'.heap.size):ZaH f n w' w.heap.size w'.heap.size v L:=by
 rcases h with h | h
 . exact h.wide Zl_ hs
 . exact h.wide (by omega) Zl_
theorem ZdB (lo:Nat) (v:Value) (L:List Rs) (w:World) (hv:Zat lo w v L) (hn:L.length<=1048576) :
 Calls prog 127 #[v] w fun e w'=>∃ v',e=.returned v'/\Zw_ w w'/\ZaH rsL 2 w' w.heap.size w'.heap.size v' L:=by
 have HV:=Zaa hv;obtain⟨a,cap,rfl⟩:=hv.form;clear hv;have HO:∀ o,Hd (Zw_ w (w.alloc o)):=fun o=>Zab w o
 go_enter func127,ntmps127;go_wp2_with (at_builtin;refine Zcl ZaC (by decide) underlying56 Zed rfl (w:=w.alloc _) (lo:=w.heap.size) (hi':=w.heap.size+1) (L:=[]) L rfl (.tmp 3) (.tmp 4) rfl rfl ⟨w.heap.size,0,rfl,Zbb rsL 2 w _ _ 0 rfl Zz_⟩ a L.length cap rfl rfl (fun e=>HV.o.nilN e) ((HV.o.below (HO _).o).src) (Zdz L) (by simp;omega) (by decide) ?_;intro v' w' h1 h2;have H1:=Zaa h1;have H2:=Zaa h2;clear h1 h2);go_ret;have hsz:w.heap.size+1<=w'.heap.size:=by have:=H1.o.size;simp at this;omega
 refine⟨v',rfl,(HO _).o.trans (H1.o.under (by simp)),?_⟩;have h2:=H2.o;rw [List.nil_append] at h2;exact ZaH.fresh (by simpa using h2) hsz
end
theorem ZaH.set {X:Type}{f:X->List Value}{n:Nat}{w:World}{lo hi:Nat}{v:Value}{L:List X} (h:ZaH f n w lo hi v L) {p:Addr} (hp:p.block < lo) (u:Value):ZaH f n (w.setCell p u) lo hi v L:=
 h.touch (Zad.setCell p.block (p.block+1) w p u ⟨Nat.le_refl _,Nat.lt_succ_self _⟩) (Or.inr hp)
theorem Zd7 (lo:Nat) (D:Rd) (a:Option Addr) (c:Nat) (w:World) (hv:Zat lo w (.slice a D.sl.length c) D.sl) (hn:D.sl.length<=1048576) :
 Calls prog 55 #[.agg #[.int .i64 D.pr,.int .i64 D.kn,.slice a D.sl.length c]] w fun e w'=>∃ b m,e=.returned (.agg #[.int .i64 D.pr,.int .i64 D.kn,.slice b D.sl.length m])/\Zw_ w w'/\ZaH rsL 2 w' w.heap.size w'.heap.size (.slice b D.sl.length m) D.sl:=by
 have HV:=Zaa hv;clear hv;go_enter func55,ntmps55;go_wp2_with fail
 obtain⟨wz,hwz,FX,FR,HB⟩:∃ wz,wz=(w.alloc (.cells #[.int .i64 D.pr,.int .i64 D.kn,.slice a D.sl.length c] 58)).alloc (.cells #[.int .i64 0,.int .i64 0,.slice none 0 0] 58)/\
  Hd (Box wz w.heap.size #[.int .i64 D.pr,.int .i64 D.kn,.slice a D.sl.length c])/\Hd (Box wz (w.heap.size+1) #[.int .i64 0,.int .i64 0,.slice none 0 0])/\Hd (Zw_ w wz):=
  ⟨_,rfl,(Box.new w _ _ _ rfl).on (Zab _ _),Box.new _ _ _ _ (by simp),(Zab _ _).trans ((Zab _ _).mono (by simp))⟩
 rw [<- hwz];clear hwz;have hz0:w.heap.size+2<=wz.heap.size:=by have:=FR.o.lt;omega
 refine (ZdB lo _ D.sl _ (HV.o.below HB.o) hn).mono ?_;rintro e x0 ⟨u,rfl,hb,hs⟩;obtain⟨g,m0,rfl,hr⟩:=hs;have hx0:wz.heap.size<=x0.heap.size:=hb.size;have N0:Hd (ZaH rsL 2 x0 wz.heap.size x0.heap.size (.slice (some ⟨g,0,none⟩) D.sl.length m0) D.sl):=⟨g,m0,rfl,hr⟩;replace FX:=Zaa (FX.o.on hb);replace FR:=Zaa (FR.o.on hb);replace HB:=Zaa (bt HB.o hb);clear hb hr;have g0:=FX.o.cell;have g1:=FX.o.free;have g2:=FR.o.cell;have g3:=FR.o.free;go_wp2;refine bodyPost_ret (v:=.agg #[.int .i64 D.pr,.int .i64 D.kn,.slice (some ⟨g,0,none⟩) D.sl.length m0]) (by simp [results,results55,go_sem,g2]) rfl ⟨some ⟨g,0,none⟩,m0,rfl,?_,?_⟩
 . repeat (refine Below.setCell ?_ (by simp only [];omega) _)
   exact HB.o
 . refine ZaH.wide (lo:=wz.heap.size) (hi:=x0.heap.size) ?_ (by omega) (by simp [World.setCell])
   repeat (refine ZaH.set ?_ (by simp only [];omega) _)
   exact N0.o
theorem Zjn (lo:Nat) (M:Rm) (a:Option Addr) (c:Nat) (w:World) (hv:Zat lo w (.slice a M.sl.length c) M.sl) (hn:M.sl.length<=1048576) :
 Calls prog 132 #[.agg (rmL M a c).toArray] w fun e w'=>∃ b m,e=.returned (.agg (rmL M b m).toArray)/\Zw_ w w'/\ZaH rsL 2 w' w.heap.size w'.heap.size (.slice b M.sl.length m) M.sl:=by
 have HV:=Zaa hv;clear hv
 show Calls prog 132 #[.agg #[.int .i64 M.kd,.int .i64 M.fr,.int .i64 M.tt,.int .i64 M.ba,.int .i64 M.ix,.int .i64 M.kn,.string M.tx,.slice a M.sl.length c]] w _
 go_enter func132,ntmps132;go_wp2_with fail
 obtain⟨wz,hwz,FX,FR,HB⟩:∃ wz,wz=(w.alloc (.cells #[.int .i64 M.kd,.int .i64 M.fr,.int .i64 M.tt,.int .i64 M.ba,.int .i64 M.ix,.int .i64 M.kn,.string M.tx,.slice a M.sl.length c] 102)).alloc (.cells #[.int .i64 0,.int .i64 0,.int .i64 0,.int .i64 0,.int .i64 0,.int .i64 0,.string ⟨#[]⟩,.slice none 0 0] 102)/\
  Hd (Box wz w.heap.size #[.int .i64 M.kd,.int .i64 M.fr,.int .i64 M.tt,.int .i64 M.ba,.int .i64 M.ix,.int .i64 M.kn,.string M.tx,.slice a M.sl.length c])/\Hd (Box wz (w.heap.size+1) #[.int .i64 0,.int .i64 0,.int .i64 0,.int .i64 0,.int .i64 0,.int .i64 0,.string ⟨#[]⟩,.slice none 0 0])/\Hd (Zw_ w wz):=
  ⟨_,rfl,(Box.new w _ _ _ rfl).on (Zab _ _),Box.new _ _ _ _ (by simp),(Zab _ _).trans ((Zab _ _).mono (by simp))⟩
 rw [<- hwz];clear hwz;have hz0:w.heap.size+2<=wz.heap.size:=by have:=FR.o.lt;omega
 refine (ZdB lo _ M.sl _ (HV.o.below HB.o) hn).mono ?_;rintro e x0 ⟨u,rfl,hb,hs⟩;obtain⟨g,m0,rfl,hr⟩:=hs;have hx0:wz.heap.size<=x0.heap.size:=hb.size;have N0:Hd (ZaH rsL 2 x0 wz.heap.size x0.heap.size (.slice (some ⟨g,0,none⟩) M.sl.length m0) M.sl):=⟨g,m0,rfl,hr⟩;replace FX:=Zaa (FX.o.on hb);replace FR:=Zaa (FR.o.on hb);replace HB:=Zaa (bt HB.o hb);clear hb hr;have g0:=FX.o.cell;have g1:=FX.o.free;have g2:=FR.o.cell;have g3:=FR.o.free;go_wp2;refine bodyPost_ret (v:=.agg (rmL M (some ⟨g,0,none⟩) m0).toArray) (by simp [results,results132,go_sem,g2,rmL]) rfl ⟨some ⟨g,0,none⟩,m0,rfl,?_,?_⟩
 . repeat (refine Below.setCell ?_ (by simp only [];omega) _)
   exact HB.o
 . refine ZaH.wide (lo:=wz.heap.size) (hi:=x0.heap.size) ?_ (by omega) (by simp [World.setCell])
   repeat (refine ZaH.set ?_ (by simp only [];omega) _)
   exact N0.o
variable {a b c w w':World} {lo hi n:Nat} {v:Value} {Xl:List Rs}
def upd {X:Type} (f:Nat->X) (i:Nat) (x:X):Nat->X:=fun k=>if k=i then x else f k
theorem Zam {X:Type} (f:Nat->X) (i:Nat) (x:X):upd f i x i=x:=if_pos rfl
theorem ZaG {X:Type} (f:Nat->X) {i k:Nat} (x:X) (h:k≠i):upd f i x k=f k:=if_neg h
structure Zag (K:Nat->Prop) (w w':World):Prop where
 os:w'.os=w.os
 tape:w'.tape=w.tape
 output:w'.output=w.output
 size:w.heap.size<=w'.heap.size
 block:∀ k,K k->w'.heap[k]?=w.heap[k]?
theorem Zag.refl (K:Nat->Prop) (w:World):Zag K w w:=⟨rfl,rfl,rfl,Nat.le_refl _,fun _ _=>rfl⟩
theorem Zag.trans {K:Nat->Prop} (h:Zag K a b) (k:Zag K b c):Zag K a c:=
 ⟨k.os.trans h.os,k.tape.trans h.tape,k.output.trans h.output,Nat.le_trans h.size k.size,fun i hi=>(k.block i hi).trans (h.block i hi)⟩
theorem Zag.less {K K':Nat->Prop} (h:Zag K a b) (hk:∀ k,K' k->K k):Zag K' a b:=⟨h.os,h.tape,h.output,h.size,fun k hk'=>h.block k (hk k hk')⟩
theorem Zag.touch {K:Nat->Prop} (h:Zad lo hi w w') (hk:∀ k,K k->k < w.heap.size/\(k < lo\/hi<=k)):Zag K w w':=
 ⟨h.os,h.tape,h.output,h.size,fun k hk'=>h.block k (hk k hk').1 (hk k hk').2⟩
theorem Zag.below {K:Nat->Prop} (h:Below n w w') (hk:∀ k,K k->k < n):Zag K w w':=
 ⟨h.os,h.tape,h.output,h.size,fun k hk'=>h.block k (hk k hk')⟩
theorem Zag.under {K:Nat->Prop} (h:Zag K w w') (hk:∀ k,k < n->K k):Below n w w':=
 ⟨h.os,h.tape,h.output,h.size,fun k hk'=>h.block k (hk k hk')⟩
theorem Box.kept {K:Nat->Prop}{β:Nat}{cs:Array Value} (h:Box w β cs) (hk:Zag K w w') (hb:K β):Box w' β cs:=
 ⟨Zk_ h.lt hk.size,fun i=>(World.cell?_of_block (w:=w) (a:=⟨β,i,none⟩) (hk.block β hb)).trans (h.cell i),fun i=>(World.frozen?_of_block (w:=w) (a:=⟨β,i,none⟩) (hk.block β hb)).trans (h.free i)⟩
structure Zaj (S:Nat->Prop) (w w':World):Prop where
 os:w'.os=w.os
 tape:w'.tape=w.tape
 output:w'.output=w.output
 size:w.heap.size<=w'.heap.size
 block:∀ k,k < w.heap.size->¬ S k->w'.heap[k]?=w.heap[k]?
theorem Zaj.refl (S:Nat->Prop) (w:World):Zaj S w w:=⟨rfl,rfl,rfl,Nat.le_refl _,fun _ _ _=>rfl⟩
theorem Zaj.trans {S:Nat->Prop} (h:Zaj S a b) (k:Zaj S b c):Zaj S a c:=
 ⟨k.os.trans h.os,k.tape.trans h.tape,k.output.trans h.output,Nat.le_trans h.size k.size,fun i hi hn=>(k.block i (Zk_ hi h.size) hn).trans (h.block i hi hn)⟩
theorem Zaj.wide {S S':Nat->Prop} (h:Zaj S a b) (hs:∀ k,S k->S' k):Zaj S' a b:=⟨h.os,h.tape,h.output,h.size,fun k hk hn=>h.block k hk fun h'=>hn (hs k h')⟩
theorem Zad.toS {S:Nat->Prop} (h:Zad lo hi a b) (hs:∀ k,lo<=k->k < hi->S k):Zaj S a b:=
 ⟨h.os,h.tape,h.output,h.size,fun k hk hn=>h.block k hk (by
  rcases Nat.lt_or_ge k lo with h1 | h1
  . exact Or.inl h1
  . rcases Nat.lt_or_ge k hi with h2 | h2
    . exact absurd (hs k h1 h2) hn
    . exact Or.inr h2)⟩
theorem Zaj.below {S:Nat->Prop} (h:Below a.heap.size a b):Zaj S a b:=⟨h.os,h.tape,h.output,h.size,fun k hk _=>h.block k hk⟩
theorem Zaj.touch {S:Nat->Prop} (h:Zaj S a b) (hs:∀ k,S k->lo<=k/\k < hi):Zad lo hi a b:=
 ⟨h.os,h.tape,h.output,h.size,fun k hk ho=>h.block k hk fun h'=>by have:=hs k h';omega⟩
theorem Zag.touchS {K S:Nat->Prop} (h:Zaj S w w') (hk:∀ k,K k->k < w.heap.size/\¬ S k):Zag K w w':=
 ⟨h.os,h.tape,h.output,h.size,fun k hk'=>h.block k (hk k hk').1 (hk k hk').2⟩
theorem Zag.cell {K:Nat->Prop} (h:Zag K w w') {p:Addr} (hp:K p.block):w'.cell? p=w.cell? p:=World.cell?_of_block (w:=w) (h.block p.block hp)
theorem Zag.frozen {K:Nat->Prop} (h:Zag K w w') {p:Addr} (hp:K p.block):w'.frozen? p=w.frozen? p:=World.frozen?_of_block (w:=w) (h.block p.block hp)
theorem Zap.kept {K:Nat->Prop} (h:Zap lo hi w v Xl) (hk:Zag K w w') (ho:∀ k,lo<=k->k < hi->K k):Zap lo hi w' v Xl:=by
 rcases h with h | ⟨b,off,cap,c,X,h1,h2,h3,h4,h5,h6⟩
 . exact Or.inl h
 . have hb:K b:=ho b h6.low h6.bh
   refine Or.inr ⟨b,off,cap,c,X,h1,h2,h3,h4,h5,⟨Zk_ h6.lt hk.size,h6.low,h6.bc,h6.bh,h6.mono,h6.top,fun i=>(hk.frozen (p:=⟨b,i,none⟩) hb).trans (h6.frz i),fun i hi'=>?_⟩⟩;obtain⟨hs,hc⟩:=h6.row i hi';exact⟨hs,⟨(hk.cell (p:=⟨b,_,none⟩) hb).trans hc.c0,(hk.cell (p:=⟨b,_,none⟩) hb).trans hc.c1⟩⟩
theorem ZaX.kept {K:Nat->Prop}{L:List Zy_} (h:ZaX lo hi w v L) (hk:Zag K w w') (ho:∀ k,lo<=k->k < hi->K k):ZaX lo hi w' v L:=by
 rcases h with h | ⟨b,off,cap,h1,h2,h3,hcp,h4,h5,h7,h8,h9⟩
 . exact Or.inl h
 . have hb:K b:=ho b h7 h8
   exact Or.inr ⟨b,off,cap,h1,h2,h3,hcp,Zk_ h4 hk.size,fun i hi'=>⟨(h5 i hi').1,(hk.cell (p:=⟨b,off+i,none⟩) hb).trans (h5 i hi').2⟩,h7,h8,fun i=>(hk.frozen (p:=⟨b,off+i,none⟩) hb).trans (h9 i)⟩
theorem ZaD.kept {K:Nat->Prop}{L:List Int} (h:ZaD lo hi w v L) (hk:Zag K w w') (ho:∀ k,lo<=k->k < hi->K k):ZaD lo hi w' v L:=by
 rcases h with h | ⟨b,off,cap,h1,h2,h3,hcp,h4,h5,h7,h8,h9⟩
 . exact Or.inl h
 . have hb:K b:=ho b h7 h8
   exact Or.inr ⟨b,off,cap,h1,h2,h3,hcp,Zk_ h4 hk.size,fun i hi'=>(hk.cell (p:=⟨b,off+i,none⟩) hb).trans (h5 i hi'),h7,h8,fun i=>(hk.frozen (p:=⟨b,off+i,none⟩) hb).trans (h9 i)⟩
theorem Zb8.toS {b o:Nat}{S:Nat->Prop} (h:Zb8 b o n lo hi w w') (_hb:b < w.heap.size) (sb:S b) (hs:∀ k,lo<=k->k < hi->S k):Zaj S w w':=
 ⟨h.os,h.tape,h.output,h.size,fun k hk hn=>h.block k hk (fun e=>hn (e ▸ sb)) (by
  rcases Nat.lt_or_ge k lo with h1 | h1
  . exact Or.inl h1
  . rcases Nat.lt_or_ge k hi with h2 | h2
    . exact absurd (hs k h1 h2) hn
    . exact Or.inr h2)⟩
theorem Zap.at_ge (h:Zap lo hi w v Xl) (hs:∀ k,lo<=k->k < hi->n<=k):Zat n w v Xl:=by
 rcases h with h | ⟨b,off,cap,c,X,h1,h2,h3,h4,h5,h6⟩
 . exact Or.inl h
 . refine Or.inr ⟨b,off,cap,h1,h2,h3,h6.lt,hs b h6.low h6.bh,h4,fun i hi'=>?_⟩
   have hr:=h6.row i hi';rw [h5 i hi'] at hr;exact hr
theorem ZaX.at_ge {L:List Zy_} (h:ZaX lo hi w v L) (hs:∀ k,lo<=k->k < hi->n<=k):Zbf n w v L:=by
 rcases h with h | ⟨g,off,cap,h1,h2,h3,hcp,h4,h5,h7,h8,h9⟩
 . exact Or.inl h
 . exact Or.inr ⟨g,off,cap,h1,h2,h3,h4,hs g h7 h8,hcp,h5⟩
theorem ZaD.at_ge {L:List Int} (h:ZaD lo hi w v L) (hs:∀ k,lo<=k->k < hi->n<=k):ZaR n w v L:=by
 rcases h with h | ⟨g,off,cap,h1,h2,h3,hcp,h4,h5,h7,h8,h9⟩
 . exact Or.inl h
 . exact Or.inr ⟨g,off,cap,h1,h2,h3,h4,hs g h7 h8,hcp,fun i hi=>⟨rfl,h5 i hi⟩⟩
end Go.Proofs.YtdeammfdkaomlaaGreat
