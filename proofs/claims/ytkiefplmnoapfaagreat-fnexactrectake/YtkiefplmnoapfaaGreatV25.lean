import Derived.Test.YtkiefplmnoapfaaGreatV18
import Derived.Test.YtkiefplmnoapfaaGreatV22
set_option maxHeartbeats 16000000
set_option maxRecDepth 100000
open Go.Proofs.Tryz
namespace Go.Proofs.YtkiefplmnoapfaaGreat
open Go.RowKit Go.Deep
section
variable {w:World} {lo hi g:Nat} {v:Value}
theorem ZaE.rts {L:List Zy_} (h:ZaE tyL 1 w lo hi v L) (hz:∀ i (h:i < L.length),L[i].size<=maxLen):Za5 lo hi w v L:=by
 rcases h with ⟨h,rfl⟩ | h
 . exact Or.inl ⟨_,_,h,rfl⟩
 . exact h.rts hz
theorem ZaE.ris {L:List Int} (h:ZaE inL 1 w lo hi v L):ZaF lo hi w v L:=by
 rcases h with ⟨h,rfl⟩ | h
 . exact Or.inl ⟨_,_,h,rfl⟩
 . exact h.ris
structure Zfp {X:Type} (P:X->World->Nat->Nat->Prop) (w:World) (lo hi g:Nat) (L:List X) (c:Nat->Nat×Nat):Prop where
 seg:∀ i,i < L.length->lo<=(c i).1/\(c i).1<=(c i).2/\(c i).2<=hi/\(g < (c i).1\/(c i).2<=g)
 ap:∀ i j,i < L.length->j < L.length->i≠j->(c i).2<=(c j).1\/(c j).2<=(c i).1
 inn:∀ i (h:i < L.length),P L[i] w (c i).1 (c i).2
structure Clo {X:Type} (P:X->World->Nat->Nat->Prop):Prop where
 cb:∀ {x:X} {w w':World} {lo hi:Nat},P x w lo hi->Zw_ w w'->P x w' lo hi
 ct:∀ {x:X} {w w':World} {lo hi lo' hi':Nat},P x w lo hi->Zad lo' hi' w w'->(hi<=lo'\/hi'<=lo)->P x w' lo hi
theorem Zfp.below {X:Type}{P:X->World->Nat->Nat->Prop} (hP:Clo P) {w w':World} {lo hi g:Nat} {L:List X} {c:Nat->Nat×Nat} (h:Zfp P w lo hi g L c) (hb:Zw_ w w'):Zfp P w' lo hi g L c:=
 ⟨h.seg,h.ap,fun i hi=>hP.cb (h.inn i hi) hb⟩
theorem Zfp.touch {X:Type}{P:X->World->Nat->Nat->Prop} (hP:Clo P) {w w':World} {lo hi g lo' hi':Nat} {L:List X} {c:Nat->Nat×Nat} (h:Zfp P w lo hi g L c) (ht:Zad lo' hi' w w') (ho:∀ i,i < L.length->(c i).2<=lo'\/hi'<=(c i).1):Zfp P w' lo hi g L c:=
 ⟨h.seg,h.ap,fun i hi=>hP.ct (h.inn i hi) ht (ho i hi)⟩
theorem Zfp.wide {X:Type}{P:X->World->Nat->Nat->Prop}{lo' hi':Nat}{L:List X}{c:Nat->Nat×Nat} (h:Zfp P w lo hi g L c) (h1:lo'<=lo) (h2:hi<=hi'):Zfp P w lo' hi' g L c:=
 ⟨fun i hi=>by have:=h.seg i hi;omega,h.ap,h.inn⟩
def Zk7 {X:Type} (P:X->World->Nat->Nat->Prop) (f:X->List Value) (n:Nat) (w:World) (lo hi:Nat) (v:Value) (L:List X):Prop:=∃ g c,ZaK f n w g (g+1) v L/\lo<=g/\g < hi/\Zfp P w lo hi g L c
def ZbT {X:Type} (P:X->World->Nat->Nat->Prop) (f:X->List Value) (n:Nat) (w:World) (lo hi:Nat) (v:Value) (L:List X):Prop:=(v=.slice none 0 0/\L=[])\/Zk7 P f n w lo hi v L
theorem ZbT.below {X:Type}{P:X->World->Nat->Nat->Prop} (hP:Clo P) {f:X->List Value} {n:Nat} {w w':World} {lo hi:Nat} {v:Value} {L:List X} (h:ZbT P f n w lo hi v L) (hb:Zw_ w w'):ZbT P f n w' lo hi v L:=
 h.imp id fun ⟨g,c,h1,h2,h3,h4⟩=>⟨g,c,h1.below hb,h2,h3,h4.below hP hb⟩
theorem ZbT.touch {X:Type}{P:X->World->Nat->Nat->Prop} (hP:Clo P) {f:X->List Value} {n:Nat} {w w':World} {lo hi lo' hi':Nat} {v:Value} {L:List X} (h:ZbT P f n w lo hi v L) (ht:Zad lo' hi' w w') (ho:hi<=lo'\/hi'<=lo):ZbT P f n w' lo hi v L:=
 h.imp id fun ⟨g,c,h1,h2,h3,h4⟩=>⟨g,c,h1.touch ht (by omega),h2,h3,h4.touch hP ht fun i hi=>by have:=h4.seg i hi;omega⟩
theorem ZbT.set {X:Type}{P:X->World->Nat->Nat->Prop} (hP:Clo P) {f:X->List Value} {n:Nat} {w:World} {lo hi:Nat} {v:Value} {L:List X} (h:ZbT P f n w lo hi v L) {p:Addr} (hp:p.block < lo) (u:Value):ZbT P f n (w.setCell p u) lo hi v L:=
 h.touch hP (Zad.setCell p.block (p.block+1) w p u ⟨Nat.le_refl _,Nat.lt_succ_self _⟩) (Or.inr hp)
theorem ZbT.form {X:Type}{P:X->World->Nat->Nat->Prop}{f:X->List Value}{n:Nat}{L:List X} (h:ZbT P f n w lo hi v L):∃ a c,v=.slice a L.length c:=by
 rcases h with ⟨h,rfl⟩ | ⟨_,_,⟨g,cap,h,_⟩,_⟩
 . exact⟨none,0,h⟩
 . exact⟨_,_,h⟩
def Zfs (c:Nat->Nat×Nat) (n:Nat) (p:Nat×Nat):Nat->Nat×Nat:=fun i=>if i=n then p else c i
theorem Zfp.snoc {X:Type}{P:X->World->Nat->Nat->Prop}{L:List X}{c:Nat->Nat×Nat} (h:Zfp P w lo hi g L c) {x:X} {l u:Nat} (hx:P x w l u) (h1:lo<=l) (h0:l<=u) (h2:u<=hi) (h3:g < l\/u<=g) (h4:∀ i,i < L.length->(c i).2<=l\/u<=(c i).1):Zfp P w lo hi g (L ++ [x]) (Zfs c L.length (l,u)):=by
 have e1:∀ i,i < L.length->Zfs c L.length (l,u) i=c i:=fun i hi=>if_neg (by omega)
 have e2:Zfs c L.length (l,u) L.length=(l,u):=if_pos rfl;have hl:(L ++ [x]).length=L.length+1:=by simp
 refine⟨fun i hi=>?_,fun i j hi hj hne=>?_,fun i hi=>?_⟩
 . by_cases e:i < L.length
   . rw [e1 i e];exact h.seg i e
   . obtain rfl:i=L.length:=by omega
     rw [e2];exact⟨h1,h0,h2,h3⟩
 . by_cases e:i < L.length
   . rw [e1 i e]
     by_cases e':j < L.length
     . rw [e1 j e'];exact h.ap i j e e' hne
     . obtain rfl:j=L.length:=by omega
       rw [e2];exact h4 i e
   . obtain rfl:i=L.length:=by omega
     rw [e2,e1 j (by omega)];exact (h4 j (by omega)).symm
 . by_cases e:i < L.length
   . rw [e1 i e,List.getElem_append_left e];exact h.inn i e
   . obtain rfl:i=L.length:=by omega
     rw [e2]
     simpa using hx
def PM (x:MX) (w:World) (lo hi:Nat):Prop:=ZaE rsL 2 w lo hi (.slice x.2.1 x.1.sl.length x.2.2) x.1.sl
def PA (x:AX) (w:World) (lo hi:Nat):Prop:=ZaE inL 1 w lo hi (.slice x.2.1 x.1.fr.length x.2.2) x.1.fr
theorem Zja:Clo PM:=⟨fun h hb=>ZaE.below h hb,fun h ht ho=>ZaE.touch h ht ho⟩
theorem ZkP:Clo PA:=⟨fun h hb=>ZaE.below h hb,fun h ht ho=>ZaE.touch h ht ho⟩
end
section
variable {g n lo hi cap p:Nat} {w w' y y':World} {v:Value}
theorem Zdt {S:Nat->Prop} (h:S g):∀ k,g<=k->k < g+1->S k:=fun k a b=>by
 have e:k=g:=by omega
 rw [e];exact h
theorem FR.kept {X:Type}{f:X->List Value}{K:Nat->Prop}{L:List X} (h:FR f n w lo hi g cap L) (hk:Zag K w w') (hg:K g):FR f n w' lo hi g cap L:=
 ⟨h.bs,h.up,Zk_ h.lt hk.size,h.le,h.mx,fun j hj=>by rw [hk.cell (p:=⟨g,j,none⟩) hg];exact h.th j hj,fun j=>by rw [hk.frozen (p:=⟨g,j,none⟩) hg];exact h.fz j,fun j v hv=>by rw [hk.cell (p:=⟨g,0+j,none⟩) hg];exact h.rg j v hv⟩
theorem FR.own' {X:Type}{f:X->List Value}{L:List X} (h:FR f n w lo hi g cap L):FR f n w g (g+1) g cap L:=⟨Nat.le_refl _,Nat.lt_succ_self _,h.lt,h.le,h.mx,h.th,h.fz,h.rg⟩
theorem ZaK.kept {X:Type}{f:X->List Value}{K:Nat->Prop}{L:List X} (h:ZaK f n w lo hi v L) (hk:Zag K w w') (hg:∀ k,lo<=k->k < hi->K k):ZaK f n w' lo hi v L:=by
 obtain⟨g,cap,h1,h2⟩:=h;exact⟨g,cap,h1,h2.kept hk (hg g h2.bs h2.up)⟩
theorem ZaE.kept {X:Type}{f:X->List Value}{K:Nat->Prop}{L:List X} (h:ZaE f n w lo hi v L) (hk:Zag K w w') (hg:∀ k,lo<=k->k < hi->K k):ZaE f n w' lo hi v L:=h.imp id fun h=>h.kept hk hg
def NRS {X:Type} (f:X->List Value) (n:Nat) (w:World) (S:Nat->Prop) (v:Value) (L:List X):Prop:=(v=.slice none 0 0/\L=[])\/∃ g,S g/\ZaK f n w g (g+1) v L
theorem NRS.kept {X:Type}{f:X->List Value}{K S:Nat->Prop}{L:List X} (h:NRS f n w S v L) (hk:Zag K w w') (ho:∀ k,S k->K k):NRS f n w' S v L:=
 h.imp id fun ⟨g,h1,h2⟩=>⟨g,h1,h2.kept hk (Zdt (S:=K) (ho g h1))⟩
theorem NRS.wide {X:Type}{f:X->List Value}{S S':Nat->Prop}{L:List X} (h:NRS f n w S v L) (hs:∀ k,S k->S' k):NRS f n w S' v L:=h.imp id fun ⟨g,h1,h2⟩=>⟨g,hs g h1,h2⟩
theorem ZaE.set1 {X:Type}{f:X->List Value}{S:Nat->Prop}{L:List X} (h:ZaE f n w lo hi v L) (hs:∀ k,lo<=k->k < hi->S k):NRS f n w S v L:=by
 rcases h with h | ⟨g,cap,h1,h2⟩
 . exact Or.inl h
 . exact Or.inr ⟨g,hs g h2.bs h2.up,g,cap,h1,h2.own'⟩
theorem NRS.form {X:Type}{f:X->List Value}{S:Nat->Prop}{L:List X} (h:NRS f n w S v L):∃ a c,v=.slice a L.length c:=by
 rcases h with ⟨h,rfl⟩ | ⟨_,_,g,cap,h,_⟩
 . exact⟨none,0,h⟩
 . exact⟨_,_,h⟩
theorem NRS.rss {S:Nat->Prop}{L:List Rs} (h:NRS rsL 2 w S v L) (hz:∀ i (h:i < L.length),ZaV L[i]):Zje S w v L:=by
 rcases h with h | ⟨g,h1,h2⟩
 . exact⟨0,0,fun k _ h=>by omega,ZaE.rss (Or.inl h) hz⟩
 . exact⟨g,g+1,Zdt h1,ZaE.rss (Or.inr h2) hz⟩
theorem NRS.rts {S:Nat->Prop}{L:List Zy_} (h:NRS tyL 1 w S v L) (hz:∀ i (h:i < L.length),L[i].size<=maxLen):Zj4 S w v L:=by
 rcases h with h | ⟨g,h1,h2⟩
 . exact⟨0,0,fun k _ h=>by omega,ZaE.rts (Or.inl h) hz⟩
 . exact⟨g,g+1,Zdt h1,ZaE.rts (Or.inr h2) hz⟩
theorem NRS.ris {S:Nat->Prop}{L:List Int} (h:NRS inL 1 w S v L):Zj3 S w v L:=by
 rcases h with h | ⟨g,h1,h2⟩
 . exact⟨0,0,fun k _ h=>by omega,ZaE.ris (Or.inl h)⟩
 . exact⟨g,g+1,Zdt h1,ZaE.ris (Or.inr h2)⟩
def Gr (S:Nat->Prop) (w w':World):Nat->Prop:=fun k=>S k\/(w.heap.size<=k/\k < w'.heap.size)
theorem bwT {S:Nat->Prop} (hb:Below n w y) (ht:Zal S y y') (hs:∀ k,S k->n<=k) (hn:n<=w.heap.size:=by exact Nat.le_refl _):Below n w y':=
 hb.trans ⟨ht.os,ht.tape,ht.output,ht.size,fun k hk=>ht.block k (by have:=hb.size;omega) (fun hS=>by have:=hs k hS;omega)⟩
theorem bwS {S:Nat->Prop} (hb:Zw_ w y) (ht:Zal S y y') (hs:∀ k,S k->w.heap.size<=k/\k < y.heap.size/\k≠p) (hp:p < y.heap.size):∀ k,Gr S y y' k->w.heap.size<=k/\k < y'.heap.size/\k≠p:=fun k hk=>by
 have:=hb.size;have:=ht.size
 rcases hk with hk | hk
 . have:=hs k hk;omega
 . omega
theorem bwR {S:Nat->Prop} (hb:Zw_ w y) (ht:Zal S y y') (hs:∀ k,S k->w.heap.size<=k/\k < y.heap.size):∀ k,Gr S y y' k->w.heap.size<=k/\k < y'.heap.size:=fun k hk=>by
 have:=hb.size;have:=ht.size
 rcases hk with hk | hk
 . have:=hs k hk;omega
 . omega
theorem b6T {S:Nat->Prop}{X:Array Value} (h:Box y p X) (ht:Zal S y y') (hs:∀ k,S k->n<=k/\k < y.heap.size/\k≠p):Box y' p X:=
 h.kept (Zag.touchS ht (fun _ h=>h)) ⟨h.lt,fun hS=>(hs _ hS).2.2 rfl⟩
theorem ZaO {X:Type}{f:X->List Value}{bytes:Nat} (hf:∀ x,(f x).length=n) (hn:0 < n) {t e:TypeId} {z:Value} (ht:prog.underlying t=some (.slice e)) (hi:(prog.info? e).map (fun i=>(i.zero,i.size,i.bytes))=some (some z,n,bytes)) (hzs:z.cells.size=n)
 {w:World} {S:Nat->Prop} {v:Value} {L M:List X} (ty:TypeId) (h:NRS f n w S v L) (ao:Option Addr) (m c:Nat) (hM:m=M.length) (hm:ao=none->m=0)
 (hsrc:∀ ad,ao=some ad->∀ j u,(Zai f M)[j]?=some u->w.cell? (ad.add j)=some u) (h1:∀ u ∈ Zai f M,u.oneCell'=true) (hb:L.length+M.length<=10000000) (hby:bytes<=1000000) :
 ∃ v' w',(Builtin.append_ #[t,t] ty #[v,.slice ao m c]).run prog w=.ok v' w'/\Zal S w w'/\NRS f n w' (Gr S w w') v' (L ++ M):=by
 rcases h with ⟨rfl,rfl⟩ | ⟨g,hg,h⟩
 . obtain⟨v',w',h2,h3,h4⟩:=Zem hf hn ht hi hzs ty (ZaE.nil f n w 0 0) ao m c hM hm hsrc h1 hb hby
   refine⟨v',w',h2,h3.toS (fun k _ h=>by omega),?_⟩
   rcases h4 with h4 | h4
   . exact h4.set1 (fun k _ h=>by omega)
   . exact h4.set1 (fun k a b=>Or.inr ⟨a,b⟩)
 . obtain⟨v',w',h2,h3,h4⟩:=Zem hf hn ht hi hzs ty (Or.inr h) ao m c hM hm hsrc h1 hb hby
   have hS:∀ k,g<=k->k < g+1->S k:=Zdt hg
   refine⟨v',w',h2,h3.toS hS,?_⟩
   rcases h4 with h4 | h4
   . exact h4.set1 (fun k a b=>Or.inl (hS k a b))
   . exact h4.set1 (fun k a b=>Or.inr ⟨a,b⟩)
structure Zc6 {X:Type} (P:X->World->Nat->Nat->Prop) (w:World) (S:Nat->Prop) (g:Nat) (L:List X) (c:Nat->Nat×Nat):Prop where
 seg:∀ i,i < L.length->(c i).1<=(c i).2/\(∀ k,(c i).1<=k->k < (c i).2->S k)/\(g < (c i).1\/(c i).2<=g)
 one:∀ i,i < L.length->(c i).2<=(c i).1+1
 ap:∀ i j,i < L.length->j < L.length->i≠j->(c i).2<=(c j).1\/(c j).2<=(c i).1
 inn:∀ i (h:i < L.length),P L[i] w (c i).1 (c i).2
structure ZkO {X:Type} (P:X->World->Nat->Nat->Prop):Prop where
 kp:∀ {K:Nat->Prop} {x:X} {w w':World} {lo hi:Nat},P x w lo hi->Zag K w w'->(∀ k,lo<=k->k < hi->K k)->P x w' lo hi
theorem Zeu:ZkO PM:=⟨fun h hk ho=>ZaE.kept h hk ho⟩
theorem ZdS:ZkO PA:=⟨fun h hk ho=>ZaE.kept h hk ho⟩
def NGS {X:Type} (P:X->World->Nat->Nat->Prop) (f:X->List Value) (n:Nat) (w:World) (S:Nat->Prop) (v:Value) (L:List X):Prop:=(v=.slice none 0 0/\L=[])\/∃ g c,S g/\ZaK f n w g (g+1) v L/\Zc6 P w S g L c
theorem NGS.kept {X:Type}{P:X->World->Nat->Nat->Prop} (hP:ZkO P) {f:X->List Value} {n:Nat} {K S:Nat->Prop} {w w':World} {v:Value} {L:List X} (h:NGS P f n w S v L) (hk:Zag K w w') (ho:∀ k,S k->K k):NGS P f n w' S v L:=
 h.imp id fun ⟨g,c,h1,h2,h3⟩=>⟨g,c,h1,h2.kept hk (Zdt (S:=K) (ho g h1)),h3.seg,h3.one,h3.ap,fun i hi=>hP.kp (h3.inn i hi) hk (fun k a b=>ho k ((h3.seg i hi).2.1 k a b))⟩
theorem NGS.wide {X:Type}{P:X->World->Nat->Nat->Prop}{f:X->List Value}{S S':Nat->Prop}{L:List X} (h:NGS P f n w S v L) (hs:∀ k,S k->S' k):NGS P f n w S' v L:=
 h.imp id fun ⟨g,c,h1,h2,h3⟩=>⟨g,c,hs g h1,h2,⟨fun i hi=>⟨(h3.seg i hi).1,fun k a b=>hs k ((h3.seg i hi).2.1 k a b),(h3.seg i hi).2.2⟩,h3.one,h3.ap,h3.inn⟩⟩
structure Shr {X:Type} (P:X->World->Nat->Nat->Prop):Prop where
 sh:∀ {x:X} {w:World} {lo hi:Nat},P x w lo hi->lo<=hi->∃ l u,l<=u/\u<=l+1/\lo<=l/\u<=hi/\P x w l u
theorem ZaE.shr {X:Type}{f:X->List Value}{L:List X} (h:ZaE f n w lo hi v L) (hl:lo<=hi):∃ l u,l<=u/\u<=l+1/\lo<=l/\u<=hi/\ZaE f n w l u v L:=by
 rcases h with h | ⟨g,cap,h1,h2⟩
 . exact⟨lo,lo,Nat.le_refl _,by omega,Nat.le_refl _,hl,Or.inl h⟩
 . exact⟨g,g+1,by omega,Nat.le_refl _,h2.bs,h2.up,Or.inr ⟨g,cap,h1,h2.own'⟩⟩
theorem ZkQ:Shr PM:=⟨fun h hl=>ZaE.shr h hl⟩
theorem Zla:Shr PA:=⟨fun h hl=>ZaE.shr h hl⟩
theorem ZbT.set1 {X:Type}{P:X->World->Nat->Nat->Prop} (hP:Shr P) {f:X->List Value} {n:Nat} {S:Nat->Prop} {w:World} {lo hi:Nat} {v:Value} {L:List X} (h:ZbT P f n w lo hi v L) (hs:∀ k,lo<=k->k < hi->S k):NGS P f n w S v L:=by
 rcases h with h | ⟨g,c,h1,h2,h3,h4⟩
 . exact Or.inl h
 . have ch:∀ i,∃ p:Nat×Nat,∀ (hi:i < L.length),p.1<=p.2/\p.2<=p.1+1/\(c i).1<=p.1/\p.2<=(c i).2/\P L[i] w p.1 p.2:=fun i=>by
    by_cases hi:i < L.length
    . obtain⟨l,u,a1,a2,a3,a4,a5⟩:=hP.sh (h4.inn i hi) (h4.seg i hi).2.1
      exact⟨(l,u),fun _=>⟨a1,a2,a3,a4,a5⟩⟩
    . exact⟨(0,0),fun h=>absurd h hi⟩
   refine Or.inr ⟨g,fun i=>Classical.choose (ch i),hs g h2 h3,h1,⟨fun i hi=>?_,fun i hi=>?_,fun i j hi hj hne=>?_,fun i hi=>?_⟩⟩
   . have:=Classical.choose_spec (ch i) hi
     have q:=h4.seg i hi;exact⟨this.1,fun k a b=>hs k (by omega) (by omega),by omega⟩
   . exact (Classical.choose_spec (ch i) hi).2.1
   . have a:=Classical.choose_spec (ch i) hi
     have b:=Classical.choose_spec (ch j) hj;have q:=h4.ap i j hi hj hne
     omega
   . exact (Classical.choose_spec (ch i) hi).2.2.2.2
theorem NGS.rms {S:Nat->Prop}{L:List MX}{Xl:List Rm} (h:NGS PM mxL 8 w S v L) (hL:L.map (·.1)=Xl) (hz:∀ i (h:i < Xl.length),(∀ j (hj:j < Xl[i].sl.length),ZaV Xl[i].sl[j])/\Xl[i].tx.size<=maxLen):ZbH S w v Xl:=by
 subst hL
 rcases h with ⟨h,rfl⟩ | ⟨g,c,hg,⟨g',cap,h1,h2⟩,hi4⟩
 . exact Or.inl ⟨_,_,h,rfl⟩
 . obtain rfl:g'=g:=by have:=h2.bs;have:=h2.up;omega
   by_cases hne:L=[]
   . subst hne;exact Or.inl ⟨_,_,h1,rfl⟩
   have h0:0 < L.length:=List.length_pos_iff.2 hne
   have hcell:∀ i (hi:i < L.length) (t:Nat) (ht:t < 8) (u:Value),(mxL L[i])[t]?=some u->w.cell? ⟨g',0+i*8+t,none⟩=some u:=fun i hi t ht u hu=>by
    rw [Nat.zero_add];exact h2.get ZcT hi ht hu
   refine Or.inr ⟨g',0,cap,c,fun i=>if h:i < L.length then L[i].1 else L[0].1,by rw [List.length_map];exact h1,by simpa using hne,by rw [List.length_map];exact Nat.le_trans h2.le h2.mx,by rw [List.length_map];exact h2.le,fun i hi=>?_,h2.lt,hg,fun i hi=>⟨(hi4.seg i (by simpa using hi)).2.1,(hi4.seg i (by simpa using hi)).2.2⟩,fun i j hi hj=>hi4.ap i j (by simpa using hi) (by simpa using hj),h2.fz,fun i hi=>?_⟩
   . rw [List.length_map] at hi
     simp [hi]
   . rw [List.length_map] at hi
     have hzi:=hz i (by simpa using hi);simp only [List.getElem_map] at hzi;simp only [hi,dif_pos];have hin:ZaE rsL 2 w (c i).1 (c i).2 (.slice L[i].2.1 L[i].1.sl.length L[i].2.2) L[i].1.sl:=hi4.inn i hi;exact⟨⟨hzi.2⟩,.slice L[i].2.1 L[i].1.sl.length L[i].2.2,(hi4.seg i hi).1,⟨hcell i hi 0 (by omega) _ rfl,hcell i hi 1 (by omega) _ rfl,hcell i hi 2 (by omega) _ rfl,hcell i hi 3 (by omega) _ rfl,hcell i hi 4 (by omega) _ rfl,hcell i hi 5 (by omega) _ rfl,hcell i hi 6 (by omega) _ rfl,hcell i hi 7 (by omega) _ rfl⟩,hin.rss hzi.1⟩
theorem NGS.ras {S:Nat->Prop}{L:List AX}{Xl:List Ra} (h:NGS PA axL 2 w S v L) (hL:L.map (·.1)=Xl):ZbG S w v Xl:=by
 subst hL
 rcases h with ⟨h,rfl⟩ | ⟨g,c,hg,⟨g',cap,h1,h2⟩,hi4⟩
 . exact Or.inl ⟨_,_,h,rfl⟩
 . obtain rfl:g'=g:=by have:=h2.bs;have:=h2.up;omega
   by_cases hne:L=[]
   . subst hne;exact Or.inl ⟨_,_,h1,rfl⟩
   have h0:0 < L.length:=List.length_pos_iff.2 hne
   have hcell:∀ i (hi:i < L.length) (t:Nat) (ht:t < 2) (u:Value),(axL L[i])[t]?=some u->w.cell? ⟨g',0+i*2+t,none⟩=some u:=fun i hi t ht u hu=>by
    rw [Nat.zero_add];exact h2.get Zat hi ht hu
   refine Or.inr ⟨g',0,cap,c,fun i=>if h:i < L.length then L[i].1 else L[0].1,by rw [List.length_map];exact h1,by simpa using hne,by rw [List.length_map];exact Nat.le_trans h2.le h2.mx,by rw [List.length_map];exact h2.le,fun i hi=>?_,h2.lt,hg,fun i hi=>⟨(hi4.seg i (by simpa using hi)).2.1,(hi4.seg i (by simpa using hi)).2.2⟩,fun i j hi hj=>hi4.ap i j (by simpa using hi) (by simpa using hj),h2.fz,fun i hi=>?_⟩
   . rw [List.length_map] at hi
     simp [hi]
   . rw [List.length_map] at hi
     simp only [hi,dif_pos];have hin:ZaE inL 1 w (c i).1 (c i).2 (.slice L[i].2.1 L[i].1.fr.length L[i].2.2) L[i].1.fr:=hi4.inn i hi;exact⟨rfl,.slice L[i].2.1 L[i].1.fr.length L[i].2.2,(hi4.seg i hi).1,⟨hcell i hi 0 (by omega) _ rfl,hcell i hi 1 (by omega) _ rfl⟩,hin.ris⟩
theorem NGS.form {X:Type}{P:X->World->Nat->Nat->Prop}{f:X->List Value}{S:Nat->Prop}{L:List X} (h:NGS P f n w S v L):∃ a c,v=.slice a L.length c:=by
 rcases h with ⟨h,rfl⟩ | ⟨_,_,_,⟨g,cap,h,_⟩,_⟩
 . exact⟨none,0,h⟩
 . exact⟨_,_,h⟩
theorem ZiF {X:Type}{P:X->World->Nat->Nat->Prop} (hP:ZkO P) (hQ:Shr P) {f:X->List Value} {n bytes:Nat} (hf:∀ x,(f x).length=n) (hn:0 < n) {t e:TypeId} {z:Value} (ht:prog.underlying t=some (.slice e)) (hi:(prog.info? e).map (fun i=>(i.zero,i.size,i.bytes))=some (some z,n,bytes)) (hzs:z.cells.size=n)
 {w:World} {S S1:Nat->Prop} {v:Value} {L:List X} {x:X} (ty:TypeId) (h:NGS P f n w S v L) (lx ux:Nat) (hlu:lx<=ux) (hx:P x w lx ux) (hxs:∀ k,lx<=k->k < ux->k < w.heap.size/\S1 k/\¬ S k) (ad:Addr) (cp:Nat)
 (hsrc:∀ j u,(Zai f [x])[j]?=some u->w.cell? (ad.add j)=some u) (h1:∀ u ∈ Zai f [x],u.oneCell'=true) (hb:L.length+1<=10000000) (hby:bytes<=1000000) (hS1:∀ k,S k->S1 k/\k < w.heap.size) :
 ∃ v' w',(Builtin.append_ #[t,t] ty #[v,.slice (some ad) 1 cp]).run prog w=.ok v' w'/\Zal S w w'/\NGS P f n w' (Gr S1 w w') v' (L ++ [x]):=by
 obtain⟨l,u,q1,q2,q3,q4,q5⟩:=hQ.sh hx hlu;have hxs':∀ k,l<=k->k < u->k < w.heap.size/\S1 k/\¬ S k:=fun k a b=>hxs k (by omega) (by omega)
 rcases h with ⟨rfl,rfl⟩ | ⟨g,c,hg,hr,hI⟩
 . obtain⟨v',w',h2,h3,h4⟩:=Zem hf hn ht hi hzs ty (ZaE.nil f n w 0 0) (some ad) 1 cp rfl (fun e=>by cases e) (fun ad' e=>by injection e with e;subst e;exact hsrc) h1 hb hby
   refine⟨v',w',h2,h3.toS (fun k _ h=>by omega),?_⟩;have hkp:Zag (fun k=>k < w.heap.size) w w':=Zag.touch h3 (fun k hk=>⟨hk,Or.inr Zz_⟩)
   have fin:∀ g',ZaK f n w' g' (g'+1) v' ([] ++ [x])->w.heap.size<=g'->g' < w'.heap.size->NGS P f n w' (Gr S1 w w') v' ([] ++ [x]):=fun g' hr a b=>
    Or.inr ⟨g',fun _=>(l,u),Or.inr ⟨a,b⟩,hr,⟨fun i hi=>⟨q1,fun k a b=>Or.inl (hxs' k a b).2.1,by
     rcases Nat.lt_or_ge l u with hlt | hge
     . exact Or.inr (by have:=(hxs' (u - 1) (by omega) (by omega)).1;omega)
     . omega⟩,fun i hi=>q2,fun i j hi hj hne=>by simp at hi hj;omega,fun i hi=>by
       have e:i=0:=by simp at hi;exact hi
       subst e;exact hP.kp q5 hkp (fun k a b=>(hxs' k a b).1)⟩⟩
   rcases h4 with h4 | h4
   . rcases h4 with ⟨_,h⟩ | ⟨g',cap,e1,e2⟩
     . simp at h
     . have:=e2.bs;have:=e2.up;omega
   . rcases h4 with ⟨_,h⟩ | ⟨g',cap,e1,e2⟩
     . simp at h
     . exact fin g' ⟨g',cap,e1,e2.own'⟩ e2.bs e2.up
 . obtain⟨v',w',h2,h3,h4⟩:=Zem hf hn ht hi hzs ty (Or.inr hr) (some ad) 1 cp rfl (fun e=>by cases e) (fun ad' e=>by injection e with e;subst e;exact hsrc) h1 hb hby
   refine⟨v',w',h2,h3.toS (Zdt hg),?_⟩;have hsz:=h3.size;have hkp:Zag (fun k=>k < w.heap.size/\(k < g\/g+1<=k)) w w':=Zag.touch h3 (fun k hk=>hk)
   have hgl:g < l\/u<=g:=by
    rcases Nat.lt_or_ge g l with a | a
    . exact Or.inl a
    . rcases Nat.lt_or_ge g u with b | b
      . exact absurd hg (hxs' g a b).2.2
      . exact Or.inr b
   have hgw:g < w.heap.size:=(hS1 g hg).2
   have fin:∀ g',ZaK f n w' g' (g'+1) v' (L ++ [x])->(g'=g\/(w.heap.size<=g'/\g' < w'.heap.size))->NGS P f n w' (Gr S1 w w') v' (L ++ [x]):=fun g' hr hg'=>by
    have e1:∀ i,i < L.length->Zfs c L.length (l,u) i=c i:=fun i hi=>if_neg (by omega)
    have e2:Zfs c L.length (l,u) L.length=(l,u):=if_pos rfl;have hl:(L ++ [x]).length=L.length+1:=by simp
    have fresh:∀ a b:Nat,a<=b->b<=a+1->(∀ k,a<=k->k < b->k < w.heap.size)->(g < a\/b<=g)->(g' < a\/b<=g'):=fun a b hab hb1 hk hga=>by
     rcases hg' with rfl | hg'
     . exact hga
     . rcases Nat.lt_or_ge a b with h | h
       . have:=hk a Zl_ h
         omega
       . omega
    refine Or.inr ⟨g',Zfs c L.length (l,u),?_,hr,⟨fun i hi=>?_,fun i hi=>?_,fun i j hi hj hne=>?_,fun i hi=>?_⟩⟩
    . rcases hg' with rfl | hg'
      . exact Or.inl (hS1 _ hg).1
      . exact Or.inr hg'
    . by_cases e:i < L.length
      . rw [e1 i e]
        have q:=hI.seg i e;exact⟨q.1,fun k a b=>Or.inl (hS1 k (q.2.1 k a b)).1,fresh _ _ q.1 (hI.one i e) (fun k a b=>(hS1 k (q.2.1 k a b)).2) q.2.2⟩
      . obtain rfl:i=L.length:=by omega
        rw [e2];exact⟨q1,fun k a b=>Or.inl (hxs' k a b).2.1,fresh _ _ q1 q2 (fun k a b=>(hxs' k a b).1) hgl⟩
    . by_cases e:i < L.length
      . rw [e1 i e];exact hI.one i e
      . obtain rfl:i=L.length:=by omega
        rw [e2];exact q2
    . have key:∀ i,i < L.length->(c i).2<=l\/u<=(c i).1:=fun i hi=>by
       have q:=hI.seg i hi;have o:=hI.one i hi
       rcases Nat.lt_or_ge (c i).1 (c i).2 with h | h
       . rcases Nat.lt_or_ge l u with h' | h'
         . by_cases heq:(c i).1=l
           . exact absurd (q.2.1 l (by omega) (by omega)) (hxs' l Zl_ h').2.2
           . omega
         . omega
       . omega
      by_cases e:i < L.length
      . rw [e1 i e]
        by_cases e':j < L.length
        . rw [e1 j e'];exact hI.ap i j e e' hne
        . obtain rfl:j=L.length:=by omega
          rw [e2];exact key i e
      . obtain rfl:i=L.length:=by omega
        rw [e2,e1 j (by omega)];exact (key j (by omega)).symm
    . by_cases e:i < L.length
      . rw [e1 i e,List.getElem_append_left e]
        have q:=hI.seg i e;exact hP.kp (hI.inn i e) hkp (fun k a b=>⟨(hS1 k (q.2.1 k a b)).2,by omega⟩)
      . obtain rfl:i=L.length:=by omega
        rw [e2];have:(L ++ [x])[L.length]=x:=by simp
        rw [this];exact hP.kp q5 hkp (fun k a b=>⟨(hxs' k a b).1,by omega⟩)
   rcases h4 with h4 | h4
   . rcases h4 with ⟨_,h⟩ | ⟨g',cap,e1,e2⟩
     . simp at h
     . have a:=e2.bs
       have b:=e2.up;exact fin g' ⟨g',cap,e1,e2.own'⟩ (Or.inl (by omega))
   . rcases h4 with ⟨_,h⟩ | ⟨g',cap,e1,e2⟩
     . simp at h
     . exact fin g' ⟨g',cap,e1,e2.own'⟩ (Or.inr ⟨e2.bs,e2.up⟩)
end
structure Cpn (w:World) (lo:Nat) (c:Nat->Nat×Nat) (v0 v1 v2 v3 v4 v5 v6:Value) (U:Rr):Prop where
 seg:∀ i,i < 7->lo<=(c i).1/\(c i).2<=w.heap.size
 ap:∀ i j,i < 7->j < 7->i≠j->(c i).2<=(c j).1\/(c j).2<=(c i).1
 o0:ZaE rsL 2 w (c 0).1 (c 0).2 v0 U.sf.sl
 o1:ZaE rsL 2 w (c 1).1 (c 1).2 v1 U.dk.sl
 o2:∃ L,ZbT PM mxL 8 w (c 2).1 (c 2).2 v2 L/\L.map (·.1)=U.he
 o3:ZaE tyL 1 w (c 3).1 (c 3).2 v3 U.wi
 o4:ZaE inL 1 w (c 4).1 (c 4).2 v4 U.ye
 o5:ZaE rsL 2 w (c 5).1 (c 5).2 v5 U.be
 o6:∃ L,ZbT PA axL 2 w (c 6).1 (c 6).2 v6 L/\L.map (·.1)=U.ac
def rrF (U:Rr) (b:Nat->Option Addr) (m:Nat->Nat):List Value:=rrL U (b 0) (m 0) (b 1) (m 1) (b 2) (m 2) (b 3) (m 3) (b 4) (m 4) (b 5) (m 5) (b 6) (m 6)
section
variable {lo γ i m':Nat} {w w':World} {v0 v1 v2 v3 v4 v5 v6 v':Value} {U U':Rr} {L':List Rs} {a':Option Addr}
structure CpS (lo:Nat) (w:World) (S:Nat->Nat->Prop) (v0 v1 v2 v3 v4 v5 v6:Value) (U:Rr):Prop where
 seg:∀ i,i < 7->∀ k,S i k->lo<=k/\k < w.heap.size
 ap:∀ i j,i < 7->j < 7->i≠j->∀ k,S i k->¬ S j k
 o0:NRS rsL 2 w (S 0) v0 U.sf.sl
 o1:NRS rsL 2 w (S 1) v1 U.dk.sl
 o2:∃ L,NGS PM mxL 8 w (S 2) v2 L/\L.map (·.1)=U.he
 o3:NRS tyL 1 w (S 3) v3 U.wi
 o4:NRS inL 1 w (S 4) v4 U.ye
 o5:NRS rsL 2 w (S 5) v5 U.be
 o6:∃ L,NGS PA axL 2 w (S 6) v6 L/\L.map (·.1)=U.ac
theorem CpS.kept {K:Nat->Prop}{S:Nat->Nat->Prop} (h:CpS lo w S v0 v1 v2 v3 v4 v5 v6 U) (hk:Zag K w w') (ho:∀ i,i < 7->∀ k,S i k->K k):CpS lo w' S v0 v1 v2 v3 v4 v5 v6 U:=by
 obtain⟨L2,h2,e2⟩:=h.o2;obtain⟨L6,h6,e6⟩:=h.o6;exact⟨fun i hi k hS=>⟨(h.seg i hi k hS).1,Zk_ (h.seg i hi k hS).2 hk.size⟩,h.ap,h.o0.kept hk (ho 0 (by decide)),h.o1.kept hk (ho 1 (by decide)),⟨L2,h2.kept Zeu hk (ho 2 (by decide)),e2⟩,h.o3.kept hk (ho 3 (by decide)),h.o4.kept hk (ho 4 (by decide)),h.o5.kept hk (ho 5 (by decide)),⟨L6,h6.kept ZdS hk (ho 6 (by decide)),e6⟩⟩
theorem CpS.below {S:Nat->Nat->Prop} (h:CpS lo w S v0 v1 v2 v3 v4 v5 v6 U) (hb:Zw_ w w'):CpS lo w' S v0 v1 v2 v3 v4 v5 v6 U:=
 h.kept (Zag.below hb fun _ h=>h) fun i hi k hS=>(h.seg i hi k hS).2
theorem Cpn.sets {c:Nat->Nat×Nat} (h:Cpn w lo c v0 v1 v2 v3 v4 v5 v6 U):CpS lo w (fun i k=>(c i).1<=k/\k < (c i).2) v0 v1 v2 v3 v4 v5 v6 U:=by
 obtain⟨L2,h2,e2⟩:=h.o2;obtain⟨L6,h6,e6⟩:=h.o6;exact⟨fun i hi k hS=>by have:=h.seg i hi;omega,fun i j hi hj hne k h1 h2=>by have:=h.ap i j hi hj hne;omega,h.o0.set1 (fun k a b=>⟨a,b⟩),h.o1.set1 (fun k a b=>⟨a,b⟩),⟨L2,h2.set1 ZkQ (fun k a b=>⟨a,b⟩),e2⟩,h.o3.set1 (fun k a b=>⟨a,b⟩),h.o4.set1 (fun k a b=>⟨a,b⟩),h.o5.set1 (fun k a b=>⟨a,b⟩),⟨L6,h6.set1 Zla (fun k a b=>⟨a,b⟩),e6⟩⟩
theorem CpS.own {S:Nat->Nat->Prop} (h:CpS lo w S v0 v1 v2 v3 v4 v5 v6 U) (hz:RrZ U):ZkB lo w.heap.size w S v0 v1 v2 v3 v4 v5 v6 U:=by
 obtain⟨L2,h2,e2⟩:=h.o2;obtain⟨L6,h6,e6⟩:=h.o6;exact⟨Nat.le_refl _,h.seg,h.ap,h.o0.rss hz.z0,h.o1.rss hz.z1,h2.rms e2 hz.z2,h.o3.rts hz.z3,h.o4.ris,h.o5.rss hz.z5,h6.ras e6⟩
abbrev CpG (lo:Nat) (w:World) (S:Nat->Nat->Prop) (b:Nat->Option Addr) (m:Nat->Nat) (U:Rr):Prop:=
 CpS lo w S (.slice (b 0) U.sf.sl.length (m 0)) (.slice (b 1) U.dk.sl.length (m 1)) (.slice (b 2) U.he.length (m 2)) (.slice (b 3) U.wi.length (m 3)) (.slice (b 4) U.ye.length (m 4)) (.slice (b 5) U.be.length (m 5)) (.slice (b 6) U.ac.length (m 6)) U
structure Rz (K:Nat->Prop) (lo:Nat) (w:World) (γ:Nat) (b:Nat->Option Addr) (m:Nat->Nat) (S:Nat->Nat->Prop) (U:Rr):Prop where
 box:Box w γ (rrF U b m).toArray
 cp:CpG lo w S b m U
 low:lo<=w.heap.size
 far:∀ i,i < 7->¬ S i γ
 prot:∀ k,K k->k < w.heap.size/\k≠γ/\∀ i,i < 7->¬ S i k
def Wz (K:Nat->Prop) (lo:Nat) (w:World) (γ:Nat) (U:Rr):Prop:=∃ b m S,Rz K lo w γ b m S U
structure Cz (K:Nat->Prop) (lo:Nat) (w:World) (b:Nat->Option Addr) (m:Nat->Nat) (S:Nat->Nat->Prop) (U:Rr):Prop where
 cp:CpG lo w S b m U
 low:lo<=w.heap.size
 prot:∀ k,K k->k < w.heap.size/\∀ i,i < 7->¬ S i k
theorem Rz.cz {K:Nat->Prop}{b:Nat->Option Addr}{m:Nat->Nat}{S:Nat->Nat->Prop} (h:Rz K lo w γ b m S U):Cz K lo w b m S U:=⟨h.cp,h.low,fun k hk=>⟨(h.prot k hk).1,(h.prot k hk).2.2⟩⟩
theorem Cz.less {K K':Nat->Prop}{b:Nat->Option Addr}{m:Nat->Nat}{S:Nat->Nat->Prop} (h:Cz K lo w b m S U) (hk:∀ k,K' k->K k):Cz K' lo w b m S U:=⟨h.cp,h.low,fun k h'=>h.prot k (hk k h')⟩
theorem Cz.rz {K K':Nat->Prop}{b:Nat->Option Addr}{m:Nat->Nat}{S:Nat->Nat->Prop} (h:Cz K lo w b m S U) (hb:Zw_ w w') (hx:Box w' γ (rrF U b m).toArray) (hγ:w.heap.size<=γ) (hk:∀ k,K' k->K k\/(w.heap.size<=k/\k < w'.heap.size/\k≠γ)):Rz K' lo w' γ b m S U:=by
 have hsz:=hb.size;refine⟨hx,h.cp.below hb,Nat.le_trans h.low hsz,fun i hi hS=>by have:=(h.cp.seg i hi γ hS).2;omega,fun k hk'=>?_⟩
 rcases hk k hk' with h1 | ⟨h1,h2,h3⟩
 . have:=h.prot k h1
   exact⟨by omega,by omega,this.2⟩
 . exact⟨h2,h3,fun i hi hS=>by have:=(h.cp.seg i hi k hS).2;omega⟩
theorem Rz.shield {K K':Nat->Prop}{b:Nat->Option Addr}{m:Nat->Nat}{S:Nat->Nat->Prop} (h:Rz K lo w γ b m S U) (hb:Zw_ w w') (hk:∀ k,K' k->K k\/(w.heap.size<=k/\k < w'.heap.size)):Rz K' lo w' γ b m S U:=by
 have hsz:=hb.size;refine⟨h.box.on hb,h.cp.below hb,Nat.le_trans h.low hsz,h.far,fun k hk'=>?_⟩
 rcases hk k hk' with h1 | ⟨h1,h2⟩
 . have:=h.prot k h1
   exact⟨by omega,this.2⟩
 . exact⟨h2,by have:=h.box.lt;omega,fun i hi hS=>by have:=(h.cp.seg i hi k hS).2;omega⟩
theorem Rz.on {K:Nat->Prop}{b:Nat->Option Addr}{m:Nat->Nat}{S:Nat->Nat->Prop} (h:Rz K lo w γ b m S U) (hb:Zw_ w w'):Rz K lo w' γ b m S U:=h.shield hb fun _ h=>Or.inl h
theorem Wz.shield {K K':Nat->Prop} (h:Wz K lo w γ U) (hb:Zw_ w w') (hk:∀ k,K' k->K k\/(w.heap.size<=k/\k < w'.heap.size)):Wz K' lo w' γ U:=by
 obtain⟨b,m,S,h⟩:=h;exact⟨b,m,S,h.shield hb hk⟩
theorem Wz.less {K K':Nat->Prop} (h:Wz K lo w γ U) (hk:∀ k,K' k->K k):Wz K' lo w γ U:=h.shield Zb_ fun k h=>Or.inl (hk k h)
theorem Rz.other {K:Nat->Prop}{b:Nat->Option Addr}{m:Nat->Nat}{S:Nat->Nat->Prop} (h:Rz K lo w γ b m S U) {β:Nat} (hβ:K β) (ht:Zad β (β+1) w w'):Rz K lo w' γ b m S U:=by
 have hp:=h.prot β hβ;have hsz:=ht.size;refine⟨h.box.tch2 ht (by have:=hp.2.1;omega),h.cp.kept (K:=fun k=>k < w.heap.size/\(k < β\/β+1<=k)) (Zag.touch ht fun _ h=>h) (fun i hi k hS=>⟨(h.cp.seg i hi k hS).2,?_⟩),Nat.le_trans h.low hsz,h.far,fun k hk=>by have:=h.prot k hk;exact⟨by omega,this.2⟩⟩
 by_cases e:k=β
 . subst e;exact absurd hS (hp.2.2 i hi)
 . omega
theorem Rz.scal {K:Nat->Prop}{b:Nat->Option Addr}{m:Nat->Nat}{S:Nat->Nat->Prop} (h:Rz K lo w γ b m S U) {j:Nat} {v:Value} (hj:j < (rrF U b m).toArray.size) (he:(rrF U b m).toArray.set j v hj=(rrF U' b m).toArray) (hc:∀ W,CpG lo W S b m U->CpG lo W S b m U') :
 Rz K lo (w.setCell ⟨γ,j,none⟩ v) γ b m S U'/\Zag K w (w.setCell ⟨γ,j,none⟩ v):=by
 have ht:Zad γ (γ+1) w (w.setCell ⟨γ,j,none⟩ v):=Zad.setCell _ _ _ _ _ ⟨Nat.le_refl _,Nat.lt_succ_self _⟩;refine⟨⟨by rw [<- he];exact h.box.set v hj,hc _ (h.cp.kept (K:=fun k=>k < w.heap.size/\(k < γ\/γ+1<=k)) (Zag.touch ht fun _ h=>h) (fun i hi k hS=>⟨(h.cp.seg i hi k hS).2,?_⟩)),Nat.le_trans h.low ht.size,h.far,fun k hk=>?_⟩,Zag.touch ht fun k hk=>?_⟩
 . by_cases e:k=γ
   . subst e;exact absurd hS (h.far i hi)
   . omega
 . have:=h.prot k hk
   exact⟨Zk_ this.1 ht.size,this.2⟩
 . have:=h.prot k hk
   omega
theorem Rz.own {K:Nat->Prop}{b:Nat->Option Addr}{m:Nat->Nat}{S:Nat->Nat->Prop} (h:Rz K lo w γ b m S U) (hz:RrZ U):Zbl lo w.heap.size w (rrF U b m) U:=
 ⟨b 0,m 0,b 1,m 1,b 2,m 2,b 3,m 3,b 4,m 4,b 5,m 5,b 6,m 6,S,rfl,h.cp.own hz⟩
theorem Cz.at {K:Nat->Prop}{b:Nat->Option Addr}{m:Nat->Nat}{S:Nat->Nat->Prop} (h:Cz K lo w b m S U) (hz:RrZ U):RrC lo w (rrF U b m) U:=
 Zbl.at (hi:=w.heap.size) ⟨b 0,m 0,b 1,m 1,b 2,m 2,b 3,m 3,b 4,m 4,b 5,m 5,b 6,m 6,S,rfl,h.cp.own hz⟩
theorem Rz.absorb {K:Nat->Prop}{b:Nat->Option Addr}{m:Nat->Nat}{S:Nat->Nat->Prop} (h:Rz K lo w γ b m S U) (E:Nat->Prop) (hE:∀ k,E k->lo<=k/\k < w.heap.size/\k≠γ/\¬ K k/\∀ i,i < 7->¬ S i k):Rz K lo w γ b m (upd S 2 (fun k=>S 2 k\/E k)) U:=by
 obtain⟨L2,h2,e2⟩:=h.cp.o2;refine⟨h.box,⟨fun i hi k hS=>?_,fun i j hi hj hne k hS hS'=>?_,h.cp.o0,h.cp.o1,⟨L2,h2.wide fun k h=>Or.inl h,e2⟩,h.cp.o3,h.cp.o4,h.cp.o5,h.cp.o6⟩,h.low,fun i hi hS=>?_,fun k hk=>⟨(h.prot k hk).1,(h.prot k hk).2.1,fun i hi hS=>?_⟩⟩
 . by_cases e:i=2
   . subst e
     rw [ZaA] at hS
     rcases hS with hS | hS
     . exact h.cp.seg 2 (by decide) k hS
     . exact⟨(hE k hS).1,(hE k hS).2.1⟩
   . rw [Zbc _ _ e] at hS
     exact h.cp.seg i hi k hS
 . by_cases e:i=2
   . subst e
     rw [ZaA] at hS;rw [Zbc _ _ (Ne.symm hne)] at hS'
     rcases hS with hS | hS
     . exact h.cp.ap 2 j hi hj hne k hS hS'
     . exact (hE k hS).2.2.2.2 j hj hS'
   . rw [Zbc _ _ e] at hS
     by_cases e':j=2
     . subst e'
       rw [ZaA] at hS'
       rcases hS' with hS' | hS'
       . exact h.cp.ap i 2 hi hj hne k hS hS'
       . exact (hE k hS').2.2.2.2 i hi hS
     . rw [Zbc _ _ e'] at hS'
       exact h.cp.ap i j hi hj hne k hS hS'
 . by_cases e:i=2
   . subst e
     rw [ZaA] at hS
     rcases hS with hS | hS
     . exact h.far 2 (by decide) hS
     . exact (hE γ hS).2.2.1 rfl
   . rw [Zbc _ _ e] at hS
     exact h.far i hi hS
 . by_cases e:i=2
   . subst e
     rw [ZaA] at hS
     rcases hS with hS | hS
     . exact (h.prot k hk).2.2 2 (by decide) hS
     . exact (hE k hS).2.2.2.1 hk
   . rw [Zbc _ _ e] at hS
     exact (h.prot k hk).2.2 i hi hS
theorem Zky {S:Nat->Nat->Prop} (h:∀ j,j < 7->∀ k,S j k->lo<=k/\k < w.heap.size) (hs:w.heap.size<=w'.heap.size) (hl:lo<=w.heap.size):∀ j,j < 7->∀ k,upd S i (Gr (S i) w w') j k->lo<=k/\k < w'.heap.size:=fun j hj k hS=>by
 by_cases e:j=i
 . subst e
   rw [ZaA] at hS
   rcases hS with hS | hS
   . have:=h _ hj k hS;omega
   . omega
 . rw [Zbc _ _ e] at hS
   have:=h j hj k hS
   omega
theorem Zk6 {x:Nat}{S:Nat->Nat->Prop} (h:∀ j,j < 7->¬ S j x) (hx:x < w.heap.size):∀ j,j < 7->¬ upd S i (Gr (S i) w w') j x:=fun j hj hS=>by
 by_cases e:j=i
 . subst e
   rw [ZaA] at hS
   rcases hS with hS | hS
   . exact h _ hj hS
   . omega
 . rw [Zbc _ _ e] at hS
   exact h j hj hS
theorem apG {S:Nat->Nat->Prop} (h:∀ j,j < 7->∀ k,S j k->lo<=k/\k < w.heap.size) (ha:∀ i j,i < 7->j < 7->i≠j->∀ k,S i k->¬ S j k):∀ j l,j < 7->l < 7->j≠l->∀ k,upd S i (Gr (S i) w w') j k->¬ upd S i (Gr (S i) w w') l k:=fun j l hj hl hne k hS hS'=>by
 by_cases e:j=i
 . subst e
   rw [ZaA] at hS;rw [Zbc _ _ (Ne.symm hne)] at hS'
   rcases hS with hS | hS
   . exact ha _ l hj hl hne k hS hS'
   . have:=h l hl k hS';omega
 . rw [Zbc _ _ e] at hS
   by_cases e':l=i
   . subst e'
     rw [ZaA] at hS'
     rcases hS' with hS' | hS'
     . exact ha j _ hj hl hne k hS hS'
     . have:=h j hj k hS;omega
   . rw [Zbc _ _ e'] at hS'
     exact ha j l hj hl hne k hS hS'
theorem Rz.partG {K:Nat->Prop}{c:Nat}{b b':Nat->Option Addr}{m m':Nat->Nat}{S:Nat->Nat->Prop}{v:Value} (h:Rz K lo w γ b m S U) (hi:i < 7) (ht:Zal (S i) w w') (hcp:CpG lo w' (upd S i (Gr (S i) w w')) b' m' U') (hc:c < (rrF U b m).toArray.size) (he:(rrF U b m).toArray.set c v hc=(rrF U' b' m').toArray) :
 Rz K lo (w'.setCell ⟨γ,c,none⟩ v) γ b' m' (upd S i (Gr (S i) w w')) U'/\Zag K w (w'.setCell ⟨γ,c,none⟩ v):=by
 have hsz:=ht.size;have ht2:Zad γ (γ+1) w' (w'.setCell ⟨γ,c,none⟩ v):=Zad.setCell _ _ _ _ _ ⟨Nat.le_refl _,Nat.lt_succ_self _⟩;have hsz2:=ht2.size;have hγ:=h.box.lt;have hk:Zag (fun k=>k < w.heap.size/\¬ S i k) w w':=Zag.touchS ht fun _ h=>h
 have hfar:=Zk6 (i:=i) (w':=w') h.far hγ;refine⟨⟨?_,hcp.kept (K:=fun k=>k < w'.heap.size/\(k < γ\/γ+1<=k)) (Zag.touch ht2 fun _ h=>h) (fun j hj k hS=>⟨(hcp.seg j hj k hS).2,?_⟩),by have:=h.low;omega,hfar,fun k hk=>?_⟩,?_⟩
 . rw [<- he];exact (h.box.kept hk ⟨hγ,h.far i hi⟩).set v hc
 . by_cases e:k=γ
   . subst e;exact absurd hS (hfar j hj)
   . omega
 . have:=h.prot k hk
   exact⟨by omega,this.2.1,Zk6 this.2.2 this.1⟩
 . refine (Zag.touchS ht fun k hk=>?_).trans (Zag.touch ht2 fun k hk=>?_)
   . have:=h.prot k hk
     exact⟨this.1,this.2.2 i hi⟩
   . have:=h.prot k hk
     omega
theorem CpS.grow1 {S:Nat->Nat->Prop} (h:CpS lo w S v0 v1 v2 v3 v4 v5 v6 U) (ht:Zal (S 1) w w') (hlo:lo<=w.heap.size) (hr:NRS rsL 2 w' (Gr (S 1) w w') v' L'):CpS lo w' (upd S 1 (Gr (S 1) w w')) v0 v' v2 v3 v4 v5 v6 { U with dk:={ U.dk with sl:=L' } }:=by
 have hk:Zag (fun k=>k < w.heap.size/\¬ S 1 k) w w':=Zag.touchS ht fun _ h=>h
 have q:∀ j,j < 7->j≠1->∀ x,S j x->x < w.heap.size/\¬ S 1 x:=fun j hj hn x hx=>⟨(h.seg j hj x hx).2,h.ap j 1 hj (by decide) hn x hx⟩
 exact⟨Zky h.seg ht.size hlo,apG h.seg h.ap,h.o0.kept hk (q 0 (by decide) (by decide)),hr,(by obtain⟨L,h2,e⟩:=h.o2;exact⟨L,h2.kept Zeu hk (q 2 (by decide) (by decide)),e⟩),h.o3.kept hk (q 3 (by decide) (by decide)),h.o4.kept hk (q 4 (by decide) (by decide)),h.o5.kept hk (q 5 (by decide) (by decide)),(by obtain⟨L,h2,e⟩:=h.o6;exact⟨L,h2.kept ZdS hk (q 6 (by decide) (by decide)),e⟩)⟩
theorem Rz.part1 {K:Nat->Prop}{b:Nat->Option Addr}{m:Nat->Nat}{S:Nat->Nat->Prop} (h:Rz K lo w γ b m S U) (ht:Zal (S 1) w w') (hr:NRS rsL 2 w' (Gr (S 1) w w') (.slice a' L'.length m') L') :
 Rz K lo (w'.setCell ⟨γ,8,none⟩ (.slice a' L'.length m')) γ (upd b 1 a') (upd m 1 m') (upd S 1 (Gr (S 1) w w')) { U with dk:={ U.dk with sl:=L' } }/\Zag K w (w'.setCell ⟨γ,8,none⟩ (.slice a' L'.length m')):=
 Rz.partG h (by decide) ht (CpS.grow1 (v':=.slice a' L'.length m') h.cp ht h.low hr) (by show 8 < 18;omega) rfl
theorem CpS.grow2 {S:Nat->Nat->Prop}{L':List Rm} (h:CpS lo w S v0 v1 v2 v3 v4 v5 v6 U) (ht:Zal (S 2) w w') (hlo:lo<=w.heap.size) (hr:(∃ L,NGS PM mxL 8 w' (Gr (S 2) w w') v' L/\L.map (·.1)=L')):CpS lo w' (upd S 2 (Gr (S 2) w w')) v0 v1 v' v3 v4 v5 v6 { U with he:=L' }:=by
 have hk:Zag (fun k=>k < w.heap.size/\¬ S 2 k) w w':=Zag.touchS ht fun _ h=>h
 have q:∀ j,j < 7->j≠2->∀ x,S j x->x < w.heap.size/\¬ S 2 x:=fun j hj hn x hx=>⟨(h.seg j hj x hx).2,h.ap j 2 hj (by decide) hn x hx⟩
 exact⟨Zky h.seg ht.size hlo,apG h.seg h.ap,h.o0.kept hk (q 0 (by decide) (by decide)),h.o1.kept hk (q 1 (by decide) (by decide)),hr,h.o3.kept hk (q 3 (by decide) (by decide)),h.o4.kept hk (q 4 (by decide) (by decide)),h.o5.kept hk (q 5 (by decide) (by decide)),(by obtain⟨L,h2,e⟩:=h.o6;exact⟨L,h2.kept ZdS hk (q 6 (by decide) (by decide)),e⟩)⟩
theorem Rz.part2 {K:Nat->Prop}{b:Nat->Option Addr}{m:Nat->Nat}{S:Nat->Nat->Prop}{L':List Rm} (h:Rz K lo w γ b m S U) (ht:Zal (S 2) w w') (hr:(∃ L,NGS PM mxL 8 w' (Gr (S 2) w w') (.slice a' L'.length m') L/\L.map (·.1)=L')) :
 Rz K lo (w'.setCell ⟨γ,9,none⟩ (.slice a' L'.length m')) γ (upd b 2 a') (upd m 2 m') (upd S 2 (Gr (S 2) w w')) { U with he:=L' }/\Zag K w (w'.setCell ⟨γ,9,none⟩ (.slice a' L'.length m')):=
 Rz.partG h (by decide) ht (CpS.grow2 (v':=.slice a' L'.length m') h.cp ht h.low hr) (by show 9 < 18;omega) rfl
theorem CpS.grow3 {S:Nat->Nat->Prop}{L':List Zy_} (h:CpS lo w S v0 v1 v2 v3 v4 v5 v6 U) (ht:Zal (S 3) w w') (hlo:lo<=w.heap.size) (hr:NRS tyL 1 w' (Gr (S 3) w w') v' L'):CpS lo w' (upd S 3 (Gr (S 3) w w')) v0 v1 v2 v' v4 v5 v6 { U with wi:=L' }:=by
 have hk:Zag (fun k=>k < w.heap.size/\¬ S 3 k) w w':=Zag.touchS ht fun _ h=>h
 have q:∀ j,j < 7->j≠3->∀ x,S j x->x < w.heap.size/\¬ S 3 x:=fun j hj hn x hx=>⟨(h.seg j hj x hx).2,h.ap j 3 hj (by decide) hn x hx⟩
 exact⟨Zky h.seg ht.size hlo,apG h.seg h.ap,h.o0.kept hk (q 0 (by decide) (by decide)),h.o1.kept hk (q 1 (by decide) (by decide)),(by obtain⟨L,h2,e⟩:=h.o2;exact⟨L,h2.kept Zeu hk (q 2 (by decide) (by decide)),e⟩),hr,h.o4.kept hk (q 4 (by decide) (by decide)),h.o5.kept hk (q 5 (by decide) (by decide)),(by obtain⟨L,h2,e⟩:=h.o6;exact⟨L,h2.kept ZdS hk (q 6 (by decide) (by decide)),e⟩)⟩
theorem Rz.part3 {K:Nat->Prop}{b:Nat->Option Addr}{m:Nat->Nat}{S:Nat->Nat->Prop}{L':List Zy_} (h:Rz K lo w γ b m S U) (ht:Zal (S 3) w w') (hr:NRS tyL 1 w' (Gr (S 3) w w') (.slice a' L'.length m') L') :
 Rz K lo (w'.setCell ⟨γ,10,none⟩ (.slice a' L'.length m')) γ (upd b 3 a') (upd m 3 m') (upd S 3 (Gr (S 3) w w')) { U with wi:=L' }/\Zag K w (w'.setCell ⟨γ,10,none⟩ (.slice a' L'.length m')):=
 Rz.partG h (by decide) ht (CpS.grow3 (v':=.slice a' L'.length m') h.cp ht h.low hr) (by show 10 < 18;omega) rfl
theorem CpS.grow4 {S:Nat->Nat->Prop}{L':List Int} (h:CpS lo w S v0 v1 v2 v3 v4 v5 v6 U) (ht:Zal (S 4) w w') (hlo:lo<=w.heap.size) (hr:NRS inL 1 w' (Gr (S 4) w w') v' L'):CpS lo w' (upd S 4 (Gr (S 4) w w')) v0 v1 v2 v3 v' v5 v6 { U with ye:=L' }:=by
 have hk:Zag (fun k=>k < w.heap.size/\¬ S 4 k) w w':=Zag.touchS ht fun _ h=>h
 have q:∀ j,j < 7->j≠4->∀ x,S j x->x < w.heap.size/\¬ S 4 x:=fun j hj hn x hx=>⟨(h.seg j hj x hx).2,h.ap j 4 hj (by decide) hn x hx⟩
 exact⟨Zky h.seg ht.size hlo,apG h.seg h.ap,h.o0.kept hk (q 0 (by decide) (by decide)),h.o1.kept hk (q 1 (by decide) (by decide)),(by obtain⟨L,h2,e⟩:=h.o2;exact⟨L,h2.kept Zeu hk (q 2 (by decide) (by decide)),e⟩),h.o3.kept hk (q 3 (by decide) (by decide)),hr,h.o5.kept hk (q 5 (by decide) (by decide)),(by obtain⟨L,h2,e⟩:=h.o6;exact⟨L,h2.kept ZdS hk (q 6 (by decide) (by decide)),e⟩)⟩
theorem Rz.part4 {K:Nat->Prop}{b:Nat->Option Addr}{m:Nat->Nat}{S:Nat->Nat->Prop}{L':List Int} (h:Rz K lo w γ b m S U) (ht:Zal (S 4) w w') (hr:NRS inL 1 w' (Gr (S 4) w w') (.slice a' L'.length m') L') :
 Rz K lo (w'.setCell ⟨γ,14,none⟩ (.slice a' L'.length m')) γ (upd b 4 a') (upd m 4 m') (upd S 4 (Gr (S 4) w w')) { U with ye:=L' }/\Zag K w (w'.setCell ⟨γ,14,none⟩ (.slice a' L'.length m')):=
 Rz.partG h (by decide) ht (CpS.grow4 (v':=.slice a' L'.length m') h.cp ht h.low hr) (by show 14 < 18;omega) rfl
theorem CpS.grow5 {S:Nat->Nat->Prop} (h:CpS lo w S v0 v1 v2 v3 v4 v5 v6 U) (ht:Zal (S 5) w w') (hlo:lo<=w.heap.size) (hr:NRS rsL 2 w' (Gr (S 5) w w') v' L'):CpS lo w' (upd S 5 (Gr (S 5) w w')) v0 v1 v2 v3 v4 v' v6 { U with be:=L' }:=by
 have hk:Zag (fun k=>k < w.heap.size/\¬ S 5 k) w w':=Zag.touchS ht fun _ h=>h
 have q:∀ j,j < 7->j≠5->∀ x,S j x->x < w.heap.size/\¬ S 5 x:=fun j hj hn x hx=>⟨(h.seg j hj x hx).2,h.ap j 5 hj (by decide) hn x hx⟩
 exact⟨Zky h.seg ht.size hlo,apG h.seg h.ap,h.o0.kept hk (q 0 (by decide) (by decide)),h.o1.kept hk (q 1 (by decide) (by decide)),(by obtain⟨L,h2,e⟩:=h.o2;exact⟨L,h2.kept Zeu hk (q 2 (by decide) (by decide)),e⟩),h.o3.kept hk (q 3 (by decide) (by decide)),h.o4.kept hk (q 4 (by decide) (by decide)),hr,(by obtain⟨L,h2,e⟩:=h.o6;exact⟨L,h2.kept ZdS hk (q 6 (by decide) (by decide)),e⟩)⟩
theorem Rz.part5 {K:Nat->Prop}{b:Nat->Option Addr}{m:Nat->Nat}{S:Nat->Nat->Prop} (h:Rz K lo w γ b m S U) (ht:Zal (S 5) w w') (hr:NRS rsL 2 w' (Gr (S 5) w w') (.slice a' L'.length m') L') :
 Rz K lo (w'.setCell ⟨γ,15,none⟩ (.slice a' L'.length m')) γ (upd b 5 a') (upd m 5 m') (upd S 5 (Gr (S 5) w w')) { U with be:=L' }/\Zag K w (w'.setCell ⟨γ,15,none⟩ (.slice a' L'.length m')):=
 Rz.partG h (by decide) ht (CpS.grow5 (v':=.slice a' L'.length m') h.cp ht h.low hr) (by show 15 < 18;omega) rfl
theorem CpS.grow6 {S:Nat->Nat->Prop}{L':List Ra} (h:CpS lo w S v0 v1 v2 v3 v4 v5 v6 U) (ht:Zal (S 6) w w') (hlo:lo<=w.heap.size) (hr:(∃ L,NGS PA axL 2 w' (Gr (S 6) w w') v' L/\L.map (·.1)=L')):CpS lo w' (upd S 6 (Gr (S 6) w w')) v0 v1 v2 v3 v4 v5 v' { U with ac:=L' }:=by
 have hk:Zag (fun k=>k < w.heap.size/\¬ S 6 k) w w':=Zag.touchS ht fun _ h=>h
 have q:∀ j,j < 7->j≠6->∀ x,S j x->x < w.heap.size/\¬ S 6 x:=fun j hj hn x hx=>⟨(h.seg j hj x hx).2,h.ap j 6 hj (by decide) hn x hx⟩
 exact⟨Zky h.seg ht.size hlo,apG h.seg h.ap,h.o0.kept hk (q 0 (by decide) (by decide)),h.o1.kept hk (q 1 (by decide) (by decide)),(by obtain⟨L,h2,e⟩:=h.o2;exact⟨L,h2.kept Zeu hk (q 2 (by decide) (by decide)),e⟩),h.o3.kept hk (q 3 (by decide) (by decide)),h.o4.kept hk (q 4 (by decide) (by decide)),h.o5.kept hk (q 5 (by decide) (by decide)),hr⟩
theorem Rz.part6 {K:Nat->Prop}{b:Nat->Option Addr}{m:Nat->Nat}{S:Nat->Nat->Prop}{L':List Ra} (h:Rz K lo w γ b m S U) (ht:Zal (S 6) w w') (hr:(∃ L,NGS PA axL 2 w' (Gr (S 6) w w') (.slice a' L'.length m') L/\L.map (·.1)=L')) :
 Rz K lo (w'.setCell ⟨γ,16,none⟩ (.slice a' L'.length m')) γ (upd b 6 a') (upd m 6 m') (upd S 6 (Gr (S 6) w w')) { U with ac:=L' }/\Zag K w (w'.setCell ⟨γ,16,none⟩ (.slice a' L'.length m')):=
 Rz.partG h (by decide) ht (CpS.grow6 (v':=.slice a' L'.length m') h.cp ht h.low hr) (by show 16 < 18;omega) rfl
end
theorem ZaD (n of:Int) (w:World) :
 Calls prog 85 #[.int .i64 n,.int .i64 of] w fun e w'=>e=.returned (.bool (inB 1 5 of&&inB 1 of n))/\w'=w:=by
 cases h1:inB 1 5 of with
 | false=>
  go_enter func85,ntmps85;go_wp2_with (go_at_call 89;refine (Zah _ _ _ _).mono ?_;rintro e w' ⟨rfl,rfl⟩);go_ret;exact⟨rfl,rfl⟩
 | true=>
  go_enter func85,ntmps85;go_wp2_with (go_at_call 89;refine (Zah _ _ _ _).mono ?_;rintro e w' ⟨rfl,rfl⟩);go_ret;exact⟨rfl,rfl⟩
end Go.Proofs.YtkiefplmnoapfaaGreat
