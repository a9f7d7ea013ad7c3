import Derived.Test.YtdeammfdkaomlaaGreatM14
import Derived.Test.YtdeammfdkaomlaaGreatM16
set_option maxHeartbeats 16000000
set_option maxRecDepth 100000
open Go.Proofs.Tryz
namespace Go.Proofs.YtdeammfdkaomlaaGreat
open Go.RowKit Go.Deep
section
variable {lo:Nat} {w:World} {U:Rr}
structure RrZ (U:Rr):Prop where
 z0:∀ i (h:i < U.sf.sl.length),ZaJ U.sf.sl[i]
 z1:∀ i (h:i < U.dk.sl.length),ZaJ U.dk.sl[i]
 z2:∀ i (h:i < U.he.length),(∀ j (hj:j < U.he[i].sl.length),ZaJ U.he[i].sl[j])/\U.he[i].tx.size<=maxLen
 z3:∀ i (h:i < U.wi.length),U.wi[i].size<=maxLen
 z5:∀ i (h:i < U.be.length),ZaJ U.be[i]
theorem RrC.sizes {cs:List Value} (h:RrC lo w cs U):RrZ U:=by
 obtain⟨_,_,_,_,_,_,_,_,_,_,_,_,_,_,-,h⟩:=h;exact⟨h.l0.sizes,h.l1.sizes,h.l2.sizes,h.l3.sizes,h.l5.sizes⟩
theorem Cpy.at {c:Nat->Nat×Nat}{v0 v1 v2 v3 v4 v5 v6:Value} (h:Cpy w lo c v0 v1 v2 v3 v4 v5 v6 U) (hz:RrZ U):Zgr lo w v0 v1 v2 v3 v4 v5 v6 U:=by
 obtain⟨g2,L2,hm,hL2⟩:=h.o2;obtain⟨g6,L6,ha,hL6⟩:=h.o6;exact⟨(h.o0.rss hz.z0).at.mono (h.seg 0 (by decide)).1,(h.o1.rss hz.z1).at.mono (h.seg 1 (by decide)).1,(hm.rms hL2 hz.z2).mono (h.seg 2 (by decide)).1,(h.o3.rts hz.z3).at.mono (h.seg 3 (by decide)).1,h.o4.ris.at.mono (h.seg 4 (by decide)).1,(h.o5.rss hz.z5).at.mono (h.seg 5 (by decide)).1,(ha.ras hL6).mono (h.seg 6 (by decide)).1⟩
def Zdd (L:List Rs) (tx:Zy_):Bool:=L.any (fun x=>decide (0 < x.ba)&&(x.tx.toList == tx.toList))
theorem ZhE {X:Type}{L:List X}{f:X->Bool}{k:Nat} (hk:k < L.length) (h:f L[k]=true):L.any f=true:=by
 rw [List.any_eq_true];exact⟨L[k],List.getElem_mem hk,h⟩
theorem ZjT {X:Type}{L:List X}{f:X->Bool} (h:∀ i (h:i < L.length),f L[i]=false):L.any f=false:=by
 rw [List.any_eq_false];intro x hx;obtain⟨i,hi,rfl⟩:=List.getElem_of_mem hx;rw [h i hi];simp
theorem Zdc (lo:Nat) (v:Value) (L:List Rs) (tx:Zy_) (w:World) (hv:Zat lo w v L) :
 Calls prog 56 #[v,.string tx] w fun e w'=>e=.returned (.bool (Zdd L tx))/\w'=w:=by
 have HV:=Zaa hv;have hm:=hv.max;unfold maxLen at hm;obtain⟨a,cap,rfl⟩:=hv.form;clear hv;have HE:Hd (Zdd L tx=L.any (fun x=>decide (0 < x.ba)&&(x.tx.toList == tx.toList))):=rfl;go_enter func56,ntmps56;go_wp2
 go_loop [5] (fun i=>∃ k:Nat,i=.int .i64 k/\k<=L.length/\∀ j (hj:j < L.length),j < k->(decide (0 < L[j].ba)&&(L[j].tx.toList == tx.toList))=false) (fun i=>L.length - (intOf i).toNat)
 case atStart=>exact⟨0,rfl,by omega,fun j _ h=>by omega⟩
 case round=>
  obtain⟨k,rfl,hk,hall⟩:=hrel;have HAL:=Zaa hall;clear hall
  by_cases hlt:k < L.length
  . obtain⟨b,off,rfl,hbw,-,hc⟩:=HV.o.full' (by omega)
    obtain⟨hsz,hcc⟩:=hc k hlt;obtain⟨x,hx⟩:∃ x,x=L[k]:=⟨_,rfl⟩
    rw [<- hx] at hsz hcc;have HX:=Zaa hx;obtain⟨e0,e1⟩:=hcc;have i0:(0:Int)<=(k:Int):=by omega
    have i1:(k:Int) < (L.length:Int):=by omega
    clear hc hsz hx
    have step:(decide (0 < x.ba)&&(x.tx.toList == tx.toList))=false->∀ j (hj:j < L.length),j < k+1->(decide (0 < L[j].ba)&&(L[j].tx.toList == tx.toList))=false:=by
     intro hp j hj hjk
     by_cases e:j=k
     . subst e;rw [<- HX.o,hp]
     . exact HAL.o j hj (by omega)
    have HST:=Zaa step;clear step
    cases q1:decide (0 < x.ba) with
    | false=>
     have HQ:Hd ((decide (0 < x.ba)&&(x.tx.toList == tx.toList))=false):=by unfold Hd;rw [q1];rfl
     go_wp2
     go_round
     . exact⟨k+1,by go_num,by omega,HST.o HQ.o⟩
     . simp [intOf];omega
    | true=>
     cases q2:(x.tx.toList == tx.toList) with
     | false=>
      have HQ:Hd ((decide (0 < x.ba)&&(x.tx.toList == tx.toList))=false):=by unfold Hd;rw [q1,q2];rfl
      go_wp2
      go_round
      . exact⟨k+1,by go_num,by omega,HST.o HQ.o⟩
      . simp [intOf];omega
     | true=>
      have HT:Hd (Zdd L tx=true):=by unfold Hd;rw [HE.o];exact ZhE hlt (by rw [<- HX.o,q1,q2];rfl)
      go_wp2;go_ret;exact⟨Zac HT.o.symm,rfl⟩
  . have HT:Hd (Zdd L tx=false):=by unfold Hd;rw [HE.o];exact ZjT (fun i hi=>HAL.o i hi (by omega))
    go_wp2;go_ret;exact⟨Zac HT.o.symm,rfl⟩
end
theorem Zat.takeR {lo:Nat}{w:World}{a:Option Addr}{cap n:Nat}{L:List Rs} (h:Zat lo w (.slice a L.length cap) L) (k:Nat) (hn:n=k) (hk:k<=L.length):Zat lo w (.slice a n cap) (L.take k):=by
 subst hn
 by_cases h0:n=0
 . subst h0
   exact Or.inl ⟨a,cap,rfl,rfl⟩
 . have hl:(L.take n).length=n:=by simp;omega
   rcases h with ⟨_,_,_,e⟩ | ⟨b,off,c2,h1,h2,h3,h4,h5,h6,h7⟩
   . rw [e] at hk;simp at hk;omega
   . injection h1 with e1 e2 e3
     subst e3;subst e1;refine Or.inr ⟨b,off,cap,by rw [hl],by intro e;rw [e] at hl;simp at hl;omega,by omega,h4,h5,by omega,fun i hi=>?_⟩;rw [List.getElem_take];exact h7 i (by omega)
variable {n:Nat} {w w':World}
theorem Zay.freshB {X:Type}{f:X->List Value}{v:Value}{L:List X} (h:Zay f n w' w.heap.size w.heap.size v L\/Zay f n w' w.heap.size w'.heap.size v L) (hs:w.heap.size<=w'.heap.size):Zay f n w' w.heap.size w'.heap.size v L:=by
 rcases h with h | h
 . exact h.wide Zl_ hs
 . exact h
theorem Zad.none (h:Zad n n w w') (_hn:w.heap.size<=n):Zw_ w w':=⟨h.os,h.tape,h.output,h.size,fun k hk=>h.block k hk (by omega)⟩
theorem ZcI (lo:Nat) (v:Value) (L:List Rs) (w:World) (hv:Zat lo w v L) (hn:L.length<=1048576) :
 Calls prog 146 #[v] w fun e w'=>∃ v',e=.returned v'/\Zw_ w w'/\Zay rsL 2 w' w.heap.size w'.heap.size v' L:=by
 have HV:=Zaa hv;obtain⟨a,cap,rfl⟩:=hv.form;clear hv;go_enter func146,ntmps146;go_wp2_with (at_builtin;refine Zdj ZaC (by decide) underlying56 Zed rfl (w:=w) (lo:=w.heap.size) (hi':=w.heap.size) (L:=[]) L rfl (.const (.slice none 0 0)) (.tmp 3) rfl rfl (Zay.nil _ _ _ _ _) a L.length cap rfl rfl (fun e=>HV.o.nilN e) HV.o.src (Zdz L) (by simp;omega) (by decide) ?_;intro v' w' h1 h2;have H1:=Zaa h1;have H2:=Zaa h2;clear h1 h2);go_ret;have h2:=H2.o;rw [List.nil_append] at h2;exact⟨v',rfl,H1.o.none Zl_,Zay.freshB h2 H1.o.size⟩
end Go.Proofs.YtdeammfdkaomlaaGreat
