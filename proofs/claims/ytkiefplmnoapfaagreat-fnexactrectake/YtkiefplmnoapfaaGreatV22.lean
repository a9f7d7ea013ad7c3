import Derived.Test.YtkiefplmnoapfaaGreatV16
import Derived.Test.YtkiefplmnoapfaaGreatV21
set_option maxHeartbeats 16000000
set_option maxRecDepth 100000
open Go.Proofs.Tryz
namespace Go.Proofs.YtkiefplmnoapfaaGreat
open Go.RowKit Go.Deep
variable {lo:Nat} {w:World} {U:Rr} {v0 v1 v2 v3 v4 v5 v6:Value}
structure RrZ (U:Rr):Prop where
 z0:∀ i (h:i < U.sf.sl.length),ZaV U.sf.sl[i]
 z1:∀ i (h:i < U.dk.sl.length),ZaV U.dk.sl[i]
 z2:∀ i (h:i < U.he.length),(∀ j (hj:j < U.he[i].sl.length),ZaV U.he[i].sl[j])/\U.he[i].tx.size<=maxLen
 z3:∀ i (h:i < U.wi.length),U.wi[i].size<=maxLen
 z5:∀ i (h:i < U.be.length),ZaV U.be[i]
theorem RrC.sizes {cs:List Value} (h:RrC lo w cs U):RrZ U:=by
 obtain⟨_,_,_,_,_,_,_,_,_,_,_,_,_,_,-,h⟩:=h;exact⟨h.l0.sizes,h.l1.sizes,h.l2.sizes,h.l3.sizes,h.l5.sizes⟩
theorem Cpy.at {c:Nat->Nat×Nat} (h:Cpy w lo c v0 v1 v2 v3 v4 v5 v6 U) (hz:RrZ U):ZfY lo w v0 v1 v2 v3 v4 v5 v6 U:=by
 obtain⟨g2,L2,hm,hL2⟩:=h.o2;obtain⟨g6,L6,ha,hL6⟩:=h.o6;exact⟨(h.o0.rss hz.z0).at.mono (h.seg 0 (by decide)).1,(h.o1.rss hz.z1).at.mono (h.seg 1 (by decide)).1,(hm.rms hL2 hz.z2).mono (h.seg 2 (by decide)).1,(h.o3.rts hz.z3).at.mono (h.seg 3 (by decide)).1,h.o4.ris.at.mono (h.seg 4 (by decide)).1,(h.o5.rss hz.z5).at.mono (h.seg 5 (by decide)).1,(ha.ras hL6).mono (h.seg 6 (by decide)).1⟩
theorem Cpy.below {w':World}{c:Nat->Nat×Nat} (h:Cpy w lo c v0 v1 v2 v3 v4 v5 v6 U) (hb:Zw_ w w'):Cpy w' lo c v0 v1 v2 v3 v4 v5 v6 U:=by
 obtain⟨g2,L2,hm,hL2⟩:=h.o2;obtain⟨g6,L6,ha,hL6⟩:=h.o6;exact⟨fun i hi=>⟨(h.seg i hi).1,Nat.le_trans (h.seg i hi).2 hb.size⟩,h.ap,h.o0.below hb,h.o1.below hb,⟨g2,L2,hm.below hb,hL2⟩,h.o3.below hb,h.o4.below hb,h.o5.below hb,⟨g6,L6,ha.below hb,hL6⟩⟩
def Zev (L:List Rs) (tx:Zy_):Bool:=L.any (fun x=>decide (0 < x.ba)&&(x.tx.toList == tx.toList))
theorem Zf1 {X:Type}{L:List X}{f:X->Bool}{k:Nat} (hk:k < L.length) (h:f L[k]=true):L.any f=true:=by
 rw [List.any_eq_true];exact⟨L[k],List.getElem_mem hk,h⟩
theorem ZhG {X:Type}{L:List X}{f:X->Bool} (h:∀ i (h:i < L.length),f L[i]=false):L.any f=false:=by
 rw [List.any_eq_false];intro x hx;obtain⟨i,hi,rfl⟩:=List.getElem_of_mem hx;rw [h i hi];simp
theorem ZgE (lo:Nat) (v:Value) (L:List Rs) (tx:Zy_) (w:World) (hv:Zaq lo w v L) :
 Calls prog 58 #[v,.string tx] w fun e w'=>e=.returned (.bool (Zev L tx))/\w'=w:=by
 have HV:=Zaa hv;have hm:=hv.max;unfold maxLen at hm;obtain⟨a,cap,rfl⟩:=hv.form;clear hv;have HE:Hd (Zev L tx=L.any (fun x=>decide (0 < x.ba)&&(x.tx.toList == tx.toList))):=rfl;go_enter func58,ntmps58;go_wp2
 go_loop [5] (fun i=>∃ k:Nat,i=.int .i64 k/\k<=L.length/\∀ j (hj:j < L.length),j < k->(decide (0 < L[j].ba)&&(L[j].tx.toList == tx.toList))=false) (fun i=>L.length - (intOf i).toNat)
 case atStart=>exact⟨0,rfl,by omega,fun j _ h=>by omega⟩
 case round=>
  obtain⟨k,rfl,hk,hall⟩:=hrel;have HAL:=Zaa hall;clear hall
  by_cases hlt:k < L.length
  . obtain⟨b,off,rfl,hbw,-,hc⟩:=HV.o.full' (by omega)
    obtain⟨hsz,hcc⟩:=hc k hlt;obtain⟨x,hx⟩:∃ x,x=L[k]:=⟨_,rfl⟩
    rw [<- hx] at hsz hcc;have HX:=Zaa hx;obtain⟨e0,e1⟩:=hcc;have i0:(0:Int)<=(k:Int):=by omega
    have i1:(k:Int) < (L.length:Int):=by omega
    clear hc hsz hx
    have step:(decide (0 < x.ba)&&(x.tx.toList == tx.toList))=false->∀ j (hj:j < L.length),j < k+1->(decide (0 < L[j].ba)&&(L[j].tx.toList == tx.toList))=false:=by
     intro hp j hj hjk
     by_cases e:j=k
     . subst e;rw [<- HX.o,hp]
     . exact HAL.o j hj (by omega)
    have HST:=Zaa step;clear step
    cases q1:decide (0 < x.ba) with
    | false=>
     have HQ:Hd ((decide (0 < x.ba)&&(x.tx.toList == tx.toList))=false):=by unfold Hd;rw [q1];rfl
     go_wp2
     go_round
     . exact⟨k+1,by go_num,by omega,HST.o HQ.o⟩
     . simp [intOf];omega
    | true=>
     cases q2:(x.tx.toList == tx.toList) with
     | false=>
      have HQ:Hd ((decide (0 < x.ba)&&(x.tx.toList == tx.toList))=false):=by unfold Hd;rw [q1,q2];rfl
      go_wp2
      go_round
      . exact⟨k+1,by go_num,by omega,HST.o HQ.o⟩
      . simp [intOf];omega
     | true=>
      have HT:Hd (Zev L tx=true):=by unfold Hd;rw [HE.o];exact Zf1 hlt (by rw [<- HX.o,q1,q2];rfl)
      go_wp2;go_ret;exact⟨Zac HT.o.symm,rfl⟩
  . have HT:Hd (Zev L tx=false):=by unfold Hd;rw [HE.o];exact ZhG (fun i hi=>HAL.o i hi (by omega))
    go_wp2;go_ret;exact⟨Zac HT.o.symm,rfl⟩
end Go.Proofs.YtkiefplmnoapfaaGreat
