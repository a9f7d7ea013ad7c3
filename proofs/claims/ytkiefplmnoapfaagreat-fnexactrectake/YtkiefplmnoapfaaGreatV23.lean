import Derived.Test.YtkiefplmnoapfaaGreatV22
open Go.Proofs.Tryz
namespace Go.Proofs.YtkiefplmnoapfaaGreat
open Go.RowKit Go.Deep
def Zfn (U:Rr) (tx:Zy_):Bool:=!decide ((tx.size:Int) < 1)&&(!decide (160 < (tx.size:Int))&&(!decide (20<=(U.wi.length:Int))&&(!Zev (U.dk.sl.take U.dk.kn.toNat) tx&&!(U.wi.any (fun s=>s.toList == tx.toList)))))
def Zcp (U:Rr) (tx:Zy_):Rr:=if Zfn U tx then { U with wi:=U.wi ++ [tx] } else U
theorem Zaq.takeR {lo:Nat}{w:World}{a:Option Addr}{cap n:Nat}{L:List Rs} (h:Zaq lo w (.slice a L.length cap) L) (k:Nat) (hn:n=k) (hk:k<=L.length):Zaq lo w (.slice a n cap) (L.take k):=by
 subst hn
 by_cases h0:n=0
 . subst h0
   exact Or.inl ⟨a,cap,rfl,rfl⟩
 . have hl:(L.take n).length=n:=by simp;omega
   rcases h with ⟨_,_,_,e⟩ | ⟨b,off,c2,h1,h2,h3,h4,h5,h6,h7⟩
   . rw [e] at hk;simp at hk;omega
   . injection h1 with e1 e2 e3
     subst e3;subst e1;refine Or.inr ⟨b,off,cap,by rw [hl],by intro e;rw [e] at hl;simp at hl;omega,by omega,h4,h5,by omega,fun i hi=>?_⟩;rw [List.getElem_take];exact h7 i (by omega)
end Go.Proofs.YtkiefplmnoapfaaGreat
