import Derived.Test.YtcfjmagkinpaeaaGreatGBBL
import Derived.Test.YtcfjmagkinpaeaaGreatGTF
open Go.Proofs.Tryz
namespace Go.Proofs.YtcfjmagkinpaeaaGreat
open Go.RowKit Go.Deep
theorem Zkw {base:Nat} {e:TypeId} {sz n:Nat} {W:World} {v:Value} {cs:List Value} (h:W.ownsRow base e sz v n cs) {g:Nat} (hg:v.ownBlock=some g):g < W.heap.size∧base≤g:=by
 rcases h.2 with ⟨hv,_⟩ | ⟨g',cap,cur,hv,h1,h2,_⟩
 · rw [hv] at hg;cases hg
 · rw [hv] at hg
   have e:g'=g:=by simpa [Value.ownBlock] using hg
   subst e
   rcases Nat.lt_or_ge g' W.heap.size with h | h
   · exact⟨h,h1⟩
   · rw [Array.getElem?_eq_none h] at h2;cases h2
theorem Zmf {base:Nat} {e:TypeId} {sz n:Nat} {W W':World} {v:Value} {cs:List Value} (h:W.ownsRow base e sz v n cs) (hb:Below W.heap.size W W'):W'.ownsRow base e sz v n cs:=by
 refine⟨h.1,?_⟩;have hlt:=fun g hg=>@Zkw base e sz n W v cs h g hg
 rcases h.2 with hv | ⟨g,cap,cur,hv,h1,h2,h3⟩
 · exact Or.inl hv
 · have hg:=hlt g (by rw [hv];rfl)
   exact Or.inr ⟨g,cap,cur,hv,h1,by rw [hb.block g hg.1];exact h2,h3⟩
theorem ZhM {base:Nat} {e:TypeId} {sz n:Nat} {W w':World} {v:Value} {cs:List Value} (h:W.ownsRow base e sz v n cs) (hg:W.grownBy w' v.ownBlock) (hb:base≤W.heap.size):Below base W w':=by
 have hlt:=fun g hg=>@Zkw base e sz n W v cs h g hg
 exact⟨hg.os,hg.tape,hg.output,hg.size,fun k hk=>hg.block k (by omega) fun e=>by have:=(hlt k e.symm).2;omega⟩
theorem ZgO {base:Nat} {e:TypeId} {sz n:Nat} {W:World} {v:Value} {cs:List Value} (h:W.ownsRow base e sz v n cs):∃ a cap,v=.slice a n cap:=by
 rcases h.2 with ⟨hv,hn⟩ | ⟨g,cap,cur,hv,_⟩
 · rw [hn];exact⟨_,_,hv⟩
 · exact⟨_,_,hv⟩
theorem ZnS {base:Nat} (W:World) (g:Nat) (e:TypeId) (sz:Nat) (hg:W.heap.size=g) (hb:base≤g):(W.alloc (.cells #[] e)).ownsRow base e sz (.slice (some ⟨g,0,none⟩) 0 0) 0 []:=by
 subst hg;exact World.ownsRow_made (base:=base) (e:=e) (size:=sz) W #[] 0 hb Zz_ (by simp)
def rvs:List (Value×Ru)→List Value
 | []=>[]
 | x :: L=>x.1 :: .string x.2.kd :: .string x.2.tm :: .string x.2.pf :: rvs L
theorem ZqV:∀ (L:List (Value×Ru)) (i:Nat) (h:i < L.length),(rvs L)[i*4]?=some L[i].1∧(rvs L)[i*4+1]?=some (.string L[i].2.kd)∧(rvs L)[i*4+2]?=some (.string L[i].2.tm)∧(rvs L)[i*4+3]?=some (.string L[i].2.pf)
 | [],i,h=>by simp at h
 | x :: L,0,_=>⟨rfl,rfl,rfl,rfl⟩
 | x :: L,i+1,h=>by
  have:=ZqV L i (by simpa using h);rw [show (i+1)*4=i*4+1+1+1+1 by omega];exact this
theorem Zn7:∀ (A B:List (Value×Ru)),rvs (A ++ B)=rvs A ++ rvs B
 | [],B=>rfl
 | x :: A,B=>by simp only [List.cons_append,rvs,Zn7 A B]
structure Zd4 (base:Nat) (w W:World) (v:Value) (L:List (Value×Ru)):Prop where
 own:W.ownsRow base 88 4 v L.length (rvs L)
 ints:∀ x ∈ L,Zap 0 w x.1 x.2.vb∧Zdk x.2
theorem Zd4.below {base:Nat} {w W W':World} {v:Value} {L:List (Value×Ru)} (h:Zd4 base w W v L) (hb:Below W.heap.size W W'):Zd4 base w W' v L:=⟨Zmf h.own hb,h.ints⟩
theorem Zd4.rus {base:Nat} {w W:World} {v:Value} {L:List (Value×Ru)} (h:Zd4 base w W v L) (hb:Zw_ w W):Ze7 0 W v (L.map Prod.snd):=by
 by_cases hR:L=[]
 · subst hR
   obtain⟨a,cap,rfl⟩:=ZgO h.own;exact Or.inl ⟨_,_,rfl,rfl⟩
 · rcases h.own.2 with ⟨_,hn⟩ | ⟨g,cap,cur,hv,h1,h2,h3,h4,_⟩
   · exact absurd (List.length_eq_zero_iff.1 hn) hR
   · have hl:=Zkw h.own (g:=g) (by rw [hv];rfl)
     have ho:=h.own;subst hv;refine Or.inr ⟨g,0,cap,by rw [List.length_map],by simpa using hR,by rw [List.length_map];exact Nat.le_trans h3 h4,hl.1,by omega,by rw [List.length_map];exact h3,fun i hi=>?_⟩;have hi':i < L.length:=by simpa using hi
     obtain⟨c0,c1,c2,c3⟩:=ZqV L i hi';have hx:=h.ints _ (List.getElem_mem hi');rw [List.getElem_map];have ce:∀ j,j < 4→W.cell? ⟨g,0+i*4+j,none⟩=(rvs L)[i*4+j]?:=fun j hj=>by rw [Nat.zero_add];exact ho.cellAt _ (by omega)
     exact⟨hx.2,L[i].1,⟨(ce 0 (by omega)).trans c0,(ce 1 (by omega)).trans c1,(ce 2 (by omega)).trans c2,(ce 3 (by omega)).trans c3⟩,hx.1.below hb⟩
theorem Zd4.snoc {base:Nat} {w W W':World} {v v':Value} {L:List (Value×Ru)} (h:Zd4 base w W v L) {xv:Value} {r:Ru} (hx:Zap 0 w xv r.vb) (hz:Zdk r)
 (hown:W'.ownsRow base 88 4 v' (L.length+1) (rvs L ++ [xv,.string r.kd,.string r.tm,.string r.pf])):Zd4 base w W' v' (L ++ [(xv,r)]):=
 ⟨by rw [List.length_append,Zn7];exact hown,fun y hy=>by
  rcases List.mem_append.1 hy with hy | hy
  · exact h.ints y hy
  · rw [List.mem_singleton.1 hy];exact⟨hx,hz⟩⟩
theorem ZiX (X:World) (g:Nat) (a b c d:Value) (t:TypeId) (hg:X.heap.size=g):∀ j x,[a,b,c,d][j]?=some x→(X.alloc (.cells #[a,b,c,d] t)).cell? ((⟨g,0,none⟩:Addr).add j)=some x:=by
 intro j x hx;subst hg;rw [Go.WideShapes.add_plain,Nat.zero_add]
 match j,hx with
 | 0,hx=>simpa using hx
 | 1,hx=>simpa using hx
 | 2,hx=>simpa using hx
 | 3,hx=>simpa using hx
theorem ZfM (a:Option Addr) (n c:Nat) (s t r:Zy_):∀ u ∈ [Value.slice a n c,.string s,.string t,.string r],u.oneCell'=true:=fun u hu=>by
 simp only [List.mem_cons,List.not_mem_nil,or_false] at hu
 rcases hu with rfl | rfl | rfl | rfl <;> rfl
theorem Zlm:(prog.info? 88).map (fun i=>(i.zero,i.size,i.bytes))=some (some (.agg #[.slice none 0 0,.string ⟨#[]⟩,.string ⟨#[]⟩,.string ⟨#[]⟩]),4,72):=by kernel_rfl
end Go.Proofs.YtcfjmagkinpaeaaGreat
