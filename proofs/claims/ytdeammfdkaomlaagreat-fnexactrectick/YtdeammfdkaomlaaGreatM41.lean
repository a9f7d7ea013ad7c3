import Derived.Test.YtdeammfdkaomlaaGreatM39
import Derived.Test.YtdeammfdkaomlaaGreatM40
import Derived.Deep.LoopGhost
set_option maxHeartbeats 16000000
set_option maxRecDepth 100000
open Go.Proofs.Tryz
namespace Go.Proofs.YtdeammfdkaomlaaGreat
section
open Go.RowKit Go.Deep
variable {w w3:World} {γ ρ τ lx ux μ i l u:Nat} {U:Rr} {M:Rm} {L:List MX} {v:Value}
abbrev mgC (M:Rm) (t:Int):Array Value:=#[.int .i64 M.kd,.int .i64 M.fr,.int .i64 t,.int .i64 M.ba,.int .i64 M.ix,.int .i64 M.kn,.string M.tx,.slice none 0 0]
structure Snt (w wr:World) (γ ρ τ lx ux μ:Nat) (U:Rr) (M:Rm) (L:List MX) (i:Nat) (v:Value) (l u:Nat):Prop where
 tb:Box wr τ (tkC γ ρ v)
 mb:Box wr μ (mgC M ((i:Int)+1))
 row:Zay mxL 8 wr l u v (L ++ (ZaB U M i).map mx0)
 lu:(l=lx/\u=ux)\/μ < l
 uw:u<=wr.heap.size
 kp:Zag (fun k=>k < w.heap.size/\k≠τ/\¬ (lx<=k/\k < ux)) w wr
theorem Snt.on {wr:World} (h:Snt w wr γ ρ τ lx ux μ U M L i v l u) (hb:Below wr.heap.size wr w3):Snt w w3 γ ρ τ lx ux μ U M L i v l u:=
 ⟨h.tb.on hb,h.mb.on hb,h.row.below hb,h.lu,Nat.le_trans h.uw hb.size,h.kp.trans (Zag.below hb (fun _ hk=>Zk_ hk.1 h.kp.size))⟩
theorem Snt.next (tb:Box w3 τ (tkC γ ρ v)) (mb:Box w3 μ (mgC M ((i:Int)+1))) (row:Zay mxL 8 w3 l u v (L ++ (ZaB U M (i+1)).map mx0))
 (lu:(l=lx/\u=ux)\/μ < l) (uw:u<=w3.heap.size) (kp:Zag (fun k=>k < w.heap.size/\k≠τ/\¬ (lx<=k/\k < ux)) w w3) (hμ:w.heap.size<=μ) (hτ:μ≠τ) (hu:ux<=μ) :
 Snt w (w3.setCell ⟨μ,2,none⟩ (.int .i64 ((i:Int)+1+1))) γ ρ τ lx ux μ U M L (i+1) v l u:=by
 have hts:=Zad.setCell μ (μ+1) w3 ⟨μ,2,none⟩ (.int .i64 ((i:Int)+1+1)) ⟨Nat.le_refl _,Nat.lt_succ_self _⟩;have hs:(w3.setCell ⟨μ,2,none⟩ (.int .i64 ((i:Int)+1+1))).heap.size=w3.heap.size:=by simp [World.setCell]
 refine⟨tb.setFar (by simpa using hτ) _,?_,row.touch hts (by omega),lu,by rw [hs];exact uw,kp.trans (Zag.touch hts (fun k hk=>⟨Zk_ hk.1 kp.size,by have:=hk.1;omega⟩))⟩;rw [show (((i+1:Nat):Int)+1)=(i:Int)+1+1 by omega];exact mb.set (k:=2) _ (by simp)
theorem Zf8 (w:World) (γ ρ τ lx ux:Nat) (U:Rr) (M:Rm) (v:Value) (L:List MX) (hM:M.sl=[]) (x0:w.cell? ⟨γ,0,none⟩=some (.int .i64 U.nu)) (x1:w.cell? ⟨γ,1,none⟩=some (.int .i64 U.of)) (h0:0<=U.of) (h5:U.of<=5) (tb:Box w τ (tkC γ ρ v)) (hv:Zay mxL 8 w lx ux v L) (hux:ux<=w.heap.size) (ht:τ < lx\/ux<=τ) (hg:γ≠τ/\¬ (lx<=γ/\γ < ux)) (hL:L.length<=90000) :
 Calls prog 199 #[.pointer (some ⟨τ,0,none⟩),.func (.func 209) #[.pointer (some ⟨τ,0,none⟩)] #[],.agg (rmL M none 0).toArray] w fun e w'=>e=.returned (.tuple #[])/\∃ v' lx' ux',Box w' τ (tkC γ ρ v')/\Zay mxL 8 w' lx' ux' v' (L ++ (Zax U M).map mx0)/\((lx'=lx/\ux'=ux)\/w.heap.size<=lx')/\ux'<=w'.heap.size/\Zag (fun k=>k < w.heap.size/\k≠τ/\¬ (lx<=k/\k < ux)) w w':=by
 have HV:=Zaa hv;have HTB:=Zaa tb;have hτ:=tb.lt;have hγ:γ < w.heap.size:=World.block_lt_of_cell? w _ x0
 have HX0:=Zaa x0;have HX1:=Zaa x1;have HM:=Zaa hM;have HG:=Zaa hg;have hlen:M.sl.length=0:=by rw [hM];rfl
 show Calls prog 199 #[.pointer (some ⟨τ,0,none⟩),.func (.func 209) #[.pointer (some ⟨τ,0,none⟩)] #[],.agg #[.int .i64 M.kd,.int .i64 M.fr,.int .i64 M.tt,.int .i64 M.ba,.int .i64 M.ix,.int .i64 M.kn,.string M.tx,.slice none M.sl.length 0]] w _
 rw [hlen];obtain⟨n,hn⟩:∃ n:Nat,U.of=(n:Int):=⟨U.of.toNat,by omega⟩
 have HN:=Zaa hn;have hn5:n<=5:=by omega
 clear hn h0 h5 hlen hM tb hv x0 x1 hg;go_enter func199,ntmps199;go_wp2_with fail
 go_loopg [] n (fun gk wr=>∃ (i:Nat) (v':Value) (l u:Nat),gk+i=n/\Snt w wr γ ρ τ lx ux w.heap.size U M L i v' l u)
 case atStart=>
  have hb:∀ o,Zw_ w (w.alloc o):=fun o=>Zab _ o
  exact⟨0,v,lx,ux,rfl,HTB.o.on (hb _),Box.new _ _ _ _ rfl,by rw [show ZaB U M 0=[] from rfl,List.map_nil,List.append_nil];exact HV.o.below (hb _),Or.inl ⟨rfl,rfl⟩,Nat.le_trans hux (hb _).size,Zag.below (hb _) (fun k hk=>hk.1)⟩
 case round=>
  obtain⟨i,v',l,u,hi,hS⟩:=hrel;have HS:=Zaa hS;obtain⟨a',c',hf⟩:=hS.row.form;clear hS;have x0:wr.cell? ⟨γ,0,none⟩=some (.int .i64 U.nu):=(HS.o.kp.cell (p:=⟨γ,0,none⟩) ⟨hγ,HG.o.1,HG.o.2⟩).trans HX0.o;have x1:wr.cell? ⟨γ,1,none⟩=some (.int .i64 (n:Int)):=by rw [<- HN.o];exact (HS.o.kp.cell (p:=⟨γ,1,none⟩) ⟨hγ,HG.o.1,HG.o.2⟩).trans HX1.o
  have y0:wr.cell? ⟨τ,0,none⟩=some (.pointer (some ⟨γ,0,none⟩)):=HS.o.tb.cell 0;have m2:wr.cell? ⟨w.heap.size,2,none⟩=some (.int .i64 ((i:Int)+1)):=HS.o.mb.cell 2;have HF:=Zaa hf;clear hf
  by_cases hlt:i < n
  . have d1:decide ((i:Int)+1<=(n:Int))=true:=decide_eq_true (by omega)
    by_cases he:(i:Int)+1=U.nu
    . have d2:((i:Int)+1 != U.nu)=false:=by simp [he]
      have HSN:Hd (ZaB U M (i+1)=ZaB U M i):=by unfold Hd;rw [ZbF,if_pos he,List.append_nil]
      clear he;go_wp2
      go_quiet (fail)
      have hb:Below wr.heap.size wr (wr.drewN nq):=below_drewN Zb_ _;generalize wr.drewN nq=w2 at*;clear x0 x1 y0 m2;replace HS:=Zaa (HS.o.on hb);clear hb;have x0:w2.cell? ⟨γ,0,none⟩=some (.int .i64 U.nu):=(HS.o.kp.cell (p:=⟨γ,0,none⟩) ⟨hγ,HG.o.1,HG.o.2⟩).trans HX0.o;have x1:w2.cell? ⟨γ,1,none⟩=some (.int .i64 (n:Int)):=by rw [<- HN.o];exact (HS.o.kp.cell (p:=⟨γ,1,none⟩) ⟨hγ,HG.o.1,HG.o.2⟩).trans HX1.o
      have y0:w2.cell? ⟨τ,0,none⟩=some (.pointer (some ⟨γ,0,none⟩)):=HS.o.tb.cell 0;have m2:w2.cell? ⟨w.heap.size,2,none⟩=some (.int .i64 ((i:Int)+1)):=HS.o.mb.cell 2;go_wp2
      go_quiet (fail)
      have hb:Below w2.heap.size w2 (w2.drewN nq):=below_drewN Zb_ _;generalize w2.drewN nq=w3 at*;clear x0 x1 y0 m2;replace HS:=Zaa (HS.o.on hb);clear hb;have x0:w3.cell? ⟨γ,0,none⟩=some (.int .i64 U.nu):=(HS.o.kp.cell (p:=⟨γ,0,none⟩) ⟨hγ,HG.o.1,HG.o.2⟩).trans HX0.o;have x1:w3.cell? ⟨γ,1,none⟩=some (.int .i64 (n:Int)):=by rw [<- HN.o];exact (HS.o.kp.cell (p:=⟨γ,1,none⟩) ⟨hγ,HG.o.1,HG.o.2⟩).trans HX1.o
      have y0:w3.cell? ⟨τ,0,none⟩=some (.pointer (some ⟨γ,0,none⟩)):=HS.o.tb.cell 0;have m2:w3.cell? ⟨w.heap.size,2,none⟩=some (.int .i64 ((i:Int)+1)):=HS.o.mb.cell 2;have fm:=HS.o.mb.free;go_wp2
      go_roundg (gk - 1)
      . 
       exact⟨i+1,v',l,u,by omega,Snt.next HS.o.tb HS.o.mb (by rw [HSN.o];exact HS.o.row) HS.o.lu HS.o.uw HS.o.kp Zl_ (by omega) hux⟩
      . omega
    . have d2:((i:Int)+1 != U.nu)=true:=by simp [he]
      have HSN:Hd (ZaB U M (i+1)=ZaB U M i ++ [{ M with fr:=U.nu,tt:=(i:Int)+1 }]):=by unfold Hd;rw [ZbF,if_neg he]
      clear he;go_wp2
      go_quiet (fail)
      have hb:Below wr.heap.size wr (wr.drewN nq):=below_drewN Zb_ _;generalize wr.drewN nq=w2 at*;clear x0 x1 y0 m2;replace HS:=Zaa (HS.o.on hb);clear hb;have x0:w2.cell? ⟨γ,0,none⟩=some (.int .i64 U.nu):=(HS.o.kp.cell (p:=⟨γ,0,none⟩) ⟨hγ,HG.o.1,HG.o.2⟩).trans HX0.o;have x1:w2.cell? ⟨γ,1,none⟩=some (.int .i64 (n:Int)):=by rw [<- HN.o];exact (HS.o.kp.cell (p:=⟨γ,1,none⟩) ⟨hγ,HG.o.1,HG.o.2⟩).trans HX1.o
      have y0:w2.cell? ⟨τ,0,none⟩=some (.pointer (some ⟨γ,0,none⟩)):=HS.o.tb.cell 0;have m2:w2.cell? ⟨w.heap.size,2,none⟩=some (.int .i64 ((i:Int)+1)):=HS.o.mb.cell 2;go_wp2
      go_quiet (fail)
      have hb:Below w2.heap.size w2 (w2.drewN nq):=below_drewN Zb_ _;generalize w2.drewN nq=w3 at*;clear x0 x1 y0 m2;replace HS:=Zaa (HS.o.on hb);clear hb;have x0:w3.cell? ⟨γ,0,none⟩=some (.int .i64 U.nu):=(HS.o.kp.cell (p:=⟨γ,0,none⟩) ⟨hγ,HG.o.1,HG.o.2⟩).trans HX0.o;have x1:w3.cell? ⟨γ,1,none⟩=some (.int .i64 (n:Int)):=by rw [<- HN.o];exact (HS.o.kp.cell (p:=⟨γ,1,none⟩) ⟨hγ,HG.o.1,HG.o.2⟩).trans HX1.o
      have y0:w3.cell? ⟨τ,0,none⟩=some (.pointer (some ⟨γ,0,none⟩)):=HS.o.tb.cell 0;have m2:w3.cell? ⟨w.heap.size,2,none⟩=some (.int .i64 ((i:Int)+1)):=HS.o.mb.cell 2;have mm:∀ j,w3.cell? ⟨w.heap.size,j,none⟩=(mgC M ((i:Int)+1))[j]?:=HS.o.mb.cell
      have hll:(L ++ (ZaB U M i).map mx0).length<=100000:=by
       have:=ZcY U M i;rw [List.length_append,List.length_map]
       omega
      have HC:Hd (Calls prog 209 #[.pointer (some ⟨τ,0,none⟩),.agg #[.int .i64 M.kd,.int .i64 M.fr,.int .i64 ((i:Int)+1),.int .i64 M.ba,.int .i64 M.ix,.int .i64 M.kn,.string M.tx,.slice none 0 0]] w3 fun e w'=>e=.returned (.tuple #[])/\∃ v2 lx' ux',Box w' τ (tkC γ ρ v2)/\Zay mxL 8 w' lx' ux' v2 ((L ++ (ZaB U M i).map mx0) ++ [mx0 { M with fr:=U.nu,tt:=(i:Int)+1 }])/\((lx'=l/\ux'=u)\/(w3.heap.size<=lx'/\ux'<=w'.heap.size))/\Zag (fun k=>k < w3.heap.size/\k≠τ/\¬ (l<=k/\k < u)) w3 w'):=by
       unfold Hd;have h:=ZiM w3 γ ρ τ l u U.nu { M with tt:=(i:Int)+1 } v' _ HM.o x0 HS.o.tb HS.o.row HS.o.uw (by have:=HS.o.lu;omega) hll
       have e:rmL { M with tt:=(i:Int)+1 } none 0=[.int .i64 M.kd,.int .i64 M.fr,.int .i64 ((i:Int)+1),.int .i64 M.ba,.int .i64 M.ix,.int .i64 M.kn,.string M.tx,.slice none 0 0]:=by
        unfold rmL;simp [HM.o]
       rw [e] at h;exact h
      go_wp2_with fail;clear x0 x1 y0 m2 mm;refine HC.o.mono ?_;clear HC;rintro e w4 ⟨rfl,v2,l2,u2,tb2,row2,lu2,kp2⟩;have hlu:=HS.o.lu;have hml:=HS.o.mb.lt;have huw:=HS.o.uw;have hks:=kp2.size;have hk3:=HS.o.kp.size;have MB2:Hd (Box w4 w.heap.size (mgC M ((i:Int)+1))):=HS.o.mb.kept kp2 ⟨hml,by omega,by omega⟩;have TB2:=Zaa tb2
      have RW2:Hd (Zay mxL 8 w4 l2 u2 v2 (L ++ (ZaB U M (i+1)).map mx0)):=by
       unfold Hd;rw [HSN.o,List.map_append,<- List.append_assoc];exact row2
      have LU2:Hd ((l2=lx/\u2=ux)\/w.heap.size < l2):=by unfold Hd;omega
      have UW2:Hd (u2<=w4.heap.size):=by unfold Hd;omega
      have KP2:Hd (Zag (fun k=>k < w.heap.size/\k≠τ/\¬ (lx<=k/\k < ux)) w w4):=HS.o.kp.trans (kp2.less (fun k hk=>⟨by omega,hk.2.1,by have:=hk.1;have:=hk.2.2;omega⟩));clear tb2 row2 lu2 kp2 hlu HS;have m2:w4.cell? ⟨w.heap.size,2,none⟩=some (.int .i64 ((i:Int)+1)):=MB2.o.cell 2;have fm:=MB2.o.free;go_wp2
      go_roundg (gk - 1)
      . 
       exact⟨i+1,v2,l2,u2,by omega,Snt.next TB2.o MB2.o RW2.o LU2.o UW2.o KP2.o Zl_ (by omega) hux⟩
      . omega
  . have d1:decide ((i:Int)+1<=(n:Int))=false:=decide_eq_false (by omega)
    go_wp2
    go_quiet (fail)
    have hb:Below wr.heap.size wr (wr.drewN nq):=below_drewN Zb_ _;generalize wr.drewN nq=w2 at*;clear x0 x1 y0 m2;replace HS:=Zaa (HS.o.on hb);clear hb;have x0:w2.cell? ⟨γ,0,none⟩=some (.int .i64 U.nu):=(HS.o.kp.cell (p:=⟨γ,0,none⟩) ⟨hγ,HG.o.1,HG.o.2⟩).trans HX0.o;have x1:w2.cell? ⟨γ,1,none⟩=some (.int .i64 (n:Int)):=by rw [<- HN.o];exact (HS.o.kp.cell (p:=⟨γ,1,none⟩) ⟨hγ,HG.o.1,HG.o.2⟩).trans HX1.o
    have y0:w2.cell? ⟨τ,0,none⟩=some (.pointer (some ⟨γ,0,none⟩)):=HS.o.tb.cell 0;have m2:w2.cell? ⟨w.heap.size,2,none⟩=some (.int .i64 ((i:Int)+1)):=HS.o.mb.cell 2;have hin:i=n:=by omega
    have HE:Hd ((ZaB U M i)=Zax U M):=by unfold Hd Zax;rw [HN.o,hin];rfl
    have HL:=Zaa hin;clear hin;go_wp2
    go_end0
    refine⟨rfl,v',l,u,HS.o.tb,by rw [<- HE.o];exact HS.o.row,?_,HS.o.uw,HS.o.kp⟩;have:=HS.o.lu
    omega
end
section
open Go.RowKit Go.Deep
variable {lo γ ρ τ i:Nat} {w wr w3:World} {sv:Value} {U:Rr} {M:Rm}
theorem ZgE (U:Rr) (M:Rm):(Zbl U M).nu=U.nu/\(Zbl U M).of=U.of:=by
 unfold Zbl
 split <;> exact⟨rfl,rfl⟩
theorem ZgD (L:List Rm):∀ U:Rr,(L.foldl Zbl U).nu=U.nu/\(L.foldl Zbl U).of=U.of:=by
 induction L with
 | nil=>exact fun U=>⟨rfl,rfl⟩
 | cons M L ih=>exact fun U=>⟨(ih _).1.trans (ZgE U M).1,(ih _).2.trans (ZgE U M).2⟩
structure Hlt (K:Nat->Prop) (lo:Nat) (w wr:World) (γ ρ τ:Nat) (sv:Value) (U:Rr) (M:Rm) (i:Nat):Prop where
 tb:Box wr τ (tkC γ ρ sv)
 mb:Box wr w.heap.size (mgC M ((i:Int)+1))
 wk:Wk (KN K w 1) lo wr γ ρ ((ZaB U M i).foldl Zbl U)
 kp:Zag K w wr
theorem Hlt.on {K:Nat->Prop} (h:Hlt K lo w wr γ ρ τ sv U M i) (hb:Below wr.heap.size wr w3):Hlt K lo w w3 γ ρ τ sv U M i:=
 ⟨h.tb.on hb,h.mb.on hb,h.wk.on hb,h.kp.trans (Zag.below hb (fun k hk=>h.wk.wz.kw k (Or.inl hk)))⟩
theorem Hlt.nu {K:Nat->Prop} (h:Hlt K lo w wr γ ρ τ sv U M i):wr.cell? ⟨γ,0,none⟩=some (.int .i64 U.nu):=by
 obtain⟨b,m,S,hR⟩:=h.wk.wz;rw [<- (ZgD (ZaB U M i) U).1];exact hR.box.cell 0
theorem Hlt.of {K:Nat->Prop} (h:Hlt K lo w wr γ ρ τ sv U M i):wr.cell? ⟨γ,1,none⟩=some (.int .i64 U.of):=by
 obtain⟨b,m,S,hR⟩:=h.wk.wz;rw [<- (ZgD (ZaB U M i) U).2];exact hR.box.cell 1
theorem Hlt.next {K:Nat->Prop} (tb:Box w3 τ (tkC γ ρ sv)) (mb:Box w3 w.heap.size (mgC M ((i:Int)+1))) (wk:Wk (KN K w 1) lo w3 γ ρ ((ZaB U M (i+1)).foldl Zbl U)) (kp:Zag K w w3) (hτ:w.heap.size≠τ) (hk:∀ k,K k->k < w.heap.size) :
 Hlt K lo w (w3.setCell ⟨w.heap.size,2,none⟩ (.int .i64 ((i:Int)+1+1))) γ ρ τ sv U M (i+1):=by
 have hts:=Zad.setCell w.heap.size (w.heap.size+1) w3 ⟨w.heap.size,2,none⟩ (.int .i64 ((i:Int)+1+1)) ⟨Nat.le_refl _,Nat.lt_succ_self _⟩;obtain⟨⟨b,m,S,hR⟩,kr,rb⟩:=wk
 have hρ:ρ≠w.heap.size:=by
  intro e;have h1:=rb.cell 0;have h2:=mb.cell 0;rw [e,h2] at h1
  cases h1
 refine⟨tb.setFar (by simpa using hτ) _,?_,⟨⟨b,m,S,hR.other (Or.inr ⟨Nat.le_refl _,by omega⟩) hts⟩,kr,rb.setFar (by simpa using fun e=>hρ e.symm) _⟩,kp.trans (Zag.touch hts (fun k h=>⟨Zk_ (hk k h) kp.size,Or.inl (hk k h)⟩))⟩;rw [show (((i+1:Nat):Int)+1)=(i:Int)+1+1 by omega];exact mb.set (k:=2) _ (by simp)
theorem Zf7 (K:Nat->Prop) (lo:Nat) (w:World) (γ ρ τ:Nat) (U:Rr) (M:Rm) (sv:Value) (hM:M.sl=[]) (h:Wk K lo w γ ρ U) (h0:0<=U.of) (h5:U.of<=5) (tb:Box w τ (tkC γ ρ sv)) (hK:K τ) :
 Calls prog 199 #[.pointer (some ⟨τ,0,none⟩),.func (.func 177) #[] #[.pointer (some ⟨ρ,0,none⟩)],.agg (rmL M none 0).toArray] w fun e w'=>e=.returned (.tuple #[])/\Zag K w w'/\Wk K lo w' γ ρ ((Zax U M).foldl Zbl U):=by
 have HW:=Zaa h;have HTB:=Zaa tb;have hτ:=tb.lt;have HM:=Zaa hM;have HKW:Hd (∀ k,K k->k < w.heap.size):=h.wz.kw;have hlen:M.sl.length=0:=by rw [hM];rfl
 show Calls prog 199 #[.pointer (some ⟨τ,0,none⟩),.func (.func 177) #[] #[.pointer (some ⟨ρ,0,none⟩)],.agg #[.int .i64 M.kd,.int .i64 M.fr,.int .i64 M.tt,.int .i64 M.ba,.int .i64 M.ix,.int .i64 M.kn,.string M.tx,.slice none M.sl.length 0]] w _
 rw [hlen];obtain⟨n,hn⟩:∃ n:Nat,U.of=(n:Int):=⟨U.of.toNat,by omega⟩
 have HN:=Zaa hn;have hn5:n<=5:=by omega
 clear hn h0 h5 hlen hM tb h;go_enter func199,ntmps199;go_wp2_with fail
 go_loopg [] n (fun gk wr=>∃ i:Nat,gk+i=n/\Hlt K lo w wr γ ρ τ sv U M i)
 case atStart=>
  have hb:∀ o,Zw_ w (w.alloc o):=fun o=>Zab _ o
  exact⟨0,rfl,HTB.o.on (hb _),Box.new _ _ _ _ rfl,⟨HW.o.wz.shield (hb _) (fun k hk=>hk.imp id (fun h=>⟨h.1,by simp;omega⟩)),Or.inl HW.o.kr,HW.o.rb.on (hb _)⟩,Zag.below (hb _) HKW.o⟩
 case round=>
  obtain⟨i,hi,hS⟩:=hrel;have HS:=Zaa hS;clear hS;have x0:wr.cell? ⟨γ,0,none⟩=some (.int .i64 U.nu):=HS.o.nu;have x1:wr.cell? ⟨γ,1,none⟩=some (.int .i64 (n:Int)):=by rw [<- HN.o];exact HS.o.of
  have y0:wr.cell? ⟨τ,0,none⟩=some (.pointer (some ⟨γ,0,none⟩)):=HS.o.tb.cell 0;have m2:wr.cell? ⟨w.heap.size,2,none⟩=some (.int .i64 ((i:Int)+1)):=HS.o.mb.cell 2
  by_cases hlt:i < n
  . have d1:decide ((i:Int)+1<=(n:Int))=true:=decide_eq_true (by omega)
    by_cases he:(i:Int)+1=U.nu
    . have d2:((i:Int)+1 != U.nu)=false:=by simp [he]
      have HSN:Hd (ZaB U M (i+1)=ZaB U M i):=by unfold Hd;rw [ZbF,if_pos he,List.append_nil]
      clear he;go_wp2
      go_quiet (fail)
      have hb:Below wr.heap.size wr (wr.drewN nq):=below_drewN Zb_ _;generalize wr.drewN nq=w2 at*;clear x0 x1 y0 m2;replace HS:=Zaa (HS.o.on hb);clear hb;have x0:w2.cell? ⟨γ,0,none⟩=some (.int .i64 U.nu):=HS.o.nu;have x1:w2.cell? ⟨γ,1,none⟩=some (.int .i64 (n:Int)):=by rw [<- HN.o];exact HS.o.of
      have y0:w2.cell? ⟨τ,0,none⟩=some (.pointer (some ⟨γ,0,none⟩)):=HS.o.tb.cell 0;have m2:w2.cell? ⟨w.heap.size,2,none⟩=some (.int .i64 ((i:Int)+1)):=HS.o.mb.cell 2;go_wp2
      go_quiet (fail)
      have hb:Below w2.heap.size w2 (w2.drewN nq):=below_drewN Zb_ _;generalize w2.drewN nq=w3 at*;clear x0 x1 y0 m2;replace HS:=Zaa (HS.o.on hb);clear hb;have x0:w3.cell? ⟨γ,0,none⟩=some (.int .i64 U.nu):=HS.o.nu;have x1:w3.cell? ⟨γ,1,none⟩=some (.int .i64 (n:Int)):=by rw [<- HN.o];exact HS.o.of
      have y0:w3.cell? ⟨τ,0,none⟩=some (.pointer (some ⟨γ,0,none⟩)):=HS.o.tb.cell 0;have m2:w3.cell? ⟨w.heap.size,2,none⟩=some (.int .i64 ((i:Int)+1)):=HS.o.mb.cell 2;have fm:=HS.o.mb.free;go_wp2
      go_roundg (gk - 1)
      . 
       exact⟨i+1,by omega,Hlt.next HS.o.tb HS.o.mb (by rw [HSN.o];exact HS.o.wk) HS.o.kp (by omega) HKW.o⟩
      . omega
    . have d2:((i:Int)+1 != U.nu)=true:=by simp [he]
      have HSN:Hd (ZaB U M (i+1)=ZaB U M i ++ [{ M with fr:=U.nu,tt:=(i:Int)+1 }]):=by unfold Hd;rw [ZbF,if_neg he]
      clear he;go_wp2
      go_quiet (fail)
      have hb:Below wr.heap.size wr (wr.drewN nq):=below_drewN Zb_ _;generalize wr.drewN nq=w2 at*;clear x0 x1 y0 m2;replace HS:=Zaa (HS.o.on hb);clear hb;have x0:w2.cell? ⟨γ,0,none⟩=some (.int .i64 U.nu):=HS.o.nu;have x1:w2.cell? ⟨γ,1,none⟩=some (.int .i64 (n:Int)):=by rw [<- HN.o];exact HS.o.of
      have y0:w2.cell? ⟨τ,0,none⟩=some (.pointer (some ⟨γ,0,none⟩)):=HS.o.tb.cell 0;have m2:w2.cell? ⟨w.heap.size,2,none⟩=some (.int .i64 ((i:Int)+1)):=HS.o.mb.cell 2;go_wp2
      go_quiet (fail)
      have hb:Below w2.heap.size w2 (w2.drewN nq):=below_drewN Zb_ _;generalize w2.drewN nq=w3 at*;clear x0 x1 y0 m2;replace HS:=Zaa (HS.o.on hb);clear hb;have x0:w3.cell? ⟨γ,0,none⟩=some (.int .i64 U.nu):=HS.o.nu;have x1:w3.cell? ⟨γ,1,none⟩=some (.int .i64 (n:Int)):=by rw [<- HN.o];exact HS.o.of
      have y0:w3.cell? ⟨τ,0,none⟩=some (.pointer (some ⟨γ,0,none⟩)):=HS.o.tb.cell 0;have m2:w3.cell? ⟨w.heap.size,2,none⟩=some (.int .i64 ((i:Int)+1)):=HS.o.mb.cell 2;have mm:∀ j,w3.cell? ⟨w.heap.size,j,none⟩=(mgC M ((i:Int)+1))[j]?:=HS.o.mb.cell
      have HC:Hd (Calls prog 177 #[.agg #[.int .i64 M.kd,.int .i64 M.fr,.int .i64 ((i:Int)+1),.int .i64 M.ba,.int .i64 M.ix,.int .i64 M.kn,.string M.tx,.slice none 0 0],.pointer (some ⟨ρ,0,none⟩)] w3 fun e w'=>e=.returned (.tuple #[])/\Zag (KN K w 1) w3 w'/\Wk (KN K w 1) lo w' γ ρ ((ZaB U M (i+1)).foldl Zbl U)):=by
       unfold Hd;have h:=ZhZ (KN K w 1) lo w3 γ ρ _ { M with tt:=(i:Int)+1 } HS.o.wk HM.o
       have e:rmL { M with tt:=(i:Int)+1 } none 0=[.int .i64 M.kd,.int .i64 M.fr,.int .i64 ((i:Int)+1),.int .i64 M.ba,.int .i64 M.ix,.int .i64 M.kn,.string M.tx,.slice none 0 0]:=by
        unfold rmL;simp [HM.o]
       rw [e] at h;rw [HSN.o,List.foldl_append];exact h
      go_wp2_with fail;clear x0 x1 y0 m2 mm;refine HC.o.mono ?_;clear HC;rintro e w4 ⟨rfl,kp2,wk2⟩;have MB2:Hd (Box w4 w.heap.size (mgC M ((i:Int)+1))):=HS.o.mb.kept kp2 (Or.inr ⟨Nat.le_refl _,by omega⟩);have TB2:Hd (Box w4 τ (tkC γ ρ sv)):=HS.o.tb.kept kp2 (Or.inl hK);have WK2:=Zaa wk2;have KP2:Hd (Zag K w w4):=HS.o.kp.trans (kp2.less (fun k hk=>Or.inl hk));clear kp2 wk2 HS;have m2:w4.cell? ⟨w.heap.size,2,none⟩=some (.int .i64 ((i:Int)+1)):=MB2.o.cell 2;have fm:=MB2.o.free;go_wp2
      go_roundg (gk - 1)
      . 
       exact⟨i+1,by omega,Hlt.next TB2.o MB2.o WK2.o KP2.o (by omega) HKW.o⟩
      . omega
  . have d1:decide ((i:Int)+1<=(n:Int))=false:=decide_eq_false (by omega)
    go_wp2
    go_quiet (fail)
    have hb:Below wr.heap.size wr (wr.drewN nq):=below_drewN Zb_ _;generalize wr.drewN nq=w2 at*;clear x0 x1 y0 m2;replace HS:=Zaa (HS.o.on hb);clear hb;have x0:w2.cell? ⟨γ,0,none⟩=some (.int .i64 U.nu):=HS.o.nu;have x1:w2.cell? ⟨γ,1,none⟩=some (.int .i64 (n:Int)):=by rw [<- HN.o];exact HS.o.of
    have y0:w2.cell? ⟨τ,0,none⟩=some (.pointer (some ⟨γ,0,none⟩)):=HS.o.tb.cell 0;have m2:w2.cell? ⟨w.heap.size,2,none⟩=some (.int .i64 ((i:Int)+1)):=HS.o.mb.cell 2;have hin:i=n:=by omega
    have HE:Hd ((ZaB U M i)=Zax U M):=by unfold Hd Zax;rw [HN.o,hin];rfl
    have HL:=Zaa hin;clear hin;go_wp2
    go_end0
    have hw:=HS.o.wk;rw [HE.o] at hw;exact⟨rfl,HS.o.kp,hw.less (fun k hk=>Or.inl hk) HW.o.kr⟩
end
section
open Go.RowKit Go.Deep
theorem Wk.keep {K:Nat->Prop}{lo:Nat}{w w':World}{γ ρ:Nat}{U:Rr} (h:Wk K lo w γ ρ U) (hb:Zw_ w w'):Zag K w w':=Zag.below hb h.wz.kw
theorem ZiL (K:Nat->Prop) (lo:Nat) (w:World) (γ ρ τ:Nat) (U:Rr) (sv:Value) (k0:Nat) (h:Wk K lo w γ ρ U) (tb:Box w τ (tkC γ ρ sv)) (hz:RrZ U) (hk0:U.dk.kn=(k0:Int)) (hk1:k0<=1000) (hl:U.dk.sl.length<=1000) (hyl:U.ye.length<=999) (hys:Asc U.ye) (hbl:U.be.length<=1000) :
 Calls prog 182 #[.pointer (some ⟨τ,0,none⟩)] w fun e w'=>e=.returned (.tuple #[])/\Zag K w w'/\Wk K lo w' γ ρ (Zew U):=by
 have HW:=Zaa h;have HZ:=Zaa hz;have HK0:=Zaa hk0;have HYS:=Zaa hys;obtain⟨⟨b,m,S,hR⟩,-,-⟩:=h;have HR:=Zaa hR;have xt0:w.cell? ⟨τ,0,none⟩=some (.pointer (some ⟨γ,0,none⟩)):=tb.cell 0;have x12:w.cell? ⟨γ,12,none⟩=some (.bool U.ty):=hR.box.cell 12;have x3:w.cell? ⟨γ,3,none⟩=some (.int .i64 U.sf.pr):=hR.box.cell 3;have x13:w.cell? ⟨γ,13,none⟩=some (.int .i64 U.ba):=hR.box.cell 13;have HTB:=Zaa tb;clear hR tb hz hk0 hys
 cases hty:U.ty with
 | false=>
  have HE:Hd (Zew U=U):=by unfold Hd Zew;rw [hty];rfl
  rw [hty] at x12;go_enter func182,ntmps182;go_wp2
  go_quiet (fail)
  have hb:Zw_ w (w.drewN nq):=below_drewN Zb_ _;generalize w.drewN nq=w3 at*;clear xt0 x12 x3 x13;go_wp2
  go_end0
  exact⟨rfl,HW.o.keep hb,by rw [HE.o];exact HW.o.on hb⟩
 | true=>
 rw [hty] at x12
 by_cases hp:U.sf.pr=U.ba
 case neg=>
  have HE:Hd (Zew U=U):=by unfold Hd Zew;rw [hty,decide_eq_false hp];rfl
  go_enter func182,ntmps182;go_wp2
  go_quiet (fail)
  have hb:Zw_ w (w.drewN nq):=below_drewN Zb_ _;generalize w.drewN nq=w3 at*;clear xt0 x12 x3 x13;go_wp2
  go_end0
  exact⟨rfl,HW.o.keep hb,by rw [HE.o];exact HW.o.on hb⟩
 have HE:Hd (Zew U=Zb1 U U.nu U.dk.sl):=by unfold Hd Zew;rw [hty,decide_eq_true hp];rfl
 go_enter func182,ntmps182;go_wp2
 go_quiet (fail)
 have hb:Zw_ w (w.drewN nq):=below_drewN Zb_ _;generalize w.drewN nq=w3 at*;clear xt0 x12 x3 x13 hp;have HK3:=Zaa (HW.o.keep hb);replace HW:=Zaa (HW.o.on hb);replace HR:=Zaa (HR.o.on hb);replace HTB:=Zaa (HTB.o.on hb);clear hb;have xt0:w3.cell? ⟨τ,0,none⟩=some (.pointer (some ⟨γ,0,none⟩)):=HTB.o.cell 0;have xt1:w3.cell? ⟨τ,1,none⟩=some (.func (.func 177) #[] #[.pointer (some ⟨ρ,0,none⟩)]):=HTB.o.cell 1;have x0:w3.cell? ⟨γ,0,none⟩=some (.int .i64 U.nu):=HR.o.box.cell 0;have x8:w3.cell? ⟨γ,8,none⟩=some (.slice (b 1) U.dk.sl.length (m 1)):=HR.o.box.cell 8
 go_upto_region 1 with fail
 refine Code.wp_mono NoPanic.imp ?_;refine Zan (S:=fun W=>W.cell? ⟨τ,0,none⟩=some (.pointer (some ⟨γ,0,none⟩))/\W.cell? ⟨τ,1,none⟩=some (.func (.func 177) #[] #[.pointer (some ⟨ρ,0,none⟩)])/\W.cell? ⟨γ,0,none⟩=some (.int .i64 U.nu)/\W.cell? ⟨γ,8,none⟩=some (.slice (b 1) U.dk.sl.length (m 1))) [21] (by kernel_rfl) ⟨xt0,xt1,x0,x8⟩ (fun hHeld=>?_);refine tB 0 (.pointer (some ⟨τ,0,none⟩)) [1,2,3,21] rfl hHeld ?_
 try simp only [Act.put,sLs]
 refine tB 1 (.pointer (some ⟨τ,0,none⟩)) [2,3,21] rfl hHeld ?_
 try simp only [Act.put,sLs]
 refine tB 2 (.pointer (some ⟨τ,0,none⟩)) [3,21] rfl hHeld ?_
 try simp only [Act.put,sLs]
 refine tB 3 (.agg #[.pointer (some ⟨γ,0,none⟩),.func (.func 177) #[] #[.pointer (some ⟨ρ,0,none⟩)]]) [21] rfl hHeld ?_
 try simp only [Act.put,sLs]
 refine tB 4 (.pointer (some ⟨τ,0,none⟩)) [5,6,7,8,9,10,11,21] rfl hHeld ?_
 try simp only [Act.put,sLs]
 refine tB 5 (.pointer (some ⟨τ,0,none⟩)) [6,7,8,9,10,11,21] rfl hHeld ?_
 try simp only [Act.put,sLs]
 refine tB 6 (.pointer (some ⟨τ,0,none⟩)) [7,8,9,10,11,21] rfl hHeld ?_
 try simp only [Act.put,sLs]
 refine tB 7 (.pointer (some ⟨τ,0,none⟩)) [8,9,10,11,21] rfl hHeld ?_
 try simp only [Act.put,sLs]
 refine tB 8 (.pointer (some ⟨γ,0,none⟩)) [9,10,11,21] rfl hHeld ?_
 try simp only [Act.put,sLs]
 refine tB 9 (.pointer (some ⟨γ,0,none⟩)) [10,11,21] rfl hHeld ?_
 try simp only [Act.put,sLs]
 refine tB 10 (.pointer (some ⟨γ,0,none⟩)) [11,21] rfl hHeld ?_
 try simp only [Act.put,sLs]
 refine tB 11 (.int .i64 U.nu) [21] rfl hHeld ?_
 try simp only [Act.put,sLs]
 refine tB 12 (.pointer (some ⟨τ,0,none⟩)) [13,14,15,16,17,18,19,20,21] rfl hHeld ?_
 try simp only [Act.put,sLs]
 refine tB 13 (.pointer (some ⟨τ,0,none⟩)) [14,15,16,17,18,19,20,21] rfl hHeld ?_
 try simp only [Act.put,sLs]
 refine tB 14 (.pointer (some ⟨τ,0,none⟩)) [15,16,17,18,19,20,21] rfl hHeld ?_
 try simp only [Act.put,sLs]
 refine tB 15 (.pointer (some ⟨τ,0,none⟩)) [16,17,18,19,20,21] rfl hHeld ?_
 try simp only [Act.put,sLs]
 refine tB 16 (.pointer (some ⟨γ,0,none⟩)) [17,18,19,20,21] rfl hHeld ?_
 try simp only [Act.put,sLs]
 refine tB 17 (.pointer (some ⟨γ,0,none⟩)) [18,19,20,21] rfl hHeld ?_
 try simp only [Act.put,sLs]
 refine tB 18 (.pointer (some ⟨γ,6,none⟩)) [19,20,21] rfl hHeld ?_
 try simp only [Act.put,sLs]
 refine tB 19 (.pointer (some ⟨γ,8,none⟩)) [20,21] rfl hHeld ?_
 try simp only [Act.put,sLs]
 refine tB 20 (.slice (b 1) U.dk.sl.length (m 1)) [21] rfl hHeld ?_
 try simp only [Act.put,sLs]
 refine oB 21 rfl (fun KC hK=>?_)
 go_simp
 refine (Zih K lo _ γ ρ U U.nu b m S k0 (HW.o.on Zb_.drew) (HR.o.on Zb_.drew) HZ.o HK0.o hk1 hl hyl HYS.o hbl).mono ?_;rintro e w8 ⟨rfl,hk,hw⟩;have HK8:=Zaa ((HW.o.keep Zb_.drew).trans hk);have HW8:=Zaa hw;clear hk hw hHeld xt0 xt1 x0 x8;refine hK.out _ _ (fun h=>absurd (by decide) h) (fun _=>?_);clear hK
 try simp only [Act.put,sLs]
 refine Zak (by kernel_rfl) ?_ _;refine NoPanic.normal ?_;go_wp2
 go_end0
 exact⟨rfl,HK3.o.trans HK8.o,by rw [HE.o];exact HW8.o⟩
end
section
open Go.ChangeShapes Go.WideShapes Go.ChangeAt Go.RowKit Go.Deep
variable {fuel:Nat} {c:Value}
theorem Tryz.cells51:prog.cellsOf 51=1:=by kernel_rfl
section
variable {H:Type} {enc:TypeId×Value->H} {W:World}
theorem ZgP {x:DataW H×List MemPlace} (h:DataW.trod enc prog W 0 (fun _=>true) true fuel 51 [c]=some x):∃ Xl,ZaR 0 W c Xl:=by
 rcases open_slice underlying51 h with ⟨hcs,_⟩ | ⟨a,len,cap,m,n,D,Pl,hcs,_,hl,hm,hmm,_,hx⟩
 . simp only [List.cons.injEq,and_true] at hcs
   exact⟨[],Or.inl ⟨_,_,hcs,rfl⟩⟩
 . simp only [List.cons.injEq,and_true] at hcs
   simp only [if_true] at hmm;subst hmm;rw [Tryz.cells3] at hx
   by_cases h0:len=0
   . subst h0
     exact⟨[],Or.inl ⟨_,_,hcs,rfl⟩⟩
   . obtain⟨Xl,hF,hall⟩:=Zb2 (p:=fun i (x:Int)=>ZeA x/\W.cells? 0 (a.add (i*1)) 1=some [.int .i64 x]) len (fun i hi=>by
      obtain⟨cs',h1,h2⟩:=hx i (by omega);obtain⟨q1,e1,_,s1⟩:=DataW.trod_int underlying3 h2;rw [e1] at h1;exact⟨q1,rfl,h1⟩)
     obtain⟨b,off,spot⟩:=a
     have hspot:spot=none:=by
      obtain⟨_,h1⟩:=hall 0 (by omega);have:=(World.cells?_some h1).2.2 0 (by omega);rw [Nat.zero_mul] at this;have e0:((⟨b,off,spot⟩:Addr).add 0).add 0=⟨b,off,spot⟩:=by simp [Addr.add]
      rw [e0] at this
      simpa using World.cell?_spot (by simpa using this)
     subst hspot
     have hcell:∀ i (hi:i < Xl.length),W.cells? 0 ((⟨b,off,none⟩:Addr).add (i*1)) 1=some [.int .i64 Xl[i]]->W.cell? ⟨b,off+i,none⟩=some (.int .i64 Xl[i]):=fun i hi h1=>by
      obtain⟨_,_,hc⟩:=World.cells?_some h1;rw [add_plain,Nat.mul_one] at hc;have q:=(add_plain b (off+i) 0) ▸ hc 0 (by omega)
      simpa using q
     have hbw:b < W.heap.size:=by
      obtain⟨_,h1⟩:=hall 0 (by omega);exact World.block_lt_of_cell? W _ (hcell 0 (by omega) h1)
     refine⟨Xl,Or.inr ⟨b,off,m,by rw [hcs,hF],?_,by omega,hbw,Nat.zero_le _,by omega,fun i hi=>?_⟩⟩
     . intro e;rw [e] at hF;simp at hF;omega
     . obtain⟨hz,h1⟩:=hall i hi
       exact⟨hz,hcell i hi h1⟩
end
theorem Tryz.cells50:prog.cellsOf 50=1:=by kernel_rfl
section
variable {H:Type} {enc:TypeId×Value->H} {W:World}
theorem Zjw {x:DataW H×List MemPlace} (h:DataW.trod enc prog W 0 (fun _=>true) true fuel 50 [c]=some x):∃ Xl,Zbf 0 W c Xl:=by
 rcases open_slice underlying50 h with ⟨hcs,_⟩ | ⟨a,len,cap,m,n,D,Pl,hcs,_,hl,hm,hmm,_,hx⟩
 . simp only [List.cons.injEq,and_true] at hcs
   exact⟨[],Or.inl ⟨_,_,hcs,rfl⟩⟩
 . simp only [List.cons.injEq,and_true] at hcs
   simp only [if_true] at hmm;subst hmm;rw [Tryz.cells9] at hx
   by_cases h0:len=0
   . subst h0
     exact⟨[],Or.inl ⟨_,_,hcs,rfl⟩⟩
   . obtain⟨Xl,hF,hall⟩:=Zb2 (p:=fun i (x:Zy_)=>Zc5 x/\W.cells? 0 (a.add (i*1)) 1=some [.string x]) len (fun i hi=>by
      obtain⟨cs',h1,h2⟩:=hx i (by omega);obtain⟨q1,e1,_,s1⟩:=DataW.trod_string underlying9 h2;rw [e1] at h1;exact⟨q1,s1,h1⟩)
     obtain⟨b,off,spot⟩:=a
     have hspot:spot=none:=by
      obtain⟨_,h1⟩:=hall 0 (by omega);have:=(World.cells?_some h1).2.2 0 (by omega);rw [Nat.zero_mul] at this;have e0:((⟨b,off,spot⟩:Addr).add 0).add 0=⟨b,off,spot⟩:=by simp [Addr.add]
      rw [e0] at this
      simpa using World.cell?_spot (by simpa using this)
     subst hspot
     have hcell:∀ i (hi:i < Xl.length),W.cells? 0 ((⟨b,off,none⟩:Addr).add (i*1)) 1=some [.string Xl[i]]->W.cell? ⟨b,off+i,none⟩=some (.string Xl[i]):=fun i hi h1=>by
      obtain⟨_,_,hc⟩:=World.cells?_some h1;rw [add_plain,Nat.mul_one] at hc;have q:=(add_plain b (off+i) 0) ▸ hc 0 (by omega)
      simpa using q
     have hbw:b < W.heap.size:=by
      obtain⟨_,h1⟩:=hall 0 (by omega);exact World.block_lt_of_cell? W _ (hcell 0 (by omega) h1)
     refine⟨Xl,Or.inr ⟨b,off,m,by rw [hcs,hF],?_,by omega,hbw,Nat.zero_le _,by omega,fun i hi=>?_⟩⟩
     . intro e;rw [e] at hF;simp at hF;omega
     . obtain⟨hz,h1⟩:=hall i hi
       exact⟨hz,hcell i hi h1⟩
end
theorem Tryz.cells162:prog.cellsOf 162=2:=by kernel_rfl
theorem Zk5 {l:List Value} (h:l.length=2):∃ c0 c1,l=[c0,c1]:=by
 match l,h with
 | [c0,c1],_=>exact⟨c0,c1,rfl⟩
section
variable {H:Type} {enc:TypeId×Value->H} {W:World}
theorem Zjr {cs:List Value}{x:DataW H×List MemPlace} (h:DataW.trod enc prog W 0 (fun _=>true) true fuel 162 cs=some x):∃ U,RaC 0 W cs U:=by
 obtain⟨xs,n,_,_,hl,hlen,hfld⟩:=DataW.trod_struct underlying162 h;obtain⟨c0,c1,rfl⟩:=Zk5 (hl.trans Tryz.cells162);simp only [Array.size,List.length_cons,List.length_nil] at hlen;have g0:DataW.trod enc prog W 0 (fun _=>true) true n 3 ((([c0,c1]:List Value).drop 0).take (prog.cellsOf 3))=xs[0]?:=hfld 0 _ rfl;have g1:DataW.trod enc prog W 0 (fun _=>true) true n 51 ((([c0,c1]:List Value).drop 1).take (prog.cellsOf 51))=xs[1]?:=hfld 1 _ rfl;simp only [Tryz.cells3,Tryz.cells51,List.drop_succ_cons,List.drop_zero,List.take_succ_cons,List.take_zero] at g0 g1;rw [List.getElem?_eq_getElem (by omega)] at g0 g1;obtain⟨q0,e0,_,_⟩:=DataW.trod_int underlying3 g0;simp only [List.cons.injEq,and_true] at e0;subst e0;obtain⟨q1,h1⟩:=ZgP g1;obtain⟨a0,k0,rfl⟩:=h1.form;exact⟨⟨q0,q1⟩,a0,k0,rfl,⟨h1⟩⟩
end
theorem Tryz.cells49:prog.cellsOf 49=1:=by kernel_rfl
section
variable {H:Type} {enc:TypeId×Value->H} {W:World}
theorem Zju {x:DataW H×List MemPlace} (h:DataW.trod enc prog W 0 (fun _=>true) true fuel 49 [c]=some x):∃ Xl,Zbd 0 W c Xl:=by
 rcases open_slice underlying49 h with ⟨hcs,_⟩ | ⟨a,len,cap,m,n,D,Pl,hcs,_,hl,hm,hmm,_,hx⟩
 . simp only [List.cons.injEq,and_true] at hcs
   exact⟨[],Or.inl ⟨_,_,hcs,rfl⟩⟩
 . simp only [List.cons.injEq,and_true] at hcs
   simp only [if_true] at hmm;subst hmm;rw [Tryz.cells156] at hx
   by_cases h0:len=0
   . subst h0
     exact⟨[],Or.inl ⟨_,_,hcs,rfl⟩⟩
   . obtain⟨Xl,hF,hall⟩:=Zb2 (p:=fun i (x:Rm)=>∃ cs',W.cells? 0 (a.add (i*8)) 8=some cs'/\RmC 0 W cs' x) len (fun i hi=>by
      obtain⟨cs',h1,h2⟩:=hx i (by omega);obtain⟨S,hS⟩:=Zjt h2;exact⟨S,cs',h1,hS⟩)
     have hsp:∃ b off,a=⟨b,off,none⟩:=by
      obtain⟨b,off,spot⟩:=a;obtain⟨cs',h1,hS⟩:=hall 0 (by omega);have:=(World.cells?_some h1).2.2 0 (by omega);rw [Nat.zero_mul] at this;have e0:((⟨b,off,spot⟩:Addr).add 0).add 0=⟨b,off,spot⟩:=by simp [Addr.add]
      rw [e0,List.getElem?_eq_getElem (by have:=hS.len;omega)] at this;have hs:spot=none:=by simpa using World.cell?_spot (by simpa using this)
      exact⟨b,off,by rw [hs]⟩
     obtain⟨b,off,rfl⟩:=hsp
     have hrng:∀ i (cs':List Value),W.cells? 0 ((⟨b,off,none⟩:Addr).add (i*8)) 8=some cs'->W.rangeAt b (off+i*8) cs':=fun i cs' h1 j v hv=>by
      obtain⟨_,hln,hc⟩:=World.cells?_some h1;have hj:j < cs'.length:=(List.getElem?_eq_some_iff.1 hv).1
      have q:=hc j (by omega);rw [add_plain,add_plain] at q;rw [q,hv]
     have hbw:b < W.heap.size:=by
      obtain⟨cs',h1,hS⟩:=hall 0 (by omega);exact World.block_lt_of_cell? W _ (hrng 0 cs' h1 0 _ (List.getElem?_eq_getElem (by have:=hS.len;omega)))
     refine⟨Xl,Or.inr ⟨b,off,m,by rw [hcs,hF],?_,by omega,hbw,Nat.zero_le _,by omega,fun i hi=>?_⟩⟩
     . intro e;rw [e] at hF;simp at hF;omega
     . obtain⟨cs',h1,hS⟩:=hall i hi
       exact⟨cs',hrng i cs' h1,hS⟩
end
theorem Tryz.cells52:prog.cellsOf 52=1:=by kernel_rfl
section
variable {H:Type} {enc:TypeId×Value->H} {W:World}
theorem Zjs {x:DataW H×List MemPlace} (h:DataW.trod enc prog W 0 (fun _=>true) true fuel 52 [c]=some x):∃ Xl,ZbA 0 W c Xl:=by
 rcases open_slice underlying52 h with ⟨hcs,_⟩ | ⟨a,len,cap,m,n,D,Pl,hcs,_,hl,hm,hmm,_,hx⟩
 . simp only [List.cons.injEq,and_true] at hcs
   exact⟨[],Or.inl ⟨_,_,hcs,rfl⟩⟩
 . simp only [List.cons.injEq,and_true] at hcs
   simp only [if_true] at hmm;subst hmm;rw [Tryz.cells162] at hx
   by_cases h0:len=0
   . subst h0
     exact⟨[],Or.inl ⟨_,_,hcs,rfl⟩⟩
   . obtain⟨Xl,hF,hall⟩:=Zb2 (p:=fun i (x:Ra)=>∃ cs',W.cells? 0 (a.add (i*2)) 2=some cs'/\RaC 0 W cs' x) len (fun i hi=>by
      obtain⟨cs',h1,h2⟩:=hx i (by omega);obtain⟨S,hS⟩:=Zjr h2;exact⟨S,cs',h1,hS⟩)
     have hsp:∃ b off,a=⟨b,off,none⟩:=by
      obtain⟨b,off,spot⟩:=a;obtain⟨cs',h1,hS⟩:=hall 0 (by omega);have:=(World.cells?_some h1).2.2 0 (by omega);rw [Nat.zero_mul] at this;have e0:((⟨b,off,spot⟩:Addr).add 0).add 0=⟨b,off,spot⟩:=by simp [Addr.add]
      rw [e0,List.getElem?_eq_getElem (by have:=hS.len;omega)] at this;have hs:spot=none:=by simpa using World.cell?_spot (by simpa using this)
      exact⟨b,off,by rw [hs]⟩
     obtain⟨b,off,rfl⟩:=hsp
     have hrng:∀ i (cs':List Value),W.cells? 0 ((⟨b,off,none⟩:Addr).add (i*2)) 2=some cs'->W.rangeAt b (off+i*2) cs':=fun i cs' h1 j v hv=>by
      obtain⟨_,hln,hc⟩:=World.cells?_some h1;have hj:j < cs'.length:=(List.getElem?_eq_some_iff.1 hv).1
      have q:=hc j (by omega);rw [add_plain,add_plain] at q;rw [q,hv]
     have hbw:b < W.heap.size:=by
      obtain⟨cs',h1,hS⟩:=hall 0 (by omega);exact World.block_lt_of_cell? W _ (hrng 0 cs' h1 0 _ (List.getElem?_eq_getElem (by have:=hS.len;omega)))
     refine⟨Xl,Or.inr ⟨b,off,m,by rw [hcs,hF],?_,by omega,hbw,Nat.zero_le _,by omega,fun i hi=>?_⟩⟩
     . intro e;rw [e] at hF;simp at hF;omega
     . obtain⟨cs',h1,hS⟩:=hall i hi
       exact⟨cs',hrng i cs' h1,hS⟩
end
end
open Go.ChangeShapes Go.WideShapes Go.ChangeAt Go.RowKit Go.Deep
theorem Tryz.cells54:prog.cellsOf 54=18:=by kernel_rfl
theorem Zk8 {l:List Value} (h:l.length=18):∃ c0 c1 c2 c3 c4 c5 c6 c7 c8 c9 c10 c11 c12 c13 c14 c15 c16 c17,l=[c0,c1,c2,c3,c4,c5,c6,c7,c8,c9,c10,c11,c12,c13,c14,c15,c16,c17]:=by
 match l,h with
 | [c0,c1,c2,c3,c4,c5,c6,c7,c8,c9,c10,c11,c12,c13,c14,c15,c16,c17],_=>exact⟨c0,c1,c2,c3,c4,c5,c6,c7,c8,c9,c10,c11,c12,c13,c14,c15,c16,c17,rfl⟩
section
variable {H:Type} {enc:TypeId×Value->H} {W:World}
theorem Zjv {fuel:Nat}{cs:List Value}{x:DataW H×List MemPlace} (h:DataW.trod enc prog W 0 (fun _=>true) true fuel 54 cs=some x):∃ U,RrC 0 W cs U:=by
 obtain⟨xs,n,_,_,hl,hlen,hfld⟩:=DataW.trod_struct underlying54 h;obtain⟨c0,c1,c2,c3,c4,c5,c6,c7,c8,c9,c10,c11,c12,c13,c14,c15,c16,c17,rfl⟩:=Zk8 (hl.trans Tryz.cells54);simp only [Array.size,List.length_cons,List.length_nil] at hlen;have g0:DataW.trod enc prog W 0 (fun _=>true) true n 3 ((([c0,c1,c2,c3,c4,c5,c6,c7,c8,c9,c10,c11,c12,c13,c14,c15,c16,c17]:List Value).drop 0).take (prog.cellsOf 3))=xs[0]?:=hfld 0 _ rfl;have g1:DataW.trod enc prog W 0 (fun _=>true) true n 3 ((([c0,c1,c2,c3,c4,c5,c6,c7,c8,c9,c10,c11,c12,c13,c14,c15,c16,c17]:List Value).drop 1).take (prog.cellsOf 3))=xs[1]?:=hfld 1 _ rfl;have g2:DataW.trod enc prog W 0 (fun _=>true) true n 4 ((([c0,c1,c2,c3,c4,c5,c6,c7,c8,c9,c10,c11,c12,c13,c14,c15,c16,c17]:List Value).drop 2).take (prog.cellsOf 4))=xs[2]?:=hfld 2 _ rfl
 have g3:DataW.trod enc prog W 0 (fun _=>true) true n 48 ((([c0,c1,c2,c3,c4,c5,c6,c7,c8,c9,c10,c11,c12,c13,c14,c15,c16,c17]:List Value).drop 3).take (prog.cellsOf 48))=xs[3]?:=hfld 3 _ rfl;have g4:DataW.trod enc prog W 0 (fun _=>true) true n 48 ((([c0,c1,c2,c3,c4,c5,c6,c7,c8,c9,c10,c11,c12,c13,c14,c15,c16,c17]:List Value).drop 6).take (prog.cellsOf 48))=xs[4]?:=hfld 4 _ rfl;have g5:DataW.trod enc prog W 0 (fun _=>true) true n 49 ((([c0,c1,c2,c3,c4,c5,c6,c7,c8,c9,c10,c11,c12,c13,c14,c15,c16,c17]:List Value).drop 9).take (prog.cellsOf 49))=xs[5]?:=hfld 5 _ rfl;have g6:DataW.trod enc prog W 0 (fun _=>true) true n 50 ((([c0,c1,c2,c3,c4,c5,c6,c7,c8,c9,c10,c11,c12,c13,c14,c15,c16,c17]:List Value).drop 10).take (prog.cellsOf 50))=xs[6]?:=hfld 6 _ rfl
 have g7:DataW.trod enc prog W 0 (fun _=>true) true n 4 ((([c0,c1,c2,c3,c4,c5,c6,c7,c8,c9,c10,c11,c12,c13,c14,c15,c16,c17]:List Value).drop 11).take (prog.cellsOf 4))=xs[7]?:=hfld 7 _ rfl;have g8:DataW.trod enc prog W 0 (fun _=>true) true n 4 ((([c0,c1,c2,c3,c4,c5,c6,c7,c8,c9,c10,c11,c12,c13,c14,c15,c16,c17]:List Value).drop 12).take (prog.cellsOf 4))=xs[8]?:=hfld 8 _ rfl;have g9:DataW.trod enc prog W 0 (fun _=>true) true n 3 ((([c0,c1,c2,c3,c4,c5,c6,c7,c8,c9,c10,c11,c12,c13,c14,c15,c16,c17]:List Value).drop 13).take (prog.cellsOf 3))=xs[9]?:=hfld 9 _ rfl;have g10:DataW.trod enc prog W 0 (fun _=>true) true n 51 ((([c0,c1,c2,c3,c4,c5,c6,c7,c8,c9,c10,c11,c12,c13,c14,c15,c16,c17]:List Value).drop 14).take (prog.cellsOf 51))=xs[10]?:=hfld 10 _ rfl
 have g11:DataW.trod enc prog W 0 (fun _=>true) true n 46 ((([c0,c1,c2,c3,c4,c5,c6,c7,c8,c9,c10,c11,c12,c13,c14,c15,c16,c17]:List Value).drop 15).take (prog.cellsOf 46))=xs[11]?:=hfld 11 _ rfl;have g12:DataW.trod enc prog W 0 (fun _=>true) true n 52 ((([c0,c1,c2,c3,c4,c5,c6,c7,c8,c9,c10,c11,c12,c13,c14,c15,c16,c17]:List Value).drop 16).take (prog.cellsOf 52))=xs[12]?:=hfld 12 _ rfl;have g13:DataW.trod enc prog W 0 (fun _=>true) true n 3 ((([c0,c1,c2,c3,c4,c5,c6,c7,c8,c9,c10,c11,c12,c13,c14,c15,c16,c17]:List Value).drop 17).take (prog.cellsOf 3))=xs[13]?:=hfld 13 _ rfl;simp only [Tryz.cells3,Tryz.cells4,Tryz.cells51,Tryz.cells50,Tryz.cells52,Tryz.cells49,Tryz.cells46,Tryz.cells48,List.drop_succ_cons,List.drop_zero,List.take_succ_cons,List.take_zero] at g0 g1 g2 g3 g4 g5 g6 g7 g8 g9 g10 g11 g12 g13
 rw [List.getElem?_eq_getElem (by omega)] at g0 g1 g2 g3 g4 g5 g6 g7 g8 g9 g10 g11 g12 g13;obtain⟨q0,e0,_,_⟩:=DataW.trod_int underlying3 g0;simp only [List.cons.injEq,and_true] at e0;subst e0;obtain⟨q1,e1,_,_⟩:=DataW.trod_int underlying3 g1;simp only [List.cons.injEq,and_true] at e1;subst e1;obtain⟨q2,e2,_⟩:=DataW.trod_bool underlying4 g2;simp only [List.cons.injEq,and_true] at e2;subst e2;obtain⟨q3,a0,k0,e3,h3⟩:=ZgO g3;unfold rdL at e3;simp only [List.cons.injEq,and_true] at e3;obtain⟨r3_0,r3_1,r3_2⟩:=e3;subst r3_0 r3_1 r3_2;obtain⟨q4,a1,k1,e4,h4⟩:=ZgO g4;unfold rdL at e4;simp only [List.cons.injEq,and_true] at e4;obtain⟨r4_0,r4_1,r4_2⟩:=e4;subst r4_0 r4_1 r4_2;obtain⟨q5,h5⟩:=Zju g5;obtain⟨a2,k2,rfl⟩:=h5.form;obtain⟨q6,h6⟩:=Zjw g6;obtain⟨a3,k3,rfl⟩:=h6.form;obtain⟨q7,e7,_⟩:=DataW.trod_bool underlying4 g7
 simp only [List.cons.injEq,and_true] at e7;subst e7;obtain⟨q8,e8,_⟩:=DataW.trod_bool underlying4 g8;simp only [List.cons.injEq,and_true] at e8;subst e8;obtain⟨q9,e9,_,_⟩:=DataW.trod_int underlying3 g9;simp only [List.cons.injEq,and_true] at e9;subst e9;obtain⟨q10,h10⟩:=ZgP g10;obtain⟨a4,k4,rfl⟩:=h10.form;obtain⟨q11,h11⟩:=Ze3 g11;obtain⟨a5,k5,rfl⟩:=h11.form;obtain⟨q12,h12⟩:=Zjs g12;obtain⟨a6,k6,rfl⟩:=h12.form;obtain⟨q13,e13,_,_⟩:=DataW.trod_int underlying3 g13;simp only [List.cons.injEq,and_true] at e13;subst e13;exact⟨⟨q0,q1,q2,q3,q4,q5,q6,q7,q8,q9,q10,q11,q12,q13⟩,a0,k0,a1,k1,a2,k2,a3,k3,a4,k4,a5,k5,a6,k6,rfl,⟨h3.l0,h4.l0,h5,h6,h10,h11,h12⟩⟩
theorem Zkn {r:Reach}{b0:Nat}{v:Value}{d:DataW H}{p:List MemPlace} (hv:Value.okWide prog W r b0 54 v) (h:DataW.Trod enc prog W 0 (fun _=>true) true 54 v d p):∃ (cs:List Value) (U:Rr),v=.agg cs.toArray/\RrC 0 W cs U:=by
 obtain⟨cs,rfl,hsz⟩:=okWide_struct underlying54 hv;obtain⟨fuel,hf⟩:=h;obtain⟨U,hU⟩:=Zjv (cs:=cs.toList) hf;exact⟨cs.toList,U,rfl,hU⟩
end
end Go.Proofs.YtdeammfdkaomlaaGreat
