import Derived.Test.YtmappejlmapboaaGreatV12
import Derived.Maps.AppendAt
import Derived.RangeFuncWrites
set_option maxHeartbeats 16000000
set_option maxRecDepth 100000
open Go.Proofs.Tryz
namespace Go.Proofs.YtmappejlmapboaaGreat
section
open Go.RowKit Go.Deep Go.Maps Go.ChangeMaps Go.MapKept
open Go.WideElems (Fit)
variable {P:Program} {w w':World} {base:Nat}
def Zg8 (v:Value):Option (DataW Value×List MemPlace):=some (.held v,[])
theorem Zpb {es:List MapEntry} (h:(es.map (·.key)).Nodup) {x y:MapEntry} (hx:x ∈ es) (hy:y ∈ es) (e:x.key=y.key):x=y:=by
 induction es with
 | nil=>cases hx
 | cons a r ih=>
  rw [List.map_cons,List.nodup_cons] at h
  rcases List.mem_cons.1 hx with rfl | hx'
  . rcases List.mem_cons.1 hy with rfl | hy'
    . rfl
    . exact absurd (List.mem_map.2 ⟨y,hy',e.symm⟩:x.key ∈ r.map (·.key)) h.1
  . rcases List.mem_cons.1 hy with rfl | hy'
    . exact absurd (List.mem_map.2 ⟨x,hx',e⟩:y.key ∈ r.map (·.key)) h.1
    . exact ih h.2 hx' hy'
theorem Znw {t k e:TypeId} (L:WideMaps.KeyLaw P k) (ht:P.underlying t=some (.map k e)) {z:Value} (hz:∀ u:World,(zeroValue e).run P u=.ok z u) {b n:Nat} {D:DataW Value} (h:w.ownsMap P k Zg8 b n D) (hn:n < maxLen)
 {key:Value} {kl:Lit} (hkey:keyOf P k key=some kl) :
 ∃ (v0:Value) (st:Nat) (w1:World),(Instr.mapEntry t (.map (some b)) key).run P w=.ok (.tuple #[v0,goInt st]) w1/\D.atKey kl (.held z)=.held v0/\w.grownBy w1 (some b)/\w1.heap.size=w.heap.size/\
  ∀ (W:World) (val:Value),W.heap[b]?=w1.heap[b]?->∃ W2,(Instr.entryStore t (.map (some b)) (goInt st) val).run P W=.ok () W2/\W2.ownsMap P k Zg8 b (n+1) (D.put kl (.held val))/\W.grownBy W2 (some b)/\W2.heap.size=W.heap.size:=by
 have K:Keyed P k:=Keyed.of_law L;have hups:∀ val:Value,_:=fun val=>h.update K ht hn hkey (val:=val) (d:=.held val) (ps:=[]) rfl
 obtain⟨es,clock,hb,F,hs,hD⟩:=h;obtain⟨v0,st,es1,clock1,hrun,hv,hst⟩:=WideElems.entry_then_store L ht hz hb F hkey
 have hat:D.atKey kl (.held z)=.held v0:=by
  rw [hD]
  rcases Maps.fit_look (R:=Zg8) false K ht (hz w) hb F hkey with ⟨-,hno,ha⟩ | ⟨e0,y,he0,hk0,-,hy,ha,-⟩
  . rcases hv with ⟨x,hx,hxk,-⟩ | ⟨-,rfl⟩
    . exact absurd hxk (hno x hx)
    . exact ha _
  . rcases hv with ⟨x,hx,hxk,rfl⟩ | ⟨hno,-⟩
    . have e:=Zpb F.stamped.2.2 hx he0 (hxk.trans hk0.symm)
      subst e;rw [ha];have:some (DataW.held x.val,([]:List MemPlace))=some y:=hy;injection this with this
      rw [<- this]
    . exact absurd hk0 (hno e0 he0)
 have hone:∀ (X:World) (x:Array MapEntry) (c:Nat) (o':Obj),X.heap[b]?=some (.map x c)->(setBlock X b o').heap[b]?=some o':=fun X x c o' hX=>heap_setBlock_same hX _
 have hgr:∀ (X:World) (x:Array MapEntry) (c:Nat) (o':Obj),X.heap[b]?=some (.map x c)->X.grownBy (setBlock X b o') (some b):=fun X x c o' hX=>⟨rfl,rfl,rfl,by simp [setBlock],fun i _ hi=>heap_setBlock_other hX _ (fun e=>hi (by rw [e]))⟩
 refine⟨v0,st,_,hrun,hat,hgr w _ _ _ hb,by simp [setBlock],fun W val hW=>?_⟩;rw [hone w _ _ _ hb] at hW;obtain⟨es',clock',h1,h2⟩:=hst W val hW;refine⟨_,h1,?_,hgr W _ _ _ hW,by simp [setBlock]⟩;obtain⟨w',hr',ho',-⟩:=hups val;rw [h2] at hr';injection hr' with _ e2
 subst e2;obtain⟨es2,c2,g1,g2,g3,g4⟩:=ho';exact⟨es2,c2,by rw [hone W _ _ _ hW];rw [hone w _ _ _ hb] at g1;exact g1,g2,g3,g4⟩
structure Grp (w:World) (base:Nat) (D:DataW Value) (G:Zy_->Zy_->List Int):Prop where
 isMap:IsMap D
 at':∀ a b:Zy_,a.size<=maxLen->b.size<=maxLen->∃ v,D.atKey (ZbY a b) (.held (.slice none 0 0))=.held v/\w.ownsRow base 3 1 v (G a b).length ((G a b).map (Value.int .i64))
 sep:∀ a b a' b':Zy_,a.size<=maxLen->b.size<=maxLen->a'.size<=maxLen->b'.size<=maxLen->¬ (a=a'/\b=b')->∀ v v' g,D.atKey (ZbY a b) (.held (.slice none 0 0))=.held v->D.atKey (ZbY a' b') (.held (.slice none 0 0))=.held v'->v.ownBlock=some g->v'.ownBlock≠some g
theorem Grp.start (w:World) (base:Nat):Grp w base (.map []) (fun _ _=>[]):=
 ⟨⟨[],rfl⟩,fun a b _ _=>⟨.slice none 0 0,rfl,rfl,Or.inl ⟨rfl,rfl⟩⟩,fun a b a' b' _ _ _ _ _ v v' g h1 _ hg=>by
  have:(DataW.held (Value.slice none 0 0):DataW Value)=.held v:=h1;injection this with e
  rw [<- e] at hg
  cases hg⟩
theorem Zfn {v:Value}{n:Nat}{xs:List Value} (h:w.ownsRow base 3 1 v n xs) {row:Option Nat} (hg:w.grownBy w' row) (hne:∀ g,v.ownBlock=some g->some g≠row):w'.ownsRow base 3 1 v n xs:=by
 obtain⟨h1,h2⟩:=h;refine⟨h1,?_⟩
 rcases h2 with h2 | ⟨g,cap,cur,rfl,h3,h4,h5⟩
 . exact Or.inl h2
 . have hlt:g < w.heap.size:=(Array.getElem?_eq_some_iff.1 h4).1
   exact Or.inr ⟨g,cap,cur,rfl,h3,(hg.block g hlt (hne g rfl)).trans h4,h5⟩
theorem Grp.keep' {D:DataW Value}{G:Zy_->Zy_->List Int} (h:Grp w base D G) {row:Option Nat} (hg:w.grownBy w' row) (hr:∀ r,row=some r->r < base\/∃ o:Obj,w.heap[r]?=some o/\o.isCells=false):Grp w' base D G:=
 ⟨h.isMap,fun a b ha hb=>by
  obtain⟨v,h1,h2⟩:=h.at' a b ha hb;refine⟨v,h1,Zfn h2 hg fun g hv e=>?_⟩
  rcases h2.2 with ⟨rfl,-⟩ | ⟨g',_,cur,rfl,h3,h4,_⟩
  . cases hv
  . injection hv with hv
    have hv:g'=g:=hv;subst hv
    rcases hr g' e.symm with h5 | ⟨o,h5,h6⟩
    . omega
    . rw [h4] at h5
      injection h5 with h5
      rw [<- h5] at h6;exact absurd h6 (by simp [Obj.isCells]),h.sep⟩
theorem Grp.step {W:World}{D:DataW Value}{G G':Zy_->Zy_->List Int} (h:Grp w base D G) {a0 b0:Zy_} (ha0:a0.size<=maxLen) (hb0:b0.size<=maxLen) {v0 v1:Value} (hv0:D.atKey (ZbY a0 b0) (.held (.slice none 0 0))=.held v0)
 {i:Int} (hG:G' a0 b0=G a0 b0 ++ [i]) (hG':∀ a b,¬ (a=a0/\b=b0)->G' a b=G a b)
 (hr:W.ownsRow base 3 1 v1 (G' a0 b0).length ((G' a0 b0).map (Value.int .i64))) (hloc:v1.ownBlock=v0.ownBlock\/∃ g,v1.ownBlock=some g/\w.heap.size<=g)
 (hk:∀ g,g < w.heap.size->base<=g->v0.ownBlock≠some g->W.heap[g]?=w.heap[g]?):Grp W base (D.put (ZbY a0 b0) (.held v1)) G':=by
 have hput:∀ z,(D.put (ZbY a0 b0) (.held v1)).atKey (ZbY a0 b0) z=.held v1:=fun z=>atKey_put_same h.isMap (by trivial) _ _
 have hoth:∀ a b:Zy_,a.size<=maxLen->b.size<=maxLen->¬ (a=a0/\b=b0)->∀ z,(D.put (ZbY a0 b0) (.held v1)).atKey (ZbY a b) z=D.atKey (ZbY a b) z:=fun a b ha hb e z=>
  atKey_put_other (fun e'=>e ((ZdZ.inj ZfT ha hb ha0 hb0 e'))) _ _
 have hlow:∀ a b:Zy_,a.size<=maxLen->b.size<=maxLen->∀ v g,D.atKey (ZbY a b) (.held (.slice none 0 0))=.held v->v.ownBlock=some g->base<=g/\g < w.heap.size:=fun a b ha hb v g hv hg=>by
  obtain⟨v',h1,h2⟩:=h.at' a b ha hb;rw [hv] at h1;injection h1 with h1
  subst h1
  rcases h2.2 with ⟨rfl,-⟩ | ⟨g',_,_,rfl,h3,h4,_⟩
  . cases hg
  . injection hg with hg
    have hg:g'=g:=hg;subst hg;exact⟨h3,(Array.getElem?_eq_some_iff.1 h4).1⟩
 refine⟨h.isMap.put _ _,fun a b ha hb=>?_,fun a b a' b' ha hb ha' hb' hne v v' g h1 h2 hg=>?_⟩
 . by_cases e:a=a0/\b=b0
   . obtain⟨rfl,rfl⟩:=e
     exact⟨v1,hput _,hr⟩
   . obtain⟨v,h1,h2⟩:=h.at' a b ha hb
     rw [hoth a b ha hb e,hG' a b e];refine⟨v,h1,h2.1,?_⟩
     rcases h2.2 with h3 | ⟨g,cap,cur,rfl,h3,h4,h5⟩
     . exact Or.inl h3
     . refine Or.inr ⟨g,cap,cur,rfl,h3,?_,h5⟩
       have hlt:g < w.heap.size:=(Array.getElem?_eq_some_iff.1 h4).1
       rw [hk g hlt h3 (h.sep a b a0 b0 ha hb ha0 hb0 e _ _ g h1 hv0 rfl)];exact h4
 . by_cases e:a=a0/\b=b0
   . obtain⟨rfl,rfl⟩:=e
     rw [hput] at h1;injection h1 with h1
     subst h1;have e':¬ (a'=a/\b'=b):=fun q=>hne ⟨q.1.symm,q.2.symm⟩
     rw [hoth a' b' ha' hb' e'] at h2
     rcases hloc with hl | ⟨g',hl,hge⟩
     . rw [hl] at hg
       exact h.sep a b a' b' ha hb ha' hb' hne v0 v' g hv0 h2 hg
     . rw [hl] at hg
       injection hg with hg
       intro hv';have:=hlow a' b' ha' hb' v' g h2 hv'
       omega
   . rw [hoth a b ha hb e] at h1
     by_cases e':a'=a0/\b'=b0
     . obtain⟨rfl,rfl⟩:=e'
       rw [hput] at h2;injection h2 with h2
       subst h2
       rcases hloc with hl | ⟨g',hl,hge⟩
       . rw [hl]
         exact h.sep a b a' b' ha hb ha' hb' e v v0 g h1 hv0 hg
       . rw [hl]
         intro q;injection q with q
         have:=hlow a b ha hb v g h1 hg
         omega
     . rw [hoth a' b' ha' hb' e'] at h2
       exact h.sep a b a' b' ha hb ha' hb' hne v v' g h1 h2 hg
def Off (D:DataW Value) (No:Nat->Prop):Prop:=∀ a b:Zy_,a.size<=maxLen->b.size<=maxLen->∀ v g,D.atKey (ZbY a b) (.held (.slice none 0 0))=.held v->v.ownBlock=some g->¬ No g
theorem Grp.lt {D:DataW Value}{G:Zy_->Zy_->List Int} (h:Grp w base D G) {a b:Zy_} (ha:a.size<=maxLen) (hb:b.size<=maxLen) {v:Value} {g:Nat} (hv:D.atKey (ZbY a b) (.held (.slice none 0 0))=.held v) (hg:v.ownBlock=some g) :
 base<=g/\g < w.heap.size/\∃ o,w.heap[g]?=some o/\o.isCells=true:=by
 obtain⟨v',h1,h2⟩:=h.at' a b ha hb;rw [hv] at h1;injection h1 with h1
 subst h1
 rcases h2.2 with ⟨rfl,-⟩ | ⟨g',_,cur,rfl,h3,h4,_⟩
 . cases hg
 . injection hg with hg
   have hg:g'=g:=hg;subst hg;exact⟨h3,(Array.getElem?_eq_some_iff.1 h4).1,_,h4,rfl⟩
theorem Grp.off {D:DataW Value}{G:Zy_->Zy_->List Int} (h:Grp w base D G) {No:Nat->Prop} (hn:∀ k,No k->w.heap.size<=k):Off D No:=fun a b ha hb v g hv hg hno=>by
 have:=(h.lt ha hb hv hg).2.1;have:=hn g hno
 omega
theorem ZlW {K T S:TypeId} (L:WideMaps.KeyLaw P K) (hk2:ZdY P K 9) (hT:P.underlying T=some (.map K S)) (hS:P.underlying S=some (.slice 3)) (hz:∀ u:World,(zeroValue S).run P u=.ok (.slice none 0 0) u)
 (i0:TypeInfo) (hi:P.info? 3=some i0) (hz0:i0.zero=some (.int .i64 0)) (hz1:i0.size=1) (hz2:i0.bytes=8)
 {W:World} {mb n base:Nat} {D:DataW Value} {G G':Zy_->Zy_->List Int} {No:Nat->Prop} (ho:W.ownsMap P K Zg8 mb n D) (hg:Grp W base D G) (hoff:Off D No) (hno:∀ k,No k->k < W.heap.size) (hmb:mb < base) (hbs:base<=W.heap.size) (hn:n < maxLen)
 {a b:Zy_} (ha:a.size<=maxLen) (hb:b.size<=maxLen) (i:Int) (hlen:(G a b).length<=1099511627776) (hG:G' a b=G a b ++ [i]) (hG':∀ a' b',¬ (a'=a/\b'=b)->G' a' b'=G a' b') :
 ∃ (v0:Value) (st:Nat) (w1:World) (v1:Value) (w2 w3:World) (D':DataW Value),(Instr.mapEntry T (.map (some mb)) (.agg #[.string a,.string b])).run P (W.alloc (.cells #[.int .i64 i] 3))=.ok (.tuple #[v0,goInt st]) w1/\
  (Builtin.append_ #[S,S] S #[v0,.slice (some ⟨W.heap.size,0,none⟩) 1 1]).run P w1=.ok v1 w2/\(Instr.entryStore T (.map (some mb)) (goInt st) v1).run P w2=.ok () w3/\
  w3.ownsMap P K Zg8 mb (n+1) D'/\Grp w3 base D' G'/\Off D' No/\w3.os=W.os/\w3.tape=W.tape/\w3.output=W.output/\W.heap.size<=w3.heap.size/\
  ∀ k o,W.heap[k]?=some o->k≠mb->(k < base\/No k\/o.isCells=false)->w3.heap[k]?=some o:=by
 obtain⟨v0,st,w1,hrun,hat,hg1,hs1,hst⟩:=Znw L hT hz (ho.alloc (.cells #[.int .i64 i] 3)) hn (hk2.mk' ha hb);obtain⟨v,h1,hrow⟩:=hg.at' a b ha hb;rw [hat] at h1;injection h1 with h1
 subst h1;have hlow:∀ g,v0.ownBlock=some g->base<=g/\g < W.heap.size/\∃ o,W.heap[g]?=some o/\o.isCells=true:=fun g e=>hg.lt ha hb hat e
 have hga:=World.grownBy_alloc W (.cells #[.int .i64 i] 3) none;have hsa:(W.alloc (.cells #[.int .i64 i] 3)).heap.size=W.heap.size+1:=by simp
 have hrow1:w1.ownsRow base 3 1 v0 (G a b).length ((G a b).map (Value.int .i64)):=Zfn (Zfn hrow hga (fun g _ e=>by cases e)) hg1 (fun g e e'=>by have:=(hlow g e).1;injection e' with e';omega)
 have hcell:∀ j u,([Value.int .i64 i]:List Value)[j]?=some u->w1.cell? ((⟨W.heap.size,0,none⟩:Addr).add j)=some u:=fun j u hu=>by
  have hj:j=0:=by
   cases j with
   | zero=>rfl
   | succ j=>simp at hu
  subst hj;have e1:w1.heap[W.heap.size]?=(W.alloc (.cells #[.int .i64 i] 3)).heap[W.heap.size]?:=hg1.block _ (by omega) (fun e=>by injection e with e;omega);rw [World.cell?_of_block (w:=W.alloc (.cells #[.int .i64 i] 3)) (a:=(⟨W.heap.size,0,none⟩:Addr).add 0) e1];have:=Zbb W #[.int .i64 i] 3 W.heap.size 0 rfl;simp at hu;rw [<- hu];exact this
 obtain⟨v1,w2,hrun2,hrow2,hg2,-,hloc⟩:=run_append_own_at (P:=P) (w:=w1) base S S 3 i0 (.int .i64 0) 1 8 hS hi hz0 hz1 hz2 rfl (by decide) v0 (G a b).length ((G a b).map (Value.int .i64)) hrow1 ⟨W.heap.size,0,none⟩ 1 1 [.int .i64 i] rfl hcell (fun u hu=>by simp at hu;subst hu;rfl) (by unfold maxLen;omega) (by omega) (by omega);have hmb2:w2.heap[mb]?=w1.heap[mb]?:=hg2.block mb (by omega) (fun e=>by have:=(hlow mb e.symm).1;omega);obtain⟨w3,hrun3,ho3,hg3,hs3⟩:=hst w2 v1 hmb2;have hsz2:=hg2.size;have hG1:(G' a b).map (Value.int .i64)=(G a b).map (Value.int .i64) ++ [.int .i64 i]:=by rw [hG];simp
 have hG2:(G' a b).length=(G a b).length+1:=by rw [hG];simp
 have hloc1:∀ g,v1.ownBlock=some g->g≠mb:=fun g e=>by
  rcases hloc with hl | hl
  . rw [hl] at e
    have:=(hlow g e).1
    omega
  . rw [hl] at e
    injection e with e
    omega
 have hrow3:w3.ownsRow base 3 1 v1 (G' a b).length ((G' a b).map (Value.int .i64)):=by
  rw [hG1,hG2];exact Zfn hrow2 hg3 (fun g e e'=>by injection e' with e';exact hloc1 g e e')
 have hkeep:∀ k,k < W.heap.size->k≠mb->v0.ownBlock≠some k->w3.heap[k]?=W.heap[k]?:=fun k hk h1 h2=>
  (hg3.block k (by omega) (fun e=>by injection e with e;exact h1 e)).trans ((hg2.block k (by omega) (fun e=>h2 e.symm)).trans ((hg1.block k (by omega) (fun e=>by injection e with e;exact h1 e)).trans (hga.block k hk (fun e=>by cases e))))
 refine⟨v0,st,w1,v1,w2,w3,_,hrun,hrun2,hrun3,ho3,?_,?_,hg3.os.trans (hg2.os.trans (hg1.os.trans hga.os)),hg3.tape.trans (hg2.tape.trans (hg1.tape.trans hga.tape)),hg3.output.trans (hg2.output.trans (hg1.output.trans hga.output)),by omega,fun k o hko h1 h2=>?_⟩
 . refine hg.step ha hb hat hG hG' hrow3 ?_ (fun g h1 h2 h3=>hkeep g h1 (by omega) h3)
   rcases hloc with hl | hl
   . exact Or.inl hl
   . exact Or.inr ⟨_,hl,by omega⟩
 . intro a' b' ha' hb' v g hv hgv
   by_cases e:a'=a/\b'=b
   . obtain⟨rfl,rfl⟩:=e
     rw [atKey_put_same hg.isMap (by trivial)] at hv;injection hv with hv
     subst hv
     rcases hloc with hl | hl
     . rw [hl] at hgv
       exact hoff a' b' ha' hb' _ g hat hgv
     . rw [hl] at hgv
       injection hgv with hgv
       intro h;have:=hno g h
       omega
   . rw [atKey_put_other (fun e'=>e (ZdZ.inj ZfT ha' hb' ha hb e'))] at hv
     exact hoff a' b' ha' hb' v g hv hgv
 . have hlt:k < W.heap.size:=(Array.getElem?_eq_some_iff.1 hko).1
   rw [hkeep k hlt h1 (fun e=>?_)]
   . exact hko
   . obtain⟨g1,_,o',g3,g4⟩:=hlow k e
     rcases h2 with h2 | h2 | h2
     . omega
     . exact hoff a b ha hb _ k hat e h2
     . rw [hko] at g3
       injection g3 with g3
       rw [<- g3,h2] at g4
       cases g4
end
open Go.RowKit Go.Deep
variable {lo B k hi n:Nat} {w wr w1 w':World} {v:Value} {Ms:List Md}
theorem Tryz.info133:(prog.info? 133).map (fun i=>(i.zero,i.size,i.bytes))=some (some (.agg #[.string ⟨#[]⟩,.string ⟨#[]⟩,.string ⟨#[]⟩,.string ⟨#[]⟩,.string ⟨#[]⟩,.string ⟨#[]⟩]),6,96):=by kernel_rfl
theorem Za7.setCell (h:Za7 lo w v Ms) {p:Addr} (hp:p.block < lo) (u:Value):Za7 lo (w.setCell p u) v Ms:=by
 rcases h with h | ⟨b,off,cap,h1,h2,h3,h4,h5,h6,h7⟩
 . exact Or.inl h
 . refine Or.inr ⟨b,off,cap,h1,h2,h3,by simpa [World.setCell] using h4,h5,h6,fun i hi=>?_⟩
   obtain⟨hs,hc⟩:=h7 i hi;have e:∀ o,(w.setCell p u).cell? ⟨b,o,none⟩=w.cell? ⟨b,o,none⟩:=fun o=>Zar _ _ _ _ (by show b≠p.block;omega)
   exact⟨hs,by rw [e];exact hc.c0,by rw [e];exact hc.c1,by rw [e];exact hc.c2,by rw [e];exact hc.c3,by rw [e];exact hc.c4,by rw [e];exact hc.c5⟩
def Zbt (wr:World) (B:Nat) (Ms:List Md) (k:Nat):Prop:=
 ∃ f,wr.rowIs B 133 (Ms.length*6) f/\∀ i (h:i < Ms.length),i < k->ZdK Ms[i]/\f (i*6)=.string Ms[i].kind/\f (i*6+1)=.string Ms[i].field/\f (i*6+2)=.string Ms[i].wh/\f (i*6+3)=.string Ms[i].is/\f (i*6+4)=.string Ms[i].put/\f (i*6+5)=.string Ms[i].fr
theorem Zbt.below (h:Zbt wr B Ms k) (hb:Below wr.heap.size wr w1):Zbt w1 B Ms k:=by
 obtain⟨f,hr,hall⟩:=h;exact⟨f,hr.of_block (hb.block B hr.lt),hall⟩
theorem Zbt.free (h:Zbt wr B Ms k) (i:Nat):wr.frozen? ⟨B,i,none⟩=false:=by
 obtain⟨f,hr,_⟩:=h;exact hr.frozen i
theorem Zbt.there (h:Zbt wr B Ms k) (i:Nat) (hi:i < Ms.length*6):∃ v,wr.cell? ⟨B,i,none⟩=some v:=by
 obtain⟨f,hr,_⟩:=h;exact⟨_,hr.cell hi⟩
theorem Zbt.lt (h:Zbt wr B Ms k):B < wr.heap.size:=by
 obtain⟨f,hr,_⟩:=h;exact hr.lt
theorem Zbt.step (h:Zbt w1 B Ms k) (hk:k < Ms.length) (hz:ZdK Ms[k]) :
 Zbt ((((((w1.setCell ⟨B,k*6,none⟩ (.string Ms[k].kind)).setCell ⟨B,k*6+1,none⟩ (.string Ms[k].field)).setCell ⟨B,k*6+2,none⟩ (.string Ms[k].wh)).setCell ⟨B,k*6+3,none⟩ (.string Ms[k].is)).setCell ⟨B,k*6+4,none⟩ (.string Ms[k].put)).setCell ⟨B,k*6+5,none⟩ (.string Ms[k].fr)) B Ms (k+1):=by
 obtain⟨f,hr,hall⟩:=h;refine⟨_,((((((hr.set _ _).set _ _).set _ _).set _ _).set _ _).set _ _),fun i hi hik=>?_⟩
 by_cases e:i=k
 . subst e
   exact⟨hz,by simp,by simp,by simp,by simp,by simp,by simp⟩
 . obtain⟨hz',h0,h1,h2,h3,h4,h5⟩:=hall i hi (by omega)
   refine⟨hz',?_,?_,?_,?_,?_,?_⟩
   . rw [if_neg (by omega),if_neg (by omega),if_neg (by omega),if_neg (by omega),if_neg (by omega),if_neg (by omega)];exact h0
   . rw [if_neg (by omega),if_neg (by omega),if_neg (by omega),if_neg (by omega),if_neg (by omega),if_neg (by omega)];exact h1
   . rw [if_neg (by omega),if_neg (by omega),if_neg (by omega),if_neg (by omega),if_neg (by omega),if_neg (by omega)];exact h2
   . rw [if_neg (by omega),if_neg (by omega),if_neg (by omega),if_neg (by omega),if_neg (by omega),if_neg (by omega)];exact h3
   . rw [if_neg (by omega),if_neg (by omega),if_neg (by omega),if_neg (by omega),if_neg (by omega),if_neg (by omega)];exact h4
   . rw [if_neg (by omega),if_neg (by omega),if_neg (by omega),if_neg (by omega),if_neg (by omega),if_neg (by omega)];exact h5
def ZoU (lo hi:Nat) (w:World) (v:Value) (n:Nat):Prop:=
 (∃ (a:Option Addr) (cap:Nat),v=.slice a 0 cap/\n=0)\/
 ∃ (b off cap:Nat),v=.slice (some ⟨b,off,none⟩) n cap/\0 < n/\n<=maxLen/\lo<=b/\b < hi/\b < w.heap.size/\(∀ i,i < n*6->(w.cell? ⟨b,off+i,none⟩).isSome=true)/\∀ i,w.frozen? ⟨b,i,none⟩=false
theorem ZoU.kept {lo' hi':Nat} (h:ZoU lo hi w v n) (k:ZbF lo' hi' w w'):ZoU lo hi w' v n:=by
 rcases h with h | ⟨b,off,cap,h1,h2,h3,h4,h5,h6,h7,h8⟩
 . exact Or.inl h
 . exact Or.inr ⟨b,off,cap,h1,h2,h3,h4,h5,Zk_ h6 k.touch.size,fun i hi'=>k.there _ h6 (h7 i hi'),fun i=>(k.frz _ h6).trans (h8 i)⟩
theorem ZoU.below (h:ZoU lo hi w v n) (hb:Zw_ w w'):ZoU lo hi w' v n:=h.kept (ZbF.below (lo:=0) (hi:=0) hb)
theorem Zbt.done (h:Zbt wr B Ms k) (hk:Ms.length<=k) (hne:Ms≠[]) (hm:Ms.length<=maxLen):Za7 B wr (.slice (some ⟨B,0,none⟩) Ms.length Ms.length) Ms/\ZoU B wr.heap.size wr (.slice (some ⟨B,0,none⟩) Ms.length Ms.length) Ms.length:=by
 refine⟨?_,Or.inr ⟨B,0,Ms.length,rfl,List.length_pos_iff.2 hne,hm,Nat.le_refl _,h.lt,h.lt,fun i hi=>?_,h.free⟩⟩
 . obtain⟨f,hr,hall⟩:=h
   refine Or.inr ⟨B,0,Ms.length,rfl,hne,hm,hr.lt,Nat.le_refl _,Nat.le_refl _,fun i hi=>?_⟩;obtain⟨hz,h0,h1,h2,h3,h4,h5⟩:=hall i hi (by omega);rw [Nat.zero_add];exact⟨hz,by rw [hr.cell (by omega),h0],by rw [hr.cell (by omega),h1],by rw [hr.cell (by omega),h2],by rw [hr.cell (by omega),h3],by rw [hr.cell (by omega),h4],by rw [hr.cell (by omega),h5]⟩
 . obtain⟨v,hv⟩:=h.there i hi;rw [Nat.zero_add,hv];rfl
theorem Zbt.new (w:World) (Ms:List Md) (z:Array Value):Zbt (w.alloc (.cells (madeCells z (Ms.length*6)) 133)) w.heap.size Ms 0:=by
 refine⟨fun i=>(madeCells z (Ms.length*6)).getD i default,?_,fun i _ h=>by omega⟩;have:=World.rowIs_alloc w (madeCells z (Ms.length*6)) 133 (fun i=>(madeCells z (Ms.length*6)).getD i default) (fun i hi=>by simp [Array.getD,hi])
 rwa [size_madeCells] at this
theorem Zh2 (lo:Nat) (v:Value) (Ms:List Md) (w:World) (hv:Za7 lo w v Ms) (hn:Ms.length<=1048576) :
 Calls prog 37 #[v] w fun e w'=>∃ v',e=.returned v'/\Zw_ w w'/\Za7 w.heap.size w' v' Ms/\ZoU w.heap.size w'.heap.size w' v' Ms.length:=by
 obtain⟨i0,hi,hz0,hz1,hz2⟩:=info_parts Tryz.info133
 by_cases hL:Ms=[]
 . subst hL
   obtain⟨a,cap,rfl⟩:=hv.form;clear hv
   have hmk:∀ u:World,(Instr.makeSlice 38 (.int .i64 0) (.int .i64 0)).run prog u=.ok (.slice (some ⟨u.heap.size,0,none⟩) 0 0) (u.alloc (.cells (madeCells (Value.cells (.agg #[.string ⟨#[]⟩,.string ⟨#[]⟩,.string ⟨#[]⟩,.string ⟨#[]⟩,.string ⟨#[]⟩,.string ⟨#[]⟩])) 0) 133)):=fun u=>by
    have h:=run_make (P:=prog) u 38 133 i0 _ underlying38 hi hz0 .i64 .i64 0 0 (by omega) (by omega) (by omega) (by omega)
    simpa [hz1] using h
   go_enter func37,ntmps37;go_wp2
   go_loop [4] (fun i=>i=.int .i64 0) (fun _=>0)
   case atStart=>rfl
   case round=>
    subst hrel;go_wp2;go_ret;exact⟨_,rfl,Zb_.alloc Zl_ _,Or.inl ⟨_,_,rfl,rfl⟩,Or.inl ⟨_,_,rfl,rfl⟩⟩
 . obtain⟨b,off,cap,rfl,hm,hbw,_,hc⟩:=hv.full hL
   clear hv;have HM:Hd (Ms.length<=maxLen):=hm;unfold maxLen at hm
   have hmk:∀ u:World,(Instr.makeSlice 38 (.int .i64 (Ms.length:Int)) (.int .i64 (Ms.length:Int))).run prog u=.ok (.slice (some ⟨u.heap.size,0,none⟩) Ms.length Ms.length) (u.alloc (.cells (madeCells (Value.cells (.agg #[.string ⟨#[]⟩,.string ⟨#[]⟩,.string ⟨#[]⟩,.string ⟨#[]⟩,.string ⟨#[]⟩,.string ⟨#[]⟩])) (Ms.length*6)) 133)):=fun u=>by
    have h:=run_make (P:=prog) u 38 133 i0 _ underlying38 hi hz0 .i64 .i64 Ms.length Ms.length (by omega) (by omega) (by rw [hz2];omega) (by omega);rw [hz1] at h
    simpa using h
   clear hi hz0 hz1 hz2;go_enter func37,ntmps37;go_wp2;clear hmk
   go_loopw [4] (fun i wr=>∃ k:Nat,i=.int .i64 k/\k<=Ms.length/\Zw_ w wr/\Zbt wr w.heap.size Ms k) (fun i _=>Ms.length - (intOf i).toNat)
   case atStart=>exact⟨0,rfl,by omega,Zb_.alloc Zl_ _,Zbt.new w Ms _⟩
   case round=>
    obtain⟨k,rfl,hk,hb,hf⟩:=hrel
    by_cases hlt:k < Ms.length
    . obtain⟨hsz,hcell⟩:=hc k hlt
      obtain⟨c0,c1,c2,c3,c4,c5⟩:=hcell.below hb hbw;clear hcell;go_wp2_with fail;refine (ZmP _ _ _ _ _ _ _).mono ?_;rintro e w1 ⟨rfl,hb1⟩;have hf1:=hf.below hb1;have HST:=Zab (hf1.step hlt hsz);have hB:Hd (Zw_ w w1):=hb.trans (hb1.mono hb.size);have hfr:=hf1.free;obtain⟨o0,ho0⟩:=hf1.there (k*6) (by omega);obtain⟨o1,ho1⟩:=hf1.there (k*6+1) (by omega);obtain⟨o2,ho2⟩:=hf1.there (k*6+2) (by omega);obtain⟨o3,ho3⟩:=hf1.there (k*6+3) (by omega);obtain⟨o4,ho4⟩:=hf1.there (k*6+4) (by omega);obtain⟨o5,ho5⟩:=hf1.there (k*6+5) (by omega);clear hf hf1 hb1 hb c0 c1 c2 c3 c4 c5;go_wp2;go_roundw
      . 
       exact⟨k+1,by go_num,by omega,((((((hB.o.setCell Zl_ _).setCell Zl_ _).setCell Zl_ _).setCell Zl_ _).setCell Zl_ _).setCell Zl_ _),HST.o⟩
      . simp [intOf];omega
    . go_wp2
      go_ret;have hd:=hf.done (by omega) hL HM.o;exact⟨_,rfl,hb,hd.1,hd.2⟩
theorem Zkr (lo hi:Nat) (v:Value) (n:Nat) (k:Int) (w:World) (hv:ZoU lo hi w v n) (h0:0<=k) (hn:n<=1048576) (hk:k<=1500000000000000000) :
 Calls prog 53 #[v,.int .i64 k] w fun e w'=>∃ r:Int,e=.returned (.int .i64 r)/\k<=r/\r<=1600000000000000000/\ZbF lo hi w w':=by
 rcases hv with ⟨a,cap,rfl,rfl⟩ | ⟨b,off,cap,rfl,hne,hm,hlo,hhi,hbw,hcs,hfr⟩
 . go_enter func53,ntmps53
   go_wp2
   go_loop [5,1] (fun i q=>i=.int .i64 0/\q=.int .i64 k) (fun _ _=>0)
   case atStart=>exact⟨rfl,rfl⟩
   case round=>
    obtain⟨rfl,rfl⟩:=hrel;go_wp2;go_ret;exact⟨k,rfl,by omega,by omega,ZbF.refl _ _ _⟩
 . unfold maxLen at hm
   have HC:=Zab hcs;have HFR:=Zab hfr;clear hcs hfr
   have hput:∀ (W:World) (j c:Nat) (u:Value),ZbF lo hi w W->j < n->c < 6->ZbF lo hi w (W.setCell ⟨b,off+j*6+c,none⟩ u):=fun W j c u hW hj hc=>
    hW.trans (ZbF.setCell lo hi W _ u ⟨hlo,hhi⟩ (hW.there _ hbw (by rw [Nat.add_assoc];exact HC.o _ (by omega))))
   have hput0:∀ (W:World) (j:Nat) (u:Value),ZbF lo hi w W->j < n->ZbF lo hi w (W.setCell ⟨b,off+j*6,none⟩ u):=fun W j u hW hj=>hput W j 0 u hW hj (by omega)
   have hget:∀ (W:World) (j c:Nat),ZbF lo hi w W->j < n->c < 6->∃ u,W.cell? ⟨b,off+j*6+c,none⟩=some u:=fun W j c hW hj hc=>
    Option.isSome_iff_exists.1 (hW.there _ hbw (by rw [Nat.add_assoc];exact HC.o _ (by omega)))
   have hfree:∀ (W:World),ZbF lo hi w W->∀ i,W.frozen? ⟨b,i,none⟩=false:=fun W hW i=>(hW.frz _ hbw).trans (HFR.o i)
   have HP:=Zab hput;have HP0:=Zab hput0;have HG:=Zab hget;have HF:=Zab hfree;clear hput hput0 hget hfree;go_enter func53,ntmps53;go_wp2
   go_loopw [5,1] (fun i q wr=>∃ (j:Nat),i=.int .i64 j/\q=.int .i64 (k+j*6)/\j<=n/\ZbF lo hi w wr) (fun i _ _=>n - (intOf i).toNat)
   case atStart=>exact⟨0,rfl,by simp,by omega,ZbF.refl _ _ _⟩
   case round=>
    obtain⟨j,rfl,rfl,hj,hkp⟩:=hrel;have HK:=Zab hkp;clear hkp
    by_cases hlt:j < n
    . go_wp2_with fail
      refine (Zal _ _ (by omega)).mono ?_;rintro e w1 ⟨rfl,hb1⟩;have HK1:=Zab (HK.o.trans (ZbF.below hb1));clear hb1 HK;obtain⟨u0,g0⟩:=HG.o w1 j 0 HK1.o hlt (by omega);rw [Nat.add_zero] at g0;have gf:=HF.o w1 HK1.o;go_wp2_with fail;have HX1:=Zab (HP0.o w1 j (.string (mtB (k+j*6))) HK1.o hlt);clear g0 gf HK1;refine (Zal _ _ (by omega)).mono ?_;rintro e w2 ⟨rfl,hb2⟩;have HK2:=Zab (HX1.o.trans (ZbF.below hb2));clear hb2 HX1;obtain⟨u1,g1⟩:=HG.o w2 j 1 HK2.o hlt (by omega);have gf:=HF.o w2 HK2.o;go_wp2_with fail;have HX2:=Zab (HP.o w2 j 1 (.string (mtB (k+j*6+1))) HK2.o hlt (by omega));clear g1 gf HK2;refine (Zal _ _ (by omega)).mono ?_;rintro e w3 ⟨rfl,hb3⟩;have HK3:=Zab (HX2.o.trans (ZbF.below hb3));clear hb3 HX2;obtain⟨u2,g2⟩:=HG.o w3 j 2 HK3.o hlt (by omega);have gf:=HF.o w3 HK3.o;go_wp2_with fail
      have HX3:=Zab (HP.o w3 j 2 (.string (mtB (k+j*6+1+1))) HK3.o hlt (by omega));clear g2 gf HK3;refine (Zal _ _ (by omega)).mono ?_;rintro e w4 ⟨rfl,hb4⟩;have HK4:=Zab (HX3.o.trans (ZbF.below hb4));clear hb4 HX3;obtain⟨u3,g3⟩:=HG.o w4 j 3 HK4.o hlt (by omega);have gf:=HF.o w4 HK4.o;go_wp2_with fail;have HX4:=Zab (HP.o w4 j 3 (.string (mtB (k+j*6+1+1+1))) HK4.o hlt (by omega));clear g3 gf HK4;refine (Zal _ _ (by omega)).mono ?_;rintro e w5 ⟨rfl,hb5⟩;have HK5:=Zab (HX4.o.trans (ZbF.below hb5));clear hb5 HX4;obtain⟨u4,g4⟩:=HG.o w5 j 4 HK5.o hlt (by omega);have gf:=HF.o w5 HK5.o;go_wp2_with fail;have HX5:=Zab (HP.o w5 j 4 (.string (mtB (k+j*6+1+1+1+1))) HK5.o hlt (by omega));clear g4 gf HK5;refine (Zal _ _ (by omega)).mono ?_;rintro e w6 ⟨rfl,hb6⟩;have HK6:=Zab (HX5.o.trans (ZbF.below hb6));clear hb6 HX5
      obtain⟨u5,g5⟩:=HG.o w6 j 5 HK6.o hlt (by omega);have gf:=HF.o w6 HK6.o;have HX6:=Zab (HP.o w6 j 5 (.string (mtB (k+j*6+1+1+1+1+1))) HK6.o hlt (by omega));go_wp2;go_roundw
      . exact⟨j+1,by go_num,by go_num,by omega,HX6.o⟩
      . simp [intOf];omega
    . have e:j=n:=by omega
      subst e;go_wp2;go_ret;exact⟨_,rfl,by omega,by omega,HK.o⟩
end Go.Proofs.YtmappejlmapboaaGreat
