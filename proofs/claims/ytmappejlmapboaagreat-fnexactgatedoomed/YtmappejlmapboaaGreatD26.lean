import Derived.Test.YtmappejlmapboaaGreatD25
import Derived.Maps.AppendAt
import Derived.RangeFuncWrites
set_option maxHeartbeats 16000000
set_option maxRecDepth 100000
open Go.Proofs.Tryz
namespace Go.Proofs.YtmappejlmapboaaGreat
section
open Go.RowKit Go.Deep Go.Maps Go.ChangeMaps Go.MapKept
open Go.WideElems (Fit)
variable {P:Program} {w w':World} {base:Nat}
def Zcu (v:Value):Option (DataW Value×List MemPlace):=some (.held v,[])
theorem ZrS {es:List MapEntry} (h:(es.map (·.key)).Nodup) {x y:MapEntry} (hx:x ∈ es) (hy:y ∈ es) (e:x.key=y.key):x=y:=by
 induction es with
 | nil=>cases hx
 | cons a r ih=>
  rw [List.map_cons,List.nodup_cons] at h
  rcases List.mem_cons.1 hx with rfl | hx'
  . rcases List.mem_cons.1 hy with rfl | hy'
    . rfl
    . exact absurd (List.mem_map.2 ⟨y,hy',e.symm⟩:x.key ∈ r.map (·.key)) h.1
  . rcases List.mem_cons.1 hy with rfl | hy'
    . exact absurd (List.mem_map.2 ⟨x,hx',e⟩:y.key ∈ r.map (·.key)) h.1
    . exact ih h.2 hx' hy'
theorem Zp6 {t k e:TypeId} (L:WideMaps.KeyLaw P k) (ht:P.underlying t=some (.map k e)) {z:Value} (hz:∀ u:World,(zeroValue e).run P u=.ok z u) {b n:Nat} {D:DataW Value} (h:w.ownsMap P k Zcu b n D) (hn:n < maxLen)
 {key:Value} {kl:Lit} (hkey:keyOf P k key=some kl) :
 ∃ (v0:Value) (st:Nat) (w1:World),(Instr.mapEntry t (.map (some b)) key).run P w=.ok (.tuple #[v0,goInt st]) w1/\D.atKey kl (.held z)=.held v0/\w.grownBy w1 (some b)/\w1.heap.size=w.heap.size/\
  ∀ (W:World) (val:Value),W.heap[b]?=w1.heap[b]?->∃ W2,(Instr.entryStore t (.map (some b)) (goInt st) val).run P W=.ok () W2/\W2.ownsMap P k Zcu b (n+1) (D.put kl (.held val))/\W.grownBy W2 (some b)/\W2.heap.size=W.heap.size:=by
 have K:Keyed P k:=Keyed.of_law L;have hups:∀ val:Value,_:=fun val=>h.update K ht hn hkey (val:=val) (d:=.held val) (ps:=[]) rfl
 obtain⟨es,clock,hb,F,hs,hD⟩:=h;obtain⟨v0,st,es1,clock1,hrun,hv,hst⟩:=WideElems.entry_then_store L ht hz hb F hkey
 have hat:D.atKey kl (.held z)=.held v0:=by
  rw [hD]
  rcases Maps.fit_look (R:=Zcu) false K ht (hz w) hb F hkey with ⟨-,hno,ha⟩ | ⟨e0,y,he0,hk0,-,hy,ha,-⟩
  . rcases hv with ⟨x,hx,hxk,-⟩ | ⟨-,rfl⟩
    . exact absurd hxk (hno x hx)
    . exact ha _
  . rcases hv with ⟨x,hx,hxk,rfl⟩ | ⟨hno,-⟩
    . have e:=ZrS F.stamped.2.2 hx he0 (hxk.trans hk0.symm)
      subst e;rw [ha];have:some (DataW.held x.val,([]:List MemPlace))=some y:=hy;injection this with this
      rw [<- this]
    . exact absurd hk0 (hno e0 he0)
 have hone:∀ (X:World) (x:Array MapEntry) (c:Nat) (o':Obj),X.heap[b]?=some (.map x c)->(setBlock X b o').heap[b]?=some o':=fun X x c o' hX=>heap_setBlock_same hX _
 have hgr:∀ (X:World) (x:Array MapEntry) (c:Nat) (o':Obj),X.heap[b]?=some (.map x c)->X.grownBy (setBlock X b o') (some b):=fun X x c o' hX=>⟨rfl,rfl,rfl,by simp [setBlock],fun i _ hi=>heap_setBlock_other hX _ (fun e=>hi (by rw [e]))⟩
 refine⟨v0,st,_,hrun,hat,hgr w _ _ _ hb,by simp [setBlock],fun W val hW=>?_⟩;rw [hone w _ _ _ hb] at hW;obtain⟨es',clock',h1,h2⟩:=hst W val hW;refine⟨_,h1,?_,hgr W _ _ _ hW,by simp [setBlock]⟩;obtain⟨w',hr',ho',-⟩:=hups val;rw [h2] at hr';injection hr' with _ e2
 subst e2;obtain⟨es2,c2,g1,g2,g3,g4⟩:=ho';exact⟨es2,c2,by rw [hone W _ _ _ hW];rw [hone w _ _ _ hb] at g1;exact g1,g2,g3,g4⟩
structure Grp (w:World) (base:Nat) (D:DataW Value) (G:Zy_->Zy_->List Int):Prop where
 isMap:IsMap D
 at':∀ a b:Zy_,a.size<=maxLen->b.size<=maxLen->∃ v,D.atKey (ZbI a b) (.held (.slice none 0 0))=.held v/\w.ownsRow base 3 1 v (G a b).length ((G a b).map (Value.int .i64))
 sep:∀ a b a' b':Zy_,a.size<=maxLen->b.size<=maxLen->a'.size<=maxLen->b'.size<=maxLen->¬ (a=a'/\b=b')->∀ v v' g,D.atKey (ZbI a b) (.held (.slice none 0 0))=.held v->D.atKey (ZbI a' b') (.held (.slice none 0 0))=.held v'->v.ownBlock=some g->v'.ownBlock≠some g
theorem Grp.start (w:World) (base:Nat):Grp w base (.map []) (fun _ _=>[]):=
 ⟨⟨[],rfl⟩,fun a b _ _=>⟨.slice none 0 0,rfl,rfl,Or.inl ⟨rfl,rfl⟩⟩,fun a b a' b' _ _ _ _ _ v v' g h1 _ hg=>by
  have:(DataW.held (Value.slice none 0 0):DataW Value)=.held v:=h1;injection this with e
  rw [<- e] at hg
  cases hg⟩
theorem ZdC {v:Value}{n:Nat}{xs:List Value} (h:w.ownsRow base 3 1 v n xs) {row:Option Nat} (hg:w.grownBy w' row) (hne:∀ g,v.ownBlock=some g->some g≠row):w'.ownsRow base 3 1 v n xs:=by
 obtain⟨h1,h2⟩:=h;refine⟨h1,?_⟩
 rcases h2 with h2 | ⟨g,cap,cur,rfl,h3,h4,h5⟩
 . exact Or.inl h2
 . have hlt:g < w.heap.size:=(Array.getElem?_eq_some_iff.1 h4).1
   exact Or.inr ⟨g,cap,cur,rfl,h3,(hg.block g hlt (hne g rfl)).trans h4,h5⟩
theorem Grp.keep' {D:DataW Value}{G:Zy_->Zy_->List Int} (h:Grp w base D G) {row:Option Nat} (hg:w.grownBy w' row) (hr:∀ r,row=some r->r < base\/∃ o:Obj,w.heap[r]?=some o/\o.isCells=false):Grp w' base D G:=
 ⟨h.isMap,fun a b ha hb=>by
  obtain⟨v,h1,h2⟩:=h.at' a b ha hb;refine⟨v,h1,ZdC h2 hg fun g hv e=>?_⟩
  rcases h2.2 with ⟨rfl,-⟩ | ⟨g',_,cur,rfl,h3,h4,_⟩
  . cases hv
  . injection hv with hv
    have hv:g'=g:=hv;subst hv
    rcases hr g' e.symm with h5 | ⟨o,h5,h6⟩
    . omega
    . rw [h4] at h5
      injection h5 with h5
      rw [<- h5] at h6;exact absurd h6 (by simp [Obj.isCells]),h.sep⟩
theorem Grp.step {W:World}{D:DataW Value}{G G':Zy_->Zy_->List Int} (h:Grp w base D G) {a0 b0:Zy_} (ha0:a0.size<=maxLen) (hb0:b0.size<=maxLen) {v0 v1:Value} (hv0:D.atKey (ZbI a0 b0) (.held (.slice none 0 0))=.held v0)
 {i:Int} (hG:G' a0 b0=G a0 b0 ++ [i]) (hG':∀ a b,¬ (a=a0/\b=b0)->G' a b=G a b)
 (hr:W.ownsRow base 3 1 v1 (G' a0 b0).length ((G' a0 b0).map (Value.int .i64))) (hloc:v1.ownBlock=v0.ownBlock\/∃ g,v1.ownBlock=some g/\w.heap.size<=g)
 (hk:∀ g,g < w.heap.size->base<=g->v0.ownBlock≠some g->W.heap[g]?=w.heap[g]?):Grp W base (D.put (ZbI a0 b0) (.held v1)) G':=by
 have hput:∀ z,(D.put (ZbI a0 b0) (.held v1)).atKey (ZbI a0 b0) z=.held v1:=fun z=>atKey_put_same h.isMap (by trivial) _ _
 have hoth:∀ a b:Zy_,a.size<=maxLen->b.size<=maxLen->¬ (a=a0/\b=b0)->∀ z,(D.put (ZbI a0 b0) (.held v1)).atKey (ZbI a b) z=D.atKey (ZbI a b) z:=fun a b ha hb e z=>
  atKey_put_other (fun e'=>e ((Zet.inj Zf0 ha hb ha0 hb0 e'))) _ _
 have hlow:∀ a b:Zy_,a.size<=maxLen->b.size<=maxLen->∀ v g,D.atKey (ZbI a b) (.held (.slice none 0 0))=.held v->v.ownBlock=some g->base<=g/\g < w.heap.size:=fun a b ha hb v g hv hg=>by
  obtain⟨v',h1,h2⟩:=h.at' a b ha hb;rw [hv] at h1;injection h1 with h1
  subst h1
  rcases h2.2 with ⟨rfl,-⟩ | ⟨g',_,_,rfl,h3,h4,_⟩
  . cases hg
  . injection hg with hg
    have hg:g'=g:=hg;subst hg;exact⟨h3,(Array.getElem?_eq_some_iff.1 h4).1⟩
 refine⟨h.isMap.put _ _,fun a b ha hb=>?_,fun a b a' b' ha hb ha' hb' hne v v' g h1 h2 hg=>?_⟩
 . by_cases e:a=a0/\b=b0
   . obtain⟨rfl,rfl⟩:=e
     exact⟨v1,hput _,hr⟩
   . obtain⟨v,h1,h2⟩:=h.at' a b ha hb
     rw [hoth a b ha hb e,hG' a b e];refine⟨v,h1,h2.1,?_⟩
     rcases h2.2 with h3 | ⟨g,cap,cur,rfl,h3,h4,h5⟩
     . exact Or.inl h3
     . refine Or.inr ⟨g,cap,cur,rfl,h3,?_,h5⟩
       have hlt:g < w.heap.size:=(Array.getElem?_eq_some_iff.1 h4).1
       rw [hk g hlt h3 (h.sep a b a0 b0 ha hb ha0 hb0 e _ _ g h1 hv0 rfl)];exact h4
 . by_cases e:a=a0/\b=b0
   . obtain⟨rfl,rfl⟩:=e
     rw [hput] at h1;injection h1 with h1
     subst h1;have e':¬ (a'=a/\b'=b):=fun q=>hne ⟨q.1.symm,q.2.symm⟩
     rw [hoth a' b' ha' hb' e'] at h2
     rcases hloc with hl | ⟨g',hl,hge⟩
     . rw [hl] at hg
       exact h.sep a b a' b' ha hb ha' hb' hne v0 v' g hv0 h2 hg
     . rw [hl] at hg
       injection hg with hg
       intro hv';have:=hlow a' b' ha' hb' v' g h2 hv'
       omega
   . rw [hoth a b ha hb e] at h1
     by_cases e':a'=a0/\b'=b0
     . obtain⟨rfl,rfl⟩:=e'
       rw [hput] at h2;injection h2 with h2
       subst h2
       rcases hloc with hl | ⟨g',hl,hge⟩
       . rw [hl]
         exact h.sep a b a' b' ha hb ha' hb' e v v0 g h1 hv0 hg
       . rw [hl]
         intro q;injection q with q
         have:=hlow a b ha hb v g h1 hg
         omega
     . rw [hoth a' b' ha' hb' e'] at h2
       exact h.sep a b a' b' ha hb ha' hb' hne v v' g h1 h2 hg
def Off (D:DataW Value) (No:Nat->Prop):Prop:=∀ a b:Zy_,a.size<=maxLen->b.size<=maxLen->∀ v g,D.atKey (ZbI a b) (.held (.slice none 0 0))=.held v->v.ownBlock=some g->¬ No g
theorem Grp.lt {D:DataW Value}{G:Zy_->Zy_->List Int} (h:Grp w base D G) {a b:Zy_} (ha:a.size<=maxLen) (hb:b.size<=maxLen) {v:Value} {g:Nat} (hv:D.atKey (ZbI a b) (.held (.slice none 0 0))=.held v) (hg:v.ownBlock=some g) :
 base<=g/\g < w.heap.size/\∃ o,w.heap[g]?=some o/\o.isCells=true:=by
 obtain⟨v',h1,h2⟩:=h.at' a b ha hb;rw [hv] at h1;injection h1 with h1
 subst h1
 rcases h2.2 with ⟨rfl,-⟩ | ⟨g',_,cur,rfl,h3,h4,_⟩
 . cases hg
 . injection hg with hg
   have hg:g'=g:=hg;subst hg;exact⟨h3,(Array.getElem?_eq_some_iff.1 h4).1,_,h4,rfl⟩
theorem Grp.off {D:DataW Value}{G:Zy_->Zy_->List Int} (h:Grp w base D G) {No:Nat->Prop} (hn:∀ k,No k->w.heap.size<=k):Off D No:=fun a b ha hb v g hv hg hno=>by
 have:=(h.lt ha hb hv hg).2.1;have:=hn g hno
 omega
theorem Zok {K T S:TypeId} (L:WideMaps.KeyLaw P K) (hk2:Zes P K 9) (hT:P.underlying T=some (.map K S)) (hS:P.underlying S=some (.slice 3)) (hz:∀ u:World,(zeroValue S).run P u=.ok (.slice none 0 0) u)
 (i0:TypeInfo) (hi:P.info? 3=some i0) (hz0:i0.zero=some (.int .i64 0)) (hz1:i0.size=1) (hz2:i0.bytes=8)
 {W:World} {mb n base:Nat} {D:DataW Value} {G G':Zy_->Zy_->List Int} {No:Nat->Prop} (ho:W.ownsMap P K Zcu mb n D) (hg:Grp W base D G) (hoff:Off D No) (hno:∀ k,No k->k < W.heap.size) (hmb:mb < base) (hbs:base<=W.heap.size) (hn:n < maxLen)
 {a b:Zy_} (ha:a.size<=maxLen) (hb:b.size<=maxLen) (i:Int) (hlen:(G a b).length<=1099511627776) (hG:G' a b=G a b ++ [i]) (hG':∀ a' b',¬ (a'=a/\b'=b)->G' a' b'=G a' b') :
 ∃ (v0:Value) (st:Nat) (w1:World) (v1:Value) (w2 w3:World) (D':DataW Value),(Instr.mapEntry T (.map (some mb)) (.agg #[.string a,.string b])).run P (W.alloc (.cells #[.int .i64 i] 3))=.ok (.tuple #[v0,goInt st]) w1/\
  (Builtin.append_ #[S,S] S #[v0,.slice (some ⟨W.heap.size,0,none⟩) 1 1]).run P w1=.ok v1 w2/\(Instr.entryStore T (.map (some mb)) (goInt st) v1).run P w2=.ok () w3/\
  w3.ownsMap P K Zcu mb (n+1) D'/\Grp w3 base D' G'/\Off D' No/\w3.os=W.os/\w3.tape=W.tape/\w3.output=W.output/\W.heap.size<=w3.heap.size/\
  ∀ k o,W.heap[k]?=some o->k≠mb->(k < base\/No k\/o.isCells=false)->w3.heap[k]?=some o:=by
 obtain⟨v0,st,w1,hrun,hat,hg1,hs1,hst⟩:=Zp6 L hT hz (ho.alloc (.cells #[.int .i64 i] 3)) hn (hk2.mk' ha hb);obtain⟨v,h1,hrow⟩:=hg.at' a b ha hb;rw [hat] at h1;injection h1 with h1
 subst h1;have hlow:∀ g,v0.ownBlock=some g->base<=g/\g < W.heap.size/\∃ o,W.heap[g]?=some o/\o.isCells=true:=fun g e=>hg.lt ha hb hat e
 have hga:=World.grownBy_alloc W (.cells #[.int .i64 i] 3) none;have hsa:(W.alloc (.cells #[.int .i64 i] 3)).heap.size=W.heap.size+1:=by simp
 have hrow1:w1.ownsRow base 3 1 v0 (G a b).length ((G a b).map (Value.int .i64)):=ZdC (ZdC hrow hga (fun g _ e=>by cases e)) hg1 (fun g e e'=>by have:=(hlow g e).1;injection e' with e';omega)
 have hcell:∀ j u,([Value.int .i64 i]:List Value)[j]?=some u->w1.cell? ((⟨W.heap.size,0,none⟩:Addr).add j)=some u:=fun j u hu=>by
  have hj:j=0:=by
   cases j with
   | zero=>rfl
   | succ j=>simp at hu
  subst hj;have e1:w1.heap[W.heap.size]?=(W.alloc (.cells #[.int .i64 i] 3)).heap[W.heap.size]?:=hg1.block _ (by omega) (fun e=>by injection e with e;omega);rw [World.cell?_of_block (w:=W.alloc (.cells #[.int .i64 i] 3)) (a:=(⟨W.heap.size,0,none⟩:Addr).add 0) e1];have:=ZaJ W #[.int .i64 i] 3 W.heap.size 0 rfl;simp at hu;rw [<- hu];exact this
 obtain⟨v1,w2,hrun2,hrow2,hg2,-,hloc⟩:=run_append_own_at (P:=P) (w:=w1) base S S 3 i0 (.int .i64 0) 1 8 hS hi hz0 hz1 hz2 rfl (by decide) v0 (G a b).length ((G a b).map (Value.int .i64)) hrow1 ⟨W.heap.size,0,none⟩ 1 1 [.int .i64 i] rfl hcell (fun u hu=>by simp at hu;subst hu;rfl) (by unfold maxLen;omega) (by omega) (by omega);have hmb2:w2.heap[mb]?=w1.heap[mb]?:=hg2.block mb (by omega) (fun e=>by have:=(hlow mb e.symm).1;omega);obtain⟨w3,hrun3,ho3,hg3,hs3⟩:=hst w2 v1 hmb2;have hsz2:=hg2.size;have hG1:(G' a b).map (Value.int .i64)=(G a b).map (Value.int .i64) ++ [.int .i64 i]:=by rw [hG];simp
 have hG2:(G' a b).length=(G a b).length+1:=by rw [hG];simp
 have hloc1:∀ g,v1.ownBlock=some g->g≠mb:=fun g e=>by
  rcases hloc with hl | hl
  . rw [hl] at e
    have:=(hlow g e).1
    omega
  . rw [hl] at e
    injection e with e
    omega
 have hrow3:w3.ownsRow base 3 1 v1 (G' a b).length ((G' a b).map (Value.int .i64)):=by
  rw [hG1,hG2];exact ZdC hrow2 hg3 (fun g e e'=>by injection e' with e';exact hloc1 g e e')
 have hkeep:∀ k,k < W.heap.size->k≠mb->v0.ownBlock≠some k->w3.heap[k]?=W.heap[k]?:=fun k hk h1 h2=>
  (hg3.block k (by omega) (fun e=>by injection e with e;exact h1 e)).trans ((hg2.block k (by omega) (fun e=>h2 e.symm)).trans ((hg1.block k (by omega) (fun e=>by injection e with e;exact h1 e)).trans (hga.block k hk (fun e=>by cases e))))
 refine⟨v0,st,w1,v1,w2,w3,_,hrun,hrun2,hrun3,ho3,?_,?_,hg3.os.trans (hg2.os.trans (hg1.os.trans hga.os)),hg3.tape.trans (hg2.tape.trans (hg1.tape.trans hga.tape)),hg3.output.trans (hg2.output.trans (hg1.output.trans hga.output)),by omega,fun k o hko h1 h2=>?_⟩
 . refine hg.step ha hb hat hG hG' hrow3 ?_ (fun g h1 h2 h3=>hkeep g h1 (by omega) h3)
   rcases hloc with hl | hl
   . exact Or.inl hl
   . exact Or.inr ⟨_,hl,by omega⟩
 . intro a' b' ha' hb' v g hv hgv
   by_cases e:a'=a/\b'=b
   . obtain⟨rfl,rfl⟩:=e
     rw [atKey_put_same hg.isMap (by trivial)] at hv;injection hv with hv
     subst hv
     rcases hloc with hl | hl
     . rw [hl] at hgv
       exact hoff a' b' ha' hb' _ g hat hgv
     . rw [hl] at hgv
       injection hgv with hgv
       intro h;have:=hno g h
       omega
   . rw [atKey_put_other (fun e'=>e (Zet.inj Zf0 ha' hb' ha hb e'))] at hv
     exact hoff a' b' ha' hb' v g hv hgv
 . have hlt:k < W.heap.size:=(Array.getElem?_eq_some_iff.1 hko).1
   rw [hkeep k hlt h1 (fun e=>?_)]
   . exact hko
   . obtain⟨g1,_,o',g3,g4⟩:=hlow k e
     rcases h2 with h2 | h2 | h2
     . omega
     . exact hoff a b ha hb _ k hat e h2
     . rw [hko] at g3
       injection g3 with g3
       rw [<- g3,h2] at g4
       cases g4
end
section
open Go.RowKit Go.Deep Go.Shelf Go.Maps
variable {W W':World} {pb n:Nat}
attribute [local go_sem] Oper.semAt_some
def ZcY (Os:List Ob) (t:Tie):Bool:=Os.any (Zhj t.2.2.1 t.2.2.2)
def ZiJ (Os:List Ob) (Fs:List Fd) (V:List Zy_):Bool:=(Zdu Fs V Fs.length).all (ZcY Os)
theorem Zrh (Fs:List Fd) (V:List Zy_) (k d:Nat):∃ R,Zdu Fs V (k+d)=Zdu Fs V k ++ R:=by
 induction d with
 | zero=>exact⟨[],by simp⟩
 | succ d ih=>
  obtain⟨R,hR⟩:=ih;rw [<- Nat.add_assoc,Zdu,hR,List.append_assoc];exact⟨_,rfl⟩
theorem Zrg {Os:List Ob}{Fs:List Fd}{V:List Zy_}{k:Nat} (hk:k<=Fs.length) (h:(Zdu Fs V k).all (ZcY Os)=false):ZiJ Os Fs V=false:=by
 obtain⟨R,hR⟩:=Zrh Fs V k (Fs.length - k);rw [show k+(Fs.length - k)=Fs.length by omega] at hR;unfold ZiJ;rw [hR,List.all_append,h,Bool.false_and]
def Zem (x:Tie):Tie:=(x.1,x.2.1,Zc5 x.2.2.1,Zc5 x.2.2.2)
theorem Zen {lo:Nat}{w:World}{fv vv:Value}{Fs:List Fd}{V:List Zy_} (hF:Zau lo w fv Fs) (hV:Zaf w vv V):∀ (k:Nat),∀ t ∈ Zdu Fs V k,Zem t=t:=by
 intro k
 induction k with
 | zero=>intro t ht;simp [Zdu] at ht
 | succ k ih=>
  intro t ht;rw [Zdu] at ht
  rcases List.mem_append.1 ht with ht | ht
  . exact ih t ht
  . split at ht
    . rename_i f s hf hs
      unfold Zfw at ht
      split at ht
      . simp at ht
        subst ht
        have h1:f.to.size<=maxLen:=by
         obtain⟨hk,rfl⟩:=List.getElem?_eq_some_iff.1 hf
         rcases hF with ⟨_,_,_,e0⟩ | ⟨b',off',cap',g1,g2,g3,g4,g5,g7⟩
         . simp [e0] at hk
         . exact (g7.2 k hk).1.s5
        have h2:s.size<=maxLen:=by
         have hm:=List.mem_of_getElem? hs
         rcases hV with ⟨_,_,_,e0⟩ | ⟨b',off',cap',g1,g2,g3,g4,g5,g6⟩
         . rw [e0] at hm;cases hm
         . exact g6 s hm
        unfold Zem;dsimp only;rw [ZeO h1,ZeO h2]
      . simp at ht
    . simp at ht
theorem Zsm {lo:Nat}{w:World}{fv vv:Value}{Fs:List Fd}{V:List Zy_} (hF:Zau lo w fv Fs) (hV:Zaf w vv V) (Os:List Ob) (k:Nat):(Zdu Fs V k).all (fun t=>ZcY Os (Zem t))=(Zdu Fs V k).all (ZcY Os):=by
 rw [Bool.eq_iff_iff,List.all_eq_true,List.all_eq_true];exact⟨fun h t ht=>by rw [<- Zen hF hV k t ht];exact h t ht,fun h t ht=>by rw [Zen hF hV k t ht];exact h t ht⟩
theorem Zay.grow {S:Nat->Prop}{B:Nat} (h:W.grownBy W' none):Zay S B W W':=
 ⟨h.os,h.tape,h.output,h.size,fun k o hk _ _=>(h.block k (Array.getElem?_eq_some_iff.1 hk).1 (by simp)).trans hk⟩
structure ZtJ (w:World) (pb n:Nat) (D:DataW Unit) (W:World):Prop where
 own:W.ownsMap prog 153 (plainElem prog 3) pb n D
 ptr:Box W (w.heap.size+1+1) #[.map (some pb)]
 res:Box W (w.heap.size+1+1+1) #[.bool false]
 below:Zw_ w W
theorem ZtJ.grow {w:World}{D:DataW Unit}{row:Option Nat} (h:ZtJ w pb n D W) (hpb:pb < w.heap.size) (hg:W.grownBy W' row) (hr:∀ r,row=some r->w.heap.size+6<=r):ZtJ w pb n D W':=
 ⟨h.own.kept hg (fun e=>by have:=hr _ e.symm;omega),h.ptr.of_block (hg.block _ h.ptr.lt (fun e=>by have:=hr _ e.symm;omega)),h.res.of_block (hg.block _ h.res.lt (fun e=>by have:=hr _ e.symm;omega)),
  h.below.trans ⟨hg.os,hg.tape,hg.output,hg.size,fun k hk=>hg.block k (by have:=h.below.size;omega) (fun e=>by have:=hr _ e.symm;omega)⟩⟩
section
variable (lo:Nat) (sk:Zy_) (fv:Value) (Fs:List Fd) (kind nm team:Zy_) (vv hv:Value) (en:Bool) (ver:Int) (V Ho:List Zy_) (Os:List Ob) (w:World)
theorem Znl {D:DataW Unit} (hF:Zau lo w fv Fs) (hV:Zaf w vv V) (hH:Zaf w hv Ho) (hl:Fs.length=V.length) (n1:V.length<=1048576) (hown:w.ownsMap prog 153 (plainElem prog 3) pb n D) (hp:ZrE Os D) :
 Calls prog 213 #[.agg #[.string sk,fv],.agg #[.string kind,.string nm,.string team,vv,.bool en,hv,.int .i64 ver],.map (some pb)] w
  fun e w'=>e=.returned (.bool (ZiJ Os Fs V))/\Zw_ w w':=by
 have HF:=Zab hF;have HV:=Zab hV;have HO:=Zab hown;have HP:=Zab hp;have HL:=Zab hl;have HN:Hd (Fs.length<=1048576):=by unfold Hd;omega
 have hpb:pb < w.heap.size:=hown.lt
 have HCUT:=Zab (Zsm hF hV Os);obtain⟨fa,fcap,rfl⟩:=hF.form;obtain⟨va,vcap,rfl⟩:=hV.form';obtain⟨ha,hcap,rfl⟩:=hH.form';clear hF hV hH hown hp hl n1;refine (callsIn_wide (n:=5)).1 ?_;refine callsIn_of_wp_marks func213 rfl trivial ?_ rfl;simp only [ntmps213,List.size_toArray,List.length_cons,List.length_nil,Nat.reduceAdd,Nat.reduceSub,Array.replicate_succ,Array.replicate_zero,List.push_toArray,List.append_toArray,List.nil_append,List.cons_append]
 gi_wp2_with fail
 refine⟨trivial,(Zri sk kind nm team en ver _ Fence.wide _ trivial rfl fa Fs.length fcap va V.length vcap ha Ho.length hcap).mono ?_⟩;rintro e w1 ⟨rfl,hw1⟩
 obtain⟨wl,hwl,HX1,HX2,HT,hsz⟩:∃ wl,wl=w1/\
  Hd (Box wl (w.heap.size+1+1+1+1) #[.string sk,.slice fa Fs.length fcap])/\Hd (Box wl (w.heap.size+1+1+1+1+1) #[.string kind,.string nm,.string team,.slice va V.length vcap,.bool en,.slice ha Ho.length hcap,.int .i64 ver])/\
  Hd (ZtJ w pb n D wl)/\wl.heap.size=w.heap.size+6:=by
  subst hw1;refine⟨_,rfl,(Box.new _ _ _ _ (by simp)).on (Zac _ _),Box.new _ _ _ _ (by simp),⟨?_,?_,?_,?_⟩,by simp⟩
  . exact (((((HO.o.alloc _).alloc _).alloc _).alloc _).alloc _).alloc _
  . exact (((Box.new _ _ _ _ (by simp)).on (Zac _ _)).on (Zac _ _)).on (Zac _ _)
  . exact ((Box.new _ _ _ _ (by simp)).on (Zac _ _)).on (Zac _ _)
  . exact (((((Zac _ _).trans ((Zac _ _).mono (by simp))).trans ((Zac _ _).mono (by simp;omega))).trans ((Zac _ _).mono (by simp;omega))).trans ((Zac _ _).mono (by simp;omega))).trans ((Zac _ _).mono (by simp;omega))
 subst hwl;clear hw1
 gi_wp2_with fail
 refine wpIn_rangeFunc_ownH rfl (by decide) (gf:=227) (lb:=#[.pointer (some ⟨w.heap.size+1+1+1+1,0,none⟩),.pointer (some ⟨w.heap.size+1+1+1+1+1,0,none⟩)]) rfl trivial (enters_of func227 (by kernel_rfl) rfl)
  (ZgO lo sk _ Fs kind nm team _ _ en ver V wl _ (by decide) (fun _=>False) w _ _ HT.o.below HF.o HV.o HL.o HN.o (fun _ _ h=>h) (fun h=>h) HX1.o HX2.o)
  Zay.trans Zay.put Zb_ (fun _=>rfl)
  (fun pre W=>ZtJ w pb n D W/\pre.all (fun t=>ZcY Os (Zem t))=true)
  (fun c pre W=>c=.ret/\(W.cell? ⟨w.heap.size+1+1+1,0,none⟩=some (.bool false)/\w.heap.size<=W.heap.size/\Zw_ w W)/\pre.all (fun t=>ZcY Os (Zem t))=false)
  (fun s A B row hs hg hr=>⟨hs.1.grow hpb hg (fun r e=>by have:=(hr r e).1;omega),hs.2⟩)
  (fun c s A B row hs hg hr=>⟨hs.1,⟨cell_kept hs.2.1.1 hg (fun r e=>(hr r e).2),Nat.le_trans hs.2.1.2.1 hg.size,hs.2.1.2.2.trans ⟨hg.os,hg.tape,hg.output,hg.size,fun k hk=>hg.block k (by have:=hs.2.1.2.1;omega) (fun e=>by have:=(hr _ e.symm).1;omega)⟩⟩,hs.2.2⟩)
  ⟨HT.o,rfl⟩
  (fun x a' W=>∃ β:Nat,a'={ tmps:=#[.agg #[.string sk,.slice fa Fs.length fcap],.agg #[.string kind,.string nm,.string team,.slice va V.length vcap,.bool en,.slice ha Ho.length hcap,.int .i64 ver],.map (some pb),.pointer (some ⟨w.heap.size,0,none⟩),.pointer (some ⟨w.heap.size+1,0,none⟩),.pointer (some ⟨w.heap.size+1+1,0,none⟩),.pointer (some ⟨w.heap.size+1+1+1,0,none⟩),.pointer (some ⟨β,0,none⟩),undef,undef,.agg #[.string sk,.slice fa Fs.length fcap],.agg #[.string kind,.string nm,.string team,.slice va V.length vcap,.bool en,.slice ha Ho.length hcap,.int .i64 ver],.func (.func 227) #[] #[.pointer (some ⟨w.heap.size+1+1+1+1,0,none⟩),.pointer (some ⟨w.heap.size+1+1+1+1+1,0,none⟩)],.agg #[.int .i64 x.1,.int .i64 x.2.1,.string (Zc5 x.2.2.1),.string (Zc5 x.2.2.2)],undef,undef,undef,undef,undef,undef,undef,undef,undef],defers:=[] }/\W.cell? ⟨β,2,none⟩=some (.string (Zc5 x.2.2.1))/\W.cell? ⟨β,3,none⟩=some (.string (Zc5 x.2.2.2)))
  (fun x a' s A B row hs hg hr=>by
    obtain⟨β,e1,e2,e3⟩:=hs;exact⟨β,e1,cell_kept e2 hg (fun r e=>(hr r e).2),cell_kept e3 hg (fun r e=>(hr r e).2)⟩) ?assign ?body ?done ?stop
 case assign=>
  intro l pre x W K hI hK;have HI:=Zab hI;have HK:=Zab hK;clear hI hK
  gi_wp2
  refine HK.o _ _ ((KeepsOthers.alloc _ _).from _) (Zay.grow (World.grownBy_alloc _ _ none)) ⟨HI.o.1.grow hpb (World.grownBy_alloc _ _ none) (fun r e=>by cases e),HI.o.2⟩ ⟨W.heap.size,rfl,ZaJ _ _ _ _ 2 rfl,ZaJ _ _ _ _ 3 rfl⟩
 case body=>
  rintro l pre x a' W hll hrec ⟨hTW,hall⟩ ⟨β,rfl,hc2,hc3⟩ hlen;have HTW:=Zab hTW;have HALL:=Zab hall;obtain⟨v,ps,hrun,hv⟩:=hTW.own.look_ok ZcJ underlying146 (ZjB _) (plainElem_int underlying3 (by decide)) (Zc1.mk' (ZcW x.2.2.1) (ZcW x.2.2.2));obtain⟨c,rfl,hc,hwc⟩:=plainElem_int_inv underlying3 hv;rw [HP.o.has _ _ (ZcW _) (ZcW _)] at hrun;have HE:Hd (ZcY Os (Zem x)=Os.any (Zhj (Zc5 x.2.2.1) (Zc5 x.2.2.2))):=rfl;have p0:=hTW.ptr.cell 0;have r0:=hTW.res.cell 0;have rf:=hTW.res.free 0;simp at p0 r0;clear hv hc hwc hTW hall hrec
  cases hq:Os.any (Zhj (Zc5 x.2.2.1) (Zc5 x.2.2.2)) with
  | true=>
   rw [hq] at hrun
   gi_wp2
   exact⟨KeepsFrom.refl _ _,Zay.refl _ _ _,HTW.o,by rw [List.all_append,HALL.o];simp [HE.o,hq]⟩
  | false=>
   rw [hq] at hrun
   gi_wp2
   exact⟨(KeepsOthers.setCell _ _ _).from _,rfl,⟨World.cell?_setCell_same' _ _ _ (by rw [r0];rfl),by have:=HTW.o.below.size;simpa using this,HTW.o.below.setCell (p:=⟨w.heap.size+1+1+1,0,none⟩) (by simp only [];omega) _⟩,by rw [List.all_append,HALL.o];simp [HE.o,hq]⟩
 case done=>
  rintro Dd ys W hD rfl ⟨hTW,hall⟩ hK;have HTW:=Zab hTW;have HRES:Hd (ZiJ Os Fs V=true):=(HCUT.o Fs.length).symm.trans hall;have r0:=hTW.res.cell 0;have rf:=hTW.res.free 0;simp at r0;clear hTW hall
  gi_wp2
  have g:=grownBy_setCell' W (w.heap.size+1+1+1) (.bool true);have hK2:(W.setCell ⟨w.heap.size+1+1+1,0,none⟩ (.bool true)).heap[Dd]?=some (.deferred (some [])):=(g.block Dd (Array.getElem?_eq_some_iff.1 hK).1 (fun e=>by have:=Option.some.inj e;(try simp only [] at this);omega)).trans hK;have c1:(W.setCell ⟨w.heap.size+1+1+1,0,none⟩ (.bool true)).cell? ⟨w.heap.size+1+1+1,0,none⟩=some (.bool true):=World.cell?_setCell_same' _ _ _ (by rw [r0];rfl);have HB2:Zw_ w (W.setCell ⟨w.heap.size+1+1+1,0,none⟩ (.bool true)):=HTW.o.below.setCell (p:=⟨w.heap.size+1+1+1,0,none⟩) (by simp only [];omega) _;generalize W.setCell ⟨w.heap.size+1+1+1,0,none⟩ (.bool true)=W2 at*;refine⟨by simp,.inl ⟨_,_,rfl,run_takeDeferred hK2,?_⟩⟩
  have c2:(W2.putObj Dd (.deferred none)).cell? ⟨w.heap.size+1+1+1,0,none⟩=some (.bool true):=(World.cell?_of_block (a:=⟨w.heap.size+1+1+1,0,none⟩) ((grownBy_putObj' W2 Dd _).block _ (World.block_lt_of_cell? _ _ c1) (fun e=>by have:=Option.some.inj e;(try simp only [] at this);omega))).trans c1;refine⟨.bool true,by simp [results,results213,go_sem,c2],by rw [HRES.o],HB2.trans (belowK_b (w:=w) Zl_ W2 Dd _ _ (by omega) hK2 rfl rfl)⟩
 case stop=>
  rintro Dd c pre W hD ⟨k,hk,rfl⟩ ⟨rfl,⟨c1,hz,hB⟩,hall⟩ hK;have HB2:=Zab hB;have HRES:Hd (ZiJ Os Fs V=false):=Zrg hk (by rw [<- HCUT.o];exact hall);clear hB hall
  gi_wp2
  refine⟨by simp,.inl ⟨_,_,rfl,run_takeDeferred hK,?_⟩⟩;have c2:(W.putObj Dd (.deferred none)).cell? ⟨w.heap.size+1+1+1,0,none⟩=some (.bool false):=(World.cell?_of_block (a:=⟨w.heap.size+1+1+1,0,none⟩) ((grownBy_putObj' W Dd _).block _ (World.block_lt_of_cell? _ _ c1) (fun e=>by have:=Option.some.inj e;(try simp only [] at this);omega))).trans c1;refine⟨.bool false,by simp [results,results213,go_sem,c2],by rw [HRES.o],HB2.o.trans (belowK_b (w:=w) Zl_ W Dd _ _ (by omega) hK rfl rfl)⟩
end
end
section
open Go.RowKit Go.Deep Go.Maps
def Zj8 (Ps:List Pu):List Tri:=Ps.map fun p=>(p.tm,p.re,p.am)
theorem ZrT (Ps:List Pu) (t r:Zy_):Zl4 (Zj8 Ps) t r=ZfQ Ps t r:=by
 unfold Zl4 Zj8 ZfQ;rw [List.map_map]
 congr 1
 refine List.map_congr_left fun p _=>?_
 unfold Zm6;simp only [Function.comp]
 by_cases h:p.tm=t/\p.re=r
 . obtain⟨h1,h2⟩:=h
   rw [if_pos ⟨h1,h2⟩,if_pos (by rw [Bool.and_eq_true];exact⟨Zaz.2 h1,Zaz.2 h2⟩)]
 . rw [if_neg h,if_neg (fun hb=>h (by rw [Bool.and_eq_true] at hb;exact⟨Zaz.1 hb.1,Zaz.1 hb.2⟩))]
theorem Zp4 (lo:Nat) (v:Value) (Ps:List Pu) (w:World) (hv:Zb9 lo w v Ps) (hn:Ps.length<=1048576) :
 Calls prog 223 #[v] w
  fun e w'=>e=.returned (.map (some w.heap.size))/\Zw_ w w'/\∃ D:DataW Unit,w'.ownsMap prog 251 (plainElem prog 3) w.heap.size Ps.length D/\ZfZ (Zj8 Ps) D:=by
 have HV:=Zab hv;obtain⟨a,cap,rfl⟩:=hv.form;clear hv;have hmm:=@run_makeMap prog;go_enter func223,ntmps223;go_wp2;clear hmm
 go_loopw [9] (fun i wr=>∃ k:Nat,i=.int .i64 k/\k<=Ps.length/\Zw_ w wr/\∃ D:DataW Unit,wr.ownsMap prog 251 (plainElem prog 3) w.heap.size k D/\ZfZ (Zj8 (Ps.take k)) D) (fun i _=>Ps.length - (intOf i).toNat)
 case atStart=>exact⟨0,rfl,Nat.zero_le _,Zac _ _,.map [],World.ownsMap_made _ _ _ _,ZfZ.start⟩
 case round=>
  obtain⟨k,rfl,hk,hb,D,ho,hsum⟩:=hrel;have HB:=Zab hb;have HSUM:=Zab hsum;clear hb hsum
  by_cases hlt:k < Ps.length
  . obtain⟨b,off,rfl,hbw,-,hc⟩:=HV.o.full' (by omega)
    obtain⟨hs,hcell⟩:=hc k hlt;obtain⟨c0,c1,c2,c3,c4⟩:=hcell.below HB.o hbw;have HZ:=Zab hs;have HT:Hd (Zj8 (Ps.take (k+1))=Zj8 (Ps.take k) ++ [(Ps[k].tm,Ps[k].re,Ps[k].am)]):=by unfold Hd Zj8;rw [List.take_succ_eq_append_getElem hlt,List.map_append];rfl
    have hol:=ho.lt
    obtain⟨Wb,hWb,HYb,HBb,HOb⟩:∃ Wb,Wb=wr.alloc (.cells #[.string Ps[k].dr,.string Ps[k].tm,.string Ps[k].re,.int .i64 Ps[k].am,.int .i64 Ps[k].un] 144)/\Hd (Box Wb wr.heap.size #[.string Ps[k].dr,.string Ps[k].tm,.string Ps[k].re,.int .i64 Ps[k].am,.int .i64 Ps[k].un])/\Hd (Zw_ w Wb)/\Hd (Wb.ownsMap prog 251 (plainElem prog 3) w.heap.size k D):=by
     refine⟨_,rfl,?_,?_,?_⟩
     . exact Box.new _ _ _ _ rfl
     . exact HB.o.trans ((Zac _ _).mono HB.o.size)
     . exact ho.alloc _
    obtain⟨c,v0,st,w1,hent,hat,hwc,hl0,hl1,hg1,hs1,hst⟩:=ZkB Zf0 underlying218 underlying3 ZjB HOb.o.drew (by unfold maxLen;omega) (Zet.mk' hs.s1 hs.s2);have ew:IntKind.i64.wrap (c+Ps[k].am)=wrap64 (c+Ps[k].am):=IntWalk.i64_left _;obtain⟨w2,hrun2,ho2,hg2,hs2⟩:=hst (IntKind.i64.wrap (c+Ps[k].am)) (by rw [ew];exact wrap64_wf _);rw [ew] at ho2;have HO2:=Zab ho2;have HG2:=Zab hg2;have HAT:=Zab hat;have y1:=HYb.o.cell 1;have y2:=HYb.o.cell 2;have y3:=HYb.o.cell 3;simp at y1 y2 y3;simp only [goInt] at hent hrun2;clear ew hst ho2 hg2 hg1 hat ho hc hcell hs hs1 hs2 hwc;go_wp2;rw [<- hWb];clear hWb
    go_region
    all_goals go_wp2
    all_goals go_roundw
    all_goals first
     | (case rel=>exact⟨k+1,by go_num,by omega,ZbT HBb.o.drew HG2.o Zl_,_,HO2.o,by rw [HT.o];exact HSUM.o.step HZ.o.s1 HZ.o.s2 HAT.o _⟩)
     | (case measure=>simp [intOf];omega)
  . have he:k=Ps.length:=by omega
    subst he;have HT:Hd (Zj8 (Ps.take Ps.length)=Zj8 Ps):=by unfold Hd;rw [List.take_length]
    have HO:=Zab ho;clear ho;go_wp2;go_ret;exact⟨rfl,HB.o,D,HO.o,HT.o ▸ HSUM.o⟩
def Zfv (Ss:List Sh) (Ts:List Tm) (B:Bk) (g:Le):Bool:=decide (wrap64 (Zdv Ss Ts B.os g.tm g.re+ZfQ B.ps g.tm g.re+g.fr)=g.mo)
def Zlr (Ss:List Sh) (Ts:List Tm) (B:Bk):Bool:=B.ls.all (Zfv Ss Ts B)
section
variable (lo:Nat) (sv mv tv ov gv lv pv:Value) (Ss:List Sh) (Ms:List Md) (Ts:List Tm) (B:Bk) (w:World)
theorem ZkR (hl:ZbH lo w sv mv tv Ss Ms Ts) (h:ZaU lo w ov gv lv pv B) (hn:Zbp B) :
 Calls prog 185 #[.agg #[sv,mv,tv],.agg #[.int .i64 B.now,.int .i64 B.tick,.int .i64 B.given,ov,gv,lv,pv]] w fun e w'=>e=.returned (.bool (Zlr Ss Ts B))/\Zw_ w w':=by
 have HL:=Zab hl;have HK:=Zab h;have HTR:=Zab (Ztw hl.shs h.obs.sizes);have hpl:B.ps.length<=1048576:=hn.2.2.2.1;have hll:B.ls.length<=1048576:=hn.2.2.1.1;have HOS:Hd (Zbg B.os):=hn.1;obtain⟨sa,sc,rfl⟩:=hl.shs.form;obtain⟨ma,mc,rfl⟩:=hl.mds.form;obtain⟨ta,tc,rfl⟩:=hl.tms.form;obtain⟨a0,k0,rfl⟩:=h.obs.form;obtain⟨a1,k1,rfl⟩:=h.grs.form;obtain⟨a2,k2,rfl⟩:=h.les.form;obtain⟨a3,k3,rfl⟩:=h.pus.form;clear h hl hn;go_enter func185,ntmps185;go_wp2;generalize hWa:(World.alloc (w.alloc _) _)=Wa;have HB:Hd (Zw_ w Wa):=by rw [<- hWa];exact (Zac w _).alloc (by simp) _
 have HX:Hd (Box Wa w.heap.size #[.slice sa Ss.length sc,.slice ma Ms.length mc,.slice ta Ts.length tc]):=by rw [<- hWa];exact (Box.new _ _ _ _ rfl).on (Zac _ _)
 have HY:Hd (Box Wa (w.heap.size+1) #[.int .i64 B.now,.int .i64 B.tick,.int .i64 B.given,.slice a0 B.os.length k0,.slice a1 B.gs.length k1,.slice a2 B.ls.length k2,.slice a3 B.ps.length k3]):=by rw [<- hWa];exact Box.new _ _ _ _ (by simp)
 clear hWa;have HD:Hd (Zw_ w Wa.drew):=HB.o.drew
 go_region_held3 (ZbA Wa w.heap.size #[.slice sa Ss.length sc,.slice ma Ms.length mc,.slice ta Ts.length tc] (w.heap.size+1) #[.int .i64 B.now,.int .i64 B.tick,.int .i64 B.given,.slice a0 B.os.length k0,.slice a1 B.gs.length k1,.slice a2 B.ls.length k2,.slice a3 B.ps.length k3])
  (first
    | (with_reducible exact ZbA.drew HX.o HY.o)
    | (with_reducible exact ZbA.on (by assumption) (by assumption)))
  (first
    | (go_at_call 159
       refine (ZmQ lo _ _ Ss B.os _ (HL.o.below HD.o).shs (HK.o.below HD.o).obs HOS.o).mono ?_;rintro e w1 ⟨rfl,hb1,D,ho,hsum⟩;have HC1:Hd (Zw_ w w1):=HD.o.trans (hb1.mono HD.o.size);have HOW:Hd (w1.ownsMap prog 251 (plainElem prog 3) Wa.heap.size (ZcE Ss B.os).length D):=ho;have HSU:=Zab hsum;clear ho hsum)
    | (go_at_call 223
       refine (Zp4 lo _ B.ps _ (HK.o.below HC1.o).pus hpl).mono ?_;rintro e w2 ⟨rfl,hb2,D2,ho2,hsum2⟩;have HC2:Hd (Zw_ w w2):=HC1.o.trans (hb2.mono HC1.o.size);have HOW2:=Zab (HOW.o.kept (ZaC hb2) (by simp));have HOD:=Zab ho2;have HSD:=Zab hsum2;clear ho2 hsum2))
 have HCa:Hd (Below Wa.heap.size Wa w2):=(Zb_.drew.trans hb1).trans (hb2.mono ((Zb_.drew.trans hb1:Below Wa.heap.size Wa w1)).size);have HX2:=Zab (HX.o.on HCa.o);have HY2:=Zab (HY.o.on HCa.o);clear HCa hb1 hb2 HOW HC1 HD HB HX HY;generalize Wa.heap.size=ba at*;generalize w1.heap.size=bd at*;have y5:=HY2.o.cell 5;simp at y5;go_wp2;clear y5
 go_loopw [21] (fun i wr=>∃ k:Nat,i=.int .i64 k/\k<=B.ls.length/\Zw_ w wr/\Box wr w.heap.size #[.slice sa Ss.length sc,.slice ma Ms.length mc,.slice ta Ts.length tc]/\wr.ownsMap prog 251 (plainElem prog 3) ba (ZcE Ss B.os).length D/\wr.ownsMap prog 251 (plainElem prog 3) bd B.ps.length D2/\∀ j (h:j < B.ls.length),j < k->Zfv Ss Ts B B.ls[j]=true) (fun i _=>B.ls.length - (intOf i).toNat)
 case atStart=>exact⟨0,rfl,Nat.zero_le _,HC2.o,HX2.o,HOW2.o,HOD.o,fun j _ h=>by omega⟩
 case round=>
  obtain⟨k,rfl,hk,hb,hx,hoa,hod,hall⟩:=hrel;have HBr:=Zab hb;have HXr:=Zab hx;have HOA:=Zab hoa;have HODr:=Zab hod;have HA:=Zab hall;clear hb hx hoa hod hall
  by_cases hlt:k < B.ls.length
  . obtain⟨b,off,rfl,hbw,-,hc⟩:=HK.o.les.full' (by omega)
    obtain⟨hs,hcell⟩:=hc k hlt;obtain⟨c0,c1,c2,c3⟩:=hcell.below HBr.o hbw;have HZ:=Zab hs;have HQ:Hd (Zfv Ss Ts B B.ls[k]=decide (wrap64 (Zdv Ss Ts B.os B.ls[k].tm B.ls[k].re+ZfQ B.ps B.ls[k].tm B.ls[k].re+B.ls[k].fr)=B.ls[k].mo)):=rfl;have HUZ:=Zab (Zpl Ss Ts B.ls[k].tm B.ls[k].re B.os);have x2:=HXr.o.cell 2;simp at x2;have xlt:=HXr.o.lt;have x2:∀ o,(wr.alloc o).cell? ⟨w.heap.size,2,none⟩=some (.slice ta Ts.length tc):=fun o=>(Zaj _ _ _ _ xlt).trans x2
    clear hc hcell hs xlt;go_wp2_with fail;generalize hWb:wr.alloc _=Wb;have HBb:Hd (Zw_ w Wb):=by rw [<- hWb];exact HBr.o.trans ((Zac _ _).mono HBr.o.size)
    have HXb:Hd (Box Wb w.heap.size #[.slice sa Ss.length sc,.slice ma Ms.length mc,.slice ta Ts.length tc]):=by rw [<- hWb];exact HXr.o.on (Zac _ _)
    have HYb:Hd (Box Wb wr.heap.size #[.string B.ls[k].tm,.string B.ls[k].re,.int .i64 B.ls[k].mo,.int .i64 B.ls[k].fr]):=by rw [<- hWb];exact Box.new _ _ _ _ rfl
    have HOA1:Hd (Wb.ownsMap prog 251 (plainElem prog 3) ba (ZcE Ss B.os).length D):=by rw [<- hWb];exact HOA.o.alloc _
    have HOD1:Hd (Wb.ownsMap prog 251 (plainElem prog 3) bd B.ps.length D2):=by rw [<- hWb];exact HODr.o.alloc _
    clear hWb x2 HOA HODr;refine (Zkk lo _ Ts _ _ _ _ (HL.o.below HBb.o).tms HOA1.o HSU.o HTR.o).mono ?_;rintro e w3 ⟨rfl,hb3⟩;have HB3:Hd (Zw_ w w3):=HBb.o.trans (hb3.mono HBb.o.size);have HX3:=Zab (HXb.o.on hb3);have HY3:=Zab (HYb.o.on hb3);have HOA3:=Zab (HOA1.o.kept (ZaC hb3) (by simp));have HOD3:=Zab (HOD1.o.kept (ZaC hb3) (by simp))
    have hlk:∀ n,(Instr.lookup 218 (.map (some bd)) (.agg #[.string B.ls[k].tm,.string B.ls[k].re]) false).run prog (w3.drewN n)=.ok (.int .i64 (wrap64 (ZfQ B.ps B.ls[k].tm B.ls[k].re))) (w3.drewN n):=fun n=>by
     obtain⟨c,hl,hat,-⟩:=(ZcA HOD3.o (w':=w3.drewN n) (by simp)).lookup_int ZjA underlying218 underlying3 (ZjB _) (Zet.mk' HZ.o.s0 HZ.o.s1);rw [HSD.o.sums _ _ HZ.o.s0 HZ.o.s1,ZrT] at hat;injection hat with hat
     injection hat with _ hat
     rw [hat];exact hl
    have y0:=HY3.o.cell 0;have y1:=HY3.o.cell 1;have y2:=HY3.o.cell 2;have y3:=HY3.o.cell 3;simp at y0 y1 y2 y3;clear hb3 HBb HXb HYb HOA1 HOD1;have HV:Hd (wrap64 (wrap64 (wrap64 ((ZcE Ss B.os).map (Zij Ts B.ls[k].tm B.ls[k].re)).sum+wrap64 (ZfQ B.ps B.ls[k].tm B.ls[k].re))+B.ls[k].fr)=wrap64 (Zdv Ss Ts B.os B.ls[k].tm B.ls[k].re+ZfQ B.ps B.ls[k].tm B.ls[k].re+B.ls[k].fr)):=by unfold Hd;rw [Zin,Zgm,HUZ.o]
    go_wp2
    go_quiet (fail)
    have HBn:Hd (Zw_ w (w3.drewN nq)):=below_drewN HB3.o _;have HXn:=Zab (HX3.o.on (below_drewN Zb_ nq));have HOAn:=Zab (ZcA HOA3.o (w':=w3.drewN nq) (by simp));have HODn:=Zab (ZcA HOD3.o (w':=w3.drewN nq) (by simp));clear hlk
    by_cases hq:wrap64 (wrap64 (wrap64 ((ZcE Ss B.os).map (Zij Ts B.ls[k].tm B.ls[k].re)).sum+wrap64 (ZfQ B.ps B.ls[k].tm B.ls[k].re))+B.ls[k].fr)=B.ls[k].mo
    . have HT:Hd (Zfv Ss Ts B B.ls[k]=true):=by unfold Hd;rw [HQ.o,<- HV.o];exact decide_eq_true hq
      have hd:(wrap64 (wrap64 (wrap64 ((ZcE Ss B.os).map (Zij Ts B.ls[k].tm B.ls[k].re)).sum+wrap64 (ZfQ B.ps B.ls[k].tm B.ls[k].re))+B.ls[k].fr) != B.ls[k].mo)=false:=by simp [hq]
      clear hq;go_wp2;go_roundw
      . exact⟨k+1,by go_num,by omega,HBn.o,HXn.o,HOAn.o,HODn.o,ZdE HA.o hlt HT.o⟩
      . simp [intOf];omega
    . have HN:Hd (Zlr Ss Ts B=false):=ZcL hlt (by rw [HQ.o,<- HV.o];exact decide_eq_false hq)
      have hd:(wrap64 (wrap64 (wrap64 ((ZcE Ss B.os).map (Zij Ts B.ls[k].tm B.ls[k].re)).sum+wrap64 (ZfQ B.ps B.ls[k].tm B.ls[k].re))+B.ls[k].fr) != B.ls[k].mo)=true:=by simp [hq]
      clear hq;go_wp2;go_ret;exact⟨Zaa HN.o.symm,HBn.o⟩
  . have HT:Hd (Zlr Ss Ts B=true):=ZeL (fun i hi=>HA.o i hi (by omega))
    go_wp2;go_ret;exact⟨Zaa HT.o.symm,HBr.o⟩
end
end
open Go.RowKit Go.Deep
variable {wr w1:World} {B k:Nat} {Xl:List Ob}
def Za9 (wr:World) (B:Nat) (Xl:List Ob) (k:Nat) (c:Nat->Nat):Prop:=
 B < c 0/\(∀ i,i < k->c i<=c (i+1))/\c k<=wr.heap.size/\∃ f,wr.rowIs B 128 (Xl.length*7) f/\∀ i (h:i < Xl.length),i < k->Zdg Xl[i]/\∃ (vv0 vv1:Value) (m1:Nat),(c i)<=m1/\m1<=(c (i+1))/\f (i*7)=.string Xl[i].kd/\f (i*7+1)=.string Xl[i].nm/\f (i*7+2)=.string Xl[i].tm/\f (i*7+3)=vv0/\f (i*7+4)=.bool Xl[i].en/\f (i*7+5)=vv1/\f (i*7+6)=.int .i64 Xl[i].ver/\Zad (c i) m1 wr vv0 Xl[i].vs/\Zad m1 (c (i+1)) wr vv1 Xl[i].hs
theorem Za9.le {c:Nat->Nat} (h:Za9 wr B Xl k c) {i:Nat}:∀ {j:Nat},i<=j->j<=k->c i<=c j:=by
 intro j
 induction j with
 | zero=>intro hij _;have:i=0:=by omega
         subst this;exact Nat.le_refl _
 | succ j ih=>
  intro hij hjn
  by_cases e:i=j+1
  . subst e;exact Nat.le_refl _
  . exact Nat.le_trans (ih (by omega) (by omega)) (h.2.1 j (by omega))
theorem Za9.below {c:Nat->Nat} (h:Za9 wr B Xl k c) (hb:Below wr.heap.size wr w1):Za9 w1 B Xl k c:=by
 obtain⟨g1,g2,g3,f,hr,hall⟩:=h;refine⟨g1,g2,Nat.le_trans g3 hb.size,f,hr.of_block (hb.block B hr.lt),fun i hi hik=>?_⟩;obtain⟨hz,vv0,vv1,m1,q0,q1,h0,h1,h2,h3,h4,h5,h6,l0,l1⟩:=hall i hi hik;exact⟨hz,vv0,vv1,m1,q0,q1,h0,h1,h2,h3,h4,h5,h6,l0.below hb,l1.below hb⟩
theorem Za9.free {c:Nat->Nat} (h:Za9 wr B Xl k c) (i:Nat):wr.frozen? ⟨B,i,none⟩=false:=by
 obtain⟨_,_,_,f,hr,_⟩:=h;exact hr.frozen i
theorem Za9.there {c:Nat->Nat} (h:Za9 wr B Xl k c) (i:Nat) (hi:i < Xl.length*7):∃ v,wr.cell? ⟨B,i,none⟩=some v:=by
 obtain⟨_,_,_,f,hr,_⟩:=h;exact⟨_,hr.cell hi⟩
theorem Za9.step {c:Nat->Nat}{vv0 vv1:Value}{m1:Nat} (h:Za9 w1 B Xl k c) (hk:k < Xl.length) (hz:Zdg Xl[k]) (d:Nat) (hd0:c k<=d) (hd:d<=w1.heap.size) (r0:(c k)<=m1) (r1:m1<=d) (e0:Zad (c k) m1 w1 vv0 Xl[k].vs) (e1:Zad m1 d w1 vv1 Xl[k].hs) :
 Za9 (((((((w1.setCell ⟨B,k*7,none⟩ (.string Xl[k].kd)).setCell ⟨B,k*7+1,none⟩ (.string Xl[k].nm)).setCell ⟨B,k*7+2,none⟩ (.string Xl[k].tm)).setCell ⟨B,k*7+3,none⟩ (vv0)).setCell ⟨B,k*7+4,none⟩ (.bool Xl[k].en)).setCell ⟨B,k*7+5,none⟩ (vv1)).setCell ⟨B,k*7+6,none⟩ (.int .i64 Xl[k].ver)) B Xl (k+1) (fun j=>if j<=k then c j else d):=by
 have hle:=fun i (hi:i<=k)=>h.le (i:=0) (j:=i) Zz_ hi
 have hle2:=fun i (hi:i < k)=>h.le (i:=i+1) (j:=k) (by omega) Zl_
 obtain⟨g1,g2,g3,f,hr,hall⟩:=h;have hts:Zag B (B+1) w1 (((((((w1.setCell ⟨B,k*7,none⟩ (.string Xl[k].kd)).setCell ⟨B,k*7+1,none⟩ (.string Xl[k].nm)).setCell ⟨B,k*7+2,none⟩ (.string Xl[k].tm)).setCell ⟨B,k*7+3,none⟩ (vv0)).setCell ⟨B,k*7+4,none⟩ (.bool Xl[k].en)).setCell ⟨B,k*7+5,none⟩ (vv1)).setCell ⟨B,k*7+6,none⟩ (.int .i64 Xl[k].ver)):=((((((Zag.setB B _ _ _).trans (Zag.setB B _ _ _)).trans (Zag.setB B _ _ _)).trans (Zag.setB B _ _ _)).trans (Zag.setB B _ _ _)).trans (Zag.setB B _ _ _)).trans (Zag.setB B _ _ _);refine⟨by simpa using g1,fun i hi=>?_,?_,_,(((((((hr.set _ _).set _ _).set _ _).set _ _).set _ _).set _ _).set _ _),fun i hi hik=>?_⟩
 . dsimp only
   by_cases e:i=k
   . subst e;rw [if_pos Zl_,if_neg (by omega)];exact hd0
   . rw [if_pos (by omega),if_pos (by omega)];exact g2 i (by omega)
 . dsimp only;rw [if_neg (by omega)];exact Nat.le_trans hd hts.size
 by_cases e:i=k
 . subst e
   dsimp only;rw [if_pos Zl_,if_neg (by omega)];have hb0:=hle i Zl_;exact⟨hz,vv0,vv1,m1,r0,r1,by simp,by simp,by simp,by simp,by simp,by simp,by simp,e0.touch hts (by omega),e1.touch hts (by omega)⟩
 . dsimp only
   rw [if_pos (by omega),if_pos (by omega)];have hb0:=hle i (by omega);obtain⟨hz,vv0,vv1,m1,q0,q1,h0,h1,h2,h3,h4,h5,h6,l0,l1⟩:=hall i hi (by omega);refine⟨hz,vv0,vv1,m1,q0,q1,?_,?_,?_,?_,?_,?_,?_,l0.touch hts (by omega),l1.touch hts (by omega)⟩
   . rw [if_neg (by omega),if_neg (by omega),if_neg (by omega),if_neg (by omega),if_neg (by omega),if_neg (by omega),if_neg (by omega)];exact h0
   . rw [if_neg (by omega),if_neg (by omega),if_neg (by omega),if_neg (by omega),if_neg (by omega),if_neg (by omega),if_neg (by omega)];exact h1
   . rw [if_neg (by omega),if_neg (by omega),if_neg (by omega),if_neg (by omega),if_neg (by omega),if_neg (by omega),if_neg (by omega)];exact h2
   . rw [if_neg (by omega),if_neg (by omega),if_neg (by omega),if_neg (by omega),if_neg (by omega),if_neg (by omega),if_neg (by omega)];exact h3
   . rw [if_neg (by omega),if_neg (by omega),if_neg (by omega),if_neg (by omega),if_neg (by omega),if_neg (by omega),if_neg (by omega)];exact h4
   . rw [if_neg (by omega),if_neg (by omega),if_neg (by omega),if_neg (by omega),if_neg (by omega),if_neg (by omega),if_neg (by omega)];exact h5
   . rw [if_neg (by omega),if_neg (by omega),if_neg (by omega),if_neg (by omega),if_neg (by omega),if_neg (by omega),if_neg (by omega)];exact h6
theorem Za9.own {c:Nat->Nat} (h:Za9 wr B Xl k c) (hk:k=Xl.length) (hne:Xl≠[]) (hm:Xl.length<=maxLen):ZbW B wr.heap.size wr (.slice (some ⟨B,0,none⟩) Xl.length Xl.length) Xl:=by
 subst hk;have hle:=fun i (hi:i<=Xl.length)=>h.le (i:=0) (j:=i) Zz_ hi
 have hle2:=fun i (hi:i < Xl.length)=>h.le (i:=i+1) (j:=Xl.length) (by omega) Zl_
 have hle3:=fun i j (hi:i < j) (hj:j < Xl.length)=>h.le (i:=i+1) (j:=j) (by omega) (by omega)
 obtain⟨g1,g2,g3,f,hr,hall⟩:=h;have h0:0 < Xl.length:=List.length_pos_iff.2 hne
 refine Or.inr ⟨B,0,Xl.length,fun i=>(c i,c (i+1)),fun i=>if h:i < Xl.length then Xl[i] else Xl[0],rfl,hne,hm,Nat.le_refl _,fun i hi=>by simp [hi],hr.lt,Nat.le_refl _,hr.lt,fun i hi=>⟨by have:=hle i (by omega);simp only [];omega,by have:=hle2 i hi;simp only [];omega,Or.inl (by have:=hle i (by omega);simp only [];omega)⟩,hle3,fun i=>hr.frozen i,fun i hi=>?_⟩;obtain⟨hz,vv0,vv1,m1,q0,q1,h0,h1,h2,h3,h4,h5,h6,l0,l1⟩:=hall i hi hi;simp only [hi,dif_pos];rw [Nat.zero_add];exact⟨hz,vv0,vv1,m1,q0,q1,⟨by rw [hr.cell (by omega),h0],by rw [hr.cell (by omega),h1],by rw [hr.cell (by omega),h2],by rw [hr.cell (by omega),h3],by rw [hr.cell (by omega),h4],by rw [hr.cell (by omega),h5],by rw [hr.cell (by omega),h6]⟩,l0,l1⟩
theorem Za9.new (w:World) (Xl:List Ob) (z:Array Value):Za9 (w.alloc (.cells (madeCells z (Xl.length*7)) 128)) w.heap.size Xl 0 (fun _=>w.heap.size+1):=by
 refine⟨Nat.lt_succ_self _,fun i hi=>by omega,by simp,fun i=>(madeCells z (Xl.length*7)).getD i default,?_,fun i _ h=>by omega⟩;have:=World.rowIs_alloc w (madeCells z (Xl.length*7)) 128 (fun i=>(madeCells z (Xl.length*7)).getD i default) (fun i hi=>by simp [Array.getD,hi])
 rwa [size_madeCells] at this
theorem Zpb (lo:Nat) (v:Value) (Xl:List Ob) (w:World) (hv:Za3 lo w v Xl) (hn:Zbg Xl) :
 Calls prog 39 #[v] w fun e w'=>∃ v',e=.returned v'/\Zw_ w w'/\ZbW w.heap.size w'.heap.size w' v' Xl:=by
 obtain⟨i0,hi,hz0,hz1,hz2⟩:=info_parts Tryz.info128;have HSM:=Zab hn.2;have hn1:=hn.1;clear hn
 by_cases hL:Xl=[]
 . subst hL
   obtain⟨a,cap,rfl⟩:=hv.form;clear hv
   have hmk:∀ u:World,(Instr.makeSlice 43 (.int .i64 0) (.int .i64 0)).run prog u=.ok (.slice (some ⟨u.heap.size,0,none⟩) 0 0) (u.alloc (.cells (madeCells (Value.cells (.agg #[.string ⟨#[]⟩,.string ⟨#[]⟩,.string ⟨#[]⟩,.slice none 0 0,.bool false,.slice none 0 0,.int .i64 0])) 0) 128)):=fun u=>by
    have h:=run_make (P:=prog) u 43 128 i0 _ underlying43 hi hz0 .i64 .i64 0 0 (by omega) (by omega) (by omega) (by omega)
    simpa [hz1] using h
   go_enter func39,ntmps39;go_wp2
   go_loop [4] (fun i=>i=.int .i64 0) (fun _=>0)
   case atStart=>rfl
   case round=>
    subst hrel;go_wp2;go_ret;exact⟨_,rfl,Zb_.alloc Zl_ _,Or.inl ⟨_,_,rfl,rfl⟩⟩
 . obtain⟨b,off,cap,rfl,hm,hbw,_,hc⟩:=hv.full hL
   clear hv;have HM:Hd (Xl.length<=maxLen):=hm;unfold maxLen at hm
   have hmk:∀ u:World,(Instr.makeSlice 43 (.int .i64 (Xl.length:Int)) (.int .i64 (Xl.length:Int))).run prog u=.ok (.slice (some ⟨u.heap.size,0,none⟩) Xl.length Xl.length) (u.alloc (.cells (madeCells (Value.cells (.agg #[.string ⟨#[]⟩,.string ⟨#[]⟩,.string ⟨#[]⟩,.slice none 0 0,.bool false,.slice none 0 0,.int .i64 0])) (Xl.length*7)) 128)):=fun u=>by
    have h:=run_make (P:=prog) u 43 128 i0 _ underlying43 hi hz0 .i64 .i64 Xl.length Xl.length (by omega) (by omega) (by rw [hz2];omega) (by omega);rw [hz1] at h
    simpa using h
   clear hi hz0 hz1 hz2;go_enter func39,ntmps39;go_wp2;clear hmk
   go_loopw [4] (fun i wr=>∃ (k:Nat) (c:Nat->Nat),i=.int .i64 k/\k<=Xl.length/\Zw_ w wr/\Za9 wr w.heap.size Xl k c) (fun i _=>Xl.length - (intOf i).toNat)
   case atStart=>exact⟨0,_,rfl,by omega,Zb_.alloc Zl_ _,Za9.new w Xl _⟩
   case round=>
    obtain⟨k,c,rfl,hk,hb,hf⟩:=hrel
    by_cases hlt:k < Xl.length
    . obtain⟨hs,vv0,vv1,hc,hv0,hv1⟩:=hc k hlt
      have HB:=Zab hb;have HF:=Zab hf;have HSZ:=Zab hs;obtain⟨x0,y0,rfl⟩:=hv0.at.form';obtain⟨x1,y1,rfl⟩:=hv1.at.form';obtain⟨c0,c1,c2,c3,c4,c5,c6⟩:=hc.below hb hbw;have HV0:=Zab (hv0.below hb);clear hv0;have HV1:=Zab (hv1.below hb);clear hv1;clear hc hb hf hs;go_wp2_with fail;refine (Zpa _ _ _ _ _ _ _ Xl[k].vs Xl[k].hs _ HV0.o.at HV1.o.at (HSM.o k hlt).1 (HSM.o k hlt).2).mono ?_;rintro e w1 ⟨z0,z1,rfl,hb1,mid,hmid,hmw,hO0,hO1⟩;obtain⟨s0,t0,rfl⟩:=hO0.at.form';obtain⟨s1,t1,rfl⟩:=hO1.at.form';have hf1:=HF.o.below hb1;have hB:Hd (Zw_ w w1):=HB.o.trans (hb1.mono HB.o.size);have HST:=Zab (hf1.step hlt HSZ.o w1.heap.size (Nat.le_trans HF.o.2.2.1 hb1.size) Zl_ (Nat.le_trans HF.o.2.2.1 hmid) hmw (hO0.wide HF.o.2.2.1 Zl_) hO1);have hfr:=hf1.free;obtain⟨o0,ho0⟩:=hf1.there (k*7) (by omega)
      obtain⟨o1,ho1⟩:=hf1.there (k*7+1) (by omega);obtain⟨o2,ho2⟩:=hf1.there (k*7+2) (by omega);obtain⟨o3,ho3⟩:=hf1.there (k*7+3) (by omega);obtain⟨o4,ho4⟩:=hf1.there (k*7+4) (by omega);obtain⟨o5,ho5⟩:=hf1.there (k*7+5) (by omega);obtain⟨o6,ho6⟩:=hf1.there (k*7+6) (by omega);clear hf1 hb1 HF HB c0 c1 c2 c3 c4 c5 c6;go_wp2;go_roundw
      . 
       exact⟨k+1,_,by go_num,by omega,(((((((hB.o.setCell Zl_ _).setCell Zl_ _).setCell Zl_ _).setCell Zl_ _).setCell Zl_ _).setCell Zl_ _).setCell Zl_ _),HST.o⟩
      . simp [intOf];omega
    . have e:k=Xl.length:=by omega
      go_wp2;go_ret;exact⟨_,rfl,hb,hf.own e hL HM.o⟩
end Go.Proofs.YtmappejlmapboaaGreat
