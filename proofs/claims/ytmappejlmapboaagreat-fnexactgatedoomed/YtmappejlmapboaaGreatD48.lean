import Derived.Test.YtmappejlmapboaaGreatD40
set_option maxHeartbeats 16000000
set_option maxRecDepth 100000
open Go.Proofs.Tryz
namespace Go.Proofs.YtmappejlmapboaaGreat
section
open Go.RowKit Go.Deep Go.Maps
variable {Ss:List Sh} {Os:List Ob} {k:Nat}
def ZdR (L:List Nat):List Int:=L.map fun i:Nat=>(i:Int)
theorem ZeV (L:List Nat):(ZdR L).length=L.length:=by unfold ZdR;simp
theorem ZrQ {L:List Nat}{j:Nat} (h:j < L.length) (h':j < (ZdR L).length):(ZdR L)[j]=(L[j]:Int):=List.getElem_map _
def Zbq (Os:List Ob) (T:List Tie):List Int:=(T.filter fun t=>!(t.2.1 == 2)).map fun t=>((Ze0 Os t.2.2.1 t.2.2.2:Nat):Int)
def ZkT (Ss:List Sh) (Os:List Ob) (a b:Zy_) (i:Nat):List Int:=match Os[i]? with
 | some o=>if (o.kd.toList == a.toList)&&(o.nm.toList == b.toList) then Zbq Os (ZcC Ss o) else []
 | none=>[]
def Zct (Ss:List Sh) (Os:List Ob) (k:Nat) (a b:Zy_):List Int:=(List.range k).flatMap (ZkT Ss Os a b)
theorem Zqs {a b:Zy_}{i:Nat} (hi:i < Os.length):ZkT Ss Os a b i=if ZfP Os a b i then Zbq Os (ZcC Ss Os[i]) else []:=by
 unfold ZkT ZfP;rw [List.getElem?_eq_getElem hi]
theorem Zi1 (hk:k < Os.length) (a b:Zy_):Zct Ss Os (k+1) a b=Zct Ss Os k a b ++ (if ZfP Os a b k then Zbq Os (ZcC Ss Os[k]) else []):=by
 unfold Zct;rw [List.range_succ,List.flatMap_append,List.flatMap_cons,List.flatMap_nil,List.append_nil,Zqs hk]
theorem Zl2 (hk:k < Os.length):Zbq Os (ZcC Ss Os[k])=ZdR (ZhU Ss Os k):=by
 unfold Zbq ZdR ZhU;rw [List.getElem?_eq_getElem hk];dsimp only;rw [List.map_map]
 rfl
theorem Zi2 (hd:Zhl Os) {k:Nat} (hk:k < Os.length):∀ m,m<=Os.length->Zct Ss Os m Os[k].kd Os[k].nm=if k < m then ZdR (ZhU Ss Os k) else []
 | 0,_=>by simp [Zct]
 | m+1,hm=>by
  rw [Zi1 (show m < Os.length by omega),Zi2 hd hk m (by omega)]
  by_cases e:k=m
  . subst e
    rw [if_neg (Nat.lt_irrefl _),if_pos (Nat.lt_succ_self _),(Zed hk).2 ⟨rfl,rfl⟩,if_pos rfl,Zl2 hk,List.nil_append]
  . have hf:ZfP Os Os[k].kd Os[k].nm m=false:=by
     cases h:ZfP Os Os[k].kd Os[k].nm m with
     | false=>rfl
     | true=>
      obtain⟨h1,h2⟩:=(Zed (show m < Os.length by omega)).1 h;exact absurd (hd m k (by omega) hk h1 h2).symm e
    rw [hf,if_neg Bool.false_ne_true,List.append_nil]
    by_cases h:k < m
    . rw [if_pos h,if_pos (by omega)]
    . rw [if_neg h,if_neg (by omega)]
theorem ZrR (hd:Zhl Os) {k:Nat} (hk:k < Os.length):Zct Ss Os Os.length Os[k].kd Os[k].nm=ZdR (ZhU Ss Os k):=by
 rw [Zi2 hd hk _ Zl_,if_pos hk]
theorem Zi3 (Os:List Ob) (T:List Tie):(Zbq Os T).length<=T.length:=by
 unfold Zbq;rw [List.length_map];exact List.length_filter_le _ _
theorem ZkU {m:Nat} (h:∀ o ∈ Os,(ZcC Ss o).length<=m) (a b:Zy_):∀ k,(Zct Ss Os k a b).length<=k*m
 | 0=>by simp [Zct]
 | k+1=>by
  have ih:=ZkU h a b k;unfold Zct at ih |-;rw [List.range_succ,List.flatMap_append,List.flatMap_cons,List.flatMap_nil,List.append_nil,List.length_append,Nat.succ_mul]
  have:(ZkT Ss Os a b k).length<=m:=by
   unfold ZkT
   cases e:Os[k]? with
   | none=>exact Nat.zero_le _
   | some o=>
    dsimp only
    split
    . exact Nat.le_trans (Zi3 _ _) (h o (List.mem_of_getElem? e))
    . exact Nat.zero_le _
  omega
theorem ZhV (Os:List Ob) (T:List Tie) (t:Tie):Zbq Os (T ++ [t])=Zbq Os T ++ if t.2.1=2 then [] else [((Ze0 Os t.2.2.1 t.2.2.2:Nat):Int)]:=by
 unfold Zbq;rw [List.filter_append,List.map_append]
 congr 1
 by_cases e:t.2.1=2
 . rw [if_pos e];simp [e]
 . rw [if_neg e];simp [e]
end
section
open Go.RowKit Go.Deep Go.Maps
variable {P:Program}
theorem Zdr {w w':World}{v v1 v2:Value}{ops:Array Oper}{o:Oper}{a:Act}{K:Act->World->Prop}{Q:Exit->Act->World->Prop}{E:Prop} (hgd:o.guard=none) (s x:Operand) (t:TypeId)
 (ho:o.op=.call { callee:=.builtin .append,args:=#[s,x],argTypes:=#[t,t] }) (hs:a.eval s=v1) (hx:a.eval x=v2) (hr:(Builtin.append_ #[t,t] o.type #[v1,v2]).run P w=.ok v w') (h:K (a.put o.dst v) w') :
 if Region.wanted o (yielded ops a.tmps)=true then Oper.wp P o a w K Q else E:=by
 have hw:Region.wanted o (yielded ops a.tmps)=true:=by simp [Region.wanted,hgd]
 rw [if_pos hw];unfold Oper.wp execOp;simp only [ho,resolve,invoke,builtin,Sem.run_bind,Sem.run_pure,Result.andThen_ok,List.map_toArray,List.map_cons,List.map_nil,hs,hx,hr];exact h
theorem ZlY {K T S:TypeId} (L:WideMaps.KeyLaw P K) (hk2:Zes P K 9) (hT:P.underlying T=some (.map K S)) (hS:P.underlying S=some (.slice 3))
 (i0:TypeInfo) (hi:P.info? 3=some i0) (hz0:i0.zero=some (.int .i64 0)) (hz1:i0.size=1) (hz2:i0.bytes=8)
 {W Wa:World} {mb n base sb:Nat} {D:DataW Value} {G G':Zy_->Zy_->List Int} {No:Nat->Prop} (ho:W.ownsMap P K Zcu mb n D) (hg:Grp W base D G) (hoff:Off D No) (hno:∀ k,No k->k < W.heap.size) (hmb:mb < base) (hbs:base<=W.heap.size) (hn:n < maxLen)
 {a b:Zy_} (ha:a.size<=maxLen) (hb:b.size<=maxLen) (i:Int) (hlen:(G a b).length<=1099511627776) (hG:G' a b=G a b ++ [i]) (hG':∀ a' b',¬ (a'=a/\b'=b)->G' a' b'=G a' b')
 (hga:Below W.heap.size W Wa) (_:W.heap.size<=sb) (hcell:Wa.cell? ⟨sb,0,none⟩=some (.int .i64 i)) {v0:Value} (hat:D.atKey (ZbI a b) (.held (.slice none 0 0))=.held v0) :
 ∃ (v1:Value) (w2 w3:World) (D':DataW Value),(Builtin.append_ #[S,S] S #[v0,.slice (some ⟨sb,0,none⟩) 1 1]).run P Wa=.ok v1 w2/\(Instr.mapUpdate T (.map (some mb)) (.agg #[.string a,.string b]) v1).run P w2=.ok () w3/\(∀ k,k < base->w2.heap[k]?=W.heap[k]?)/\
  w3.ownsMap P K Zcu mb (n+1) D'/\Grp w3 base D' G'/\Off D' No/\w3.os=W.os/\w3.tape=W.tape/\w3.output=W.output/\W.heap.size<=w3.heap.size/\
  ∀ k o,W.heap[k]?=some o->k≠mb->(k < base\/No k\/o.isCells=false)->w3.heap[k]?=some o:=by
 obtain⟨v,h1,hrow⟩:=hg.at' a b ha hb;rw [hat] at h1;injection h1 with h1
 subst h1;have hlow:∀ g,v0.ownBlock=some g->base<=g/\g < W.heap.size/\∃ o,W.heap[g]?=some o/\o.isCells=true:=fun g e=>hg.lt ha hb hat e
 have hg1:W.grownBy Wa none:=⟨hga.os,hga.tape,hga.output,hga.size,fun k hk _=>hga.block k hk⟩;have hs1:=hga.size;have hmlt:mb < W.heap.size:=by omega
 have hrow1:Wa.ownsRow base 3 1 v0 (G a b).length ((G a b).map (Value.int .i64)):=ZdC hrow hg1 (fun g _ e=>by cases e)
 have hcells:∀ j u,([Value.int .i64 i]:List Value)[j]?=some u->Wa.cell? ((⟨sb,0,none⟩:Addr).add j)=some u:=fun j u hu=>by
  have hj:j=0:=by
   cases j with
   | zero=>rfl
   | succ j=>simp at hu
  subst hj;simp at hu;rw [<- hu];exact hcell
 obtain⟨v1,w2,hrun2,hrow2,hg2,-,hloc⟩:=run_append_own_at (P:=P) (w:=Wa) base S S 3 i0 (.int .i64 0) 1 8 hS hi hz0 hz1 hz2 rfl (by decide) v0 (G a b).length ((G a b).map (Value.int .i64)) hrow1 ⟨sb,0,none⟩ 1 1 [.int .i64 i] rfl hcells (fun u hu=>by simp at hu;subst hu;rfl) (by unfold maxLen;omega) (by omega) (by omega);have ho2:w2.ownsMap P K Zcu mb n D:=(ho.kept hg1 (fun e=>by cases e)).kept hg2 (fun e=>by have:=(hlow mb e.symm).1;omega);obtain⟨w3,hrun3,ho3,hg3⟩:=ho2.update (Keyed.of_law L) hT hn (hk2.mk' ha hb) (val:=v1) (d:=.held v1) (ps:=[]) rfl;have hsz2:=hg2.size;have hsz3:=hg3.size;have hG1:(G' a b).map (Value.int .i64)=(G a b).map (Value.int .i64) ++ [.int .i64 i]:=by rw [hG];simp
 have hG2:(G' a b).length=(G a b).length+1:=by rw [hG];simp
 have hloc1:∀ g,v1.ownBlock=some g->g≠mb:=fun g e=>by
  rcases hloc with hl | hl
  . rw [hl] at e
    have:=(hlow g e).1
    omega
  . rw [hl] at e
    injection e with e
    omega
 have hrow3:w3.ownsRow base 3 1 v1 (G' a b).length ((G' a b).map (Value.int .i64)):=by
  rw [hG1,hG2];exact ZdC hrow2 hg3 (fun g e e'=>by injection e' with e';exact hloc1 g e e')
 have hkeep:∀ k,k < W.heap.size->k≠mb->v0.ownBlock≠some k->w3.heap[k]?=W.heap[k]?:=fun k hk h1 h2=>
  (hg3.block k (by omega) (fun e=>by injection e with e;exact h1 e)).trans ((hg2.block k (by omega) (fun e=>h2 e.symm)).trans (hga.block k hk))
 refine⟨v1,w2,w3,_,hrun2,hrun3,fun k hk=>(hg2.block k (by omega) (fun e=>by have:=(hlow k e.symm).1;omega)).trans (hga.block k (by omega)),ho3,?_,?_,hg3.os.trans (hg2.os.trans hg1.os),hg3.tape.trans (hg2.tape.trans hg1.tape),hg3.output.trans (hg2.output.trans hg1.output),by omega,fun k o hko h1 h2=>?_⟩
 . refine hg.step ha hb hat hG hG' hrow3 ?_ (fun g h1 h2 h3=>hkeep g h1 (by omega) h3)
   rcases hloc with hl | hl
   . exact Or.inl hl
   . exact Or.inr ⟨_,hl,by omega⟩
 . intro a' b' ha' hb' v g hv hgv
   by_cases e:a'=a/\b'=b
   . obtain⟨rfl,rfl⟩:=e
     rw [atKey_put_same hg.isMap (by trivial)] at hv;injection hv with hv
     subst hv
     rcases hloc with hl | hl
     . rw [hl] at hgv
       exact hoff a' b' ha' hb' _ g hat hgv
     . rw [hl] at hgv
       injection hgv with hgv
       intro h;have:=hno g h
       omega
   . rw [atKey_put_other (fun e'=>e (Zet.inj Zf0 ha' hb' ha hb e'))] at hv
     exact hoff a' b' ha' hb' v g hv hgv
 . have hlt:k < W.heap.size:=(Array.getElem?_eq_some_iff.1 hko).1
   rw [hkeep k hlt h1 (fun e=>?_)]
   . exact hko
   . obtain⟨g1,_,o',g3,g4⟩:=hlow k e
     rcases h2 with h2 | h2 | h2
     . omega
     . exact hoff a b ha hb _ k hat e h2
     . rw [hko] at g3
       injection g3 with g3
       rw [<- g3,h2] at g4
       cases g4
end
section
open Go.RowKit Go.Deep
structure ZtG (lo hi o0 o1 g0 g1 l0 l1 p0 p1:Nat):Prop where
 o:lo<=o0/\o1<=hi
 g:lo<=g0/\g1<=hi
 l:lo<=l0/\l1<=hi
 p:lo<=p0/\p1<=hi
 og:o1<=g0\/g1<=o0
 ol:o1<=l0\/l1<=o0
 op:o1<=p0\/p1<=o0
 gl:g1<=l0\/l1<=g0
 gp:g1<=p0\/p1<=g0
 lp:l1<=p0\/p1<=l0
def Zde (lo hi:Nat) (w:World) (ov gv lv pv:Value) (B:Bk):Prop:=
 ∃ o0 o1 g0 g1 l0 l1 p0 p1:Nat,ZtG lo hi o0 o1 g0 g1 l0 l1 p0 p1/\ZbW o0 o1 w ov B.os/\Zb8 g0 g1 w gv B.gs/\Zco l0 l1 w lv B.ls/\Zcv p0 p1 w pv B.ps
theorem Zde.at {lo hi:Nat} {w:World} {ov gv lv pv:Value} {B:Bk} (h:Zde lo hi w ov gv lv pv B):ZaU lo w ov gv lv pv B:=by
 obtain⟨_,_,_,_,_,_,_,_,ha,h1,h2,h3,h4⟩:=h;exact⟨h1.at.mono ha.o.1,h2.at.mono ha.g.1,h3.at.mono ha.l.1,h4.at.mono ha.p.1⟩
theorem Zde.below {lo hi:Nat} {w w':World} {ov gv lv pv:Value} {B:Bk} (h:Zde lo hi w ov gv lv pv B) (hb:Zw_ w w'):Zde lo hi w' ov gv lv pv B:=by
 obtain⟨o0,o1,g0,g1,l0,l1,p0,p1,ha,h1,h2,h3,h4⟩:=h;exact⟨o0,o1,g0,g1,l0,l1,p0,p1,ha,h1.below hb,h2.below hb,h3.below hb,h4.below hb⟩
theorem Zde.touch {lo hi lo' hi':Nat} {w w':World} {ov gv lv pv:Value} {B:Bk} (h:Zde lo hi w ov gv lv pv B) (ht:Zag lo' hi' w w') (ho:hi<=lo'\/hi'<=lo):Zde lo hi w' ov gv lv pv B:=by
 obtain⟨o0,o1,g0,g1,l0,l1,p0,p1,ha,h1,h2,h3,h4⟩:=h;have:=ha.o;have:=ha.g;have:=ha.l;have:=ha.p;exact⟨o0,o1,g0,g1,l0,l1,p0,p1,ha,h1.touch ht (by omega),h2.touch ht (by omega),h3.touch ht (by omega),h4.touch ht (by omega)⟩
def ZuB (k:Int) (B:Bk):Bk:=⟨B.now,B.tick,B.given,ZoB k B.os,Zoz (k+(ZdM B.os B.os.length:Int)) B.gs,ZoA (k+(ZdM B.os B.os.length:Int)+(Zd2 B.gs B.gs.length:Int)) B.ls,ZoC (k+(ZdM B.os B.os.length:Int)+(Zd2 B.gs B.gs.length:Int)+(Zej B.ls B.ls.length:Int)) B.ps⟩
def ZrM (k:Int) (B:Bk):Int:=k+(ZdM B.os B.os.length:Int)+(Zd2 B.gs B.gs.length:Int)+(Zej B.ls B.ls.length:Int)+(ZeB B.ps B.ps.length:Int)
theorem Zsd {B:Bk} (hn:Zbp B):ZdM B.os B.os.length<=4000000000000/\Zd2 B.gs B.gs.length<=4000000000000/\Zej B.ls B.ls.length<=4000000000000/\ZeB B.ps B.ps.length<=4000000000000:=by
 obtain⟨h1,h2,h3,h4⟩:=hn;have:=Znc h1 (i:=B.os.length) Zl_;have:=Zna h2 (i:=B.gs.length) Zl_;have:=Znb h3 (i:=B.ls.length) Zl_;have:=Znd h4 (i:=B.ps.length) Zl_;have:=h1.1;have:=h2.1;have:=h3.1;have:=h4.1
 omega
section
variable (lo hi:Nat) (ov gv lv pv:Value) (B:Bk) (w:World)
theorem Zk5 (k:Int) (h:Zde lo hi w ov gv lv pv B) (hn:Zbp B) (h0:0<=k) (hk:k<=1900000000000000000) (hhi:hi<=w.heap.size) :
 Calls prog 17 #[.agg #[.int .i64 B.now,.int .i64 B.tick,.int .i64 B.given,ov,gv,lv,pv],.int .i64 k] w fun e w'=>e=.returned (.int .i64 (ZrM k B))/\Zag lo hi w w'/\Zde lo hi w' ov gv lv pv (ZuB k B):=by
 obtain⟨o0,o1,g0,g1,l0,l1,p0,p1,ha,h1,h2,h3,h4⟩:=h;obtain⟨z1,z2,z3,z4⟩:=Zsd hn;have HN:=Zab hn;have HP:=Zab ha;obtain⟨⟨y1,y2⟩,⟨y3,y4⟩,⟨y5,y6⟩,⟨y7,y8⟩,yog,yol,yop,ygl,ygp,ylp⟩:=ha;have H1:=Zab h1;have H2:=Zab h2;have H3:=Zab h3;have H4:=Zab h4;obtain⟨a0,k0,rfl⟩:=h1.form;obtain⟨a1,k1,rfl⟩:=h2.form;obtain⟨a2,k2,rfl⟩:=h3.form;obtain⟨a3,k3,rfl⟩:=h4.form;clear h1 h2 h3 h4 hn;go_enter func17,ntmps17;go_wp2_with fail;generalize hWa:w.alloc _=Wa;have hb:Zw_ w Wa:=by rw [<- hWa];exact Zac w _
 have HX0:Hd (Box Wa w.heap.size #[.int .i64 B.now,.int .i64 B.tick,.int .i64 B.given,.slice a0 B.os.length k0,.slice a1 B.gs.length k1,.slice a2 B.ls.length k2,.slice a3 B.ps.length k3]):=by rw [<- hWa];exact Box.new _ _ _ _ rfl
 have HT0:Hd (Zag lo hi w Wa):=Zag.below hb;replace H1:=Zab (H1.o.below hb);replace H2:=Zab (H2.o.below hb);replace H3:=Zab (H3.o.below hb);replace H4:=Zab (H4.o.below hb);clear hWa hb;refine (Zmk o0 o1 _ B.os _ _ H1.o HN.o.1 (by omega) (by omega)).mono ?_;rintro e w1 ⟨rfl,ht1,hq1⟩;have HX1:=Zab (HX0.o.touch ht1 (by omega));have HT1:Hd (Zag lo hi w w1):=HT0.o.trans (ht1.wide (by omega) (by omega));replace H1:=Zab hq1;replace H2:=Zab (H2.o.touch ht1 (by omega));replace H3:=Zab (H3.o.touch ht1 (by omega));replace H4:=Zab (H4.o.touch ht1 (by omega));clear ht1 hq1 HX0 HT0;have c1:=HX1.o.cell 4;simp at c1;go_wp2_with fail;clear c1;refine (Zmg g0 g1 _ B.gs _ _ H2.o HN.o.2.1 (by omega) (by omega)).mono ?_;rintro e w2 ⟨rfl,ht2,hq2⟩;have HX2:=Zab (HX1.o.touch ht2 (by omega))
 have HT2:Hd (Zag lo hi w w2):=HT1.o.trans (ht2.wide (by omega) (by omega));replace H1:=Zab (H1.o.touch ht2 (by omega));replace H2:=Zab hq2;replace H3:=Zab (H3.o.touch ht2 (by omega));replace H4:=Zab (H4.o.touch ht2 (by omega));clear ht2 hq2 HX1 HT1;have c2:=HX2.o.cell 5;simp at c2;go_wp2_with fail;clear c2;refine (Zmi l0 l1 _ B.ls _ _ H3.o HN.o.2.2.1 (by omega) (by omega)).mono ?_;rintro e w3 ⟨rfl,ht3,hq3⟩;have HX3:=Zab (HX2.o.touch ht3 (by omega));have HT3:Hd (Zag lo hi w w3):=HT2.o.trans (ht3.wide (by omega) (by omega));replace H1:=Zab (H1.o.touch ht3 (by omega));replace H2:=Zab (H2.o.touch ht3 (by omega));replace H3:=Zab hq3;replace H4:=Zab (H4.o.touch ht3 (by omega));clear ht3 hq3 HX2 HT2;have c3:=HX3.o.cell 6;simp at c3;go_wp2_with fail;clear c3;refine (Zml p0 p1 _ B.ps _ _ H4.o HN.o.2.2.2 (by omega) (by omega)).mono ?_
 rintro e w4 ⟨rfl,ht4,hq4⟩;have HX4:=Zab (HX3.o.touch ht4 (by omega));have HT4:Hd (Zag lo hi w w4):=HT3.o.trans (ht4.wide (by omega) (by omega));replace H1:=Zab (H1.o.touch ht4 (by omega));replace H2:=Zab (H2.o.touch ht4 (by omega));replace H3:=Zab (H3.o.touch ht4 (by omega));replace H4:=Zab hq4;clear ht4 hq4 HX3 HT3;go_wp2;go_ret;exact⟨rfl,HT4.o,o0,o1,g0,g1,l0,l1,p0,p1,HP.o,H1.o,H2.o,H3.o,H4.o⟩
end
end
open Go.RowKit Go.Deep
theorem Zmn (lo hi:Nat) (v:Value) (Xl:List Tm) (k:Int) (w:World) (hv:Zcp lo hi w v Xl) (hn:Zdx Xl) (h0:0<=k) (hk:k<=2000000000000000000) :
 Calls prog 54 #[v,.int .i64 k] w fun e w'=>e=.returned (.int .i64 (k+(Zfm Xl Xl.length:Int)))/\Zag lo hi w w'/\Zcp lo hi w' v (ZqA k Xl):=by
 rcases hv with ⟨a,cap,rfl,rfl⟩ | ⟨b,off,cap,c,X,rfl,hne,hm,hcap,hX,hR⟩
 . go_enter func54,ntmps54
   go_wp2
   go_loop [5,1] (fun i q=>i=.int .i64 0/\q=.int .i64 k) (fun _ _=>0)
   case atStart=>exact⟨rfl,rfl⟩
   case round=>
    obtain⟨rfl,rfl⟩:=hrel;go_wp2;go_ret;exact⟨by simp [Zfm],Zag.refl _ _ _,Or.inl ⟨_,_,rfl,rfl⟩⟩
 . have hlen:=hn.1
   have HN:=Zab hn;have HX:=Zab hX;have HR0:=Zab hR;have HM:=Zab hm;have HC:=Zab hcap;have HNE:=Zab hne;clear hn hX hR hm hcap hne;go_enter func54,ntmps54;go_wp2
   go_loopw [5,1] (fun i q wr=>∃ j:Nat,i=.int .i64 j/\q=.int .i64 (k+(Zfm Xl j:Int))/\j<=Xl.length/\Zag lo hi w wr/\Zfj lo hi wr b off Xl.length c (fun i=>if i < j then ZtE (k+(Zfm Xl i:Int)) (X i) else X i)) (fun i _ _=>Xl.length - (intOf i).toNat)
   case atStart=>exact⟨0,rfl,by simp [Zfm],by omega,Zag.refl _ _ _,HR0.o.to (fun i _=>by simp)⟩
   case round=>
    obtain⟨j,rfl,rfl,hj,ht,hr⟩:=hrel;have HT:=Zab ht;have HR:=Zab hr;clear ht hr HR0
    by_cases hlt:j < Xl.length
    . have hpos:=Zne HN.o (i:=j) (by omega)
      have HP:=Zab (Zjj hlt)
      have hone:Zgt b (off+j*2) (c j) (c (j+1)) wr (X j):=by
       have:=HR.o.row j hlt;simp only [Nat.lt_irrefl,if_false] at this;exact this
      have hxj:X j=Xl[j]:=HX.o j hlt;obtain⟨x,hx⟩:∃ x,x=X j:=⟨_,rfl⟩
      rw [<- hx] at hone;obtain⟨hs,hc⟩:=hone;have HXJ:=Zab hxj;have HXX:=Zab hx;obtain⟨K,hK⟩:∃ K,K=k+(Zfm Xl j:Int):=⟨_,rfl⟩
      rw [<- hK];have hK0:0<=K:=by omega
      have hK1:K<=2500000000000000000:=by omega
      have HK:=Zab hK;have HBC:Hd (b < c j):=Zk_ HR.o.bc (HR.o.le Zz_ (by omega));have HS:Hd (Zpv wr b (off+j*2) (c j) (c (j+1)) wr x):=⟨ZbV.refl _ _ _ _ _ _,HBC.o,hc,HR.o.frz,HR.o.lt⟩;clear hpos hxj hx hs hc hK;obtain⟨d0,d1⟩:=HS.o.cells;have fz:=HS.o.frz;go_wp2_with fail;clear d0 d1 fz;refine (Zal _ _ (by omega)).mono ?_;rintro e v1 ⟨rfl,hb⟩;have HS1:=Zab (HS.o.below hb);clear hb HS;obtain⟨d0,d1⟩:=HS1.o.cells;have fz:=HS1.o.frz;go_wp2_with fail;clear d0 d1 fz;obtain⟨v2,hv2,HS2⟩:∃ v',v'=(v1.setCell ⟨b,off+j*2,none⟩ (.string (mtB (K))))/\Hd (Zpv wr b (off+j*2) (c j) (c (j+1)) v' ⟨mtB (K),x.ov⟩):=⟨_,rfl,(HS1.o.s0 (mtB (K)))⟩
      rw [<- hv2];clear hv2 HS1;refine (Zal _ _ (by omega)).mono ?_;rintro e v3 ⟨rfl,hb⟩;have HS3:=Zab (HS2.o.below hb);clear hb HS2;obtain⟨d0,d1⟩:=HS3.o.cells;have fz:=HS3.o.frz;go_wp2;clear d0 d1 fz;obtain⟨v4,hv4,HS4⟩:∃ v',v'=(v3.setCell ⟨b,off+j*2+1,none⟩ (.string (mtB (K+1))))/\Hd (Zpv wr b (off+j*2) (c j) (c (j+1)) v' ⟨mtB (K),mtB (K+1)⟩):=⟨_,rfl,(HS3.o.s1 (mtB (K+1)))⟩
      rw [<- hv4];clear hv4 HS3;have HW:Hd (Zt9 Xl[j]=2):=by unfold Hd;rw [<- HXJ.o,<- HXX.o];rfl
      have HQ:Hd ((K+1+1:Int)=k+(Zfm Xl (j+1):Int)):=by
       have h1:=HP.o;have h2:=HW.o;have h3:=HK.o;unfold Hd
       omega
      have HRN:=Zab (HR.o.near hlt HS4.o.near (show Zgt b (off+j*2) (c j) (c (j+1)) v4 (ZtE K x) from ⟨⟨Zb4 _ (by omega),Zb4 _ (by omega)⟩,HS4.o.cells⟩));have HTN:=Zab (HS4.o.near.wide HR.o.lt (lo':=lo) (hi':=hi) (by have:=HBC.o;have:=HR.o.low;omega) (Nat.le_trans (HR.o.le (by omega) Zl_) HR.o.top) ⟨HR.o.low,HR.o.bh⟩);go_roundw
      . 
       refine⟨j+1,by go_num,congrArg (Value.int .i64) HQ.o,by omega,HT.o.trans HTN.o,HRN.o.to (fun i hi'=>?_)⟩
       by_cases e:i=j
       . subst e
         rw [if_pos rfl,if_pos (by omega),<- HK.o,HXX.o]
       . rw [if_neg e]
         by_cases e2:i < j
         . rw [if_pos e2,if_pos (by omega)]
         . rw [if_neg e2,if_neg (by omega)]
      . simp [intOf];omega
    . have e:j=Xl.length:=by omega
      subst e;go_wp2;go_ret;refine⟨rfl,HT.o,Or.inr ⟨b,off,cap,c,fun i=>ZtE (k+(Zfm Xl i:Int)) (X i),by rw [ZdY],?_,by rw [ZdY];exact HM.o,by rw [ZdY];exact HC.o,fun i h=>?_,?_⟩⟩
      . intro e
        have:=congrArg List.length e;rw [ZdY] at this;exact HNE.o (List.length_eq_zero_iff.1 (by simpa using this))
      . have h':i < Xl.length:=by rw [ZdY] at h;exact h
        rw [ZqB _ _ _ _ h',<- HX.o i h']
      . rw [ZdY]
        exact HR.o.to (fun i hi'=>by rw [if_pos hi'])
end Go.Proofs.YtmappejlmapboaaGreat
