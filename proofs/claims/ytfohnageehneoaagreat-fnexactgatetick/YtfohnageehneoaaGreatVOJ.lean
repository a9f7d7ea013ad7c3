import Derived.Test.YtfohnageehneoaaGreatVOH
set_option maxHeartbeats 16000000
set_option maxRecDepth 100000
open Go.Proofs.Tryz
namespace Go.Proofs.YtfohnageehneoaaGreat
open Go.RowKit Go.Deep
theorem Zeq {P:Program} {w:World} {ops:Array Oper} {o:Oper} {a:Act} {K:Act→World→Prop} {Q:Exit→Act→World→Prop} {E:Prop} (hgd:o.guard=none) (s x:Operand) (t:TypeId)
 (ho:o.op=.call { callee:=.builtin .append,args:=#[s,x],argTypes:=#[t,t] })
 (base:Nat) (e:TypeId) (i:TypeInfo) (z:Value) (size bytes:Nat) (ht:P.underlying t=some (.slice e)) (hi:P.info? e=some i) (hz:i.zero=some z)
 (hsize:i.size=size) (hby:i.bytes=bytes) (hzs:z.cells.size=size) (hsz:0 < size)
 (v:Value) (n:Nat) (xs:List Value) (hs:a.eval s=v) (hown:w.ownsRow base e size v n xs)
 (ad:Addr) (m c:Nat) (news:List Value) (hx:a.eval x=.slice (some ad) m c) (hl:news.length=m*size) (hnews:∀ j u,news[j]?=some u→w.cell? (ad.add j)=some u) (h1:∀ u ∈ news,u.oneCell'=true)
 (h63:n+m≤maxLen) (hbytes:(n+m)*bytes≤140737488355328) (hbase:base≤w.heap.size)
 (h:∀ v' w',w'.ownsRow base e size v' (n+m) (xs ++ news)→w.grownBy w' v.ownBlock→K (a.put o.dst v') w') :
 if Region.wanted o (yielded ops a.tmps)=true then Oper.wp P o a w K Q else E:=by
 have hw:Region.wanted o (yielded ops a.tmps)=true:=by simp [Region.wanted,hgd]
 rw [if_pos hw];obtain⟨v',w',hr,h2,h3,h4,h5⟩:=run_append_own_at (P:=P) w base t o.type e i z size bytes ht hi hz hsize hby hzs hsz v n xs hown ad m c news hl hnews h1 h63 hbytes hbase;unfold Oper.wp execOp;simp only [ho,resolve,invoke,builtin,Sem.run_bind,Sem.run_pure,Result.andThen_ok,List.map_toArray,List.map_cons,List.map_nil,hs,hx,hr];exact h v' w' h2 h3
theorem Znc {W:World} {b off:Nat} {L:List Pu} (h:∀ j u,(Zch L)[j]?=some u→W.cell? ((⟨b,off,none⟩:Addr).add j)=some u) (q:Nat):∀ j u,((Zch L).take (q*5))[j]?=some u→W.cell? ((⟨b,off,none⟩:Addr).add j)=some u:=fun j u hj=>by
 rw [List.getElem?_take] at hj
 split at hj
 · exact h j u hj
 · cases hj
theorem Zn6 {W:World} {b off:Nat} {L:List Pu} (h:∀ j u,(Zch L)[j]?=some u→W.cell? ((⟨b,off,none⟩:Addr).add j)=some u) (q:Nat):∀ j u,((Zch L).drop (q*5))[j]?=some u→W.cell? ((⟨b,off+q*5,none⟩:Addr).add j)=some u:=fun j u hj=>by
 rw [List.getElem?_drop] at hj;have:=h _ u hj;rw [Go.WideShapes.add_plain] at this ⊢;rw [← this,Nat.add_assoc]
theorem Zok (lo b off cap q:Nat) (Ps:List Pu) (w:World) (h:ZbK lo w (.slice (some ⟨b,off,none⟩) Ps.length cap) Ps) (hq:q < Ps.length) (hcap:Ps.length≤cap) (hn:Ps.length≤1048576) :
 Calls prog 127 #[.slice (some ⟨b,off,none⟩) Ps.length cap,.int .i64 q] w fun e w'=>∃ v',e=.returned v'∧Zw_ w w'∧Za5 w.heap.size w'.heap.size w' v' (Ps.eraseIdx q):=by
 obtain⟨i0,hi,hz0,hz1,hz2⟩:=info_parts Tryz.info94;have HI:=Zab (And.intro hi (And.intro hz0 (And.intro hz1 hz2)));clear hi hz0 hz1 hz2;have HV:=Zab h
 have HZ:Hid (∀ i (hi:i < (Ps.eraseIdx q).length),Zcr (Ps.eraseIdx q)[i]):=fun i hi=>by
  obtain⟨_,_,_,_,_,_,_,hc⟩:=h.full (fun e=>by rw [e] at hq;simp at hq);obtain⟨k,hk,e⟩:=List.getElem_of_mem (List.mem_of_mem_eraseIdx (List.getElem_mem hi));rw [← e];exact (hc k hk).1
 clear h;have c1:¬ ((q:Int)+1 < 0):=by omega
 have c2:(q:Int)+1≤Ps.length:=by omega
 have c5:q+1≤Ps.length:=hq;have w1:IntKind.wrap .i64 ((q:Int)+1)=(q:Int)+1:=by rw [IntKind.wrap_i64];omega
 have w2:((q:Int)+1).toNat=q+1:=by omega
 have c3:q≤cap:=by omega
 have c4:q+1≤cap:=by omega
 obtain⟨A,hA,hsrc⟩:∃ A:Addr,(if cap=q+1 then some (⟨b,off,none⟩:Addr) else some ⟨b,off+(q+1)*5,none⟩)=some A∧Hid (∀ W,Zw_ w W→∀ t u,((Zch Ps).drop ((q+1)*5))[t]?=some u→W.cell? (A.add t)=some u):=by
  by_cases hc:cap=q+1
  · refine⟨⟨b,off,none⟩,by simp [hc],fun W _ t u hu=>?_⟩
    have h0:((Zch Ps).drop ((q+1)*5)).length=0:=by rw [List.length_drop,Zc7];omega
    rw [List.length_eq_zero_iff.1 h0] at hu;simp at hu
  · exact⟨⟨b,off+(q+1)*5,none⟩,by simp [hc],fun W hb=>Zn6 (Zel HV.out hb) (q+1)⟩
 go_enter func127,ntmps127;go_wp2_with fail
 go_region_held_law (fun W=>Hid (Zw_ w W))
  (first
    | (with_reducible exact Zab Zb_.drew)
    | (with_reducible exact Zab (Zac _ _).drew)
    | (with_reducible exact Zab (Zac _ _))
    | (with_reducible exact Zab Zb_)
    | (with_reducible assumption)
    | (with_reducible exact Zab (bt (Hid.out (by assumption)) (Zac _ _))))
  (first
    | (refine Zeq (by rfl) (.tmp 5) (.tmp 8) 38 (by rfl) w.heap.size 94 i0 (.agg #[.string ⟨#[]⟩,.string ⟨#[]⟩,.string ⟨#[]⟩,.int .i64 0,.int .i64 0]) 5 64 underlying38 HI.out.1 HI.out.2.1 HI.out.2.2.1 HI.out.2.2.2 (by rfl) (by decide) _ 0 [] (by rfl) (by first | exact Zbg _ _ _ 5 (by simp) (by simp) | exact World.ownsRow.drew (Zbg _ _ _ 5 (by simp) (by simp))) ⟨b,off,none⟩ q cap ((Zch Ps).take (q*5)) (by rfl) (by rw [List.length_take,Zc7];omega) (Znc (Zel HV.out (Hid.out (by assumption))) q) (fun u hu=>Zfy _ u (List.mem_of_mem_take hu)) (by unfold maxLen;omega) (by omega) (by simp) ?_
       intro v3 w3 hown3 hgrow3;have hB3:Hid (Zw_ w w3):=Zab (Below.trans (Hid.out (by assumption)) (Zbw (e:=94) (sz:=5) (n:=0) (cs:=[]) (base:=w.heap.size) (by first | exact Zbg _ _ _ 5 (by simp) (by simp) | exact World.ownsRow.drew (Zbg _ _ _ 5 (by simp) (by simp))) hgrow3 (by simp)));rw [Nat.zero_add,List.nil_append] at hown3)
    | (refine Zeq (by rfl) (.tmp 9) (.tmp 13) 38 (by rfl) w.heap.size 94 i0 (.agg #[.string ⟨#[]⟩,.string ⟨#[]⟩,.string ⟨#[]⟩,.int .i64 0,.int .i64 0]) 5 64 underlying38 HI.out.1 HI.out.2.1 HI.out.2.2.1 HI.out.2.2.2 (by rfl) (by decide) _ q ((Zch Ps).take (q*5)) (by rfl) hown3 A (Ps.length - (q+1)) (cap - (q+1)) ((Zch Ps).drop ((q+1)*5)) (by rfl) (by rw [List.length_drop,Zc7];omega) (hsrc.out _ hB3.out) (fun u hu=>Zfy _ u (List.mem_of_mem_drop hu)) (by unfold maxLen;omega) (by omega) hB3.out.size ?_
       intro v6 w6 hown6 hgrow6;have hB6:Hid (Zw_ w w6):=hB3.out.trans (Zbw hown3 hgrow6 hB3.out.size)))
 have hle:(Ps.eraseIdx q).length=q+(Ps.length - (q+1)):=by rw [List.length_eraseIdx_of_lt hq];omega
 rw [← Zm9 Ps q hq,← hle] at hown6;have HO:Hid (Za5 w.heap.size w6.heap.size w6 v6 (Ps.eraseIdx q)):=ZgH hown6 HZ.out;clear hown6 hgrow6 hown3 hgrow3;go_wp2;go_ret;exact⟨v6,by simp,hB6.out,HO.out⟩
theorem Zad.setNew {lo hi:Nat} {w X:World} (h:Zad lo hi w X) {p:Addr} (hp:w.heap.size≤p.block) (u:Value):Zad lo hi w (X.setCell p u):=
 ⟨h.os,h.tape,h.output,by simp only [World.setCell,Array.size_modify];exact h.size,fun k hk ho=>(Below.heap_setCell _ _ _ _ (by omega)).trans (h.block k hk ho)⟩
def Zcj (x lo hi:Nat) (w:World) (ov gv lv pv:Value) (B:Bk):Prop:=
 ∃ o0 o1 g0 g1 l0 l1 p0 p1:Nat,Zl1 lo hi o0 o1 g0 g1 l0 l1 p0 p1∧((o1≤x∨x < o0)∧(g1≤x∨x < g0)∧(l1≤x∨x < l0)∧(p1≤x∨x < p0))∧Za2 o0 o1 w ov B.os∧Za8 g0 g1 w gv B.gs∧ZaO l0 l1 w lv B.ls∧Za5 p0 p1 w pv B.ps
theorem Zcj.own {x lo hi:Nat} {w:World} {ov gv lv pv:Value} {B:Bk} (h:Zcj x lo hi w ov gv lv pv B):Zax lo hi w ov gv lv pv B:=by
 obtain⟨o0,o1,g0,g1,l0,l1,p0,p1,ha,-,hO,hG,hL,hP⟩:=h;exact⟨o0,o1,g0,g1,l0,l1,p0,p1,ha,hO,hG,hL,hP⟩
theorem Zax.off {x lo hi:Nat} {w:World} {ov gv lv pv:Value} {B:Bk} (h:Zax lo hi w ov gv lv pv B) (hx:hi≤x):Zcj x lo hi w ov gv lv pv B:=by
 obtain⟨o0,o1,g0,g1,l0,l1,p0,p1,ha,hO,hG,hL,hP⟩:=h;obtain⟨⟨y1,y2⟩,⟨y3,y4⟩,⟨y5,y6⟩,⟨y7,y8⟩,yog,yol,yop,ygl,ygp,ylp⟩:=ha;exact⟨o0,o1,g0,g1,l0,l1,p0,p1,⟨⟨y1,y2⟩,⟨y3,y4⟩,⟨y5,y6⟩,⟨y7,y8⟩,yog,yol,yop,ygl,ygp,ylp⟩,⟨Or.inl (by omega),Or.inl (by omega),Or.inl (by omega),Or.inl (by omega)⟩,hO,hG,hL,hP⟩
theorem Zcj.below {x lo hi:Nat} {w w':World} {ov gv lv pv:Value} {B:Bk} (h:Zcj x lo hi w ov gv lv pv B) (hb:Zw_ w w'):Zcj x lo hi w' ov gv lv pv B:=by
 obtain⟨o0,o1,g0,g1,l0,l1,p0,p1,ha,hx,hO,hG,hL,hP⟩:=h;exact⟨o0,o1,g0,g1,l0,l1,p0,p1,ha,hx,hO.below hb,hG.below hb,hL.below hb,hP.below hb⟩
theorem Zcj.set {x lo hi:Nat} {w:World} {ov gv lv pv:Value} {B:Bk} (h:Zcj x lo hi w ov gv lv pv B) (i:Nat) (u:Value):Zcj x lo hi (w.setCell ⟨x,i,none⟩ u) ov gv lv pv B:=by
 obtain⟨o0,o1,g0,g1,l0,l1,p0,p1,ha,⟨x1,x2,x3,x4⟩,hO,hG,hL,hP⟩:=h;have ht:Zad x (x+1) w (w.setCell ⟨x,i,none⟩ u):=Zad.setCell x (x+1) w _ u ⟨Nat.le_refl _,Nat.lt_succ_self _⟩;exact⟨o0,o1,g0,g1,l0,l1,p0,p1,ha,⟨x1,x2,x3,x4⟩,hO.touch ht (by omega),hG.touch ht (by omega),hL.touch ht (by omega),hP.touch ht (by omega)⟩
theorem Zcj.fin {x lo β o0 o1 g0 g1 l0 l1 p0:Nat} {w3 W:World} {ov gv lv pv:Value} {B:Bk} (ht:Zad β (β+2) w3 W) (hO:Za2 o0 o1 w3 ov B.os) (hG:Za8 g0 g1 w3 gv B.gs) (hL:ZaO l0 l1 w3 lv B.ls) (hP:Za5 p0 w3.heap.size w3 pv B.ps)
 (h0:lo≤o0∧o1≤β) (h1:lo≤g0∧g1≤β) (h2:lo≤l0∧l1≤β) (h3:β+2≤p0) (h4:p0≤w3.heap.size) (h5:lo≤β) (yog:o1≤g0∨g1≤o0) (yol:o1≤l0∨l1≤o0) (ygl:g1≤l0∨l1≤g0) (hx:(o1≤x∨x < o0)∧(g1≤x∨x < g0)∧(l1≤x∨x < l0)) (hxb:x≤β):Zcj x lo W.heap.size W ov gv lv pv B:=by
 have hs:=ht.size;exact⟨o0,o1,g0,g1,l0,l1,p0,w3.heap.size,⟨by omega,by omega,by omega,by omega,yog,yol,by omega,ygl,by omega,by omega⟩,⟨hx.1,hx.2.1,hx.2.2,Or.inr (by omega)⟩,hO.touch ht (by omega),hG.touch ht (by omega),hL.touch ht (by omega),hP.touch ht (by omega)⟩
theorem Znd (x lo hi q k lb lf pb pf k0 k1 k2 k3:Nat) (a0 a1:Option Addr) (B:Bk) (w:World) (h:Zcj x lo hi w (.slice a0 B.os.length k0) (.slice a1 B.gs.length k1) (.slice (some ⟨lb,lf,none⟩) B.ls.length k2) (.slice (some ⟨pb,pf,none⟩) B.ps.length k3) B) (hhi:hi≤w.heap.size) (hlx:lo≤w.heap.size) (hx:x≤w.heap.size) (hok:Zdu B.ls B.ps) (hq:q < B.ps.length) (hk:k < B.ls.length) (hkk:ZiH B.ls B.ps[q].tm B.ps[q].re=k) :
 Calls prog 69 #[.agg #[.int .i64 B.now,.int .i64 B.tick,.int .i64 B.given,.slice a0 B.os.length k0,.slice a1 B.gs.length k1,.slice (some ⟨lb,lf,none⟩) B.ls.length k2,.slice (some ⟨pb,pf,none⟩) B.ps.length k3],.int .i64 q] w
  fun e w'=>∃ v',e=.returned (.agg #[.int .i64 B.now,.int .i64 B.tick,.int .i64 B.given,.slice a0 B.os.length k0,.slice a1 B.gs.length k1,.slice (some ⟨lb,lf,none⟩) B.ls.length k2,v'])∧Zad lo hi w w'∧(∀ cs,Box w x cs→Box w' x cs)∧Zcj x lo w'.heap.size w' (.slice a0 B.os.length k0) (.slice a1 B.gs.length k1) (.slice (some ⟨lb,lf,none⟩) B.ls.length k2) v' (Zg2 B q k):=by
 have HH:=Zab h.own;have HOK:=Zab hok;have HKK:=Zab hkk;obtain⟨o0,o1,g0,g1,l0,l1,p0,p1,ha,hxo,hO,hG,hL,hP⟩:=h;have HXO:=Zab hxo;have HO:=Zab hO;have HG:=Zab hG;have HL:=Zab hL;have HP:=Zab hP;have HA:=Zab ha;obtain⟨b',off',e',hbw,-,hc⟩:=hP.at.full' (by omega);injection e' with e'
 injection e' with e1 e2
 subst e1 e2;obtain⟨_,hcl⟩:=hc q hq;have al:∀ (o o':Obj) i,((w.alloc o).alloc o').cell? ⟨pb,i,none⟩=w.cell? ⟨pb,i,none⟩:=fun o o' i=>((Zac w o).alloc (by simp) o').cell (p:=⟨pb,i,none⟩) hbw
 have d0:∀ o o':Obj,((w.alloc o).alloc o').cell? ⟨pb,pf+q*5,none⟩=_:=fun o o'=>(al o o' _).trans hcl.c0
 have d1:∀ o o':Obj,((w.alloc o).alloc o').cell? ⟨pb,pf+q*5+1,none⟩=_:=fun o o'=>(al o o' _).trans hcl.c1
 have d2:∀ o o':Obj,((w.alloc o).alloc o').cell? ⟨pb,pf+q*5+2,none⟩=_:=fun o o'=>(al o o' _).trans hcl.c2
 have d3:∀ o o':Obj,((w.alloc o).alloc o').cell? ⟨pb,pf+q*5+3,none⟩=_:=fun o o'=>(al o o' _).trans hcl.c3
 have d4:∀ o o':Obj,((w.alloc o).alloc o').cell? ⟨pb,pf+q*5+4,none⟩=_:=fun o o'=>(al o o' _).trans hcl.c4
 clear hc hcl al hO hG hL hP ha hkk hok hxo;go_enter func69,ntmps69;go_wp2_with fail;generalize hWa:World.alloc (World.alloc (w.alloc _) _) _=Wa;have hba:Zw_ w Wa:=by rw [← hWa];exact ((Zac w _).alloc (by simp) _).alloc (by simp;omega) _
 have hsa:Wa.heap.size=w.heap.size+3:=by rw [← hWa];simp
 have FB:Hid (Box Wa w.heap.size #[.int .i64 B.now,.int .i64 B.tick,.int .i64 B.given,.slice a0 B.os.length k0,.slice a1 B.gs.length k1,.slice (some ⟨lb,lf,none⟩) B.ls.length k2,.slice (some ⟨pb,pf,none⟩) B.ps.length k3]):=by rw [← hWa];exact ((Box.new _ _ _ _ rfl).on (Zac _ _)).on (Zac _ _)
 have FZ:Hid (Box Wa (w.heap.size+1) #[.int .i64 0,.int .i64 0,.int .i64 0,.slice none 0 0,.slice none 0 0,.slice none 0 0,.slice none 0 0]):=by rw [← hWa];exact (Box.new _ _ _ _ (by simp)).on (Zac _ _)
 have FP:Hid (Box Wa (w.heap.size+2) #[.string B.ps[q].dr,.string B.ps[q].tm,.string B.ps[q].re,.int .i64 B.ps[q].am,.int .i64 B.ps[q].un]):=by rw [← hWa];exact Box.new _ _ _ _ (by simp)
 clear hWa d0 d1 d2 d3 d4;refine (ZaV lo _ _ _ _ B _ _ _ (HH.out.at.below hba)).mono ?_;rintro e w1 ⟨rfl,hb1⟩;rw [HKK.out];replace FB:=Zab (FB.out.on hb1);replace FZ:=Zab (FZ.out.on hb1);replace FP:=Zab (FP.out.on hb1);have HB1:Hid (Zw_ w w1):=bt hba hb1;have hs1:=hb1.size;have HL1:=Zab (HL.out.below HB1.out);clear hba hb1;obtain⟨b',off',e',hlw,-,hc⟩:=HL1.out.at.full' (by omega);injection e' with e'
 injection e' with e1 e2
 subst e1 e2;obtain⟨_,hcl⟩:=hc k hk;have c3:=hcl.c3;have fz:=HL1.out.frz (by omega);have x5:=FB.out.cell 5;have fp3:=FP.out.cell 3;simp at x5 fp3;have hfp:=HOK.out.fr' k hk;have hap:=HOK.out.am q hq;clear hc hcl;have HFR:=Zab (HL1.out.free hk B.ps[q].am);go_wp2_with fail
 go_cut [6] (fun kv wc=>kv=.int .i64 k∧Zad l0 l1 w1 wc∧ZaO l0 l1 wc (.slice (some ⟨lb,lf,none⟩) B.ls.length k2) (Zc3 B.ls k B.ps[q].am))
 case first=>
  go_region
  all_goals go_wp2
  all_goals go_meet
  all_goals exact⟨rfl,HFR.out.2.trans (Zad.below (Zb_.drew)),HFR.out.1.below (Zb_.drew)⟩
 case rest=>
  obtain⟨rfl,ht,hl⟩:=hcut;have hA:=HA.out;obtain⟨⟨y1,y2⟩,⟨y3,y4⟩,⟨y5,y6⟩,⟨y7,y8⟩,yog,yol,yop,ygl,ygp,ylp⟩:=hA;have hsc:=ht.size;have FBc:=Zab (FB.out.touch ht (by omega));have FZc:=Zab (FZ.out.touch ht (by omega));have HOc:=Zab ((HO.out.below HB1.out).touch ht (by omega));have HGc:=Zab ((HG.out.below HB1.out).touch ht (by omega));have HPc:=Zab ((HP.out.below HB1.out).touch ht (by omega));have HLc:=Zab hl;have HBX:Hid (∀ cs,Box w x cs→Box wc x cs):=fun cs hb=>(hb.on HB1.out).touch ht (by have:=HXO.out.2.2.1;omega)
  have HTc:Hid (Zad lo hi w wc):=(Zad.below HB1.out).trans (ht.wide (by omega) (by omega));have hcp:=(HPc.out.facts (by omega)).2.2.2.2.2.1;have hp0:=(HPc.out.facts (by omega)).2.1;have hp1:=(HPc.out.facts (by omega)).2.2.1;have x6:=FBc.out.cell 6;simp at x6;clear ht hl x5 fp3 c3 fz HFR FB FZ FP HO HG HP HL HL1 HB1;go_wp2_with fail;refine (Zok p0 pb pf k3 q B.ps wc HPc.out.at hq hcp HOK.out.np).mono ?_;rintro e w3 ⟨v',rfl,hb3,ho3⟩;obtain⟨a9,c9,rfl⟩:=ho3.at.form;have HO3:=Zab ho3;have FB3:=Zab (FBc.out.on hb3);have FZ3:=Zab (FZc.out.on hb3);have HB3:=Zab hb3;have hs3:=hb3.size;have b0:=FB3.out.cell;have b1:=FB3.out.free;have z0:=FZ3.out.cell;have z1:=FZ3.out.free;clear ho3 hb3 x6;go_wp2
  refine bodyPost_ret (v:=.agg #[.int .i64 B.now,.int .i64 B.tick,.int .i64 B.given,.slice a0 B.os.length k0,.slice a1 B.gs.length k1,.slice (some ⟨lb,lf,none⟩) B.ls.length k2,.slice a9 (B.ps.eraseIdx q).length c9]) (by simp [results,results69,go_sem,z0]) rfl ⟨_,rfl,?_,?_,?_⟩
  · iterate 8 (refine Zad.setNew ?_ (by simp only [];omega) _)
    exact HTc.out.trans (Zad.below HB3.out)
  · intro cs hb
    have hlt:=hb.lt
    iterate 8 (refine Box.setFar ?_ (by simp only [];omega) _)
    exact (HBX.out cs hb).on HB3.out
  · rw [Zfi hq]
    refine Zcj.fin (β:=w.heap.size) (w3:=w3) ?_ (HOc.out.below HB3.out) (HGc.out.below HB3.out) (HLc.out.below HB3.out) HO3.out (by omega) (by omega) (by omega) (by omega) (by omega) (by omega) yog yol ygl ⟨HXO.out.1,HXO.out.2.1,HXO.out.2.2.1⟩ hx
    iterate 8 (refine Zad.trans ?_ (Zad.setCell _ _ _ _ _ (by simp only [];omega)))
    exact Zad.refl _ _ _
end Go.Proofs.YtfohnageehneoaaGreat
