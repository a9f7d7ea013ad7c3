import Derived.Test.YtbdhbihhgfpnnaaGreatV38
import Derived.Test.YtbdhbihhgfpnnaaGreatV45
set_option maxHeartbeats 16000000
set_option maxRecDepth 100000
open Go.Proofs.Tryz
namespace Go.Proofs.YtbdhbihhgfpnnaaGreat
open Go.RowKit Go.Deep
theorem Zgm (X:World) (g:Nat) (L:List Value) (t:TypeId) (hg:X.heap.size=g):∀ j x,L[j]?=some x->(X.alloc (.cells L.toArray t)).cell? ((⟨g,0,none⟩:Addr).add j)=some x:=by
 intro j x hx;subst hg;rw [Go.WideShapes.add_plain,Nat.zero_add,ZbJ _ _ _ _ _ rfl]
 simpa using hx
theorem ZgR {P:Program} (w:World) (t ty e:TypeId) (i:TypeInfo) (ht:P.underlying t=some (.slice e)) (hi:P.info? e=some i) (c:Nat):(Builtin.append_ #[t,t] ty #[.slice none 0 0,.slice none 0 c]).run P w=.ok (.slice none 0 0) w:=by
 simp [Builtin.append_,run_underlying ht,sizeOf,typeInfo,hi,Builtin.lenOf,run_firstCells_none]
section
variable {base β:Nat} {W0 W:World} {p:Addr} {u:Value} {cs:Array Value}
theorem ZoZ:(prog.info? 109).map (fun i=>(i.zero,i.size,i.bytes))=some (some (.agg #[.string ⟨#[]⟩,.int .i64 0,.int .i64 0,.int .i64 0,.slice none 0 0,.string ⟨#[]⟩,.int .i64 0,.bool false,.bool false,.string ⟨#[]⟩,.string ⟨#[]⟩]),11,128):=by kernel_rfl
theorem Zo0:(prog.info? 115).map (fun i=>(i.zero,i.size,i.bytes))=some (some (.agg #[.string ⟨#[]⟩,.slice none 0 0]),2,40):=by kernel_rfl
theorem ZqD:(prog.info? 113).map (fun i=>(i.zero,i.size,i.bytes))=some (some (.agg #[.string ⟨#[]⟩,.string ⟨#[]⟩,.string ⟨#[]⟩,.string ⟨#[]⟩,.string ⟨#[]⟩,.string ⟨#[]⟩]),6,96):=by kernel_rfl
def fdV (f:Fd):List Value:=[.string f.nm,.int .i64 f.kd,.int .i64 f.le,.int .i64 f.mo,.slice none 0 0,.string f.to,.int .i64 f.ro,.bool f.mu,.bool f.fx,.string f.df,.string f.we]
theorem Zqo (f:Fd):∀ u ∈ fdV f,u.oneCell'=true:=by
 intro u hu;simp only [fdV,List.mem_cons,List.not_mem_nil,or_false] at hu
 rcases hu with rfl | rfl | rfl | rfl | rfl | rfl | rfl | rfl | rfl | rfl | rfl <;> rfl
abbrev ZfR (base:Nat) (W0:World) (p:Addr) (u:Value) (β:Nat) (cs:Array Value) (W:World):Prop:=
 W.cell? p=some u/\(∀ i,W.cell? ⟨β,i,none⟩=cs[i]?)/\Hd (Below base W0 W/\p.block < base/\β < base)
theorem ZfR.on {W':World} (h:ZfR base W0 p u β cs W) (hb:Below base W W'):ZfR base W0 p u β cs W':=
 ⟨(hb.cell h.2.2.o.2.1).trans h.1,fun i=>(hb.cell (p:=⟨β,i,none⟩) h.2.2.o.2.2).trans (h.2.1 i),h.2.2.o.1.trans hb,h.2.2.o.2⟩
theorem ZfR.al (h:ZfR base W0 p u β cs W) (hz:base<=W.heap.size) (o:Obj):ZfR base W0 p u β cs (W.alloc o):=h.on (Zb_.alloc hz _)
theorem ZlW (base lam sb β cap n:Nat) (fv:Value) (f:Fd) (xs:List Value) (w:World) (_hl:lam < base) (hs:sb < base) (hβ:β < base) (hz:base<=w.heap.size) (hn:n<=100)
 (c0:w.cell? ⟨lam,0,none⟩=some (.slice (some ⟨sb,0,none⟩) 1 cap)) (c1:w.cell? ⟨sb,1,none⟩=some fv) (f1:w.frozen? ⟨sb,1,none⟩=false) (hB:Box w β (fdV f).toArray) (ho:w.ownsRow base 109 11 fv n xs) :
 Calls prog 132 #[.pointer (some ⟨lam,0,none⟩),.pointer (some ⟨β,0,none⟩)] w
  fun e w'=>e=.returned (.tuple #[])/\∃ w3 v',w'=w3.setCell ⟨sb,1,none⟩ v'/\Below base w w3/\w3.ownsRow base 109 11 v' (n+1) (xs ++ fdV f):=by
 obtain⟨i0,hi,hz0,hz1,hz2⟩:=info_parts ZoZ;have HI:=Zab (And.intro hi (And.intro hz0 (And.intro hz1 hz2)));clear hi hz0 hz1 hz2;have HO:=Zab ho;have HF1:=Zab f1;have HB:=Zab hB;clear ho hB f1;go_enter func132,ntmps132;go_wp2
 go_region
 generalize hwd:w.drew=wd;have HBd:Hd (Below base w wd):=by unfold Hd;rw [<- hwd];exact Zb_.drew
 have hzd:base<=wd.heap.size:=by rw [<- hwd];exact hz
 have HOd:Hd (wd.ownsRow base 109 11 fv n xs):=by unfold Hd;rw [<- hwd];exact HO.o
 have K0:Hd (ZfR base wd ⟨sb,1,none⟩ fv β #[.string f.nm,.int .i64 f.kd,.int .i64 f.le,.int .i64 f.mo,.slice none 0 0,.string f.to,.int .i64 f.ro,.bool f.mu,.bool f.fx,.string f.df,.string f.we] wd):=⟨by rw [<- hwd];exact c1,fun i=>by rw [<- hwd];exact HB.o.cell i,Below.refl _ _,hs,hβ⟩;have HF2:Hd (∀ W,Below base wd W->W.frozen? ⟨sb,1,none⟩=false):=fun W hW=>(World.frozen?_of_block (w:=wd) (hW.block sb hs)).trans (by rw [<- hwd];exact HF1.o)
 clear hwd c0 c1 HO HB HF1;have s1:wd.cell? ⟨sb,1,none⟩=some fv:=K0.o.1;have s2:∀ i,wd.cell? ⟨β,i,none⟩=#[.string f.nm,.int .i64 f.kd,.int .i64 f.le,.int .i64 f.mo,.slice none 0 0,.string f.to,.int .i64 f.ro,.bool f.mu,.bool f.fx,.string f.df,.string f.we][i]?:=K0.o.2.1
 have s3:∀ o,(wd.alloc o).cell? ⟨sb,1,none⟩=some fv:=fun o=>(ZfR.al K0.o hzd o).1
 go_wp2
 go_region_law (first
  | (refine step_append_lies _ (by rfl) (.tmp 19) (.tmp 21) 111 (by rfl) base 109 i0 (.agg #[.string ⟨#[]⟩,.int .i64 0,.int .i64 0,.int .i64 0,.slice none 0 0,.string ⟨#[]⟩,.int .i64 0,.bool false,.bool false,.string ⟨#[]⟩,.string ⟨#[]⟩]) 11 128 underlying111 HI.o.1 HI.o.2.1 HI.o.2.2.1 HI.o.2.2.2 (by rfl) (by decide) fv n xs (by rfl) (Below.ownsB HOd.o ((Zac _ _).drew)) ⟨wd.heap.size,0,none⟩ 1 1 (fdV f) (by rfl) (by rfl) (Zgm _ _ _ _ rfl) (Zqo f) (by decide) (by unfold maxLen;omega) (by omega) (by simp;omega) _ rfl ?_
     intro g cap3 w3 hown3 hgrow3 hat3 hlt3;have HB3:Hd (Below base wd w3):=(((Zac wd _).mono hzd).drew).trans (ZeM (Below.ownsB HOd.o ((Zac _ _).drew)) hgrow3 (by simp;omega));have y3:w3.cell? ⟨sb,1,none⟩=some fv:=(HB3.o.cell (p:=⟨sb,1,none⟩) hs).trans s1;have f3:w3.frozen? ⟨sb,1,none⟩=false:=HF2.o w3 HB3.o))
 all_goals go_end0
 all_goals exact⟨rfl,w3,_,rfl,HBd.o.trans HB3.o,hown3⟩
end
section
variable {w W:World} {L:List Tm} {P:Program}
def Zgg:List Tm->List Value
 | []=>[]
 | x :: L=>.string x.nm :: .string x.ov :: Zgg L
theorem Zf2:∀ L:List Tm,(Zgg L).length=L.length*2
 | []=>rfl
 | x :: L=>by simp only [Zgg,List.length_cons,Zf2 L];omega
theorem Zka:∀ (L:List Tm) (i:Nat) (h:i < L.length),(Zgg L)[i*2]?=some (.string L[i].nm)/\(Zgg L)[i*2+1]?=some (.string L[i].ov)
 | [],i,h=>by simp at h
 | x :: L,0,_=>⟨rfl,rfl⟩
 | x :: L,i+1,h=>by
  have:=Zka L i (by simpa using h);rw [show (i+1)*2=i*2+1+1 by omega];exact this
theorem ZkX:∀ (L:List Tm),∀ u ∈ Zgg L,u.oneCell'=true
 | [],u,hu=>by simp [Zgg] at hu
 | x :: L,u,hu=>by
  simp only [Zgg,List.mem_cons] at hu
  rcases hu with rfl | rfl | hu
  . rfl
  . rfl
  . exact ZkX L u hu
theorem ZiS {lo:Nat}{ad:Addr}{cap:Nat} (h:ZaZ lo w (.slice (some ad) L.length cap) L) (hb:Zw_ w W):∀ j u,(Zgg L)[j]?=some u->W.cell? (ad.add j)=some u:=by
 intro j u hj
 have hl:j < L.length*2:=by
  rcases Nat.lt_or_ge j (L.length*2) with h | h
  . exact h
  . rw [List.getElem?_eq_none (by rw [Zf2];exact h)] at hj;cases hj
 obtain⟨b,off,e,hlt,hc⟩:=h.full' (by omega);injection e with e
 subst e;have hi:j / 2 < L.length:=by omega
 obtain⟨_,hcc⟩:=hc (j / 2) hi;obtain⟨h0,h1⟩:=hcc;obtain⟨v0,v1⟩:=Zka L (j / 2) hi;rw [Go.WideShapes.add_plain,hb.cell (p:=⟨b,off+j,none⟩) hlt];have hm:j=j / 2*2\/j=j / 2*2+1:=by omega
 rcases hm with hm | hm
 . have e1:(Zgg L)[j]?=(Zgg L)[j / 2*2]?:=congrArg (fun q=>(Zgg L)[q]?) hm
   have e2:w.cell? ⟨b,off+j,none⟩=w.cell? ⟨b,off+j / 2*2,none⟩:=congrArg (fun q=>w.cell? ⟨b,q,none⟩) (by omega);exact e2.trans (h0.trans (v0.symm.trans (e1.symm.trans hj)))
 . have e1:(Zgg L)[j]?=(Zgg L)[j / 2*2+1]?:=congrArg (fun q=>(Zgg L)[q]?) hm
   have e2:w.cell? ⟨b,off+j,none⟩=w.cell? ⟨b,off+j / 2*2+1,none⟩:=congrArg (fun q=>w.cell? ⟨b,q,none⟩) (by omega);exact e2.trans (h1.trans (v1.symm.trans (e1.symm.trans hj)))
theorem ZkY {base:Nat}{v:Value} (h:W.ownsRow base 130 2 v L.length (Zgg L)) (hz:∀ i (hi:i < L.length),ZdX L[i]):Zcl base W.heap.size W v L:=by
 by_cases hL:L=[]
 . subst hL
   rcases h.2 with ⟨hv,_⟩ | ⟨g,cap,cur,hv,_⟩
   . exact Or.inl ⟨_,_,hv,rfl⟩
   . exact Or.inl ⟨_,_,hv,rfl⟩
 . rcases h.2 with ⟨_,hn⟩ | ⟨g,cap,cur,hv,h1,h2,h3,h4,_⟩
   . exact absurd (List.length_eq_zero_iff.1 hn) hL
   . have hl:=ZdH h (g:=g) (by rw [hv];rfl)
     have ho:=h;have h0:0 < L.length:=List.length_pos_iff.2 hL
     subst hv;refine Or.inr ⟨g,0,cap,fun _=>g+1,fun i=>if h:i < L.length then L[i] else L[0],rfl,hL,Nat.le_trans h3 h4,h3,fun i hi=>by simp [hi],hl.1,hl.2.1,Nat.lt_succ_self _,hl.1,fun _ _=>Nat.le_refl _,hl.1,hl.2.2,fun i hi=>?_⟩;obtain⟨v0,v1⟩:=Zka L i hi;simp only [hi,dif_pos];have ce:∀ j,j < 2->W.cell? ⟨g,0+i*2+j,none⟩=(Zgg L)[i*2+j]?:=fun j hj=>by rw [Nat.zero_add];exact ho.cellAt _ (by omega)
     exact⟨hz i hi,⟨(ce 0 (by omega)).trans v0,(ce 1 (by omega)).trans v1⟩⟩
theorem Zhj (w:World) (t ty e:TypeId) (i:TypeInfo) (z:Value) (size bytes:Nat) (ht:P.underlying t=some (.slice e)) (hi:P.info? e=some i) (hz:i.zero=some z)
 (hsize:i.size=size) (hby:i.bytes=bytes) (hzs:z.cells.size=size) (hsz:0 < size) (ao:Option Addr) (m c:Nat) (news:List Value) (hl:news.length=m*size) (hm:ao=none->m=0)
 (hnews:∀ ad,ao=some ad->∀ j u,news[j]?=some u->w.cell? (ad.add j)=some u) (h1:∀ u ∈ news,u.oneCell'=true) (h63:m<=maxLen) (hbytes:m*bytes<=140737488355328) :
 ∃ v' w',(Builtin.append_ #[t,t] ty #[.slice none 0 0,.slice ao m c]).run P w=.ok v' w'/\w'.ownsRow w.heap.size e size v' m news/\Zw_ w w':=by
 cases ao with
 | none=>
  have hm0:=hm rfl;subst hm0;have hn:news=[]:=List.length_eq_zero_iff.1 (by rw [hl,Nat.zero_mul]);subst hn;exact⟨_,_,ZgR w t ty e i ht hi c,ZhK _ _ _,Below.refl _ _⟩
 | some ad=>
  obtain⟨v',w',hr,h2,h3,_⟩:=run_append_own_at w w.heap.size t ty e i z size bytes ht hi hz hsize hby hzs hsz _ 0 [] (ZhK _ _ _) ad m c news hl (hnews ad rfl) h1 (by omega) (by rw [Nat.zero_add];exact hbytes) Zl_;rw [Nat.zero_add,List.nil_append] at h2;exact⟨v',w',hr,h2,Below.grown h3⟩
theorem ZgV {ops:Array Oper}{o:Oper}{a:Act}{K:Act->World->Prop}{Q:Exit->Act->World->Prop}{E:Prop} (hgd:o.guard=none) (s x:Operand) (t:TypeId)
 (ho:o.op=.call { callee:=.builtin .append,args:=#[s,x],argTypes:=#[t,t] })
 (e:TypeId) (i:TypeInfo) (z:Value) (size bytes:Nat) (ht:P.underlying t=some (.slice e)) (hi:P.info? e=some i) (hz:i.zero=some z)
 (hsize:i.size=size) (hby:i.bytes=bytes) (hzs:z.cells.size=size) (hsz:0 < size) (hs:a.eval s=.slice none 0 0)
 (ao:Option Addr) (m c:Nat) (news:List Value) (hx:a.eval x=.slice ao m c) (hl:news.length=m*size) (hm:ao=none->m=0) (hnews:∀ ad,ao=some ad->∀ j u,news[j]?=some u->w.cell? (ad.add j)=some u)
 (h1:∀ u ∈ news,u.oneCell'=true) (h63:m<=maxLen) (hbytes:m*bytes<=140737488355328)
 (h:∀ v' w',w'.ownsRow w.heap.size e size v' m news->Zw_ w w'->K (a.put o.dst v') w') :
 if Region.wanted o (yielded ops a.tmps)=true then Oper.wp P o a w K Q else E:=by
 have hw:Region.wanted o (yielded ops a.tmps)=true:=by simp [Region.wanted,hgd]
 rw [if_pos hw];obtain⟨v',w',hr,h2,h3⟩:=Zhj (P:=P) w t o.type e i z size bytes ht hi hz hsize hby hzs hsz ao m c news hl hm hnews h1 h63 hbytes;unfold Oper.wp execOp;simp only [ho,resolve,invoke,builtin,Sem.run_bind,Sem.run_pure,Result.andThen_ok,List.map_toArray,List.map_cons,List.map_nil,hs,hx,hr];exact h v' w' h2 h3
theorem Zms (base lam β:Nat) (kd:Zy_) (w:World) (hl:lam < base) (hβ:β < base) (hz:base<=w.heap.size)
 (c1:w.cell? ⟨lam,0,none⟩=some (.slice none 0 0)) (f1:w.frozen? ⟨lam,0,none⟩=false) (hB:Box w β #[.string kd]) :
 Calls prog 131 #[.pointer (some ⟨lam,0,none⟩),.pointer (some ⟨β,0,none⟩)] w
  fun e w'=>e=.returned (.tuple #[])/\∃ w3 v',w'=w3.setCell ⟨lam,0,none⟩ v'/\Below base w w3/\w3.ownsRow base 115 2 v' 1 [.string kd,.slice none 0 0]:=by
 obtain⟨i0,hi,hz0,hz1,hz2⟩:=info_parts Zo0;have HI:=Zab (And.intro hi (And.intro hz0 (And.intro hz1 hz2)));clear hi hz0 hz1 hz2;have K0:Hd (ZfR base w ⟨lam,0,none⟩ (.slice none 0 0) β #[.string kd] w):=⟨c1,hB.cell,Below.refl _ _,hl,hβ⟩;have HF2:Hd (∀ W,Below base w W->W.frozen? ⟨lam,0,none⟩=false):=fun W hW=>(World.frozen?_of_block (w:=w) (hW.block lam hl)).trans f1
 have HOd:Hd (∀ W:World,W.ownsRow base 115 2 (.slice none 0 0) 0 []):=fun W=>World.ownsRow_nil W _ _ _
 clear c1 f1 hB;have s1:w.cell? ⟨lam,0,none⟩=some (.slice none 0 0):=K0.o.1;have s2:∀ i,w.cell? ⟨β,i,none⟩=#[.string kd][i]?:=K0.o.2.1
 have s3:∀ o,(w.alloc o).cell? ⟨lam,0,none⟩=some (.slice none 0 0):=fun o=>(ZfR.al K0.o hz o).1
 go_enter func131,ntmps131;go_wp2
 go_region_law (first
  | (refine step_append_lies _ (by rfl) (.tmp 7) (.tmp 10) 68 (by rfl) base 115 i0 (.agg #[.string ⟨#[]⟩,.slice none 0 0]) 2 40 underlying68 HI.o.1 HI.o.2.1 HI.o.2.2.1 HI.o.2.2.2 (by rfl) (by decide) (.slice none 0 0) 0 [] (by rfl) (HOd.o _) ⟨w.heap.size,0,none⟩ 1 1 [.string kd,.slice none 0 0] (by rfl) (by rfl) (Zgm _ _ _ _ rfl) (by intro u hu;simp only [List.mem_cons,List.not_mem_nil,or_false] at hu;rcases hu with rfl | rfl <;> rfl) (by decide) (by decide) (by decide) (by simp;omega) _ rfl ?_
     intro g cap3 w3 hown3 hgrow3 hat3 hlt3;have HB3:Hd (Below base w w3):=(((Zac w _).mono hz).drew).trans (ZeM (HOd.o _) hgrow3 (by simp;omega));have y3:w3.cell? ⟨lam,0,none⟩=some (.slice none 0 0):=(HB3.o.cell (p:=⟨lam,0,none⟩) hl).trans s1;have f3:w3.frozen? ⟨lam,0,none⟩=false:=HF2.o w3 HB3.o))
 all_goals go_end0
 all_goals exact⟨rfl,w3,_,rfl,HB3.o,hown3⟩
theorem ZnR (base lam β:Nat) (m:Md) (w:World) (hl:lam < base) (hβ:β < base) (hz:base<=w.heap.size)
 (c1:w.cell? ⟨lam,1,none⟩=some (.slice none 0 0)) (f1:w.frozen? ⟨lam,1,none⟩=false) (hB:Box w β #[.string m.kind,.string m.field,.string m.wh,.string m.is,.string m.put,.string m.fr]) :
 Calls prog 133 #[.pointer (some ⟨lam,0,none⟩),.pointer (some ⟨β,0,none⟩)] w
  fun e w'=>e=.returned (.tuple #[])/\∃ w3 v',w'=w3.setCell ⟨lam,1,none⟩ v'/\Below base w w3/\w3.ownsRow base 113 6 v' 1 [.string m.kind,.string m.field,.string m.wh,.string m.is,.string m.put,.string m.fr]:=by
 obtain⟨i0,hi,hz0,hz1,hz2⟩:=info_parts ZqD;have HI:=Zab (And.intro hi (And.intro hz0 (And.intro hz1 hz2)));clear hi hz0 hz1 hz2;have K0:Hd (ZfR base w ⟨lam,1,none⟩ (.slice none 0 0) β #[.string m.kind,.string m.field,.string m.wh,.string m.is,.string m.put,.string m.fr] w):=⟨c1,hB.cell,Below.refl _ _,hl,hβ⟩;have HF2:Hd (∀ W,Below base w W->W.frozen? ⟨lam,1,none⟩=false):=fun W hW=>(World.frozen?_of_block (w:=w) (hW.block lam hl)).trans f1
 have HOd:Hd (∀ W:World,W.ownsRow base 113 6 (.slice none 0 0) 0 []):=fun W=>World.ownsRow_nil W _ _ _
 clear c1 f1 hB;have s1:w.cell? ⟨lam,1,none⟩=some (.slice none 0 0):=K0.o.1;have s2:∀ i,w.cell? ⟨β,i,none⟩=#[.string m.kind,.string m.field,.string m.wh,.string m.is,.string m.put,.string m.fr][i]?:=K0.o.2.1
 have s3:∀ o,(w.alloc o).cell? ⟨lam,1,none⟩=some (.slice none 0 0):=fun o=>(ZfR.al K0.o hz o).1
 go_enter func133,ntmps133;go_wp2
 go_region_law (first
  | (refine step_append_lies _ (by rfl) (.tmp 7) (.tmp 9) 69 (by rfl) base 113 i0 (.agg #[.string ⟨#[]⟩,.string ⟨#[]⟩,.string ⟨#[]⟩,.string ⟨#[]⟩,.string ⟨#[]⟩,.string ⟨#[]⟩]) 6 96 underlying69 HI.o.1 HI.o.2.1 HI.o.2.2.1 HI.o.2.2.2 (by rfl) (by decide) (.slice none 0 0) 0 [] (by rfl) (HOd.o _) ⟨w.heap.size,0,none⟩ 1 1 [.string m.kind,.string m.field,.string m.wh,.string m.is,.string m.put,.string m.fr] (by rfl) (by rfl) (Zgm _ _ _ _ rfl) (by intro u hu;simp only [List.mem_cons,List.not_mem_nil,or_false] at hu;rcases hu with rfl | rfl | rfl | rfl | rfl | rfl <;> rfl) (by decide) (by decide) (by decide) (by simp;omega) _ rfl ?_
     intro g cap3 w3 hown3 hgrow3 hat3 hlt3;have HB3:Hd (Below base w w3):=(((Zac w _).mono hz).drew).trans (ZeM (HOd.o _) hgrow3 (by simp;omega));have y3:w3.cell? ⟨lam,1,none⟩=some (.slice none 0 0):=(HB3.o.cell (p:=⟨lam,1,none⟩) hl).trans s1;have f3:w3.frozen? ⟨lam,1,none⟩=false:=HF2.o w3 HB3.o))
 all_goals go_end0
 all_goals exact⟨rfl,w3,_,rfl,HB3.o,hown3⟩
theorem ZmF (base lo lam β:Nat) (a:Option Addr) (cap:Nat) (Ts:List Tm) (w:World) (hl:lam < base) (_hβ:β < base) (hz:base<=w.heap.size) (hn:Ts.length<=1048576)
 (c1:w.cell? ⟨lam,2,none⟩=some (.slice none 0 0)) (f1:w.frozen? ⟨lam,2,none⟩=false) (hB:Box w β #[.slice a Ts.length cap]) (hT:ZaZ lo w (.slice a Ts.length cap) Ts) :
 Calls prog 130 #[.pointer (some ⟨lam,0,none⟩),.pointer (some ⟨β,0,none⟩)] w
  fun e w'=>e=.returned (.tuple #[])/\∃ w3 v',w'=w3.setCell ⟨lam,2,none⟩ v'/\Zw_ w w3/\w3.ownsRow w.heap.size 130 2 v' Ts.length (Zgg Ts):=by
 obtain⟨i0,hi,hz0,hz1,hz2⟩:=info_parts Tryz.info130;have HI:=Zab (And.intro hi (And.intro hz0 (And.intro hz1 hz2)));clear hi hz0 hz1 hz2;have HT:=Zab hT
 have hm:a=none->Ts.length=0:=fun e=>by
  rcases HT.o with ⟨_,_,h,hx⟩ | ⟨_,_,_,h,_⟩
  . rw [hx];rfl
  . injection h with h;rw [e] at h;cases h
 have HM:=Zab hm
 have HNW:Hd (∀ ad,a=some ad->∀ j u,(Zgg Ts)[j]?=some u->w.drew.cell? (ad.add j)=some u):=fun ad e=>by
  have h:=HT.o;rw [e] at h;exact ZiS h Zb_.drew
 have HF2:Hd (∀ W,Zw_ w W->W.frozen? ⟨lam,2,none⟩=false):=fun W hW=>(World.frozen?_of_block (w:=w) (hW.block lam (by omega))).trans f1
 have s1:w.cell? ⟨lam,2,none⟩=some (.slice none 0 0):=c1;have s2:∀ i,w.cell? ⟨β,i,none⟩=#[.slice a Ts.length cap][i]?:=hB.cell
 clear c1 f1 hB hT hm;go_enter func130,ntmps130;go_wp2
 go_region_law (first
  | (refine ZgV (by rfl) (.tmp 7) (.tmp 8) 41 (by rfl) 130 i0 (.agg #[.string ⟨#[]⟩,.string ⟨#[]⟩]) 2 32 underlying41 HI.o.1 HI.o.2.1 HI.o.2.2.1 HI.o.2.2.2 (by rfl) (by decide) (by rfl) a Ts.length cap (Zgg Ts) (by rfl) (Zf2 _) HM.o HNW.o (ZkX _) (by unfold maxLen;omega) (by omega) ?_
     intro v3 w3 hown3 hb3;have HB3:Hd (Zw_ w w3):=bt (Zb_.drew) hb3;have y3:w3.cell? ⟨lam,2,none⟩=some (.slice none 0 0):=(HB3.o.cell (p:=⟨lam,2,none⟩) (by simp only [];omega)).trans s1;have f3:w3.frozen? ⟨lam,2,none⟩=false:=HF2.o w3 HB3.o
     obtain⟨a3,c3,rfl⟩:∃ a3 c3,v3=.slice a3 Ts.length c3:=by
      rcases hown3.2 with ⟨hv,h0⟩ | ⟨g,cp,cur,hv,_⟩
      . exact⟨none,0,by rw [hv,h0]⟩
      . exact⟨_,_,hv⟩))
 all_goals go_end0
 all_goals exact⟨rfl,w3,_,rfl,HB3.o,hown3⟩
end
section
variable {base l:Nat} {W W1 wr:World} {v:Value}
def Zd4 {X:Type} (f:X->List Value):List X->List Value
 | []=>[]
 | x :: r=>f x ++ Zd4 f r
theorem Zjg {X:Type}{f:X->List Value}{n:Nat} (h:∀ x,(f x).length=n):∀ (L:List X) (i t:Nat) (hi:i < L.length),t < n->(Zd4 f L)[i*n+t]?=(f L[i])[t]?
 | [],i,t,hi,_=>by simp at hi
 | x :: r,0,t,hi,ht=>by
  rw [Zd4,Nat.zero_mul,Nat.zero_add,List.getElem?_append_left (by rw [h];exact ht)]
  rfl
 | x :: r,i+1,t,hi,ht=>by
  rw [Zd4,List.getElem?_append_right (by rw [h,Nat.succ_mul];omega),h,show (i+1)*n+t - n=i*n+t by rw [Nat.succ_mul];omega,Zjg h r i t (by simpa using hi) ht]
  rfl
theorem Zjf {X:Type}{f:X->List Value}:∀ A B:List X,Zd4 f (A ++ B)=Zd4 f A ++ Zd4 f B
 | [],B=>rfl
 | x :: r,B=>by rw [List.cons_append,Zd4,Zd4,Zjf r B,List.append_assoc]
theorem Zqn (f:Fd):(fdV f).length=11:=rfl
theorem ZnB {F:List Fd}{j:Nat} (h:j < F.length):Zd4 fdV (F.take (j+1))=Zd4 fdV (F.take j) ++ fdV F[j]:=by
 rw [List.take_succ_eq_append_getElem h,Zjf]
 rfl
theorem ZkU {L:List Fd} (h:W.ownsRow base 109 11 v L.length (Zd4 fdV L)) (hL:L≠[]) (hz:∀ i (hi:i < L.length),Zew L[i]/\L[i].words=[]):ZdT base W.heap.size W v L:=by
 rcases h.2 with ⟨_,hn⟩ | ⟨g,cap,cur,hv,h1,h2,h3,h4,_⟩
 . exact absurd (List.length_eq_zero_iff.1 hn) hL
 . have hl:=ZdH h (g:=g) (by rw [hv];rfl)
   have ho:=h;have h0:0 < L.length:=List.length_pos_iff.2 hL
   have hl2:=hl.2.1;have hl1:=hl.1;subst hv;refine Or.inr ⟨g,0,cap,fun _=>(g+1,g+1),fun i=>if h:i < L.length then L[i] else L[0],rfl,hL,Nat.le_trans h3 h4,h3,fun i hi=>by simp [hi],hl.1,hl.2.1,hl.1,fun i hi=>⟨by simp only [];omega,by simp only [];omega,by simp only [];omega⟩,fun i j _ _=>Nat.le_refl _,hl.2.2,fun i hi=>?_⟩;simp only [hi,dif_pos]
   have ce:∀ t,t < 11->W.cell? ⟨g,0+i*11+t,none⟩=(fdV L[i])[t]?:=fun t ht=>by
    rw [Nat.zero_add,ho.cellAt _ (by omega)];exact Zjg Zqn L i t hi ht
   refine⟨(hz i hi).1,.slice none 0 0,Nat.le_refl _,⟨ce 0 (by omega),ce 1 (by omega),ce 2 (by omega),ce 3 (by omega),ce 4 (by omega),ce 5 (by omega),ce 6 (by omega),ce 7 (by omega),ce 8 (by omega),ce 9 (by omega),ce 10 (by omega)⟩,?_⟩;rw [(hz i hi).2];exact Or.inl ⟨none,0,rfl,rfl⟩
theorem Zm1 {m:Md} (h:W.ownsRow base 113 6 v 1 [.string m.kind,.string m.field,.string m.wh,.string m.is,.string m.put,.string m.fr]) (hz:ZdM m):ZeW base W.heap.size W v [m]:=by
 obtain⟨g,cap,hv⟩:=ownsRow_succ h;have hl:=ZdH h (g:=g) (by rw [hv];rfl)
 rcases h.2 with ⟨_,hn⟩ | ⟨g',cap',cur,hv',h1,h2,h3,h4,_⟩
 . cases hn
 . have ho:=h
   rw [hv] at hv';injection hv' with e1 e2 e3
   subst hv;subst e3;refine Or.inr ⟨g,0,cap,fun _=>g+1,fun _=>m,rfl,by simp,Nat.le_trans h3 h4,h3,fun i hi=>(by have h9:i=0:=(by simpa using hi);subst h9;rfl),hl.1,hl.2.1,Nat.lt_succ_self _,hl.1,fun _ _=>Nat.le_refl _,hl.1,hl.2.2,fun i hi=>?_⟩;have hi0:i=0:=by simpa using hi
   subst hi0
   have ce:∀ t,t < 6->W.cell? ⟨g,0+0*6+t,none⟩=([.string m.kind,.string m.field,.string m.wh,.string m.is,.string m.put,.string m.fr]:List Value)[t]?:=fun t ht=>by
    rw [show 0+0*6+t=t by omega];exact ho.cellAt _ (by omega)
   exact⟨hz,⟨ce 0 (by omega),ce 1 (by omega),ce 2 (by omega),ce 3 (by omega),ce 4 (by omega),ce 5 (by omega)⟩⟩
theorem Zeo {fb:Nat}{w3:World} (ht:Zaw l (l+1) W1 wr) (hb:Below fb wr w3) (h:W1.heap.size<=fb):Zaw l (l+1) W1 w3:=
 ⟨hb.os.trans ht.os,hb.tape.trans ht.tape,hb.output.trans ht.output,Nat.le_trans ht.size hb.size,fun k hk ho=>(hb.block k (by omega)).trans (ht.block k hk ho)⟩
theorem Zfh (ht:Zaw l (l+1) W1 wr) (p:Addr) (u:Value) (h:p.block=l\/W1.heap.size<=p.block):Zaw l (l+1) W1 (wr.setCell p u):=by
 have h2:=Zaw.setCell p.block (p.block+1) wr p u ⟨Nat.le_refl _,Nat.lt_succ_self _⟩;have hs:=ht.size;exact⟨h2.os.trans ht.os,h2.tape.trans ht.tape,h2.output.trans ht.output,Nat.le_trans ht.size h2.size,fun k hk ho=>(h2.block k (by omega) (by omega)).trans (ht.block k hk ho)⟩
end
section
variable {lo:Nat} {w:World} {v:Value} {L:List Tm}
theorem Zcl.widen {hi lo' hi':Nat} (h:Zcl lo hi w v L) (h1:lo'<=lo) (h2:hi<=hi'):Zcl lo' hi' w v L:=by
 rcases h with h | ⟨b,off,cap,c,X,a1,a2,a3,a4,a5,r⟩
 . exact Or.inl h
 . exact Or.inr ⟨b,off,cap,c,X,a1,a2,a3,a4,a5,⟨r.lt,Nat.le_trans h1 r.low,r.bc,Zk_ r.bh h2,r.mono,Nat.le_trans r.top h2,r.frz,r.row⟩⟩
theorem ZaZ.size (h:ZaZ lo w v L):∀ i (hi:i < L.length),ZdX L[i]:=fun i hi=>by
 obtain⟨_,_,_,_,_,_,_,hc⟩:=h.full (fun e=>by rw [e] at hi;simp at hi);exact (hc i hi).1
structure Clz (w:World) (cb τ κ μ:Nat) (βf:Nat->Nat) (a:Option Addr) (cap:Nat) (Ts:List Tm) (kd:Zy_) (F:List Fd) (m:Md):Prop where
 lt:cb < w.heap.size
 bt:Box w τ #[.slice a Ts.length cap]
 ts:ZaZ 0 w (.slice a Ts.length cap) Ts
 bk:Box w κ #[.string kd]
 bf:∀ j (h:j < F.length),Box w (βf j) (fdV F[j]).toArray
 bm:Box w μ #[.string m.kind,.string m.field,.string m.wh,.string m.is,.string m.put,.string m.fr]
 d0:w.cell? ⟨cb,0,none⟩=some (.func (.func 130) #[] #[.pointer (some ⟨τ,0,none⟩)])
 d1:w.cell? ⟨cb,1,none⟩=some (.func (.func 131) #[] #[.pointer (some ⟨κ,0,none⟩)])
 df:∀ j,j < F.length->w.cell? ⟨cb,j+2,none⟩=some (.func (.func 132) #[] #[.pointer (some ⟨βf j,0,none⟩)])
 dm:w.cell? ⟨cb,8,none⟩=some (.func (.func 133) #[] #[.pointer (some ⟨μ,0,none⟩)])
structure Lf (l t0:Nat) (wr:World) (k:Nat) (Ts:List Tm) (kd:Zy_) (F:List Fd) (tv:Value) (sb sc t1 fb:Nat) (fv:Value):Prop where
 box:Box wr l #[.slice (some ⟨sb,0,none⟩) 1 sc,.slice none 0 0,tv]
 tms:Zcl t0 t1 wr tv Ts
 z0:t1<=sb
 z1:sb < fb
 z2:fb<=wr.heap.size
 z3:l < t0
 z4:t0<=t1
 z5:1<=sc
 c0:wr.cell? ⟨sb,0,none⟩=some (.string kd)
 c1:wr.cell? ⟨sb,1,none⟩=some fv
 fz:∀ i,wr.frozen? ⟨sb,i,none⟩=false
 own:wr.ownsRow fb 109 11 fv k (Zd4 fdV (F.take k))
theorem Lf.next {l t0:Nat}{wr w3:World}{k:Nat}{Ts:List Tm}{kd:Zy_}{F:List Fd}{tv:Value}{sb sc t1 fb:Nat}{fv v':Value} (h:Lf l t0 wr k Ts kd F tv sb sc t1 fb fv) (hk:k < F.length) (hb:Below fb wr w3)
 (ho:w3.ownsRow fb 109 11 v' (k+1) (Zd4 fdV (F.take k) ++ fdV F[k])):Lf l t0 (w3.setCell ⟨sb,1,none⟩ v') (k+1) Ts kd F tv sb sc t1 fb v':=by
 have z0:=h.z0;have z1:=h.z1;have z2:=h.z2;have z3:=h.z3;have z4:=h.z4;have e:∀ i,w3.cell? ⟨sb,i,none⟩=wr.cell? ⟨sb,i,none⟩:=fun i=>hb.cell (p:=⟨sb,i,none⟩) z1
 have ht:=Zaw.setCell sb (sb+1) w3 ⟨sb,1,none⟩ v' ⟨Nat.le_refl _,Nat.lt_succ_self _⟩;refine⟨(h.box.below hb (by omega)).setFar (by simp only [];omega) _,(h.tms.touch (Zaw.ofBelow hb) (by omega)).touch ht (by omega),z0,z1,by have:=hb.size;simp [World.setCell];omega,z3,z4,h.z5,?_,?_,fun i=>?_,?_⟩
 . exact (World.cell?_setCell_other _ _ _ _ (by simp)).trans ((e 0).trans h.c0)
 . exact World.cell?_setCell_same' _ _ _ (by rw [e 1,h.c1];rfl)
 . rw [World.frozen?_setCell]
   exact (World.frozen?_of_block (w:=wr) (hb.block sb z1)).trans (h.fz i)
 . rw [ZnB hk]
   exact Zaw.ownsB ho ht (by omega)
theorem ZnQ (cb τ κ μ:Nat) (βf:Nat->Nat) (a:Option Addr) (cap:Nat) (Ts:List Tm) (kd:Zy_) (F:List Fd) (m:Md) (w:World) (h:Clz w cb τ κ μ βf a cap Ts kd F m)
 (hF:F.length=6) (hn:Ts.length<=1048576) (hk:kd.size<=maxLen) (hz:∀ i (hi:i < F.length),Zew F[i]/\F[i].words=[]) (hm:ZdM m) :
 Calls prog 72 #[.slice (some ⟨cb,0,none⟩) 9 9] w fun e w'=>∃ cs',e=.returned (.agg cs'.toArray)/\Zw_ w w'/\ZfT w.heap.size w'.heap.size w' cs' ⟨kd,F⟩ [m] Ts:=by
 have HC:=Zab h;have HZ:=Zab hz;have HM:=Zab hm;have HK:=Zab hk;have hcb:=h.lt;clear h hz hm hk;go_enter func72,ntmps72;go_wp2;generalize hWa:(World.alloc (w.alloc _) _)=W1;have HB:Hd (Zw_ w W1):=by unfold Hd;rw [<- hWa];exact (Zac w _).alloc (by simp) _
 have FR:Hd (Box W1 w.heap.size #[.slice none 0 0,.slice none 0 0,.slice none 0 0]):=by unfold Hd;rw [<- hWa];exact (Box.new _ _ _ _ rfl).on (Zac _ _)
 have FL:Hd (Box W1 (w.heap.size+1) #[.slice none 0 0,.slice none 0 0,.slice none 0 0]):=by unfold Hd;rw [<- hWa];exact Box.new _ _ _ _ (by simp)
 have hs1:W1.heap.size=w.heap.size+2:=by rw [<- hWa];simp
 clear hWa
 go_loopw [8] (fun i wr=>∃ k:Nat,i=.int .i64 k/\k<=9/\Zaw (w.heap.size+1) (w.heap.size+1+1) W1 wr/\(
  (k=0/\Box wr (w.heap.size+1) #[.slice none 0 0,.slice none 0 0,.slice none 0 0])\/
  (k=1/\∃ tv,Box wr (w.heap.size+1) #[.slice none 0 0,.slice none 0 0,tv]/\Zcl (w.heap.size+2) wr.heap.size wr tv Ts)\/
  (2<=k/\k<=8/\∃ tv sb sc t1 fb fv,Lf (w.heap.size+1) (w.heap.size+2) wr (k - 2) Ts kd F tv sb sc t1 fb fv)\/
  (k=9/\∃ sv mv tv t1 mb,Box wr (w.heap.size+1) #[sv,mv,tv]/\Zcl (w.heap.size+2) t1 wr tv Ts/\ZfU t1 mb wr sv ⟨kd,F⟩/\ZeW mb wr.heap.size wr mv [m]/\w.heap.size+2<=t1/\t1<=mb/\mb<=wr.heap.size))) (fun i _=>9 - (intOf i).toNat)
 case atStart=>exact⟨0,rfl,by omega,Zaw.refl _ _ _,Or.inl ⟨rfl,FL.o⟩⟩
 case round=>
  obtain⟨k,rfl,hk9,ht,hst⟩:=hrel;have HT:=Zab ht;have hsz:=ht.size;have HBX:Hd (∀ b cs,Box w b cs->Box wr b cs):=fun b cs hb=>(hb.on HB.o).touch HT.o (by have:=hb.lt;omega)
  have HCE:Hd (∀ i u,w.cell? ⟨cb,i,none⟩=some u->wr.cell? ⟨cb,i,none⟩=some u):=fun i u hu=>(HT.o.cell (p:=⟨cb,i,none⟩) (by simp only [];omega) (by simp only [];omega)).trans ((HB.o.cell (p:=⟨cb,i,none⟩) hcb).trans hu)
  have HBW:Hd (Zw_ w wr):=HB.o.trans ((HT.o.under (by omega)).mono (by omega));clear ht
  rcases hst with ⟨rfl,hb⟩ | ⟨rfl,tv,hb,hT⟩ | ⟨hk2,hk8,tv,sb,sc,t1,fb,fv,hL⟩ | ⟨rfl,sv,mv,tv,t1,mb,hb,hT,hS,hM,y1,y2,y3⟩
  . have x0:=HCE.o 0 _ HC.o.d0
    have HBo:=Zab hb;clear hb;go_wp2_with fail;clear x0;have hτ:=HC.o.bt.lt;have HTm:Hd (ZaZ 0 wr (.slice a Ts.length cap) Ts):=HC.o.ts.below HBW.o;refine (ZmF (w.heap.size+2) 0 (w.heap.size+1) τ a cap Ts _ (by omega) (by omega) (by omega) hn (HBo.o.cell 2) (HBo.o.free 2) (HBX.o _ _ HC.o.bt) HTm.o).mono ?_;rintro e wq ⟨rfl,w3,v3,rfl,hb3,hown⟩;have hs3:=hb3.size;have HT3:=Zab (Zfh (Zeo HT.o hb3 (by omega)) ⟨w.heap.size+1,2,none⟩ v3 (Or.inl rfl));have HBo3:=Zab ((HBo.o.on hb3).set (k:=2) v3 (by simp));have HTS:=Zab (((ZkY hown HC.o.ts.size).touch (Zaw.setCell (w.heap.size+1) (w.heap.size+1+1) w3 ⟨w.heap.size+1,2,none⟩ v3 ⟨Nat.le_refl _,Nat.lt_succ_self _⟩) (by omega)));clear hb3 hown;go_wp2;go_roundw
    . exact⟨1,by go_num,by omega,HT3.o,Or.inr (Or.inl ⟨rfl,v3,HBo3.o,HTS.o.widen (by omega) (by simp [World.setCell])⟩)⟩
    . simp [intOf]
  . have x0:=HCE.o 1 _ HC.o.d1
    have HBo:=Zab hb;have HTo:=Zab hT;clear hb hT;go_wp2_with fail;clear x0;have hκ:=HC.o.bk.lt;refine (Zms wr.heap.size (w.heap.size+1) κ kd _ (by omega) (by omega) Zl_ (HBo.o.cell 0) (HBo.o.free 0) (HBX.o _ _ HC.o.bk)).mono ?_;rintro e wq ⟨rfl,w3,v3,rfl,hb3,hown⟩;have hs3:=hb3.size;obtain⟨sb,sc,hv⟩:=ownsRow_succ hown;have hl:=ZdH hown (g:=sb) (by rw [hv];rfl)
    have hsc:1<=sc:=by
     rcases hown.2 with ⟨_,hn⟩ | ⟨g',cap',cur,hv',h1,h2,h3,h4,_⟩
     . cases hn
     . rw [hv] at hv'
       injection hv' with e1 e2 e3
       omega
    subst hv;have e0:=hown.cellAt 0 (by omega);have e1:=hown.cellAt 1 (by omega);obtain⟨hl1,hl2,hl3⟩:=hl;have HT3:=Zab (Zfh (Zeo HT.o hb3 (by omega)) ⟨w.heap.size+1,0,none⟩ (.slice (some ⟨sb,0,none⟩) (0+1) sc) (Or.inl rfl));have ht:=Zaw.setCell (w.heap.size+1) (w.heap.size+1+1) w3 ⟨w.heap.size+1,0,none⟩ (.slice (some ⟨sb,0,none⟩) (0+1) sc) ⟨Nat.le_refl _,Nat.lt_succ_self _⟩
    have HL:Hd (Lf (w.heap.size+1) (w.heap.size+2) (w3.setCell ⟨w.heap.size+1,0,none⟩ (.slice (some ⟨sb,0,none⟩) (0+1) sc)) 0 Ts kd F tv sb sc wr.heap.size w3.heap.size (.slice none 0 0)):=
     ⟨(HBo.o.on hb3).set (k:=0) _ (by simp),(HTo.o.below hb3).touch ht (by omega),hl2,hl1,by simp [World.setCell],by omega,by omega,hsc,(ht.cell (p:=⟨sb,0,none⟩) hl1 (by simp only [];omega)).trans e0,(ht.cell (p:=⟨sb,1,none⟩) hl1 (by simp only [];omega)).trans e1,fun i=>(ht.frozen (p:=⟨sb,i,none⟩) hl1 (by simp only [];omega)).trans (hl3 i),World.ownsRow_nil _ _ _ _⟩
    clear hb3 hown e0 e1 hl1 hl2 hl3 ht;go_wp2;go_roundw
    . exact⟨2,by go_num,by omega,HT3.o,Or.inr (Or.inr (Or.inl ⟨by omega,by omega,tv,sb,sc,_,_,_,HL.o⟩))⟩
    . simp [intOf]
  . have HL:=Zab hL
    have y0:=hL.z0;have y1:=hL.z1;have y2:=hL.z2;have y3:=hL.z3;have y4:=hL.z4;clear hL
    rcases Nat.lt_or_ge k 8 with hlt | hge
    . have x0:wr.cell? ⟨cb,k,none⟩=some (.func (.func 132) #[] #[.pointer (some ⟨βf (k - 2),0,none⟩)]):=by
       have:=HCE.o (k - 2+2) _ (HC.o.df (k - 2) (by omega))
       rwa [show k - 2+2=k by omega] at this
      go_wp2_with fail;clear x0;have hbf:=(HC.o.bf (k - 2) (by omega)).lt;refine (ZlW fb (w.heap.size+1) sb (βf (k - 2)) sc (k - 2) fv (F[k - 2]'(by omega)) (Zd4 fdV (F.take (k - 2))) _ (by omega) (by omega) (by omega) (by omega) (by omega) (HL.o.box.cell 0) HL.o.c1 (HL.o.fz 1) (HBX.o _ _ (HC.o.bf (k - 2) (by omega))) HL.o.own).mono ?_;rintro e wq ⟨rfl,w3,v3,rfl,hb3,hown⟩;have hs3:=hb3.size;have HT3:=Zab (Zfh (Zeo HT.o hb3 (by omega)) ⟨sb,1,none⟩ v3 (Or.inr (by simp only [];omega)));have HL3:=Zab (HL.o.next (by omega) hb3 hown);clear hb3 hown;go_wp2;go_roundw
      . exact⟨k+1,by go_num,by omega,HT3.o,Or.inr (Or.inr (Or.inl ⟨by omega,by omega,tv,sb,sc,_,_,_,by rw [show k+1 - 2=k - 2+1 by omega];exact HL3.o⟩))⟩
      . simp [intOf];omega
    . have hk:k=8:=by omega
      subst hk;have x0:=HCE.o 8 _ HC.o.dm;go_wp2_with fail;clear x0;have hμ:=HC.o.bm.lt
      have HFd:Hd (ZdT fb wr.heap.size wr fv F):=by
       have h:=HL.o.own;rw [show 8 - 2=F.length by omega,List.take_length] at h;exact ZkU h (fun e=>by rw [e] at hF;cases hF) HZ.o
      have HSh:Hd (ZfU t1 wr.heap.size wr (.slice (some ⟨sb,0,none⟩) 1 sc) ⟨kd,F⟩):=⟨sb,sc,fv,fb,wr.heap.size,rfl,HL.o.z5,y0,by omega,by omega,by omega,Nat.le_refl _,Or.inl y1,HL.o.c0,HL.o.c1,HL.o.fz,HK.o,HFd.o⟩;refine (ZnR wr.heap.size (w.heap.size+1) μ m _ (by omega) (by omega) Zl_ (HL.o.box.cell 1) (HL.o.box.free 1) (HBX.o _ _ HC.o.bm)).mono ?_;rintro e wq ⟨rfl,w3,v3,rfl,hb3,hown⟩;have hs3:=hb3.size;have ht:=Zaw.setCell (w.heap.size+1) (w.heap.size+1+1) w3 ⟨w.heap.size+1,1,none⟩ v3 ⟨Nat.le_refl _,Nat.lt_succ_self _⟩;have HT3:=Zab (Zfh (Zeo HT.o hb3 (by omega)) ⟨w.heap.size+1,1,none⟩ v3 (Or.inl rfl));have HB3:=Zab ((HL.o.box.on hb3).set (k:=1) v3 (by simp));have HM3:=Zab ((Zm1 hown HM.o).touch ht (by omega));have HS3:=Zab ((HSh.o.below hb3).touch ht (by omega))
      have HT4:=Zab ((HL.o.tms.below hb3).touch ht (by omega));have hs4:(w3.setCell ⟨w.heap.size+1,1,none⟩ v3).heap.size=w3.heap.size:=by simp [World.setCell]
      clear hb3 hown ht;go_wp2;go_roundw
      . exact⟨9,by go_num,by omega,HT3.o,Or.inr (Or.inr (Or.inr ⟨rfl,_,v3,tv,t1,wr.heap.size,HB3.o,HT4.o,HS3.o,by rw [hs4];exact HM3.o,by omega,by omega,by omega⟩))⟩
      . simp [intOf]
  . have HBo:=Zab hb
    have HTo:=Zab hT;have HSo:=Zab hS;have HMo:=Zab hM;have FR2:=Zab (FR.o.touch HT.o (by omega))
    obtain⟨a0,k0,hv0⟩:∃ a0 k0,sv=.slice a0 1 k0:=by
     obtain⟨sb,sc,_,_,_,h1,_⟩:=hS;exact⟨_,_,h1⟩
    obtain⟨a1,k1,hv1⟩:=hM.at.form;obtain⟨a2,k2,hv2⟩:=hT.at.form;subst hv0;subst hv1;subst hv2;clear hb hT hS hM;have g0:=HBo.o.cell;have g1:=FR2.o.cell;have g2:=FR2.o.free;go_wp2;refine bodyPost_ret (v:=.agg #[.slice a0 1 k0,.slice a1 [m].length k1,.slice a2 Ts.length k2]) (by simp [results,results72,go_sem,g1]) rfl ?_;have hsz2:∀ (X:World) p u,(X.setCell p u).heap.size=X.heap.size:=fun X p u=>by simp [World.setCell]
    refine⟨lwL ⟨[⟨kd,F⟩],[m],Ts⟩ a0 k0 a1 k1 a2 k2,rfl,?_,a0,k0,a1,k1,a2,k2,t1,mb,mb,wr.heap.size,w.heap.size+2,t1,rfl,by omega,by simp only [hsz2];omega,by omega,by simp only [hsz2];omega,by omega,by simp only [hsz2];omega,by omega,by omega,by omega,?_,?_,?_⟩
    . repeat (refine Below.setCell ?_ (by simp only [];omega) _)
      exact HBW.o
    . repeat (refine ZfU.touch ?_ (Zaw.setCell w.heap.size (w.heap.size+1) _ _ _ ⟨Nat.le_refl _,Nat.lt_succ_self _⟩) (by omega))
      exact HSo.o
    . repeat (refine ZeW.touch ?_ (Zaw.setCell w.heap.size (w.heap.size+1) _ _ _ ⟨Nat.le_refl _,Nat.lt_succ_self _⟩) (by omega))
      exact HMo.o
    . repeat (refine Zcl.touch ?_ (Zaw.setCell w.heap.size (w.heap.size+1) _ _ _ ⟨Nat.le_refl _,Nat.lt_succ_self _⟩) (by omega))
      exact HTo.o
end
def Zp5:Zy_:=⟨#[115,101,114,118,105,99,101]⟩
def Zd5:List Fd:=[⟨⟨#[105,109,97,103,101]⟩,1,1,1000,[],⟨#[]⟩,0,true,false,⟨#[]⟩,⟨#[]⟩⟩,⟨⟨#[109,111,115,116]⟩,1,0,10,[],⟨#[]⟩,0,true,false,⟨#[]⟩,⟨#[99,111,112,105,101,115]⟩⟩,⟨⟨#[100,111,119,110]⟩,1,0,10,[],⟨#[]⟩,0,false,false,⟨#[48]⟩,⟨#[]⟩⟩,⟨⟨#[111,118,101,114]⟩,1,1,10,[],⟨#[]⟩,0,false,false,⟨#[49]⟩,⟨#[99,111,112,105,101,115]⟩⟩,⟨⟨#[112,101,114]⟩,1,1,1000000,[],⟨#[]⟩,0,false,false,⟨#[]⟩,⟨#[]⟩⟩,⟨⟨#[111,102]⟩,4,0,0,[],⟨#[115,101,114,118,105,99,101]⟩,3,false,false,⟨#[]⟩,⟨#[]⟩⟩]
def Za6:Md:=⟨⟨#[115,101,114,118,105,99,101]⟩,⟨#[100,111,119,110]⟩,⟨#[109,111,115,116]⟩,⟨#[49]⟩,⟨#[48]⟩,⟨#[]⟩⟩
def ZcB:Sh:=⟨Zp5,Zd5⟩
theorem ZnE:Zd5.length=6:=rfl
theorem Zcg (a:Array UInt8) (h:a.size<=100):(⟨a⟩:Zy_).size<=maxLen:=by
 unfold maxLen
 show a.size<=_
 omega
theorem Zk5:∀ i (hi:i < Zd5.length),Zew Zd5[i]/\Zd5[i].words=[]:=by
 intro i hi;have h6:i < 6:=hi
 have:i=0\/i=1\/i=2\/i=3\/i=4\/i=5:=by omega
 rcases this with rfl | rfl | rfl | rfl | rfl | rfl <;> exact⟨⟨Zcg _ (by decide),Zcg _ (by decide),Zcg _ (by decide),Zcg _ (by decide)⟩,rfl⟩
theorem Zk6:ZdM Za6:=⟨Zcg _ (by decide),Zcg _ (by decide),Zcg _ (by decide),Zcg _ (by decide),Zcg _ (by decide),Zcg _ (by decide)⟩
theorem Zp6:Zp5.size<=maxLen:=Zcg _ (by decide)
theorem ZfT.wide {lo hi lo' hi':Nat}{w:World}{cs:List Value}{x:Sh}{Ms:List Md}{Ts:List Tm} (h:ZfT lo hi w cs x Ms Ts) (q1:lo'<=lo) (q2:hi<=hi'):ZfT lo' hi' w cs x Ms Ts:=by
 obtain⟨a0,k0,a1,k1,a2,k2,s0,s1,m0,m1,t0,t1,h1,z1,z2,z3,z4,z5,z6,z7,z8,z9,g⟩:=h;exact⟨a0,k0,a1,k1,a2,k2,s0,s1,m0,m1,t0,t1,h1,by omega,by omega,by omega,by omega,by omega,by omega,z7,z8,z9,g⟩
theorem ZkD (a:Option Addr) (n c:Nat) (w:World):Calls prog 73 #[.slice a n c] w fun e w'=>e=.returned (.func (.func 130) #[] #[.pointer (some ⟨w.heap.size,0,none⟩)])/\w'=w.alloc (.cells #[.slice a n c] 41):=by
 go_enter func73,ntmps73;go_wp2;go_ret;exact⟨rfl,rfl⟩
theorem ZkC (s:Zy_) (w:World):Calls prog 74 #[.string s] w fun e w'=>e=.returned (.func (.func 131) #[] #[.pointer (some ⟨w.heap.size,0,none⟩)])/\w'=w.alloc (.cells #[.string s] 9):=by
 go_enter func74,ntmps74;go_wp2;go_ret;exact⟨rfl,rfl⟩
theorem ZkB (nm tt df we:Zy_) (kd le mo ro:Int) (mu fx:Bool) (w:World):Calls prog 75 #[.agg #[.string nm,.int .i64 kd,.int .i64 le,.int .i64 mo,.slice none 0 0,.string tt,.int .i64 ro,.bool mu,.bool fx,.string df,.string we]] w fun e w'=>e=.returned (.func (.func 132) #[] #[.pointer (some ⟨w.heap.size,0,none⟩)])/\w'=w.alloc (.cells #[.string nm,.int .i64 kd,.int .i64 le,.int .i64 mo,.slice none 0 0,.string tt,.int .i64 ro,.bool mu,.bool fx,.string df,.string we] 109):=by
 go_enter func75,ntmps75;go_wp2;go_ret;exact⟨rfl,rfl⟩
theorem Zmg (s0 s1 s2 s3 s4 s5:Zy_) (w:World):Calls prog 76 #[.agg #[.string s0,.string s1,.string s2,.string s3,.string s4,.string s5]] w fun e w'=>e=.returned (.func (.func 133) #[] #[.pointer (some ⟨w.heap.size,0,none⟩)])/\w'=w.alloc (.cells #[.string s0,.string s1,.string s2,.string s3,.string s4,.string s5] 113):=by
 go_enter func76,ntmps76;go_wp2;go_ret;exact⟨rfl,rfl⟩
theorem Zjo (cs:List Value) (U:Ho) (w:World) (h:HoC 0 w cs U) (hn:Zdy U) :
 Calls prog 27 #[.agg cs.toArray] w fun e w'=>∃ cs',e=.returned (.agg cs'.toArray)/\Zw_ w w'/\ZfT w.heap.size w'.heap.size w' cs' ZcB [Za6] U.tm:=by
 have H:=Zab h;have HN:=Zab hn;obtain⟨a0,k0,a1,k1,rfl,h⟩:=h;have HT:=Zab h.l0
 show Calls prog 27 #[.agg #[.slice a0 U.tm.length k0,.slice a1 U.gr.length k1]] w _
 clear h hn;go_enter func27,ntmps27
 go_wp2_with (first
  | (go_at_call 73;refine (ZkD _ _ _ _).mono ?_;rintro e w' ⟨rfl,rfl⟩)
  | (go_at_call 74;refine (ZkC _ _).mono ?_;rintro e w' ⟨rfl,rfl⟩)
  | (go_at_call 75;refine (ZkB _ _ _ _ _ _ _ _ _ _ _).mono ?_;rintro e w' ⟨rfl,rfl⟩)
  | (go_at_call 76;refine (Zmg _ _ _ _ _ _ _).mono ?_;rintro e w' ⟨rfl,rfl⟩))
 have HB:Hd (Zw_ w w):=Below.refl _ _;generalize hX:World.alloc w _=X0;have hs0:X0.heap.size=w.heap.size+1:=by rw [<- hX];simp
 have hb:Zw_ w X0:=by rw [<- hX];exact Zac _ _
 have N0:Hd (Box X0 (w.heap.size+0) #[.slice a0 U.tm.length k0,.slice a1 U.gr.length k1]):=by unfold Hd;rw [<- hX];exact Box.new _ _ _ _ rfl
 replace HB:Hd (Zw_ w X0):=bt HB.o hb;clear hX hb;generalize hX:World.alloc X0 _=X1;have hs1:X1.heap.size=w.heap.size+2:=by rw [<- hX];simp;omega
 have hb:Below X0.heap.size X0 X1:=by rw [<- hX];exact Zac _ _
 have N1:Hd (Box X1 (w.heap.size+1) #[.slice none 0 0,.slice none 0 0,.slice none 0 0]):=by unfold Hd;rw [<- hX];exact Box.new _ _ _ _ hs0
 replace N0:=Zab (N0.o.on hb);replace HB:Hd (Zw_ w X1):=bt HB.o hb;clear hX hb hs0;generalize hX:World.alloc X1 _=X2;have hs2:X2.heap.size=w.heap.size+3:=by rw [<- hX];simp;omega
 have hb:Below X1.heap.size X1 X2:=by rw [<- hX];exact Zac _ _
 have N2:Hd (Box X2 (w.heap.size+2) #[.slice a0 U.tm.length k0]):=by unfold Hd;rw [<- hX];exact Box.new _ _ _ _ hs1
 replace N0:=Zab (N0.o.on hb);replace N1:=Zab (N1.o.on hb);replace HB:Hd (Zw_ w X2):=bt HB.o hb;clear hX hb hs1;generalize hX:World.alloc X2 _=X3;have hs3:X3.heap.size=w.heap.size+4:=by rw [<- hX];simp;omega
 have hb:Below X2.heap.size X2 X3:=by rw [<- hX];exact Zac _ _
 have N3:Hd (Box X3 (w.heap.size+3) #[.string Zp5]):=by unfold Hd;rw [<- hX];exact Box.new _ _ _ _ hs2
 replace N0:=Zab (N0.o.on hb);replace N1:=Zab (N1.o.on hb);replace N2:=Zab (N2.o.on hb);replace HB:Hd (Zw_ w X3):=bt HB.o hb;clear hX hb hs2;generalize hX:World.alloc X3 _=X4;have hs4:X4.heap.size=w.heap.size+5:=by rw [<- hX];simp;omega
 have hb:Below X3.heap.size X3 X4:=by rw [<- hX];exact Zac _ _
 have N4:Hd (Box X4 (w.heap.size+4) (fdV (Zd5[0]'(by decide))).toArray):=by unfold Hd;rw [<- hX];exact Box.new _ _ _ _ hs3
 replace N0:=Zab (N0.o.on hb);replace N1:=Zab (N1.o.on hb);replace N2:=Zab (N2.o.on hb);replace N3:=Zab (N3.o.on hb);replace HB:Hd (Zw_ w X4):=bt HB.o hb;clear hX hb hs3;generalize hX:World.alloc X4 _=X5;have hs5:X5.heap.size=w.heap.size+6:=by rw [<- hX];simp;omega
 have hb:Below X4.heap.size X4 X5:=by rw [<- hX];exact Zac _ _
 have N5:Hd (Box X5 (w.heap.size+5) (fdV (Zd5[1]'(by decide))).toArray):=by unfold Hd;rw [<- hX];exact Box.new _ _ _ _ hs4
 replace N0:=Zab (N0.o.on hb);replace N1:=Zab (N1.o.on hb);replace N2:=Zab (N2.o.on hb);replace N3:=Zab (N3.o.on hb);replace N4:=Zab (N4.o.on hb);replace HB:Hd (Zw_ w X5):=bt HB.o hb;clear hX hb hs4;generalize hX:World.alloc X5 _=X6;have hs6:X6.heap.size=w.heap.size+7:=by rw [<- hX];simp;omega
 have hb:Below X5.heap.size X5 X6:=by rw [<- hX];exact Zac _ _
 have N6:Hd (Box X6 (w.heap.size+6) (fdV (Zd5[2]'(by decide))).toArray):=by unfold Hd;rw [<- hX];exact Box.new _ _ _ _ hs5
 replace N0:=Zab (N0.o.on hb);replace N1:=Zab (N1.o.on hb);replace N2:=Zab (N2.o.on hb);replace N3:=Zab (N3.o.on hb);replace N4:=Zab (N4.o.on hb);replace N5:=Zab (N5.o.on hb);replace HB:Hd (Zw_ w X6):=bt HB.o hb;clear hX hb hs5;generalize hX:World.alloc X6 _=X7;have hs7:X7.heap.size=w.heap.size+8:=by rw [<- hX];simp;omega
 have hb:Below X6.heap.size X6 X7:=by rw [<- hX];exact Zac _ _
 have N7:Hd (Box X7 (w.heap.size+7) (fdV (Zd5[3]'(by decide))).toArray):=by unfold Hd;rw [<- hX];exact Box.new _ _ _ _ hs6
 replace N0:=Zab (N0.o.on hb);replace N1:=Zab (N1.o.on hb);replace N2:=Zab (N2.o.on hb);replace N3:=Zab (N3.o.on hb);replace N4:=Zab (N4.o.on hb);replace N5:=Zab (N5.o.on hb);replace N6:=Zab (N6.o.on hb);replace HB:Hd (Zw_ w X7):=bt HB.o hb;clear hX hb hs6;generalize hX:World.alloc X7 _=X8;have hs8:X8.heap.size=w.heap.size+9:=by rw [<- hX];simp;omega
 have hb:Below X7.heap.size X7 X8:=by rw [<- hX];exact Zac _ _
 have N8:Hd (Box X8 (w.heap.size+8) (fdV (Zd5[4]'(by decide))).toArray):=by unfold Hd;rw [<- hX];exact Box.new _ _ _ _ hs7
 replace N0:=Zab (N0.o.on hb);replace N1:=Zab (N1.o.on hb);replace N2:=Zab (N2.o.on hb);replace N3:=Zab (N3.o.on hb);replace N4:=Zab (N4.o.on hb);replace N5:=Zab (N5.o.on hb);replace N6:=Zab (N6.o.on hb);replace N7:=Zab (N7.o.on hb);replace HB:Hd (Zw_ w X8):=bt HB.o hb;clear hX hb hs7;generalize hX:World.alloc X8 _=X9;have hs9:X9.heap.size=w.heap.size+10:=by rw [<- hX];simp;omega
 have hb:Below X8.heap.size X8 X9:=by rw [<- hX];exact Zac _ _
 have N9:Hd (Box X9 (w.heap.size+9) (fdV (Zd5[5]'(by decide))).toArray):=by unfold Hd;rw [<- hX];exact Box.new _ _ _ _ hs8
 replace N0:=Zab (N0.o.on hb);replace N1:=Zab (N1.o.on hb);replace N2:=Zab (N2.o.on hb);replace N3:=Zab (N3.o.on hb);replace N4:=Zab (N4.o.on hb);replace N5:=Zab (N5.o.on hb);replace N6:=Zab (N6.o.on hb);replace N7:=Zab (N7.o.on hb);replace N8:=Zab (N8.o.on hb);replace HB:Hd (Zw_ w X9):=bt HB.o hb;clear hX hb hs8;generalize hX:World.alloc X9 _=X10;have hs10:X10.heap.size=w.heap.size+11:=by rw [<- hX];simp;omega
 have hb:Below X9.heap.size X9 X10:=by rw [<- hX];exact Zac _ _
 have N10:Hd (Box X10 (w.heap.size+10) #[.string Za6.kind,.string Za6.field,.string Za6.wh,.string Za6.is,.string Za6.put,.string Za6.fr]):=by unfold Hd;rw [<- hX];exact Box.new _ _ _ _ hs9
 replace N0:=Zab (N0.o.on hb);replace N1:=Zab (N1.o.on hb);replace N2:=Zab (N2.o.on hb);replace N3:=Zab (N3.o.on hb);replace N4:=Zab (N4.o.on hb);replace N5:=Zab (N5.o.on hb);replace N6:=Zab (N6.o.on hb);replace N7:=Zab (N7.o.on hb);replace N8:=Zab (N8.o.on hb);replace N9:=Zab (N9.o.on hb);replace HB:Hd (Zw_ w X10):=bt HB.o hb;clear hX hb hs9;generalize hX:World.alloc X10 _=X11;have hs11:X11.heap.size=w.heap.size+12:=by rw [<- hX];simp;omega
 have hb:Below X10.heap.size X10 X11:=by rw [<- hX];exact Zac _ _
 have N11:Hd (Box X11 (w.heap.size+11) #[.func (.func 130) #[] #[.pointer (some ⟨w.heap.size+2,0,none⟩)],.func (.func 131) #[] #[.pointer (some ⟨w.heap.size+3,0,none⟩)],.func (.func 132) #[] #[.pointer (some ⟨w.heap.size+4,0,none⟩)],.func (.func 132) #[] #[.pointer (some ⟨w.heap.size+5,0,none⟩)],.func (.func 132) #[] #[.pointer (some ⟨w.heap.size+6,0,none⟩)],.func (.func 132) #[] #[.pointer (some ⟨w.heap.size+7,0,none⟩)],.func (.func 132) #[] #[.pointer (some ⟨w.heap.size+8,0,none⟩)],.func (.func 132) #[] #[.pointer (some ⟨w.heap.size+9,0,none⟩)],.func (.func 133) #[] #[.pointer (some ⟨w.heap.size+10,0,none⟩)]]):=by unfold Hd;rw [<- hX];exact Box.new _ _ _ _ hs10
 replace N0:=Zab (N0.o.on hb);replace N1:=Zab (N1.o.on hb);replace N2:=Zab (N2.o.on hb);replace N3:=Zab (N3.o.on hb);replace N4:=Zab (N4.o.on hb);replace N5:=Zab (N5.o.on hb);replace N6:=Zab (N6.o.on hb);replace N7:=Zab (N7.o.on hb);replace N8:=Zab (N8.o.on hb);replace N9:=Zab (N9.o.on hb);replace N10:=Zab (N10.o.on hb);replace HB:Hd (Zw_ w X11):=bt HB.o hb;clear hX hb hs10
 have HC:Hd (Clz X11 (w.heap.size+11) (w.heap.size+2) (w.heap.size+3) (w.heap.size+10) (fun j=>w.heap.size+4+j) a0 k0 U.tm Zp5 Zd5 Za6):=
  ⟨by omega,N2.o,HT.o.below HB.o,N3.o,fun j hj=>by
   have h6:j < 6:=hj
   have:j=0\/j=1\/j=2\/j=3\/j=4\/j=5:=by omega
   rcases this with rfl | rfl | rfl | rfl | rfl | rfl
   . exact N4.o
   . exact N5.o
   . exact N6.o
   . exact N7.o
   . exact N8.o
   . exact N9.o,N10.o,N11.o.cell 0,N11.o.cell 1,fun j hj=>by
   have h6:j < 6:=hj
   have:j=0\/j=1\/j=2\/j=3\/j=4\/j=5:=by omega
   rcases this with rfl | rfl | rfl | rfl | rfl | rfl
   . exact N11.o.cell 2
   . exact N11.o.cell 3
   . exact N11.o.cell 4
   . exact N11.o.cell 5
   . exact N11.o.cell 6
   . exact N11.o.cell 7,N11.o.cell 8⟩
 refine (ZnQ (w.heap.size+11) (w.heap.size+2) (w.heap.size+3) (w.heap.size+10) (fun j=>w.heap.size+4+j) a0 k0 U.tm Zp5 Zd5 Za6 _ HC.o ZnE HN.o.1 Zp6 Zk5 Zk6).mono ?_;rintro e wz ⟨cs',rfl,hb,ho⟩;have hz:=hb.size;have HO:=Zab ho;obtain⟨b0,m0,b1,m1,b2,m2,s0,s1,q0,q1,t0,t1,rfl,-⟩:=ho;rw [show (lwL ⟨[⟨Zp5,Zd5⟩],[Za6],U.tm⟩ b0 m0 b1 m1 b2 m2).toArray=#[.slice b0 1 m0,.slice b1 1 m1,.slice b2 U.tm.length m2] from rfl];replace N1:=Zab (N1.o.on hb);replace HB:Hd (Zw_ w wz):=bt HB.o hb;clear hb N0 N2 N3 N4 N5 N6 N7 N8 N9 N10 N11 HC;have g1:=N1.o.cell;have g2:=N1.o.free;go_wp2;refine bodyPost_ret (v:=.agg #[.slice b0 1 m0,.slice b1 1 m1,.slice b2 U.tm.length m2]) (by simp [results,results27,go_sem,g1]) rfl ?_;refine⟨lwL ⟨[ZcB],[Za6],U.tm⟩ b0 m0 b1 m1 b2 m2,rfl,?_,?_⟩
 . repeat (refine Below.setCell ?_ (by simp only [];omega) _)
   exact HB.o
 . refine ZfT.wide (lo:=X11.heap.size) (hi:=wz.heap.size) ?_ (by omega) (by simp [World.setCell])
   repeat (refine ZfT.touch ?_ (Zaw.setCell (w.heap.size+1) (w.heap.size+1+1) _ _ _ ⟨Nat.le_refl _,Nat.lt_succ_self _⟩) (by omega))
   exact HO.o
end Go.Proofs.YtbdhbihhgfpnnaaGreat
