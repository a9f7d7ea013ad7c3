import Derived.Test.YtmappejlmapboaaGreatV21
import Derived.Test.YtmappejlmapboaaGreatV32
import Derived.ChangeSlices
set_option maxHeartbeats 16000000
set_option maxRecDepth 100000
open Go.Proofs.Tryz
namespace Go.Proofs.YtmappejlmapboaaGreat
section
open Go.RowKit Go.Deep
variable {Fs:List Fd} {ro:Int} {k:Nat} {Ss:List Sh} {Os:List Ob}
def Zhs (ro:Int) (kd nm:Zy_) (t:Tie):Bool:=(t.2.1 == ro)&&((t.2.2.1.toList == kd.toList)&&(t.2.2.2.toList == nm.toList))
def Zdq (Fs:List Fd) (V:List Zy_) (ro:Int) (kd nm:Zy_) (k:Nat):Bool:=(Zdw Fs V k).any (Zhs ro kd nm)
def Zda (f:Fd) (s:Zy_) (ro:Int) (kd nm:Zy_):Bool:=(f.kd == 4)&&((f.ro == ro)&&(!s.toList.isEmpty&&((f.to.toList == kd.toList)&&(s.toList == nm.toList))))
theorem ZhM {V:List Zy_}{kd nm:Zy_} (hf:k < Fs.length) (hv:k < V.length):Zdq Fs V ro kd nm (k+1)=(Zdq Fs V ro kd nm k || Zda Fs[k] V[k] ro kd nm):=by
 unfold Zdq;rw [Zg5 hf hv,List.any_append]
 congr 1
 unfold Zfs Zda
 cases h1:Fs[k].kd == 4 <;> cases h2:V[k].toList.isEmpty <;> simp [Zhs]
theorem ZhL {V:List Zy_}{kd nm:Zy_} (hl:Fs.length=V.length) {k:Nat} (hk:Zdq Fs V ro kd nm k=true):∀ m,k<=m->m<=Fs.length->Zdq Fs V ro kd nm m=true
 | 0,h1,_=>by
  have:k=0:=by omega
  rw [<- this];exact hk
 | m+1,h1,h2=>by
  by_cases e:k=m+1
  . rw [<- e];exact hk
  . rw [ZhM (by omega) (by omega),ZhL hl hk m (by omega) (by omega),Bool.true_or]
def Zbq (Ss:List Sh) (o:Ob) (ro:Int) (kd nm:Zy_):Bool:=match Zca Ss o.kd with
 | some x=>Zdq x.fields o.vs ro kd nm x.fields.length
 | none=>false
def ZiZ (Ss:List Sh) (Os:List Ob):Prop:=∀ i (h:i < Os.length),∃ x,Zca Ss Os[i].kd=some x/\x.fields.length=Os[i].vs.length
def Zee (Ss:List Sh) (Os:List Ob) (i:Nat):Bool:=match Os[i]? with
 | some o=>!o.en&&(Os.any fun e=>e.en&&Zbq Ss o 3 e.kd e.nm)
 | none=>false
def Zc1 (Ss:List Sh) (Os:List Ob) (n:Nat):List Int:=((List.range n).filter (Zee Ss Os)).map fun i:Nat=>(i:Int)
theorem Zl7 (Ss:List Sh) (Os:List Ob) (n:Nat):Zc1 Ss Os (n+1)=Zc1 Ss Os n ++ (if Zee Ss Os n then [(n:Int)] else []):=by
 unfold Zc1;rw [List.range_succ,List.filter_append,List.map_append]
 congr 1
 rw [List.filter_cons]
 split <;> simp
theorem Zjt (Ss:List Sh) (Os:List Ob) (n:Nat):(Zc1 Ss Os n).length<=n:=by
 unfold Zc1;rw [List.length_map];exact Nat.le_trans (List.length_filter_le _ _) (by simp)
theorem ZdA {α:Type}{p:α->Bool}{L:List α} (h:k < L.length):(L.take (k+1)).any p=((L.take k).any p || p L[k]):=by
 rw [List.take_succ_eq_append_getElem h,List.any_append];simp
def Zgc (Ss:List Sh) (o:Ob):List Tie:=match Zca Ss o.kd with
 | some x=>Zdw x.fields o.vs x.fields.length
 | none=>[]
def ZdQ (T:List Tie) (i:Nat) (a b:Zy_):List Int:=(T.filter (Zhs 3 a b)).map fun _=>(i:Int)
def ZeB (Ss:List Sh) (Os:List Ob) (k:Nat) (a b:Zy_):List Int:=(List.range k).flatMap fun i=>match Os[i]? with
 | some o=>ZdQ (Zgc Ss o) i a b
 | none=>[]
theorem Zn8 (h:k < Os.length) (a b:Zy_):ZeB Ss Os (k+1) a b=ZeB Ss Os k a b ++ ZdQ (Zgc Ss Os[k]) k a b:=by
 unfold ZeB;rw [List.range_succ,List.flatMap_append];simp [h]
theorem ZfM (T:List Tie) (x:Tie) (i:Nat) (a b:Zy_):ZdQ (T ++ [x]) i a b=ZdQ T i a b ++ (if Zhs 3 a b x then [(i:Int)] else []):=by
 unfold ZdQ;rw [List.filter_append,List.map_append]
 congr 1
 rw [List.filter_cons]
 split <;> simp
theorem ZjB (T:List Tie) (i:Nat) (a b:Zy_):(ZdQ T i a b).length<=T.length:=by
 unfold ZdQ;rw [List.length_map];exact List.length_filter_le _ _
theorem ZiA {m:Nat} (h:∀ o ∈ Os,(Zgc Ss o).length<=m) (a b:Zy_):∀ k,(ZeB Ss Os k a b).length<=k*m
 | 0=>by simp [ZeB]
 | k+1=>by
  have ih:=ZiA h a b k;unfold ZeB at ih |-;rw [List.range_succ,List.flatMap_append,List.length_append,Nat.succ_mul];refine Nat.add_le_add ih ?_;simp only [List.flatMap_cons,List.flatMap_nil,List.append_nil]
  split
  . rename_i o ho
    exact Nat.le_trans (ZjB _ _ _ _) (h o (List.mem_of_getElem? ho))
  . simp
end
section
open Go.RowKit Go.Deep Go.Shelf Go.Maps
theorem ZmJ (lo:Nat) (sv:Value) (Ss:List Sh) (o:Ob) (vv hv:Value) (x:Sh) (w0 w:World) (hS:ZaH lo w0 sv Ss) (h0:Below w0.heap.size w0 w) (hV:Zaf w vv o.vs) (hH:Zaf w hv o.hs) (hx:Zca Ss o.kd=some x) :
 Calls prog 145 #[sv,.agg #[.string o.kd,.string o.nm,.string o.tm,vv,.bool o.en,hv,.int .i64 o.ver]] w
  fun e w'=>∃ fv B1 B2,e=.returned (.func (.func 227) #[] #[.pointer (some ⟨B1,0,none⟩),.pointer (some ⟨B2,0,none⟩)])/\Zw_ w w'/\Zau lo w0 fv x.fields/\w.heap.size<=B1/\w.heap.size<=B2/\
   Box w' B1 #[.string x.kind,fv]/\Box w' B2 #[.string o.kd,.string o.nm,.string o.tm,vv,.bool o.en,hv,.int .i64 o.ver]/\B2 < w'.heap.size:=by
 have HS:=Zab hS;have H0:=Zab h0;have HX:=Zab hx;obtain⟨sa,sc,rfl⟩:=hS.form;obtain⟨va,vc,rfl⟩:=hV.form';obtain⟨ha,hc,rfl⟩:=hH.form';clear hS h0 hV hH hx;go_enter func145,ntmps145;go_wp2_with fail;generalize hWa:w.alloc _=Wa;have HB:Hd (Zw_ w Wa):=by unfold Hd;rw [<- hWa];exact Zac _ _
 have FO:Hd (Box Wa w.heap.size #[.string o.kd,.string o.nm,.string o.tm,.slice va o.vs.length vc,.bool o.en,.slice ha o.hs.length hc,.int .i64 o.ver]):=by unfold Hd;rw [<- hWa];exact Box.new _ _ _ _ rfl
 clear hWa;refine (Zc8 lo _ Ss o.kd w0 _ HS.o (H0.o.trans (HB.o.mono H0.o.size))).mono ?_;rintro e w1 ⟨hb,hq⟩
 rcases hq with ⟨y,fv,hy,rfl,hF⟩ | ⟨hno,-⟩
 case inr=>rw [HX.o] at hno;cases hno
 have e1:y=x:=by have:=HX.o;rw [hy] at this;exact Option.some.inj this
 subst e1;have HF:=Zab hF;obtain⟨fa,fcap,rfl⟩:=hF.form;replace HB:Hd (Zw_ w w1):=bt HB.o hb;replace FO:=Zab (FO.o.on hb);clear hb hF hy;have g:=FO.o.cell;have gl:=FO.o.lt;have g':∀ q i,(w1.alloc q).cell? ⟨w.heap.size,i,none⟩=_:=fun q i=>(Zaj _ _ _ _ gl).trans (g i)
 go_wp2_with fail;clear g g' gl;refine (callsIn_wide (n:=5)).1 ((ZoE y.kind o.kd o.nm o.tm o.en o.ver _ Fence.wide _ trivial rfl fa y.fields.length fcap va o.vs.length vc ha o.hs.length hc).mono ?_);rintro e w2 ⟨rfl,rfl⟩;go_wp2;go_ret;have hs1:w.heap.size<=w1.heap.size:=HB.o.size;refine⟨_,_,_,rfl,?_,HF.o,?_,?_,?_,?_,?_⟩
 . exact bt HB.o (((Zac _ _).trans ((Zac _ _).mono (by simp))).trans ((Zac _ _).mono (by simp;omega)))
 . omega
 . omega
 . exact (Box.new _ _ _ _ (by simp)).on (Zac _ _)
 . exact Box.new _ _ _ _ (by simp)
 . simp
end
section
open Go.RowKit Go.Deep
theorem ZhB {a b c:Zy_} (h:Zcs a b < 0) (h':Zcs b c < 0):Zcs a c < 0:=Zic.2 (Zl5 (Zic.1 h) (Zic.1 h'))
theorem Zra {a b:Int}:orI a b < 0↔a < 0\/(a=0/\b < 0):=by unfold orI;split <;> omega
theorem Zo5 {a b c d:Zy_}:ZeI a b c d < 0↔Zcs a c < 0\/(a=c/\Zcs b d < 0):=by
 unfold ZeI;rw [Zra,Zd1]
theorem ZgD {a b c d:Zy_}:ZeI a b c d=0↔a=c/\b=d:=by
 unfold ZeI;rw [ZpQ,Zd1,Zd1]
theorem ZhA {a b c d e f:Zy_} (h:ZeI a b c d < 0) (h':ZeI c d e f < 0):ZeI a b e f < 0:=by
 rw [Zo5] at*
 rcases h with h | ⟨rfl,h⟩
 . rcases h' with h' | ⟨rfl,h'⟩
   . exact Or.inl (ZhB h h')
   . exact Or.inl h
 . rcases h' with h' | ⟨rfl,h'⟩
   . exact Or.inl h'
   . exact Or.inr ⟨rfl,ZhB h h'⟩
theorem Zhy (x y z:Le) (h:Zc0 x y < 0) (h':Zc0 y z < 0):Zc0 x z < 0:=ZhA h h'
theorem Zlj {X:Type}{c:X->X->Int}{L:List X} (h:Zdf c L=true) {j:Nat} (hj:j+1 < L.length):c L[j] L[j+1] < 0:=by
 have:=Zli hj h;rw [ZdH hj] at this;exact of_decide_eq_true this
theorem Zqf {X:Type}{c:X->X->Int}{L:List X} (tr:∀ x y z,c x y < 0->c y z < 0->c x z < 0) (h:Zdf c L=true) (i:Nat):∀ (d:Nat) (hj:i+d+1 < L.length),c (L[i]'(by omega)) L[i+d+1] < 0
 | 0,hj=>Zlj h hj
 | d+1,hj=>tr _ _ _ (Zqf tr h i d (by omega)) (Zlj (j:=i+d+1) h hj)
theorem ZiG {X:Type}{c:X->X->Int}{L:List X} (tr:∀ x y z,c x y < 0->c y z < 0->c x z < 0) (h:Zdf c L=true) {i j:Nat} (hi:i < L.length) (hj:j < L.length) (hij:i < j):c L[i] L[j] < 0:=by
 obtain⟨d,rfl⟩:∃ d,j=i+d+1:=⟨j - i - 1,by omega⟩
 exact Zqf tr h i d hj
theorem Zoc {X:Type}{c:X->X->Int}{L:List X} (tr:∀ x y z,c x y < 0->c y z < 0->c x z < 0) (h:Zdf c L=true) (t:X):Zrw c L t:=
 fun _ _ hi hj hij h'=>tr _ _ _ (ZiG tr h hi hj hij) h'
theorem ZpX {X:Type}{c:X->X->Int}{L:List X}{t:X}{p:Nat} (tr:∀ x y z,c x y < 0->c y z < 0->c x z < 0) (sub:∀ x y,c x y < 0->c y t=0->c x t < 0) (h:Zdf c L=true) (hp:Zr0 c L t p) :
 Zqb c L t p=L.any fun x=>decide (c x t=0):=by
 unfold Zqb
 cases hx:L[p]? with
 | some x=>
  obtain⟨hl,rfl⟩:=List.getElem?_eq_some_iff.1 hx
  show decide (c L[p] t=0)=_
  by_cases h0:c L[p] t=0
  . rw [decide_eq_true h0]
    exact (List.any_eq_true.2 ⟨L[p],List.getElem_mem hl,decide_eq_true h0⟩).symm
  . rw [decide_eq_false h0]
    refine (List.any_eq_false.2 fun y hy hc=>?_).symm;obtain⟨i,hi,rfl⟩:=List.getElem_of_mem hy;have hc':=of_decide_eq_true hc
    by_cases e:i < p
    . have:=hp.less i hi e
      omega
    . by_cases e2:i=p
      . subst e2;exact h0 hc'
      . have h1:=sub _ _ (ZiG tr h hl hi (by omega)) hc'
        have h2:=hp.more p hl Zl_
        omega
 | none=>
  have hl:L.length<=p:=List.getElem?_eq_none_iff.1 hx;refine (List.any_eq_false.2 fun y hy hc=>?_).symm;obtain⟨i,hi,rfl⟩:=List.getElem_of_mem hy;have:=hp.less i hi (by omega);have:=of_decide_eq_true hc
  omega
theorem ZqM (Ls:List Le) (t r:Zy_):(Ls.any fun x=>decide (Zc0 x ⟨t,r,0,0⟩=0))=Ls.any (Zdc t r):=by
 congr 1
 funext x
 unfold Zdc Zc0;rw [Bool.eq_iff_iff,Bool.and_eq_true,ZaF,ZaF,decide_eq_true_iff,ZgD]
theorem ZgU (lo:Nat) (v:Value) (Ls:List Le) (t r:Zy_) (w:World) (hv:Zbx lo w v Ls) (hn:Ls.length<=1048576) (hr:Zdf Zc0 Ls=true) :
 Calls prog 222 #[v,.string t,.string r] w
  fun e w'=>(∃ p:Nat,Zr0 Zc0 Ls ⟨t,r,0,0⟩ p/\e=.returned (.tuple #[.int .i64 p,.bool (Ls.any (Zdc t r))]))/\Zw_ w w':=by
 have HV:=Zab hv;have HR:=Zab hr;obtain⟨a,cap,rfl⟩:=hv.form;clear hv hr;go_enter func222,ntmps222;go_wp2_with fail;refine (ZiI lo _ Ls ⟨t,r,0,0⟩ _ HV.o hn (Zoc Zhy HR.o _)).mono ?_;rintro e w1 ⟨⟨p,hp,rfl⟩,hb⟩;have HP:=Zab hp;have HB:=Zab hb
 have HE:Hd (Zqb Zc0 Ls ⟨t,r,0,0⟩ p=Ls.any (Zdc t r)):=(ZpX Zhy (fun x y h h0=>by
  obtain⟨e1,e2⟩:=ZgD.1 h0;unfold Zc0 at h |-;simp only at e1 e2 |-;rw [<- e1,<- e2];exact h) HR.o hp).trans (ZqM Ls t r)
 clear hp hb;go_wp2
 go_ret2
 exact⟨⟨p,HP.o,by rw [HE.o];rfl⟩,HB.o⟩
end
section
open Go.RowKit Go.Deep
def Zjq (Ss:List Sh) (Ms:List Md) (Ts:List Tm):Bool:=Zax Ss Ms&&Zbl Ts
section
variable (lo:Nat) (sv mv tv:Value) (Ss:List Sh) (Ms:List Md) (Ts:List Tm) (w:World)
theorem ZiL (h:Zbw lo w sv mv tv Ss Ms Ts) :
 Calls prog 81 #[.agg #[sv,mv,tv]] w fun e w'=>e=.returned (.bool (Zjq Ss Ms Ts))/\Zw_ w w':=by
 have HL:=Zab h;obtain⟨a,cap,rfl⟩:=h.shs.form;obtain⟨a1,cap1,rfl⟩:=h.mds.form;obtain⟨a2,cap2,rfl⟩:=h.tms.form;clear h;go_enter func81,ntmps81;go_wp2_with fail;generalize hWa:w.alloc _=Wa;have HBa:Hd (Zw_ w Wa):=by rw [<- hWa];exact Zac w _
 have FA:Hd (Box Wa w.heap.size #[.slice a Ss.length cap,.slice a1 Ms.length cap1,.slice a2 Ts.length cap2]):=by rw [<- hWa];exact Box.new _ _ _ _ rfl
 clear hWa;refine (ZiM lo lo _ _ Ss Ms _ (HL.o.below HBa.o).shs (HL.o.below HBa.o).mds).mono ?_;rintro e w1 ⟨rfl,hb1⟩;have HB1:Hd (Zw_ w w1):=bt HBa.o hb1;replace FA:=Zab (FA.o.on hb1);have g2:=FA.o.cell 2;simp at g2;clear hb1 HBa
 cases hm:Zax Ss Ms with
 | false=>
  have HE:Hd (Zjq Ss Ms Ts=false):=by unfold Hd Zjq;rw [hm];rfl
  go_wp2;go_ret;exact⟨Zaa HE.o.symm,HB1.o⟩
 | true=>
  have HE:Hd (Zjq Ss Ms Ts=Zbl Ts):=by unfold Hd Zjq;rw [hm];rfl
  go_wp2_with fail;refine (ZiN lo _ Ts _ (HL.o.below HB1.o).tms).mono ?_;rintro e w2 ⟨rfl,hb2⟩;have HB2:Hd (Zw_ w w2):=bt HB1.o hb2;clear hb2;go_wp2;go_ret;exact⟨Zaa HE.o.symm,HB2.o⟩
theorem Zim (h:Zbw lo w sv mv tv Ss Ms Ts) :
 Calls prog 141 #[.agg #[sv,mv,tv]] w fun e w'=>e=.returned (.bool (Zjq Ss Ms Ts))/\Zw_ w w':=by
 have HL:=Zab h;obtain⟨a,cap,rfl⟩:=h.shs.form;obtain⟨a1,cap1,rfl⟩:=h.mds.form;obtain⟨a2,cap2,rfl⟩:=h.tms.form;clear h;go_enter func141,ntmps141;go_wp2_with fail;generalize hWa:w.alloc _=Wa;have HBa:Hd (Zw_ w Wa):=by rw [<- hWa];exact Zac w _
 have FA:Hd (Box Wa w.heap.size #[.slice a Ss.length cap,.slice a1 Ms.length cap1,.slice a2 Ts.length cap2]):=by rw [<- hWa];exact Box.new _ _ _ _ rfl
 clear hWa;refine (Zin lo lo _ _ Ss Ms _ (HL.o.below HBa.o).shs (HL.o.below HBa.o).mds).mono ?_;rintro e w1 ⟨rfl,hb1⟩;have HB1:Hd (Zw_ w w1):=bt HBa.o hb1;replace FA:=Zab (FA.o.on hb1);have g2:=FA.o.cell 2;simp at g2;clear hb1 HBa
 cases hm:Zax Ss Ms with
 | false=>
  have HE:Hd (Zjq Ss Ms Ts=false):=by unfold Hd Zjq;rw [hm];rfl
  go_wp2;go_ret;exact⟨Zaa HE.o.symm,HB1.o⟩
 | true=>
  have HE:Hd (Zjq Ss Ms Ts=Zbl Ts):=by unfold Hd Zjq;rw [hm];rfl
  go_wp2_with fail;refine (Zio lo _ Ts _ (HL.o.below HB1.o).tms).mono ?_;rintro e w2 ⟨rfl,hb2⟩;have HB2:Hd (Zw_ w w2):=bt HB1.o hb2;clear hb2;go_wp2;go_ret;exact⟨Zaa HE.o.symm,HB2.o⟩
end
end
open Go.ChangeShapes Go.WideShapes Go.ChangeAt Go.RowKit Go.Deep
variable {fuel:Nat}
theorem Tryz.cells116:prog.cellsOf 116=4:=by kernel_rfl
theorem Tryz.cells35:prog.cellsOf 35=1:=by kernel_rfl
theorem Zsd {l:List Value} (h:l.length=4):∃ c0 c1 c2 c3,l=[c0,c1,c2,c3]:=by
 match l,h with
 | [c0,c1,c2,c3],_=>exact⟨c0,c1,c2,c3,rfl⟩
section
variable {H:Type} {enc:TypeId×Value->H} {W:World}
theorem ZpP {c:Value}{x:DataW H×List MemPlace} (h:DataW.trod enc prog W 0 (fun _=>true) true fuel 35 [c]=some x):∃ L,Zat 0 W c L:=by
 rcases Go.ChangeShapes.open_ints underlying35 underlying3 Tryz.cells3 h with ⟨hcs,_⟩ | ⟨a,len,cap,zs,hcs,_,hl,hm,hzs,_,hcell,_⟩
 . simp only [List.cons.injEq,and_true] at hcs
   exact⟨[],Or.inl ⟨_,_,hcs,rfl⟩⟩
 . simp only [List.cons.injEq,and_true] at hcs
   simp only [if_true] at hzs
   by_cases h0:len=0
   . subst h0
     exact⟨[],Or.inl ⟨_,_,hcs,rfl⟩⟩
   . obtain⟨b,off,spot⟩:=a
     have hspot:spot=none:=by simpa [Addr.add] using World.cell?_spot (hcell 0 (by omega))
     subst hspot;have hlen:(zs.take len).length=len:=by rw [List.length_take];omega
     refine⟨zs.take len,Or.inr ⟨b,off,cap,by rw [hcs,hlen],?_,by omega,?_,Nat.zero_le _,?_⟩⟩
     . intro e;rw [e] at hlen;simp at hlen;omega
     . exact World.block_lt_of_cell? W _ (hcell 0 (by omega))
     . intro i hi
       have:=hcell i (by omega);rw [add_plain] at this;rw [this,List.getElem_take,List.getD_eq_getElem?_getD,List.getElem?_eq_getElem (by omega)]
       rfl
theorem ZpM {cs:List Value}{x:DataW H×List MemPlace} (h:DataW.trod enc prog W 0 (fun _=>true) true fuel 116 cs=some x) :
 ∃ (r:Ru) (vv:Value),cs=[vv,.string r.kd,.string r.tm,.string r.pf]/\Zat 0 W vv r.vb/\Zgw r:=by
 obtain⟨xs,n,_,_,hl,hlen,hfld⟩:=DataW.trod_struct underlying116 h;obtain⟨c0,c1,c2,c3,rfl⟩:=Zsd (hl.trans Tryz.cells116);simp only [Array.size,List.length_cons,List.length_nil] at hlen;have g0:DataW.trod enc prog W 0 (fun _=>true) true n 35 ((([c0,c1,c2,c3]:List Value).drop 0).take (prog.cellsOf 35))=xs[0]?:=hfld 0 _ rfl;have g1:DataW.trod enc prog W 0 (fun _=>true) true n 9 ((([c0,c1,c2,c3]:List Value).drop 1).take (prog.cellsOf 9))=xs[1]?:=hfld 1 _ rfl;have g2:DataW.trod enc prog W 0 (fun _=>true) true n 9 ((([c0,c1,c2,c3]:List Value).drop 2).take (prog.cellsOf 9))=xs[2]?:=hfld 2 _ rfl;have g3:DataW.trod enc prog W 0 (fun _=>true) true n 9 ((([c0,c1,c2,c3]:List Value).drop 3).take (prog.cellsOf 9))=xs[3]?:=hfld 3 _ rfl
 simp only [Tryz.cells9,Tryz.cells35,List.drop_succ_cons,List.drop_zero,List.take_succ_cons,List.take_zero] at g0 g1 g2 g3;rw [List.getElem?_eq_getElem (by omega)] at g0 g1 g2 g3;obtain⟨L,hL⟩:=ZpP g0;obtain⟨k,e1,_,s1⟩:=DataW.trod_string underlying9 g1;obtain⟨t,e2,_,s2⟩:=DataW.trod_string underlying9 g2;obtain⟨p,e3,_,s3⟩:=DataW.trod_string underlying9 g3;simp only [List.cons.injEq,and_true] at e1 e2 e3;subst e1 e2 e3;exact⟨⟨L,k,t,p⟩,c0,rfl,hL,⟨s1,s2,s3⟩⟩
end
end Go.Proofs.YtmappejlmapboaaGreat
