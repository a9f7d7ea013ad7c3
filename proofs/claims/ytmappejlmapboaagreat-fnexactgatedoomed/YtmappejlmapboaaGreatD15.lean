import Derived.Test.YtmappejlmapboaaGreatD14
import Derived.RangeFuncNested
import Derived.RangeFuncBound
import Derived.RangeFuncCalls
import Derived.RangeFuncLeaves
import Derived.Shelf.Abstract
import Derived.Shelf.RegionOpen
import Derived.OwnWalkIn
import Derived.TacticsInMore
import Derived.LoopNIn
import Derived.LoopIn
set_option maxHeartbeats 16000000
set_option maxRecDepth 100000
open Go.Proofs.Tryz
namespace Go.Proofs.YtmappejlmapboaaGreat
section
open Go.RowKit Go.Deep Go.Shelf
variable {B:Nat} {W W':World}
attribute [local go_sem] Oper.semAt_some
theorem Ziv {w w':World} (h:Zw_ w w'):w.grownBy w' none:=
 ⟨h.os,h.tape,h.output,h.size,fun k hk _=>h.block k hk⟩
theorem Zbu {β:Type}{J:β->World->Prop} (h:AbidesFrom B J) {s:β} {W W':World} (hs:J s W) (hb:Below W.heap.size W W'):J s W':=
 h s W W' none hs (Ziv hb) (fun r e=>by cases e)
structure Zay (S:Nat->Prop) (B:Nat) (W W':World):Prop where
 os:W'.os=W.os
 tape:W'.tape=W.tape
 output:W'.output=W.output
 size:W.heap.size<=W'.heap.size
 same:∀ k o,W.heap[k]?=some o->¬ S k->(o.isCells=true\/k < B)->W'.heap[k]?=some o
theorem Zay.refl (S:Nat->Prop) (B:Nat) (W:World):Zay S B W W:=⟨rfl,rfl,rfl,Nat.le_refl _,fun _ _ h _ _=>h⟩
theorem Zay.trans {S:Nat->Prop}{W'':World} (h:Zay S B W W') (k:Zay S B W' W''):Zay S B W W'':=
 ⟨k.os.trans h.os,k.tape.trans h.tape,k.output.trans h.output,Nat.le_trans h.size k.size,fun i o hi hs ho=>k.same i o (h.same i o hi hs ho) hs ho⟩
theorem Zay.put {S:Nat->Prop}{w:World} (W:World) (l:Nat) (o o':Obj) (hl:w.heap.size<=l) (h:W.heap[l]?=some o) (hc:o.isCells=false) (_:o.isWalk=false):Zay S w.heap.size W (W.putObj l o'):=by
 have hg:=grownBy_putObj' W l o';refine⟨hg.os,hg.tape,hg.output,hg.size,fun k x hk _ hx=>?_⟩
 by_cases e:k=l
 . subst e
   rw [h] at hk
   cases hk
   rcases hx with hx | hx
   . rw [hc] at hx;cases hx
   . omega
 . rw [hg.block k (Array.getElem?_eq_some_iff.1 hk).1 (fun e'=>e (Option.some.inj e'))]
   exact hk
theorem Zay.below {S:Nat->Prop}{m:Nat} (h:Zay S B W W') (hm:m<=W.heap.size) (hS:∀ k,k < m->¬ S k) (hB:m<=B):Below m W W':=by
 refine⟨h.os,h.tape,h.output,h.size,fun k hk=>?_⟩;have hlt:k < W.heap.size:=Zk_ hk hm
 rw [Array.getElem?_eq_getElem hlt];exact h.same k _ (Array.getElem?_eq_getElem hlt) (hS k hk) (Or.inr (Zk_ hk hB))
theorem Zay.cell {S:Nat->Prop}{p:Addr}{v:Value} (h:Zay S B W W') (hc:W.cell? p=some v) (hS:¬ S p.block):W'.cell? p=some v:=by
 obtain⟨o,ho,hc'⟩:=cells_of_cell hc;exact (World.cell?_of_block ((h.same _ o ho hS (Or.inl hc')).trans ho.symm)).trans hc
def ZaV (Fs:List Fd) (V:List Zy_):Nat->List (Zy_×Int)
 | 0=>[]
 | k+1=>ZaV Fs V k ++ (match Fs[k]?,V[k]? with | some f,some s=>if (f.kd == 1&&!f.we.toList.isEmpty)=true then [(f.we,ZjF s)] else [] | _,_=>[])
theorem Zim {Fs:List Fd}{V:List Zy_}{k:Nat} (hf:k < Fs.length) (hv:k < V.length):ZaV Fs V (k+1)=ZaV Fs V k ++ (if (Fs[k].kd == 1&&!Fs[k].we.toList.isEmpty)=true then [(Fs[k].we,ZjF V[k])] else []):=by
 rw [ZaV];simp [hf,hv]
theorem ZgR (Fs:List Fd) (V:List Zy_) (k:Nat):(ZaV Fs V k).length<=k:=by
 induction k with
 | zero=>simp [ZaV]
 | succ k ih=>
  rw [ZaV,List.length_append]
  split
  . split
    . simp;omega
    . simp;omega
  . simp;omega
def ZdJ (kind:Zy_):List (Zy_×Int):=if kind.toList.isEmpty=true then [] else [(kind,1)]
def Ze2 (Ss:List Sh) (kind:Zy_) (V:List Zy_):List (Zy_×Int):=
 match Zcn Ss kind with
 | some x=>if x.fields.length=V.length then ZdJ kind ++ ZaV x.fields V V.length else []
 | none=>[]
theorem Zkn {Ss:List Sh}{kind:Zy_}{V:List Zy_} (h:∀ x,Zcn Ss kind=some x->x.fields.length≠V.length):Ze2 Ss kind V=[]:=by
 unfold Ze2
 cases hs:Zcn Ss kind with
 | none=>rfl
 | some x=>simp [h x hs]
theorem Zlz {Ss:List Sh}{kind:Zy_}{V:List Zy_}{x:Sh} (h:Zcn Ss kind=some x) (hl:x.fields.length=V.length):Ze2 Ss kind V=ZdJ kind ++ ZaV x.fields V V.length:=by
 unfold Ze2;rw [h];simp [hl]
def ZoN (r:Zy_) (L:List (Zy_×Int)):Int:=(L.map fun p=>if (p.1.toList == r.toList)=true then p.2 else 0).sum
theorem Zfc (r:Zy_):ZoN r []=0:=rfl
theorem ZfK (r:Zy_) (A B:List (Zy_×Int)):ZoN r (A ++ B)=ZoN r A+ZoN r B:=by simp [ZoN]
theorem Zhs (r:Zy_) (p:Zy_×Int):ZoN r [p]=if (p.1.toList == r.toList)=true then p.2 else 0:=by simp [ZoN]
theorem ZoP {r:Zy_} (hr:r.toList.isEmpty=false) (Fs:List Fd) (V:List Zy_) (k:Nat):ZoN r (ZaV Fs V k)=Zfg r Fs V k:=by
 induction k with
 | zero=>rfl
 | succ k ih=>
  rw [ZaV,Zfg,ZfK,ih]
  congr 1
  generalize Fs[k]?=fo;generalize V[k]?=so
  cases fo with
  | none=>rfl
  | some f=>
   cases so with
   | none=>rfl
   | some s=>
    dsimp only;unfold ZsA
    cases h1:(f.kd == 1) with
    | false=>simp [Zfc]
    | true=>
     cases h2:f.we.toList.isEmpty with
     | false=>simp [Zhs]
     | true=>
      have:(f.we.toList == r.toList)=false:=by
       rw [List.isEmpty_iff.1 h2]
       cases hq:r.toList with
       | nil=>rw [hq] at hr;simp at hr
       | cons _ _=>rfl
      simp [Zfc,this]
theorem ZoO {r:Zy_} (hr:r.toList.isEmpty=true) (Fs:List Fd) (V:List Zy_) (k:Nat):ZoN r (ZaV Fs V k)=0:=by
 induction k with
 | zero=>rfl
 | succ k ih=>
  rw [ZaV,ZfK,ih]
  split
  . rename_i f s _ _
    cases h2:f.we.toList.isEmpty with
    | true=>simp [Zfc]
    | false=>
     have:(f.we.toList == r.toList)=false:=by
      rw [List.isEmpty_iff.1 hr]
      cases hq:f.we.toList with
      | nil=>rw [hq] at h2;simp at h2
      | cons _ _=>rfl
     split
     . simp [Zhs,this]
     . simp [Zfc]
  . simp [Zfc]
theorem ZoQ (Ss:List Sh) (kind:Zy_) (V:List Zy_) (r:Zy_):ZoN r (Ze2 Ss kind V)=Zd5 Ss kind V r:=by
 by_cases hn:∀ x,Zcn Ss kind=some x->x.fields.length≠V.length
 . rw [Zkn hn,Znr hn];rfl
 . obtain⟨x,hx,hl⟩:∃ x,Zcn Ss kind=some x/\x.fields.length=V.length:=Classical.byContradiction fun h=>hn fun x hx hl=>h ⟨x,hx,hl⟩
   rw [Zlz hx hl,ZfK]
   cases hr:r.toList.isEmpty with
   | true=>
    rw [Zlx hr,ZoO hr];unfold ZdJ
    cases hk:kind.toList.isEmpty with
    | true=>rfl
    | false=>
     have:(kind.toList == r.toList)=false:=by
      rw [List.isEmpty_iff.1 hr]
      cases hq:kind.toList with
      | nil=>rw [hq] at hk;simp at hk
      | cons _ _=>rfl
     simp [Zhs,this]
   | false=>
    rw [Zly hx hl hr,ZoP hr]
    congr 1
    unfold ZdJ
    cases hk:kind.toList.isEmpty with
    | true=>
     have:(r.toList == kind.toList)=false:=by
      rw [List.isEmpty_iff.1 hk]
      cases hq:r.toList with
      | nil=>rw [hq] at hr;simp at hr
      | cons _ _=>rfl
     simp [Zfc,this]
    | false=>
     simp only [Bool.false_eq_true,if_false,Zhs]
     by_cases h:kind.toList=r.toList
     . simp [h]
     . have h':¬ r.toList=kind.toList:=fun e=>h e.symm
       simp [h,h']
section
variable (lo:Nat) (sv:Value) (Ss:List Sh) (kind nm team:Zy_) (vv hv:Value) (en:Bool) (ver:Int) (V Ho:List Zy_) (w:World)
theorem Zpq (F:Fence) (n:Nat) (hf:F.fn 196) (hro:F.round=none) (a:Option Addr) (ln cap:Nat) (va:Option Addr) (vn vcap:Nat) (ha:Option Addr) (hn hcap:Nat) :
 CallsIn F n prog 196 #[.slice a ln cap,.agg #[.string kind,.string nm,.string team,.slice va vn vcap,.bool en,.slice ha hn hcap,.int .i64 ver]] w
  fun e w'=>e=.returned (.func (.func 228) #[] #[.pointer (some ⟨w.heap.size,0,none⟩),.pointer (some ⟨w.heap.size+1,0,none⟩)])/\
   w'=(w.alloc (.cells #[.slice a ln cap] 37)).alloc (.cells #[.string kind,.string nm,.string team,.slice va vn vcap,.bool en,.slice ha hn hcap,.int .i64 ver] 128):=by
 refine callsIn_of_wp func196 rfl hf ?_ hro;simp only [ntmps196,List.size_toArray,List.length_cons,List.length_nil,Nat.reduceAdd,Nat.reduceSub,Array.replicate_succ,Array.replicate_zero,List.push_toArray,List.append_toArray,List.nil_append,List.cons_append]
 gi_wp2
 go_ret;exact⟨rfl,rfl⟩
end
end
section
open Go.RowKit Go.Deep Go.Shelf
attribute [local go_sem] Oper.semAt_some
section
variable (lo:Nat) (sv:Value) (Ss:List Sh) (kind nm team:Zy_) (vv hv:Value) (en:Bool) (ver:Int) (V Ho:List Zy_) (w:World)
def Zc5 (s:Zy_):Zy_:=if s.size<=maxLen then s else ⟨#[]⟩
theorem ZeO {s:Zy_} (h:s.size<=maxLen):Zc5 s=s:=if_pos h
theorem ZcW (s:Zy_):(Zc5 s).size<=maxLen:=by
 unfold Zc5
 split
 . assumption
 . exact Nat.zero_le _
abbrev Zuc (x:Zy_×Int):Array Value:=#[.string (Zc5 x.1),.int .i64 x.2]
theorem ZiL (n:Nat) (sk:kind.size<=maxLen) (hn:1<=n) (S:Nat->Prop) (w0:World) (B1 B2:Nat) (h0:Below w0.heap.size w0 w) (hS:ZaI lo w0 sv Ss) (hV:Zaf w0 vv V) (n1:V.length<=1048576)
 (s0:∀ k,k < w0.heap.size->¬ S k) (s2:¬ S B2) (s3:∀ k,w.heap.size<=k->¬ S k)
 (hX1:Box w B1 #[sv]) (hX2:Box w B2 #[.string kind,.string nm,.string team,vv,.bool en,hv,.int .i64 ver]) :
 SeqStopsK Fence.wide n prog 228 #[.pointer (some ⟨B1,0,none⟩),.pointer (some ⟨B2,0,none⟩)] Zuc (Zay S w.heap.size) (fun xs=>xs=Ze2 Ss kind V) (fun _=>True) (V.length+1) w:=by
 intro l J Jx W hW hJ hJx hY hJ0;have HS:=Zab hS;have HV:=Zab hV;obtain⟨a,cap,rfl⟩:=hS.form;obtain⟨va,vcap,rfl⟩:=hV.form';have H0:=Zab (h0.trans (hW.mono h0.size));have x1:=(hX1.below hW hX1.lt).cell 0;have HO:=Zab (hX2.below hW hX2.lt);have hw:w.heap.size<=W.heap.size:=hW.size;have hw0:w0.heap.size<=w.heap.size:=h0.size;have HJ:=Zab hJ;have HY:=Zab hY;have S0:=Zab s0;have S2:=Zab s2;have S3:=Zab s3;simp at x1;clear hS hV h0 hW hX1 hX2 hJ hY s0 s2 s3 hJx;refine callsIn_of_wp func228 rfl trivial ?_ rfl;simp only [ntmps228,List.size_toArray,List.length_cons,List.length_nil,Nat.reduceAdd,Nat.reduceSub,Array.replicate_succ,Array.replicate_zero,List.push_toArray,List.append_toArray,List.nil_append,List.cons_append];have o0:=HO.o.cell 0;have o3:=HO.o.cell 3;simp at o0 o3
 gi_wp2_with fail
 refine⟨trivial,(callsIn_wide.2 (ZdD lo _ Ss kind w0 W HS.o H0.o)).mono ?_⟩;rintro e w1 ⟨hb1,hq⟩;have HB1:=Zab hb1;have HJ1:=Zab (Zbu HJ.o hJ0 hb1);have HO1:=Zab (HO.o.on hb1);have H1:=Zab (H0.o.trans (hb1.mono H0.o.size));have o0:=HO1.o.cell 0;have o3:=HO1.o.cell 3;simp at o0 o3;have o0:∀ o,(w1.alloc o).cell? ⟨B2,0,none⟩=some (.string kind):=fun o=>(Zaj _ _ _ _ HO1.o.lt).trans o0
 have o3:∀ o,(w1.alloc o).cell? ⟨B2,3,none⟩=some (.slice va V.length vcap):=fun o=>(Zaj _ _ _ _ HO1.o.lt).trans o3
 clear hb1 hJ0 HO H0 x1
 rcases hq with ⟨x,fv,hsh,rfl,hF⟩ | ⟨hno,rfl⟩
 . have HF:=Zab hF
   have HSH:=Zab hsh;obtain⟨fa,fcap,rfl⟩:=hF.form;clear hF hsh
   by_cases hl:x.fields.length=V.length
   . have HL:=Zab hl
     have hne:((V.length:Int) != (x.fields.length:Int))=false:=by rw [hl];simp
     have HE:=Zab (Zlz HSH.o hl);clear hl;have HT:Hd (∀ o,J [] (w1.alloc o)):=fun o=>Zbu HJ.o HJ1.o (Zac _ _)
     cases hk:kind.toList.isEmpty with
     | true=>
      gi_wp2
      all_goals (refine⟨fun _ h=>(by cases h),?_⟩;gi_wp2)
      have HJT:Hd (J (ZdJ kind ++ ZaV x.fields V 0) (w1.alloc (.cells #[.string x.kind,.slice fa x.fields.length fcap] 131))):=by unfold Hd ZdJ;rw [hk];exact HT.o _
      have HBT:Hd (Below w0.heap.size w0 (w1.alloc (.cells #[.string x.kind,.slice fa x.fields.length fcap] 131))):=H1.o.trans ((Zac _ _).mono H1.o.size);have p3:=o3 (.cells #[.string x.kind,.slice fa x.fields.length fcap] 131);have plt:B2 < (w1.alloc (.cells #[.string x.kind,.slice fa x.fields.length fcap] 131)).heap.size:=by have:=HO1.o.lt;simp;omega
      have pw:w.heap.size<=(w1.alloc (.cells #[.string x.kind,.slice fa x.fields.length fcap] 131)).heap.size:=by have:=HB1.o.size;simp;omega
      gi_loopw [41] (fun i wr=>∃ k:Nat,i=.int .i64 k/\k<=x.fields.length/\J (ZdJ kind ++ ZaV x.fields V k) wr/\Below w0.heap.size w0 wr/\wr.cell? ⟨B2,3,none⟩=some (.slice va V.length vcap)/\B2 < wr.heap.size/\w.heap.size<=wr.heap.size)
       (fun i _=>x.fields.length - (intOf i).toNat)
      case atStart=>exact⟨0,rfl,Nat.zero_le _,HJT.o,HBT.o,p3,plt,pw⟩
      case round=>
       obtain⟨k,rfl,hkl,hJk,hBk,q3,qlt,qw⟩:=hrel;have HJK:=Zab hJk;have HBK:=Zab hBk;clear hJk hBk
       by_cases hlt:k < x.fields.length
       . have hlv:k < V.length:=by have:=HL.o;omega
         obtain⟨fb,foff,rfl,hfb,hfc⟩:=HF.o.full' (by omega);obtain⟨hsz,wv,hcell,hst⟩:=hfc k hlt;obtain⟨c0,c1,c2,c3,c4,c5,c6,c7,c8,c9,c10⟩:=hcell.below HBK.o hfb;obtain⟨wa,wn,wcap,rfl⟩:=hst.form;obtain⟨vb,voff,rfl,hvb,hvc,hvs⟩:=HV.o.spread (by omega);have hvk:wr.cell? ⟨vb,voff+k,none⟩=some (.string V[k]):=(HBK.o.cell (p:=⟨vb,voff+k,none⟩) hvb).trans (hvc k hlv);have hvk:∀ o,(wr.alloc o).cell? ⟨vb,voff+k,none⟩=some (.string V[k]):=fun o=>(Zaj _ _ _ _ (Zk_ hvb HBK.o.size)).trans hvk
         have q3':∀ o,(wr.alloc o).cell? ⟨B2,3,none⟩=some (.slice (some ⟨vb,voff,none⟩) V.length vcap):=fun o=>(Zaj _ _ _ _ qlt).trans q3
         have hvz:V[k].size<=maxLen:=hvs _ (List.getElem_mem hlv);have HST:=Zab (Zim hlt hlv);have HA:∀ o,Hd (J (ZdJ kind ++ ZaV x.fields V k) (wr.alloc o)):=fun o=>Zbu HJ.o HJK.o (Zac _ _)
         have HAB:∀ o,Hd (Below w0.heap.size w0 (wr.alloc o)):=fun o=>HBK.o.trans ((Zac _ _).mono HBK.o.size)
         have hwe:=hsz.s10;clear hfc hcell hst hvc hvs hsz
         cases hk1:(x.fields[k].kd == 1) with
         | false=>
          have hk1':(x.fields[k].kd != 1)=true:=by simp [bne,hk1]
          have HE2:Hd (ZaV x.fields V (k+1)=ZaV x.fields V k):=by unfold Hd;rw [HST.o,hk1];simp
          gi_wp2
          go_roundw
          . exact⟨k+1,by go_num,by omega,by rw [HE2.o];exact (HA _).o,(HAB _).o,q3' _,by simp;omega,by simp;omega⟩
          . simp [intOf];omega
         | true=>
          have hk1':(x.fields[k].kd != 1)=false:=by simp [bne,hk1]
          cases hk2:x.fields[k].we.toList.isEmpty with
          | true=>
           have HE2:Hd (ZaV x.fields V (k+1)=ZaV x.fields V k):=by unfold Hd;rw [HST.o,hk1,hk2];simp
           gi_wp2
           go_roundw
           . exact⟨k+1,by go_num,by omega,by rw [HE2.o];exact (HA _).o,(HAB _).o,q3' _,by simp;omega,by simp;omega⟩
           . simp [intOf];omega
          | false=>
           have HE2:Hd (ZaV x.fields V (k+1)=ZaV x.fields V k ++ [(x.fields[k].we,ZjF V[k])]):=by unfold Hd;rw [HST.o,hk1,hk2];simp
           have hpl:(ZdJ kind ++ ZaV x.fields V k).length < V.length+1:=by
            have:=ZgR x.fields V k;have:(ZdJ kind).length<=1:=by unfold ZdJ;split <;> simp
            rw [List.length_append];omega
           have HP:=Zab hpl;clear hpl;obtain⟨fn,tmps,assign,body,hy,hR⟩:=HY.o _ (x.fields[k].we,ZjF V[k]) _ (HA (.cells #[.string x.fields[k].nm,.int .i64 x.fields[k].kd,.int .i64 x.fields[k].le,.int .i64 x.fields[k].mo,.slice wa wn wcap,.string x.fields[k].to,.int .i64 x.fields[k].ro,.bool x.fields[k].mu,.bool x.fields[k].fx,.string x.fields[k].df,.string x.fields[k].we] 178)).o HP.o;dsimp only [Zuc] at hy;rw [ZeO hwe] at hy;have HR:=Zab hR;clear hR
           gi_wp2_with (refine⟨trivial,?_⟩;gi_at_call 229;refine (callsIn_wide.2 (Zdl _ _ hvz)).mono ?_;rintro e w3 ⟨rfl,rfl⟩)
           refine HR.o.mono ?_;rintro e W3 (⟨rfl,hJ3,hk3⟩ | ⟨rfl,hJx3⟩)
           . have HJ3:=Zab hJ3
             have r3:=hk3.cell (q3' (.cells #[.string x.fields[k].nm,.int .i64 x.fields[k].kd,.int .i64 x.fields[k].le,.int .i64 x.fields[k].mo,.slice wa wn wcap,.string x.fields[k].to,.int .i64 x.fields[k].ro,.bool x.fields[k].mu,.bool x.fields[k].fx,.string x.fields[k].df,.string x.fields[k].we] 178)) S2.o;have rB:Hd (Below w0.heap.size w0 W3):=(HAB (.cells #[.string x.fields[k].nm,.int .i64 x.fields[k].kd,.int .i64 x.fields[k].le,.int .i64 x.fields[k].mo,.slice wa wn wcap,.string x.fields[k].to,.int .i64 x.fields[k].ro,.bool x.fields[k].mu,.bool x.fields[k].fx,.string x.fields[k].df,.string x.fields[k].we] 178)).o.trans (hk3.below (HAB _).o.size S0.o hw0);have rz:=hk3.size;simp at rz;clear hk3 hJ3 hy
             gi_wp2
             go_roundw
             . exact⟨k+1,by go_num,by omega,by rw [HE2.o,<- List.append_assoc];exact HJ3.o,rB.o,r3,by omega,by omega⟩
             . simp [intOf];omega
           . have HX3:=Zab hJx3
             clear hJx3 hy
             gi_wp2
             refine bodyPost_ret (results_none rfl _ _ _) rfl ?_;exact⟨⟨_,rfl⟩,.inr ⟨_,trivial,HX3.o⟩⟩
       . have he:k=V.length:=by have:=HL.o;omega
         subst he
         gi_wp2
         go_end0
         exact⟨⟨_,rfl⟩,.inl ⟨_,HE.o.symm,HJK.o⟩⟩
     | false=>
      have hlen:([]:List (Zy_×Int)).length < V.length+1:=by simp
      obtain⟨fn,tmps,assign,body,hy,hR⟩:=HY.o _ (kind,1) _ (HT.o (.cells #[.string x.kind,.slice fa x.fields.length fcap] 131)) hlen;dsimp only [Zuc] at hy;rw [ZeO sk] at hy;have HR:=Zab hR;clear hR hlen
      gi_wp2
      refine HR.o.mono ?_;rintro e W3 (⟨rfl,hJ3,hk3⟩ | ⟨rfl,hJx3⟩)
      . have HJT:Hd (J (ZdJ kind ++ ZaV x.fields V 0) W3):=by unfold Hd ZdJ;rw [hk];exact hJ3
        have HBT0:Below w0.heap.size w0 (w1.alloc (.cells #[.string x.kind,.slice fa x.fields.length fcap] 131)):=H1.o.trans ((Zac _ _).mono H1.o.size);have HBT:Hd (Below w0.heap.size w0 W3):=HBT0.trans (hk3.below HBT0.size S0.o hw0);have hw1:w.heap.size<=w1.heap.size:=Nat.le_trans hw HB1.o.size;have p3:=hk3.cell (o3 (.cells #[.string x.kind,.slice fa x.fields.length fcap] 131)) S2.o;have p4:W3.cell? ⟨w1.heap.size,1,none⟩=some (.slice fa x.fields.length fcap):=hk3.cell (ZaJ _ _ _ _ 1 rfl) (S3.o _ hw1);have rz:=hk3.size;simp at rz;have plt:B2 < W3.heap.size:=by have:=HO1.o.lt;omega
        have pw:w.heap.size<=W3.heap.size:=by omega
        clear hk3 hJ3 hy HBT0
        gi_wp2
        gi_loopw [41] (fun i wr=>∃ k:Nat,i=.int .i64 k/\k<=x.fields.length/\J (ZdJ kind ++ ZaV x.fields V k) wr/\Below w0.heap.size w0 wr/\wr.cell? ⟨B2,3,none⟩=some (.slice va V.length vcap)/\B2 < wr.heap.size/\w.heap.size<=wr.heap.size)
         (fun i _=>x.fields.length - (intOf i).toNat)
        case atStart=>exact⟨0,rfl,Nat.zero_le _,HJT.o,HBT.o,p3,plt,pw⟩
        case round=>
         obtain⟨k,rfl,hkl,hJk,hBk,q3,qlt,qw⟩:=hrel;have HJK:=Zab hJk;have HBK:=Zab hBk;clear hJk hBk
         by_cases hlt:k < x.fields.length
         . have hlv:k < V.length:=by have:=HL.o;omega
           obtain⟨fb,foff,rfl,hfb,hfc⟩:=HF.o.full' (by omega);obtain⟨hsz,wv,hcell,hst⟩:=hfc k hlt;obtain⟨c0,c1,c2,c3,c4,c5,c6,c7,c8,c9,c10⟩:=hcell.below HBK.o hfb;obtain⟨wa,wn,wcap,rfl⟩:=hst.form;obtain⟨vb,voff,rfl,hvb,hvc,hvs⟩:=HV.o.spread (by omega);have hvk:wr.cell? ⟨vb,voff+k,none⟩=some (.string V[k]):=(HBK.o.cell (p:=⟨vb,voff+k,none⟩) hvb).trans (hvc k hlv);have hvk:∀ o,(wr.alloc o).cell? ⟨vb,voff+k,none⟩=some (.string V[k]):=fun o=>(Zaj _ _ _ _ (Zk_ hvb HBK.o.size)).trans hvk
           have q3':∀ o,(wr.alloc o).cell? ⟨B2,3,none⟩=some (.slice (some ⟨vb,voff,none⟩) V.length vcap):=fun o=>(Zaj _ _ _ _ qlt).trans q3
           have hvz:V[k].size<=maxLen:=hvs _ (List.getElem_mem hlv);have HST:=Zab (Zim hlt hlv);have HA:∀ o,Hd (J (ZdJ kind ++ ZaV x.fields V k) (wr.alloc o)):=fun o=>Zbu HJ.o HJK.o (Zac _ _)
           have HAB:∀ o,Hd (Below w0.heap.size w0 (wr.alloc o)):=fun o=>HBK.o.trans ((Zac _ _).mono HBK.o.size)
           have hwe:=hsz.s10;clear hfc hcell hst hvc hvs hsz
           cases hk1:(x.fields[k].kd == 1) with
           | false=>
            have hk1':(x.fields[k].kd != 1)=true:=by simp [bne,hk1]
            have HE2:Hd (ZaV x.fields V (k+1)=ZaV x.fields V k):=by unfold Hd;rw [HST.o,hk1];simp
            gi_wp2
            go_roundw
            . exact⟨k+1,by go_num,by omega,by rw [HE2.o];exact (HA _).o,(HAB _).o,q3' _,by simp;omega,by simp;omega⟩
            . simp [intOf];omega
           | true=>
            have hk1':(x.fields[k].kd != 1)=false:=by simp [bne,hk1]
            cases hk2:x.fields[k].we.toList.isEmpty with
            | true=>
             have HE2:Hd (ZaV x.fields V (k+1)=ZaV x.fields V k):=by unfold Hd;rw [HST.o,hk1,hk2];simp
             gi_wp2
             go_roundw
             . exact⟨k+1,by go_num,by omega,by rw [HE2.o];exact (HA _).o,(HAB _).o,q3' _,by simp;omega,by simp;omega⟩
             . simp [intOf];omega
            | false=>
             have HE2:Hd (ZaV x.fields V (k+1)=ZaV x.fields V k ++ [(x.fields[k].we,ZjF V[k])]):=by unfold Hd;rw [HST.o,hk1,hk2];simp
             have hpl:(ZdJ kind ++ ZaV x.fields V k).length < V.length+1:=by
              have:=ZgR x.fields V k;have:(ZdJ kind).length<=1:=by unfold ZdJ;split <;> simp
              rw [List.length_append];omega
             have HP:=Zab hpl;clear hpl;obtain⟨fn,tmps,assign,body,hy,hR⟩:=HY.o _ (x.fields[k].we,ZjF V[k]) _ (HA (.cells #[.string x.fields[k].nm,.int .i64 x.fields[k].kd,.int .i64 x.fields[k].le,.int .i64 x.fields[k].mo,.slice wa wn wcap,.string x.fields[k].to,.int .i64 x.fields[k].ro,.bool x.fields[k].mu,.bool x.fields[k].fx,.string x.fields[k].df,.string x.fields[k].we] 178)).o HP.o;dsimp only [Zuc] at hy;rw [ZeO hwe] at hy;have HR:=Zab hR;clear hR
             gi_wp2_with (refine⟨trivial,?_⟩;gi_at_call 229;refine (callsIn_wide.2 (Zdl _ _ hvz)).mono ?_;rintro e w3 ⟨rfl,rfl⟩)
             refine HR.o.mono ?_;rintro e W3 (⟨rfl,hJ3,hk3⟩ | ⟨rfl,hJx3⟩)
             . have HJ3:=Zab hJ3
               have r3:=hk3.cell (q3' (.cells #[.string x.fields[k].nm,.int .i64 x.fields[k].kd,.int .i64 x.fields[k].le,.int .i64 x.fields[k].mo,.slice wa wn wcap,.string x.fields[k].to,.int .i64 x.fields[k].ro,.bool x.fields[k].mu,.bool x.fields[k].fx,.string x.fields[k].df,.string x.fields[k].we] 178)) S2.o;have rB:Hd (Below w0.heap.size w0 W3):=(HAB (.cells #[.string x.fields[k].nm,.int .i64 x.fields[k].kd,.int .i64 x.fields[k].le,.int .i64 x.fields[k].mo,.slice wa wn wcap,.string x.fields[k].to,.int .i64 x.fields[k].ro,.bool x.fields[k].mu,.bool x.fields[k].fx,.string x.fields[k].df,.string x.fields[k].we] 178)).o.trans (hk3.below (HAB _).o.size S0.o hw0);have rz:=hk3.size;simp at rz;clear hk3 hJ3 hy
               gi_wp2
               go_roundw
               . exact⟨k+1,by go_num,by omega,by rw [HE2.o,<- List.append_assoc];exact HJ3.o,rB.o,r3,by omega,by omega⟩
               . simp [intOf];omega
             . have HX3:=Zab hJx3
               clear hJx3 hy
               gi_wp2
               refine bodyPost_ret (results_none rfl _ _ _) rfl ?_;exact⟨⟨_,rfl⟩,.inr ⟨_,trivial,HX3.o⟩⟩
         . have he:k=V.length:=by have:=HL.o;omega
           subst he
           gi_wp2
           go_end0
           exact⟨⟨_,rfl⟩,.inl ⟨_,HE.o.symm,HJK.o⟩⟩
      . have HX3:=Zab hJx3
        clear hJx3 hy
        gi_wp2
        refine bodyPost_ret (results_none rfl _ _ _) rfl ?_;exact⟨⟨_,rfl⟩,.inr ⟨_,trivial,HX3.o⟩⟩
   . have hne:((V.length:Int) != (x.fields.length:Int))=true:=by simp;omega
     have HE:Hd (Ze2 Ss kind V=[]):=Zkn fun y hy=>by rw [HSH.o] at hy;cases hy;exact hl
     have HJ2:∀ o,Hd (J [] (w1.alloc o)):=fun o=>Zbu (HJ.o) HJ1.o (Zac _ _)
     gi_wp2
     refine bodyPost_ret (results_none rfl _ _ _) rfl ?_;exact⟨⟨_,rfl⟩,.inl ⟨[],HE.o.symm,(HJ2 _).o⟩⟩
 . have HE:Hd (Ze2 Ss kind V=[]):=Zkn fun y hy=>by rw [hno] at hy;cases hy
   have HJ2:∀ o,Hd (J [] (w1.alloc o)):=fun o=>Zbu (HJ.o) HJ1.o (Zac _ _)
   gi_wp2
   refine bodyPost_ret (results_none rfl _ _ _) rfl ?_;exact⟨⟨_,rfl⟩,.inl ⟨[],HE.o.symm,(HJ2 _).o⟩⟩
end
end
section
open Go.RowKit Go.Deep
variable {b o c0 c1 lo hi off n lo' hi' m1:Nat} {w w' v wr v':World} {x y:Ob} {Xl:List Ob} {vv0 vv1:Value}
def Zgr (b o c0 c1:Nat) (w:World) (x:Ob):Prop:=Zdg x/\∃ (vv0 vv1:Value) (m1:Nat),c0<=m1/\m1<=c1/\Zci w b o x vv0 vv1/\Zad c0 m1 w vv0 x.vs/\Zad m1 c1 w vv1 x.hs
theorem Zgr.near {o1 d0 d1:Nat} (h:Zgr b o c0 c1 w x) (hn:ZbV b o1 7 d0 d1 w w') (ho:o+7<=o1\/o1+7<=o) (hi:c1<=d0\/d1<=c0) (hb:b < c0\/c1<=b):Zgr b o c0 c1 w' x:=by
 obtain⟨hs,vv0,vv1,m1,q0,q1,hc,l0,l1⟩:=h;obtain⟨h0,h1,h2,h3,h4,h5,h6⟩:=hc;have e:∀ t,t < 7->w'.cell? ⟨b,o+t,none⟩=w.cell? ⟨b,o+t,none⟩:=fun t ht=>hn.cell _ (by omega)
 have e0:w'.cell? ⟨b,o,none⟩=w.cell? ⟨b,o,none⟩:=hn.cell _ (by omega);exact⟨hs,vv0,vv1,m1,q0,q1,⟨e0.trans h0,(e 1 (by omega)).trans h1,(e 2 (by omega)).trans h2,(e 3 (by omega)).trans h3,(e 4 (by omega)).trans h4,(e 5 (by omega)).trans h5,(e 6 (by omega)).trans h6⟩,l0.near hn (by omega) (by omega),l1.near hn (by omega) (by omega)⟩
theorem Zgr.touch (h:Zgr b o c0 c1 w x) (ht:Zag lo hi w w') (hlt:b < w.heap.size) (hb:b < lo\/hi<=b) (hi':c1<=lo\/hi<=c0):Zgr b o c0 c1 w' x:=by
 obtain⟨hs,vv0,vv1,m1,q0,q1,hc,l0,l1⟩:=h;obtain⟨h0,h1,h2,h3,h4,h5,h6⟩:=hc;exact⟨hs,vv0,vv1,m1,q0,q1,⟨(ht.cell (p:=⟨b,o,none⟩) hlt hb).trans h0,(ht.cell (p:=⟨b,o+1,none⟩) hlt hb).trans h1,(ht.cell (p:=⟨b,o+2,none⟩) hlt hb).trans h2,(ht.cell (p:=⟨b,o+3,none⟩) hlt hb).trans h3,(ht.cell (p:=⟨b,o+4,none⟩) hlt hb).trans h4,(ht.cell (p:=⟨b,o+5,none⟩) hlt hb).trans h5,(ht.cell (p:=⟨b,o+6,none⟩) hlt hb).trans h6⟩,l0.touch ht (by omega),l1.touch ht (by omega)⟩
theorem Zgr.below (h:Zgr b o c0 c1 w x) (ht:Zw_ w w') (hlt:b < w.heap.size):Zgr b o c0 c1 w' x:=by
 obtain⟨hs,vv0,vv1,m1,q0,q1,hc,l0,l1⟩:=h;obtain⟨h0,h1,h2,h3,h4,h5,h6⟩:=hc;exact⟨hs,vv0,vv1,m1,q0,q1,⟨(ht.cell (p:=⟨b,o,none⟩) hlt).trans h0,(ht.cell (p:=⟨b,o+1,none⟩) hlt).trans h1,(ht.cell (p:=⟨b,o+2,none⟩) hlt).trans h2,(ht.cell (p:=⟨b,o+3,none⟩) hlt).trans h3,(ht.cell (p:=⟨b,o+4,none⟩) hlt).trans h4,(ht.cell (p:=⟨b,o+5,none⟩) hlt).trans h5,(ht.cell (p:=⟨b,o+6,none⟩) hlt).trans h6⟩,l0.below ht,l1.below ht⟩
structure ZfV (lo hi:Nat) (w:World) (b off n:Nat) (c:Nat->Nat×Nat) (X:Nat->Ob):Prop where
 lt:b < w.heap.size
 low:lo<=b
 bh:b < hi
 seg:∀ i,i < n->lo<=(c i).1/\(c i).2<=hi/\(b < (c i).1\/(c i).2<=b)
 mono:∀ i j,i < j->j < n->(c i).2<=(c j).1
 frz:∀ i,w.frozen? ⟨b,i,none⟩=false
 row:∀ i,i < n->Zgr b (off+i*7) (c i).1 (c i).2 w (X i)
theorem ZfV.near {c:Nat->Nat×Nat}{X:Nat->Ob} (h:ZfV lo hi w b off n c X) {j:Nat} (hj:j < n) (hn:ZbV b (off+j*7) 7 (c j).1 (c j).2 w w') {x:Ob} (hx:Zgr b (off+j*7) (c j).1 (c j).2 w' x):ZfV lo hi w' b off n c (fun i=>if i=j then x else X i):=by
 refine⟨Zk_ h.lt hn.size,h.low,h.bh,h.seg,h.mono,fun i=>(hn.frz i).trans (h.frz i),fun i hi'=>?_⟩
 by_cases e:i=j
 . subst e;rw [if_pos rfl];exact hx
 . rw [if_neg e]
   refine (h.row i hi').near hn (by omega) ?_ (h.seg i hi').2.2
   rcases Nat.lt_or_ge i j with hij | hij
   . exact Or.inl (h.mono i j hij hj)
   . exact Or.inr (h.mono j i (by omega) hi')
theorem ZfV.touch {c:Nat->Nat×Nat}{X:Nat->Ob} (h:ZfV lo hi w b off n c X) (ht:Zag lo' hi' w w') (ho:hi<=lo'\/hi'<=lo):ZfV lo hi w' b off n c X:=by
 have h1:=h.low;have h2:=h.bh;refine⟨Zk_ h.lt ht.size,h.low,h.bh,h.seg,h.mono,fun i=>(ht.frozen (p:=⟨b,i,none⟩) h.lt (by simp only [];omega)).trans (h.frz i),fun i hi'=>?_⟩;have h5:=h.seg i hi';exact (h.row i hi').touch ht h.lt (by omega) (by omega)
theorem ZfV.below {c:Nat->Nat×Nat}{X:Nat->Ob} (h:ZfV lo hi w b off n c X) (ht:Zw_ w w'):ZfV lo hi w' b off n c X:=
 ⟨Zk_ h.lt ht.size,h.low,h.bh,h.seg,h.mono,fun i=>(ht.frozen (p:=⟨b,i,none⟩) h.lt).trans (h.frz i),fun i hi'=>(h.row i hi').below ht h.lt⟩
theorem ZfV.to {c:Nat->Nat×Nat}{X Y:Nat->Ob} (h:ZfV lo hi w b off n c X) (e:∀ i,i < n->X i=Y i):ZfV lo hi w b off n c Y:=
 ⟨h.lt,h.low,h.bh,h.seg,h.mono,h.frz,fun i hi'=>e i hi' ▸ h.row i hi'⟩
def ZbW (lo hi:Nat) (w:World) (v:Value) (Xl:List Ob):Prop:=
 (∃ (a:Option Addr) (cap:Nat),v=.slice a 0 cap/\Xl=[])\/
 ∃ (b off cap:Nat) (c:Nat->Nat×Nat) (X:Nat->Ob),v=.slice (some ⟨b,off,none⟩) Xl.length cap/\Xl≠[]/\Xl.length<=maxLen/\Xl.length<=cap/\(∀ i (h:i < Xl.length),X i=Xl[i])/\ZfV lo hi w b off Xl.length c X
theorem ZbW.touch {v:Value} (h:ZbW lo hi w v Xl) (ht:Zag lo' hi' w w') (ho:hi<=lo'\/hi'<=lo):ZbW lo hi w' v Xl:=by
 rcases h with h | ⟨b,off,cap,c,X,h1,h2,h3,h4,h5,h6⟩
 . exact Or.inl h
 . exact Or.inr ⟨b,off,cap,c,X,h1,h2,h3,h4,h5,h6.touch ht ho⟩
theorem ZbW.below {v:Value} (h:ZbW lo hi w v Xl) (ht:Zw_ w w'):ZbW lo hi w' v Xl:=by
 rcases h with h | ⟨b,off,cap,c,X,h1,h2,h3,h4,h5,h6⟩
 . exact Or.inl h
 . exact Or.inr ⟨b,off,cap,c,X,h1,h2,h3,h4,h5,h6.below ht⟩
theorem ZbW.form {v:Value} (h:ZbW lo hi w v Xl):∃ a cap,v=.slice a Xl.length cap:=by
 rcases h with ⟨a,cap,h,rfl⟩ | ⟨b,off,cap,c,X,h1,_⟩
 . exact⟨a,cap,h⟩
 . exact⟨_,cap,h1⟩
theorem ZbW.at {v:Value} (h:ZbW lo hi w v Xl):Za3 lo w v Xl:=by
 rcases h with h | ⟨b,off,cap,c,X,h1,h2,h3,h4,h5,h6⟩
 . exact Or.inl h
 . refine Or.inr ⟨b,off,cap,h1,h2,h3,h6.lt,h6.low,h4,fun i hi'=>?_⟩
   have hr:=h6.row i hi';have g0:=h6.seg i hi';rw [h5 i hi'] at hr;obtain⟨hs,vv0,vv1,m1,q0,q1,hc,l0,l1⟩:=hr;exact⟨hs,vv0,vv1,hc,(l0.in').mono (by omega),(l1.in').mono (by omega)⟩
def ZtC (k:Int) (x:Ob):Ob:=⟨mtB (k),mtB (k+1),mtB (k+1+1),Zf8 (k+1+1+1) x.vs.length,((k+1+1+1+x.vs.length) % 3 == 0),Zf8 (k+1+1+1+x.vs.length+1) x.hs.length,k+1+1+1+x.vs.length+1+x.hs.length⟩
def Zt7 (x:Ob):Nat:=5+x.vs.length+x.hs.length
def ZdM (Xl:List Ob) (i:Nat):Nat:=((Xl.take i).map Zt7).sum
def ZoB (k:Int) (Xl:List Ob):List Ob:=Xl.mapIdx (fun i x=>ZtC (k+(ZdM Xl i:Int)) x)
theorem ZdW (k:Int) (Xl:List Ob):(ZoB k Xl).length=Xl.length:=by unfold ZoB;simp
theorem Zqy (k:Int) (Xl:List Ob) (i:Nat) (h:i < (ZoB k Xl).length) (h':i < Xl.length):(ZoB k Xl)[i]=ZtC (k+(ZdM Xl i:Int)) Xl[i]:=List.getElem_mapIdx (f:=fun i x=>ZtC (k+(ZdM Xl i:Int)) x) (h:=h)
theorem Zjh {i:Nat} (h:i < Xl.length):ZdM Xl (i+1)=ZdM Xl i+Zt7 Xl[i]:=by
 unfold ZdM;rw [List.take_succ_eq_append_getElem h,List.map_append,List.sum_append];simp
theorem Znc (hn:Zbg Xl):∀ {i:Nat},i<=Xl.length->ZdM Xl i<=i*3000000:=by
 intro i
 induction i with
 | zero=>intro _;simp [ZdM]
 | succ i ih=>
  intro hi';have h1:=ih (by omega);rw [Zjh (by omega)]
  have h2:Zt7 Xl[i]<=3000000:=by
   have hsm:=hn.2 i (by omega);unfold ZeI at hsm;unfold Zt7
   omega
  omega
structure Zfp (wr:World) (b o c0 c1 m1:Nat) (vv0 vv1:Value) (v:World) (y:Ob):Prop where
 near:ZbV b o 7 c0 c1 wr v
 bc:b < c0\/c1<=b
 q0:c0<=m1
 q1:m1<=c1
 cells:Zci v b o y vv0 vv1
 l0:Zad c0 m1 v vv0 y.vs
 l1:Zad m1 c1 v vv1 y.hs
 frz:∀ i,v.frozen? ⟨b,i,none⟩=false
 lt:b < v.heap.size
theorem Zfp.below (h:Zfp wr b o c0 c1 m1 vv0 vv1 v y) (hb:Below v.heap.size v v'):Zfp wr b o c0 c1 m1 vv0 vv1 v' y:=
 ⟨h.near.trans (ZbV.below hb h.lt),h.bc,h.q0,h.q1,h.cells.below hb h.lt,h.l0.below hb,h.l1.below hb,fun i=>(hb.frozen (p:=⟨b,i,none⟩) h.lt).trans (h.frz i),Zk_ h.lt hb.size⟩
theorem Zfp.s0 (h:Zfp wr b o c0 c1 m1 vv0 vv1 v y) (u:Zy_):Zfp wr b o c0 c1 m1 vv0 vv1 (v.setCell ⟨b,o,none⟩ (.string u)) { y with kd:=u }:=by
 obtain⟨h0,h1,h2,h3,h4,h5,h6⟩:=h.cells;have ht:Zag b (b+1) v (v.setCell ⟨b,o,none⟩ (.string u)):=Zag.setCell _ _ _ _ _ ⟨Nat.le_refl _,by simp only [];omega⟩;have hbc:=h.bc;have hq0:=h.q0;have hq1:=h.q1;exact⟨h.near.trans (ZbV.set _ _ _ _ _ _ _ _ (by omega) (by omega)),h.bc,h.q0,h.q1,⟨World.cell?_setCell_same' _ _ _ (by rw [h0];rfl),(cne (by omega)).trans h1,(cne (by omega)).trans h2,(cne (by omega)).trans h3,(cne (by omega)).trans h4,(cne (by omega)).trans h5,(cne (by omega)).trans h6⟩,h.l0.touch ht (by omega),h.l1.touch ht (by omega),fun i=>by rw [World.frozen?_setCell];exact h.frz i,by simpa [World.setCell] using h.lt⟩
theorem Zfp.s1 (h:Zfp wr b o c0 c1 m1 vv0 vv1 v y) (u:Zy_):Zfp wr b o c0 c1 m1 vv0 vv1 (v.setCell ⟨b,o+1,none⟩ (.string u)) { y with nm:=u }:=by
 obtain⟨h0,h1,h2,h3,h4,h5,h6⟩:=h.cells;have ht:Zag b (b+1) v (v.setCell ⟨b,o+1,none⟩ (.string u)):=Zag.setCell _ _ _ _ _ ⟨Nat.le_refl _,by simp only [];omega⟩;have hbc:=h.bc;have hq0:=h.q0;have hq1:=h.q1;exact⟨h.near.trans (ZbV.set _ _ _ _ _ _ _ _ (by omega) (by omega)),h.bc,h.q0,h.q1,⟨(cne (by omega)).trans h0,World.cell?_setCell_same' _ _ _ (by rw [h1];rfl),(cne (by omega)).trans h2,(cne (by omega)).trans h3,(cne (by omega)).trans h4,(cne (by omega)).trans h5,(cne (by omega)).trans h6⟩,h.l0.touch ht (by omega),h.l1.touch ht (by omega),fun i=>by rw [World.frozen?_setCell];exact h.frz i,by simpa [World.setCell] using h.lt⟩
theorem Zfp.s2 (h:Zfp wr b o c0 c1 m1 vv0 vv1 v y) (u:Zy_):Zfp wr b o c0 c1 m1 vv0 vv1 (v.setCell ⟨b,o+2,none⟩ (.string u)) { y with tm:=u }:=by
 obtain⟨h0,h1,h2,h3,h4,h5,h6⟩:=h.cells;have ht:Zag b (b+1) v (v.setCell ⟨b,o+2,none⟩ (.string u)):=Zag.setCell _ _ _ _ _ ⟨Nat.le_refl _,by simp only [];omega⟩;have hbc:=h.bc;have hq0:=h.q0;have hq1:=h.q1;exact⟨h.near.trans (ZbV.set _ _ _ _ _ _ _ _ (by omega) (by omega)),h.bc,h.q0,h.q1,⟨(cne (by omega)).trans h0,(cne (by omega)).trans h1,World.cell?_setCell_same' _ _ _ (by rw [h2];rfl),(cne (by omega)).trans h3,(cne (by omega)).trans h4,(cne (by omega)).trans h5,(cne (by omega)).trans h6⟩,h.l0.touch ht (by omega),h.l1.touch ht (by omega),fun i=>by rw [World.frozen?_setCell];exact h.frz i,by simpa [World.setCell] using h.lt⟩
theorem Zfp.s4 (h:Zfp wr b o c0 c1 m1 vv0 vv1 v y) (u:Bool):Zfp wr b o c0 c1 m1 vv0 vv1 (v.setCell ⟨b,o+4,none⟩ (.bool u)) { y with en:=u }:=by
 obtain⟨h0,h1,h2,h3,h4,h5,h6⟩:=h.cells;have ht:Zag b (b+1) v (v.setCell ⟨b,o+4,none⟩ (.bool u)):=Zag.setCell _ _ _ _ _ ⟨Nat.le_refl _,by simp only [];omega⟩;have hbc:=h.bc;have hq0:=h.q0;have hq1:=h.q1;exact⟨h.near.trans (ZbV.set _ _ _ _ _ _ _ _ (by omega) (by omega)),h.bc,h.q0,h.q1,⟨(cne (by omega)).trans h0,(cne (by omega)).trans h1,(cne (by omega)).trans h2,(cne (by omega)).trans h3,World.cell?_setCell_same' _ _ _ (by rw [h4];rfl),(cne (by omega)).trans h5,(cne (by omega)).trans h6⟩,h.l0.touch ht (by omega),h.l1.touch ht (by omega),fun i=>by rw [World.frozen?_setCell];exact h.frz i,by simpa [World.setCell] using h.lt⟩
theorem Zfp.s6 (h:Zfp wr b o c0 c1 m1 vv0 vv1 v y) (u:Int):Zfp wr b o c0 c1 m1 vv0 vv1 (v.setCell ⟨b,o+6,none⟩ (.int .i64 u)) { y with ver:=u }:=by
 obtain⟨h0,h1,h2,h3,h4,h5,h6⟩:=h.cells;have ht:Zag b (b+1) v (v.setCell ⟨b,o+6,none⟩ (.int .i64 u)):=Zag.setCell _ _ _ _ _ ⟨Nat.le_refl _,by simp only [];omega⟩;have hbc:=h.bc;have hq0:=h.q0;have hq1:=h.q1;exact⟨h.near.trans (ZbV.set _ _ _ _ _ _ _ _ (by omega) (by omega)),h.bc,h.q0,h.q1,⟨(cne (by omega)).trans h0,(cne (by omega)).trans h1,(cne (by omega)).trans h2,(cne (by omega)).trans h3,(cne (by omega)).trans h4,(cne (by omega)).trans h5,World.cell?_setCell_same' _ _ _ (by rw [h6];rfl)⟩,h.l0.touch ht (by omega),h.l1.touch ht (by omega),fun i=>by rw [World.frozen?_setCell];exact h.frz i,by simpa [World.setCell] using h.lt⟩
theorem Zfp.m0' (h:Zfp wr b o c0 c1 m1 vv0 vv1 v y) (ht:Zag c0 m1 v v') {L:List Zy_} (hl:Zad c0 m1 v' vv0 L):Zfp wr b o c0 c1 m1 vv0 vv1 v' { y with vs:=L }:=by
 obtain⟨h0,h1,h2,h3,h4,h5,h6⟩:=h.cells;have hbc:=h.bc;have hq0:=h.q0;have hq1:=h.q1;have hlt:=h.lt;have e:∀ i,v'.cell? ⟨b,i,none⟩=v.cell? ⟨b,i,none⟩:=fun i=>ht.cell (p:=⟨b,i,none⟩) h.lt (by simp only [];omega)
 exact⟨h.near.trans (ZbV.touch ht h.lt (by omega) (by omega) (by omega)),h.bc,h.q0,h.q1,⟨(e _).trans h0,(e _).trans h1,(e _).trans h2,(e _).trans h3,(e _).trans h4,(e _).trans h5,(e _).trans h6⟩,hl,h.l1.touch ht (by omega),fun i=>(ht.frozen (p:=⟨b,i,none⟩) h.lt (by simp only [];omega)).trans (h.frz i),Zk_ h.lt ht.size⟩
theorem Zfp.m1' (h:Zfp wr b o c0 c1 m1 vv0 vv1 v y) (ht:Zag m1 c1 v v') {L:List Zy_} (hl:Zad m1 c1 v' vv1 L):Zfp wr b o c0 c1 m1 vv0 vv1 v' { y with hs:=L }:=by
 obtain⟨h0,h1,h2,h3,h4,h5,h6⟩:=h.cells;have hbc:=h.bc;have hq0:=h.q0;have hq1:=h.q1;have hlt:=h.lt;have e:∀ i,v'.cell? ⟨b,i,none⟩=v.cell? ⟨b,i,none⟩:=fun i=>ht.cell (p:=⟨b,i,none⟩) h.lt (by simp only [];omega)
 exact⟨h.near.trans (ZbV.touch ht h.lt (by omega) (by omega) (by omega)),h.bc,h.q0,h.q1,⟨(e _).trans h0,(e _).trans h1,(e _).trans h2,(e _).trans h3,(e _).trans h4,(e _).trans h5,(e _).trans h6⟩,h.l0.touch ht (by omega),hl,fun i=>(ht.frozen (p:=⟨b,i,none⟩) h.lt (by simp only [];omega)).trans (h.frz i),Zk_ h.lt ht.size⟩
end
open Go.RowKit Go.Deep
variable {Xl:List Tm} {b o c0 c1 lo hi off n lo' hi':Nat} {w w' wr:World} {x y:Tm} {v:Value}
def ZpD (_:Tm):Prop:=True
def Zdx (Xl:List Tm):Prop:=Xl.length<=1048576/\∀ i (h:i < Xl.length),ZpD Xl[i]
theorem Zdx.of (h:Xl.length<=1048576):Zdx Xl:=⟨h,fun _ _=>trivial⟩
def Zgt (b o _c0 _c1:Nat) (w:World) (x:Tm):Prop:=Zfq x/\Zea w b o x
theorem Zgt.near {o1 d0 d1:Nat} (h:Zgt b o c0 c1 w x) (hn:ZbV b o1 2 d0 d1 w w') (ho:o+2<=o1\/o1+2<=o) (hi:c1<=d0\/d1<=c0) (hb:b < c0\/c1<=b):Zgt b o c0 c1 w' x:=by
 obtain⟨hs,hc⟩:=h;obtain⟨h0,h1⟩:=hc;have e:∀ t,t < 2->w'.cell? ⟨b,o+t,none⟩=w.cell? ⟨b,o+t,none⟩:=fun t ht=>hn.cell _ (by omega)
 have e0:w'.cell? ⟨b,o,none⟩=w.cell? ⟨b,o,none⟩:=hn.cell _ (by omega);exact⟨hs,⟨e0.trans h0,(e 1 (by omega)).trans h1⟩⟩
theorem Zgt.touch (h:Zgt b o c0 c1 w x) (ht:Zag lo hi w w') (hlt:b < w.heap.size) (hb:b < lo\/hi<=b) (_hi:c1<=lo\/hi<=c0):Zgt b o c0 c1 w' x:=by
 obtain⟨hs,hc⟩:=h;obtain⟨h0,h1⟩:=hc;exact⟨hs,⟨(ht.cell (p:=⟨b,o,none⟩) hlt hb).trans h0,(ht.cell (p:=⟨b,o+1,none⟩) hlt hb).trans h1⟩⟩
theorem Zgt.below (h:Zgt b o c0 c1 w x) (ht:Zw_ w w') (hlt:b < w.heap.size):Zgt b o c0 c1 w' x:=by
 obtain⟨hs,hc⟩:=h;obtain⟨h0,h1⟩:=hc;exact⟨hs,⟨(ht.cell (p:=⟨b,o,none⟩) hlt).trans h0,(ht.cell (p:=⟨b,o+1,none⟩) hlt).trans h1⟩⟩
structure Zfj (lo hi:Nat) (w:World) (b off n:Nat) (c:Nat->Nat) (X:Nat->Tm):Prop where
 lt:b < w.heap.size
 low:lo<=b
 bc:b < c 0
 bh:b < hi
 mono:∀ i,i < n->c i<=c (i+1)
 top:c n<=hi
 frz:∀ i,w.frozen? ⟨b,i,none⟩=false
 row:∀ i,i < n->Zgt b (off+i*2) (c i) (c (i+1)) w (X i)
theorem Zfj.le {c:Nat->Nat}{X:Nat->Tm} (h:Zfj lo hi w b off n c X) {i:Nat}:∀ {j:Nat},i<=j->j<=n->c i<=c j:=by
 intro j
 induction j with
 | zero=>intro hij _;have:i=0:=by omega
         subst this;exact Nat.le_refl _
 | succ j ih=>
  intro hij hjn
  by_cases e:i=j+1
  . subst e;exact Nat.le_refl _
  . exact Nat.le_trans (ih (by omega) (by omega)) (h.mono j (by omega))
theorem Zfj.near {c:Nat->Nat}{X:Nat->Tm} (h:Zfj lo hi w b off n c X) {j:Nat} (hj:j < n) (hn:ZbV b (off+j*2) 2 (c j) (c (j+1)) w w') {x:Tm} (hx:Zgt b (off+j*2) (c j) (c (j+1)) w' x):Zfj lo hi w' b off n c (fun i=>if i=j then x else X i):=by
 refine⟨Zk_ h.lt hn.size,h.low,h.bc,h.bh,h.mono,h.top,fun i=>(hn.frz i).trans (h.frz i),fun i hi'=>?_⟩
 by_cases e:i=j
 . subst e;rw [if_pos rfl];exact hx
 . rw [if_neg e]
   have h0:=h.le (Nat.zero_le i) (by omega);have hbc:=h.bc;refine (h.row i hi').near hn (by omega) ?_ (by omega)
   rcases Nat.lt_or_ge i j with hij | hij
   . exact Or.inl (h.le (by omega) (by omega))
   . exact Or.inr (h.le (by omega) (by omega))
theorem Zfj.touch {c:Nat->Nat}{X:Nat->Tm} (h:Zfj lo hi w b off n c X) (ht:Zag lo' hi' w w') (ho:hi<=lo'\/hi'<=lo):Zfj lo hi w' b off n c X:=by
 have h1:=h.low;have h2:=h.bh;have h3:=h.top;have h4:=h.bc;refine⟨Zk_ h.lt ht.size,h.low,h.bc,h.bh,h.mono,h.top,fun i=>(ht.frozen (p:=⟨b,i,none⟩) h.lt (by simp only [];omega)).trans (h.frz i),fun i hi'=>?_⟩;have h5:=h.le (Nat.zero_le i) (by omega);have h6:=h.le (i:=i+1) (j:=n) (by omega) Zl_;exact (h.row i hi').touch ht h.lt (by omega) (by omega)
theorem Zfj.below {c:Nat->Nat}{X:Nat->Tm} (h:Zfj lo hi w b off n c X) (ht:Zw_ w w'):Zfj lo hi w' b off n c X:=
 ⟨Zk_ h.lt ht.size,h.low,h.bc,h.bh,h.mono,h.top,fun i=>(ht.frozen (p:=⟨b,i,none⟩) h.lt).trans (h.frz i),fun i hi'=>(h.row i hi').below ht h.lt⟩
theorem Zfj.to {c:Nat->Nat}{X Y:Nat->Tm} (h:Zfj lo hi w b off n c X) (e:∀ i,i < n->X i=Y i):Zfj lo hi w b off n c Y:=
 ⟨h.lt,h.low,h.bc,h.bh,h.mono,h.top,h.frz,fun i hi'=>e i hi' ▸ h.row i hi'⟩
def Zcp (lo hi:Nat) (w:World) (v:Value) (Xl:List Tm):Prop:=
 (∃ (a:Option Addr) (cap:Nat),v=.slice a 0 cap/\Xl=[])\/
 ∃ (b off cap:Nat) (c:Nat->Nat) (X:Nat->Tm),v=.slice (some ⟨b,off,none⟩) Xl.length cap/\Xl≠[]/\Xl.length<=maxLen/\Xl.length<=cap/\(∀ i (h:i < Xl.length),X i=Xl[i])/\Zfj lo hi w b off Xl.length c X
theorem Zcp.touch (h:Zcp lo hi w v Xl) (ht:Zag lo' hi' w w') (ho:hi<=lo'\/hi'<=lo):Zcp lo hi w' v Xl:=by
 rcases h with h | ⟨b,off,cap,c,X,h1,h2,h3,h4,h5,h6⟩
 . exact Or.inl h
 . exact Or.inr ⟨b,off,cap,c,X,h1,h2,h3,h4,h5,h6.touch ht ho⟩
theorem Zcp.below (h:Zcp lo hi w v Xl) (ht:Zw_ w w'):Zcp lo hi w' v Xl:=by
 rcases h with h | ⟨b,off,cap,c,X,h1,h2,h3,h4,h5,h6⟩
 . exact Or.inl h
 . exact Or.inr ⟨b,off,cap,c,X,h1,h2,h3,h4,h5,h6.below ht⟩
theorem Zcp.form (h:Zcp lo hi w v Xl):∃ a cap,v=.slice a Xl.length cap:=by
 rcases h with ⟨a,cap,h,rfl⟩ | ⟨b,off,cap,c,X,h1,_⟩
 . exact⟨a,cap,h⟩
 . exact⟨_,cap,h1⟩
theorem Zcp.at (h:Zcp lo hi w v Xl):Zbn lo w v Xl:=by
 rcases h with h | ⟨b,off,cap,c,X,h1,h2,h3,h4,h5,h6⟩
 . exact Or.inl h
 . refine Or.inr ⟨b,off,cap,h1,h2,h3,h6.lt,h6.low,h4,fun i hi'=>?_⟩
   have hr:=h6.row i hi';rw [h5 i hi'] at hr;obtain⟨hs,hc⟩:=hr;exact⟨hs,hc⟩
def ZtE (k:Int) (_x:Tm):Tm:=⟨mtB (k),mtB (k+1)⟩
def Zt9 (_x:Tm):Nat:=2
def Zfm (Xl:List Tm) (i:Nat):Nat:=((Xl.take i).map Zt9).sum
def ZqA (k:Int) (Xl:List Tm):List Tm:=Xl.mapIdx (fun i x=>ZtE (k+(Zfm Xl i:Int)) x)
theorem ZdY (k:Int) (Xl:List Tm):(ZqA k Xl).length=Xl.length:=by unfold ZqA;simp
theorem ZqB (k:Int) (Xl:List Tm) (i:Nat) (h:i < (ZqA k Xl).length) (h':i < Xl.length):(ZqA k Xl)[i]=ZtE (k+(Zfm Xl i:Int)) Xl[i]:=List.getElem_mapIdx (f:=fun i x=>ZtE (k+(Zfm Xl i:Int)) x) (h:=h)
theorem Zjj {i:Nat} (h:i < Xl.length):Zfm Xl (i+1)=Zfm Xl i+Zt9 Xl[i]:=by
 unfold Zfm;rw [List.take_succ_eq_append_getElem h,List.map_append,List.sum_append];simp
theorem Zne (hn:Zdx Xl):∀ {i:Nat},i<=Xl.length->Zfm Xl i<=i*3000000:=by
 intro i
 induction i with
 | zero=>intro _;simp [Zfm]
 | succ i ih=>
  intro hi';have h1:=ih (by omega);rw [Zjj (by omega)]
  have h2:Zt9 Xl[i]<=3000000:=by
   have hsm:=hn.2 i (by omega);unfold ZpD at hsm;unfold Zt9
   omega
  omega
structure Zpv (wr:World) (b o c0 c1:Nat) (v:World) (y:Tm):Prop where
 near:ZbV b o 2 c0 c1 wr v
 bc:b < c0
 cells:Zea v b o y
 frz:∀ i,v.frozen? ⟨b,i,none⟩=false
 lt:b < v.heap.size
theorem Zpv.below {v v':World} (h:Zpv wr b o c0 c1 v y) (hb:Below v.heap.size v v'):Zpv wr b o c0 c1 v' y:=
 ⟨h.near.trans (ZbV.below hb h.lt),h.bc,h.cells.below hb h.lt,fun i=>(hb.frozen (p:=⟨b,i,none⟩) h.lt).trans (h.frz i),Zk_ h.lt hb.size⟩
theorem Zpv.s0 {v:World} (h:Zpv wr b o c0 c1 v y) (u:Zy_):Zpv wr b o c0 c1 (v.setCell ⟨b,o,none⟩ (.string u)) { y with nm:=u }:=by
 obtain⟨h0,h1⟩:=h.cells;have ht:Zag b (b+1) v (v.setCell ⟨b,o,none⟩ (.string u)):=Zag.setCell _ _ _ _ _ ⟨Nat.le_refl _,by simp only [];omega⟩;have hbc:=h.bc;exact⟨h.near.trans (ZbV.set _ _ _ _ _ _ _ _ (by omega) (by omega)),h.bc,⟨World.cell?_setCell_same' _ _ _ (by rw [h0];rfl),(cne (by omega)).trans h1⟩,fun i=>by rw [World.frozen?_setCell];exact h.frz i,by simpa [World.setCell] using h.lt⟩
theorem Zpv.s1 {v:World} (h:Zpv wr b o c0 c1 v y) (u:Zy_):Zpv wr b o c0 c1 (v.setCell ⟨b,o+1,none⟩ (.string u)) { y with ov:=u }:=by
 obtain⟨h0,h1⟩:=h.cells;have ht:Zag b (b+1) v (v.setCell ⟨b,o+1,none⟩ (.string u)):=Zag.setCell _ _ _ _ _ ⟨Nat.le_refl _,by simp only [];omega⟩;have hbc:=h.bc;exact⟨h.near.trans (ZbV.set _ _ _ _ _ _ _ _ (by omega) (by omega)),h.bc,⟨(cne (by omega)).trans h0,World.cell?_setCell_same' _ _ _ (by rw [h1];rfl)⟩,fun i=>by rw [World.frozen?_setCell];exact h.frz i,by simpa [World.setCell] using h.lt⟩
end Go.Proofs.YtmappejlmapboaaGreat
