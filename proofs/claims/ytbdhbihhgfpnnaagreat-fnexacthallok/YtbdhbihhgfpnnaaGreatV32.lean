import Derived.Test.YtbdhbihhgfpnnaaGreatV30
import Derived.Sort.Walk0
set_option maxHeartbeats 16000000
set_option maxRecDepth 100000
open Go.Proofs.Tryz
namespace Go.Proofs.YtbdhbihhgfpnnaaGreat
section
open Go.RowKit Go.Deep
variable {lo hi:Nat} {w w':World} {v:Value} {x:Sh}
def ZfU (lo hi:Nat) (w:World) (v:Value) (x:Sh):Prop:=
 ∃ (sb cap:Nat) (fv:Value) (f0 f1:Nat),v=.slice (some ⟨sb,0,none⟩) 1 cap/\1<=cap/\lo<=sb/\sb < hi/\sb < w.heap.size/\lo<=f0/\f1<=hi/\(sb < f0\/f1<=sb)/\
  w.cell? ⟨sb,0,none⟩=some (.string x.kind)/\w.cell? ⟨sb,1,none⟩=some fv/\(∀ i,w.frozen? ⟨sb,i,none⟩=false)/\x.kind.size<=maxLen/\ZdT f0 f1 w fv x.fields
theorem ZfU.touch {lo' hi':Nat} (h:ZfU lo hi w v x) (ht:Zaw lo' hi' w w') (ho:hi<=lo'\/hi'<=lo):ZfU lo hi w' v x:=by
 obtain⟨sb,cap,fv,f0,f1,h1,h2,h3,h4,h5,h6,h7,h8,h9,h10,h11,h12,h13⟩:=h;have hz:=ht.size;exact⟨sb,cap,fv,f0,f1,h1,h2,h3,h4,by omega,h6,h7,h8,(ht.cell (p:=⟨sb,0,none⟩) h5 (by simp only [];omega)).trans h9,(ht.cell (p:=⟨sb,1,none⟩) h5 (by simp only [];omega)).trans h10,fun i=>(ht.frozen (p:=⟨sb,i,none⟩) h5 (by simp only [];omega)).trans (h11 i),h12,h13.touch ht (by omega)⟩
theorem ZfU.below (h:ZfU lo hi w v x) (hb:Zw_ w w'):ZfU lo hi w' v x:=by
 obtain⟨sb,cap,fv,f0,f1,h1,h2,h3,h4,h5,h6,h7,h8,h9,h10,h11,h12,h13⟩:=h;have ht:Zaw 0 0 w w':=Zaw.below hb;have hz:=ht.size;exact⟨sb,cap,fv,f0,f1,h1,h2,h3,h4,by omega,h6,h7,h8,(ht.cell (p:=⟨sb,0,none⟩) h5 (by simp only [];omega)).trans h9,(ht.cell (p:=⟨sb,1,none⟩) h5 (by simp only [];omega)).trans h10,fun i=>(ht.frozen (p:=⟨sb,i,none⟩) h5 (by simp only [];omega)).trans (h11 i),h12,h13.below hb⟩
theorem ZfU.at (h:ZfU lo hi w v x):Zba lo w v [x]:=by
 obtain⟨sb,cap,fv,f0,f1,h1,h2,h3,h4,h5,h6,h7,h8,h9,h10,h11,h12,h13⟩:=h;refine Or.inr ⟨sb,0,cap,h1,by simp,by simp [maxLen],h5,h3,fun i hi=>?_⟩;have:i=0:=by simpa using hi
 subst this;exact⟨h12,fv,h9,h10,h13.at.mono h6⟩
end
section
open Go.RowKit Go.Deep
variable {lo hi:Nat} {w:World} {cs:List Value} {x:Sh} {Ms:List Md} {Ts:List Tm}
def ZfT (lo hi:Nat) (w:World) (cs:List Value) (x:Sh) (Ms:List Md) (Ts:List Tm):Prop:=
 ∃ a0 k0 a1 k1 a2 k2,∃ s0 s1 m0 m1 t0 t1:Nat,cs=lwL ⟨[x],Ms,Ts⟩ a0 k0 a1 k1 a2 k2/\lo<=s0/\s1<=hi/\lo<=m0/\m1<=hi/\lo<=t0/\t1<=hi/\(s1<=m0\/m1<=s0)/\(s1<=t0\/t1<=s0)/\(m1<=t0\/t1<=m0)/\
  ZfU s0 s1 w (.slice a0 1 k0) x/\ZeW m0 m1 w (.slice a1 Ms.length k1) Ms/\Zcl t0 t1 w (.slice a2 Ts.length k2) Ts
theorem ZfT.at (h:ZfT lo hi w cs x Ms Ts):LwC lo w cs ⟨[x],Ms,Ts⟩:=by
 obtain⟨a0,k0,a1,k1,a2,k2,s0,s1,m0,m1,t0,t1,h1,z1,z2,z3,z4,z5,z6,z7,z8,z9,g1,g2,g3⟩:=h;have q1:=g1.at;exact⟨a0,k0,a1,k1,a2,k2,h1,⟨q1.mono z1,g2.at.mono z3,g3.at.mono z5⟩⟩
theorem ZfT.touch {lo' hi':Nat}{w':World} (h:ZfT lo hi w cs x Ms Ts) (ht:Zaw lo' hi' w w') (ho:hi<=lo'\/hi'<=lo):ZfT lo hi w' cs x Ms Ts:=by
 obtain⟨a0,k0,a1,k1,a2,k2,s0,s1,m0,m1,t0,t1,h1,z1,z2,z3,z4,z5,z6,z7,z8,z9,g1,g2,g3⟩:=h;exact⟨a0,k0,a1,k1,a2,k2,s0,s1,m0,m1,t0,t1,h1,z1,z2,z3,z4,z5,z6,z7,z8,z9,g1.touch ht (by omega),g2.touch ht (by omega),g3.touch ht (by omega)⟩
end
section
open Go.RowKit Go.Deep
theorem ZeS (s:Zy_) (w:World) (hs:s.size<=maxLen) :
 Calls prog 268 #[.string s] w fun e w'=>e=.returned (.bool (nmB s))/\w'=w:=by
 have hk:=ZdF s w hs;unfold maxLen at hs
 by_cases h1:1<=(s.size:Int)
 . by_cases h2:(s.size:Int)<=20
   . have HB:Hd (nmB s=Zey Zam s):=by unfold Hd nmB inB;simp;intro h;omega
     go_enter func268,ntmps268;go_wp2_with (go_at_call 120;refine hk.mono ?_;rintro e w' ⟨rfl,rfl⟩);go_ret;exact⟨Zaa HB.o.symm,rfl⟩
   . have HB:Hd (nmB s=false):=by unfold Hd nmB inB;simp;intro h;omega
     go_enter func268,ntmps268;go_wp2;go_ret;exact⟨Zaa HB.o.symm,rfl⟩
 . have HB:Hd (nmB s=false):=by unfold Hd nmB inB;simp;intro h;omega
   go_enter func268,ntmps268;go_wp2;go_ret;exact⟨Zaa HB.o.symm,rfl⟩
end
open Go.ChangeShapes Go.WideShapes Go.ChangeAt Go.RowKit Go.Deep
variable {fuel:Nat}
theorem Zpi {H:Type}{enc:TypeId×Value->H}{W:World}{c:Value}{x:DataW H×List MemPlace} (h:DataW.trod enc prog W 0 (fun _=>true) true fuel 22 [c]=some x):∃ Ts,ZaZ 0 W c Ts:=Zpk h
theorem Tryz.cells25:prog.cellsOf 25=2:=by kernel_rfl
theorem ZsP {l:List Value} (h:l.length=2):∃ c0 c1,l=[c0,c1]:=by
 match l,h with
 | [c0,c1],_=>exact⟨c0,c1,rfl⟩
section
variable {H:Type} {enc:TypeId×Value->H} {W:World}
theorem Zpc {cs:List Value}{x:DataW H×List MemPlace} (h:DataW.trod enc prog W 0 (fun _=>true) true fuel 25 cs=some x):∃ U,HoC 0 W cs U:=by
 obtain⟨xs,n,_,_,hl,hlen,hfld⟩:=DataW.trod_struct underlying25 h;obtain⟨c0,c1,rfl⟩:=ZsP (hl.trans Tryz.cells25);simp only [Array.size,List.length_cons,List.length_nil] at hlen;have g0:DataW.trod enc prog W 0 (fun _=>true) true n 22 ((([c0,c1]:List Value).drop 0).take (prog.cellsOf 22))=xs[0]?:=hfld 0 _ rfl;have g1:DataW.trod enc prog W 0 (fun _=>true) true n 23 ((([c0,c1]:List Value).drop 1).take (prog.cellsOf 23))=xs[1]?:=hfld 1 _ rfl;simp only [Tryz.cells23,Tryz.cells22,List.drop_succ_cons,List.drop_zero,List.take_succ_cons,List.take_zero] at g0 g1;rw [List.getElem?_eq_getElem (by omega)] at g0 g1;obtain⟨q0,h0⟩:=Zpi g0;obtain⟨a0,k0,rfl⟩:=h0.form;obtain⟨q1,h1⟩:=Zlh g1;obtain⟨a1,k1,rfl⟩:=h1.form;exact⟨⟨q0,q1⟩,a0,k0,a1,k1,rfl,⟨h0,h1⟩⟩
theorem Zri {r:Reach}{b0:Nat}{v:Value}{d:DataW H}{p:List MemPlace} (hv:Value.okWide prog W r b0 25 v) (h:DataW.Trod enc prog W 0 (fun _=>true) true 25 v d p):∃ (cs:List Value) (U:Ho),v=.agg cs.toArray/\HoC 0 W cs U:=by
 obtain⟨cs,rfl,hsz⟩:=okWide_struct underlying25 hv;obtain⟨fuel,hf⟩:=h;obtain⟨U,hU⟩:=Zpc (cs:=cs.toList) hf;exact⟨cs.toList,U,rfl,hU⟩
end
end Go.Proofs.YtbdhbihhgfpnnaaGreat
