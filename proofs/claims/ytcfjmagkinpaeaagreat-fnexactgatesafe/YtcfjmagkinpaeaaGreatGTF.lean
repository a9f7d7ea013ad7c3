import Derived.Test.YtcfjmagkinpaeaaGreatGTD
import Derived.ChangeSlices
set_option maxHeartbeats 16000000
set_option maxRecDepth 100000
open Go.Proofs.Tryz
namespace Go.Proofs.YtcfjmagkinpaeaaGreat
open Go.RowKit Go.Deep
structure Zgg (w:World) (b o:Nat) (r:Ru) (vv:Value):Prop where
 c0:w.cell? ⟨b,o,none⟩=some vv
 c1:w.cell? ⟨b,o+1,none⟩=some (.string r.kd)
 c2:w.cell? ⟨b,o+2,none⟩=some (.string r.tm)
 c3:w.cell? ⟨b,o+3,none⟩=some (.string r.pf)
theorem Zgg.below {w w':World} {b o:Nat} {r:Ru} {vv:Value} (h:Zgg w b o r vv) (hb:Zw_ w w') (hlt:b < w.heap.size):Zgg w' b o r vv:=by
 have e:∀ o,w'.cell? ⟨b,o,none⟩=w.cell? ⟨b,o,none⟩:=fun o=>hb.cell (p:=⟨b,o,none⟩) hlt
 exact⟨by rw [e];exact h.c0,by rw [e];exact h.c1,by rw [e];exact h.c2,by rw [e];exact h.c3⟩
def Ze7 (lo:Nat) (w:World) (v:Value) (Rs:List Ru):Prop:=
 (∃ (a:Option Addr) (cap:Nat),v=.slice a 0 cap∧Rs=[])∨
 ∃ (b off cap:Nat),v=.slice (some ⟨b,off,none⟩) Rs.length cap∧Rs≠[]∧Rs.length≤maxLen∧b < w.heap.size∧lo≤b∧Rs.length≤cap∧
  ∀ i (h:i < Rs.length),Zdk Rs[i]∧∃ vv,Zgg w b (off+i*4) Rs[i] vv∧Zap lo w vv Rs[i].vb
theorem Ze7.below {lo:Nat} {w w':World} {v:Value} {Rs:List Ru} (h:Ze7 lo w v Rs) (hb:Zw_ w w'):Ze7 lo w' v Rs:=by
 rcases h with h | ⟨b,off,cap,h1,h2,h3,h4,h5,h6,h7⟩
 · exact Or.inl h
 · refine Or.inr ⟨b,off,cap,h1,h2,h3,Zk_ h4 hb.size,h5,h6,fun i hi=>?_⟩
   obtain⟨hs,vv,hc,hv⟩:=h7 i hi;exact⟨hs,vv,hc.below hb h4,hv.below hb⟩
theorem Ze7.form {lo:Nat} {w:World} {v:Value} {Rs:List Ru} (h:Ze7 lo w v Rs):∃ a cap,v=.slice a Rs.length cap:=by
 rcases h with ⟨a,cap,h,rfl⟩ | ⟨b,off,cap,h,_⟩
 · exact⟨a,cap,h⟩
 · exact⟨_,cap,h⟩
theorem Ze7.max {lo:Nat} {w:World} {v:Value} {Rs:List Ru} (h:Ze7 lo w v Rs):Rs.length≤maxLen:=by
 rcases h with ⟨a,cap,h,rfl⟩ | ⟨b,off,cap,h,_,h3,_⟩
 · exact Nat.zero_le _
 · exact h3
theorem Ze7.full' {lo:Nat} {w:World} {a:Option Addr} {n cap:Nat} {Rs:List Ru} (h:Ze7 lo w (.slice a n cap) Rs) (hL:0 < Rs.length) :
 ∃ b off,a=some ⟨b,off,none⟩∧b < w.heap.size∧∀ i (h:i < Rs.length),Zdk Rs[i]∧∃ vv,Zgg w b (off+i*4) Rs[i] vv∧Zap lo w vv Rs[i].vb:=by
 rcases h with ⟨a',cap',h,rfl⟩ | ⟨b',off',cap',h1,h2,h3,h4,h5,h6,h7⟩
 · simp at hL
 · injection h1 with e1 e2 e3
   exact⟨b',off',e1,h4,h7⟩
end Go.Proofs.YtcfjmagkinpaeaaGreat
namespace Go.Proofs.YtcfjmagkinpaeaaGreat
open Go.ChangeShapes Go.WideShapes Go.ChangeAt Go.RowKit Go.Deep
theorem Tryz.cells148:prog.cellsOf 148=4:=by kernel_rfl
theorem Tryz.cells86:prog.cellsOf 86=1:=by kernel_rfl
theorem Ztn {l:List Value} (h:l.length=4):∃ c0 c1 c2 c3,l=[c0,c1,c2,c3]:=by
 match l,h with
 | [c0,c1,c2,c3],_=>exact⟨c0,c1,c2,c3,rfl⟩
section
variable {H:Type} {enc:TypeId×Value→H} {W:World}
theorem ZpS {fuel:Nat} {c:Value} {x:DataW H×List MemPlace} (h:DataW.trod enc prog W 0 (fun _=>true) true fuel 86 [c]=some x):∃ L,Zap 0 W c L:=by
 rcases Go.ChangeShapes.open_ints underlying86 underlying3 Tryz.cells3 h with ⟨hcs,_⟩ | ⟨a,len,cap,zs,hcs,_,hl,hm,hzs,_,hcell,_⟩
 · simp only [List.cons.injEq,and_true] at hcs
   exact⟨[],Or.inl ⟨_,_,hcs,rfl⟩⟩
 · simp only [List.cons.injEq,and_true] at hcs
   simp only [if_true] at hzs
   by_cases h0:len=0
   · subst h0
     exact⟨[],Or.inl ⟨_,_,hcs,rfl⟩⟩
   · obtain⟨b,off,spot⟩:=a
     have hspot:spot=none:=by simpa [Addr.add] using World.cell?_spot (hcell 0 (by omega))
     subst hspot;have hlen:(zs.take len).length=len:=by rw [List.length_take];omega
     refine⟨zs.take len,Or.inr ⟨b,off,cap,by rw [hcs,hlen],?_,by omega,?_,Nat.zero_le _,?_⟩⟩
     · intro e;rw [e] at hlen;simp at hlen;omega
     · exact World.block_lt_of_cell? W _ (hcell 0 (by omega))
     · intro i hi
       have:=hcell i (by omega);rw [add_plain] at this;rw [this,List.getElem_take,List.getD_eq_getElem?_getD,List.getElem?_eq_getElem (by omega)]
       rfl
theorem Zlf {fuel:Nat} {cs:List Value} {x:DataW H×List MemPlace} (h:DataW.trod enc prog W 0 (fun _=>true) true fuel 148 cs=some x) :
 ∃ (r:Ru) (vv:Value),cs=[vv,.string r.kd,.string r.tm,.string r.pf]∧Zap 0 W vv r.vb∧Zdk r:=by
 obtain⟨xs,n,_,_,hl,hlen,hfld⟩:=DataW.trod_struct underlying148 h;obtain⟨c0,c1,c2,c3,rfl⟩:=Ztn (hl.trans Tryz.cells148);simp only [Array.size,List.length_cons,List.length_nil] at hlen;have g0:DataW.trod enc prog W 0 (fun _=>true) true n 86 ((([c0,c1,c2,c3]:List Value).drop 0).take (prog.cellsOf 86))=xs[0]?:=hfld 0 _ rfl;have g1:DataW.trod enc prog W 0 (fun _=>true) true n 9 ((([c0,c1,c2,c3]:List Value).drop 1).take (prog.cellsOf 9))=xs[1]?:=hfld 1 _ rfl;have g2:DataW.trod enc prog W 0 (fun _=>true) true n 9 ((([c0,c1,c2,c3]:List Value).drop 2).take (prog.cellsOf 9))=xs[2]?:=hfld 2 _ rfl;have g3:DataW.trod enc prog W 0 (fun _=>true) true n 9 ((([c0,c1,c2,c3]:List Value).drop 3).take (prog.cellsOf 9))=xs[3]?:=hfld 3 _ rfl
 simp only [Tryz.cells9,Tryz.cells86,List.drop_succ_cons,List.drop_zero,List.take_succ_cons,List.take_zero] at g0 g1 g2 g3;rw [List.getElem?_eq_getElem (by omega)] at g0 g1 g2 g3;obtain⟨L,hL⟩:=ZpS g0;obtain⟨k,e1,_,s1⟩:=DataW.trod_string underlying9 g1;obtain⟨t,e2,_,s2⟩:=DataW.trod_string underlying9 g2;obtain⟨p,e3,_,s3⟩:=DataW.trod_string underlying9 g3;simp only [List.cons.injEq,and_true] at e1 e2 e3;subst e1 e2 e3;exact⟨⟨L,k,t,p⟩,c0,rfl,hL,⟨s1,s2,s3⟩⟩
end
end Go.Proofs.YtcfjmagkinpaeaaGreat
