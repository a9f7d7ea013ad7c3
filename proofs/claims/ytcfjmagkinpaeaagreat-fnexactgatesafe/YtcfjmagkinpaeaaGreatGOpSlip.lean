import Derived.Test.YtcfjmagkinpaeaaGreatGOpAsk
import Derived.Test.YtcfjmagkinpaeaaGreatGSA
set_option maxHeartbeats 16000000
set_option maxRecDepth 100000
open Go.Proofs.Tryz
namespace Go.Proofs.YtcfjmagkinpaeaaGreat
open Go.ChangeShapes Go.WideShapes Go.ChangeAt Go.RowKit Go.Deep
theorem Tryz.cells321:prog.cellsOf 321=3:=by kernel_rfl
theorem Ztw {l:List Value} (h:l.length=3):∃ c0 c1 c2,l=[c0,c1,c2]:=by
 match l,h with
 | [c0,c1,c2],_=>exact⟨c0,c1,c2,rfl⟩
section
variable {H:Type} {enc:TypeId×Value→H} {W:World}
theorem ZrJ {fuel:Nat} {cs:List Value} {x:DataW H×List MemPlace} (h:DataW.trod enc prog W 0 (fun _=>true) true fuel 321 cs=some x) :
 ∃ (x:Wn),cs=[.string x.kd,.string x.nm,.int .i64 x.ve]∧ZfG x:=by
 obtain⟨xs,n,_,_,hl,hlen,hfld⟩:=DataW.trod_struct underlying321 h;obtain⟨c0,c1,c2,rfl⟩:=Ztw (hl.trans Tryz.cells321);simp only [Array.size,List.length_cons,List.length_nil] at hlen;have g0:DataW.trod enc prog W 0 (fun _=>true) true n 9 ((([c0,c1,c2]:List Value).drop 0).take (prog.cellsOf 9))=xs[0]?:=hfld 0 _ rfl;have g1:DataW.trod enc prog W 0 (fun _=>true) true n 9 ((([c0,c1,c2]:List Value).drop 1).take (prog.cellsOf 9))=xs[1]?:=hfld 1 _ rfl;have g2:DataW.trod enc prog W 0 (fun _=>true) true n 3 ((([c0,c1,c2]:List Value).drop 2).take (prog.cellsOf 3))=xs[2]?:=hfld 2 _ rfl;simp only [Tryz.cells3,Tryz.cells9,List.drop_succ_cons,List.drop_zero,List.take_succ_cons,List.take_zero] at g0 g1 g2;rw [List.getElem?_eq_getElem (by omega)] at g0 g1 g2;obtain⟨q0,e0,_,s0⟩:=DataW.trod_string underlying9 g0
 obtain⟨q1,e1,_,s1⟩:=DataW.trod_string underlying9 g1;obtain⟨q2,e2,_,_⟩:=DataW.trod_int underlying3 g2;simp only [List.cons.injEq,and_true] at e0 e1 e2;subst e0 e1 e2;exact⟨⟨q0,q1,q2⟩,rfl,⟨s0,s1⟩⟩
theorem ZpN {fuel:Nat} {c:Value} {x:DataW H×List MemPlace} (h:DataW.trod enc prog W 0 (fun _=>true) true fuel 240 [c]=some x):∃ Xl,Zca 0 W c Xl:=by
 rcases open_slice underlying240 h with ⟨hcs,_⟩ | ⟨a,len,cap,m,n,D,Pl,hcs,_,hl,hm,hmm,_,hx⟩
 · simp only [List.cons.injEq,and_true] at hcs
   exact⟨[],Or.inl ⟨_,_,hcs,rfl⟩⟩
 · simp only [List.cons.injEq,and_true] at hcs
   simp only [if_true] at hmm;subst hmm;rw [Tryz.cells321] at hx
   by_cases h0:len=0
   · subst h0
     exact⟨[],Or.inl ⟨_,_,hcs,rfl⟩⟩
   · obtain⟨Xl,hF,hall⟩:=Za7 (p:=fun i (x:Wn)=>ZfG x∧W.cells? 0 (a.add (i*3)) 3=some [.string x.kd,.string x.nm,.int .i64 x.ve]) len (fun i hi=>by
      obtain⟨cs',h1,h2⟩:=hx i (by omega);obtain⟨md,e,hz⟩:=ZrJ h2;rw [e] at h1;exact⟨md,hz,h1⟩)
     obtain⟨b,off,spot⟩:=a
     have hspot:spot=none:=by
      obtain⟨_,h1⟩:=hall 0 (by omega);have:=(World.cells?_some h1).2.2 0 (by omega);rw [Nat.zero_mul] at this;have e0:((⟨b,off,spot⟩:Addr).add 0).add 0=⟨b,off,spot⟩:=by simp [Addr.add]
      rw [e0] at this
      simpa using World.cell?_spot (by simpa using this)
     subst hspot
     have hcell:∀ i (hi:i < Xl.length),W.cells? 0 ((⟨b,off,none⟩:Addr).add (i*3)) 3=some [.string Xl[i].kd,.string Xl[i].nm,.int .i64 Xl[i].ve]→Zdr W b (off+i*3) Xl[i]:=fun i hi h1=>by
      obtain⟨_,_,hc⟩:=World.cells?_some h1;rw [add_plain] at hc;have q:=fun j (hj:j < 3)=>(add_plain b (off+i*3) j) ▸ hc j hj
      exact⟨by simpa using q 0 (by omega),by simpa using q 1 (by omega),by simpa using q 2 (by omega)⟩
     have hbw:b < W.heap.size:=by
      obtain⟨_,h1⟩:=hall 0 (by omega);exact World.block_lt_of_cell? W _ (hcell 0 (by omega) h1).c0
     refine⟨Xl,Or.inr ⟨b,off,m,by rw [hcs,hF],?_,by omega,hbw,Nat.zero_le _,by omega,fun i hi=>?_⟩⟩
     · intro e;rw [e] at hF;simp at hF;omega
     · obtain⟨hz,h1⟩:=hall i hi
       exact⟨hz,hcell i hi h1⟩
end
theorem ZsC {l:List Value} (h:l.length=15):∃ c0 c1 c2 c3 c4 c5 c6 c7 c8 c9 c10 c11 c12 c13 c14,l=[c0,c1,c2,c3,c4,c5,c6,c7,c8,c9,c10,c11,c12,c13,c14]:=by
 match l,h with
 | [c0,c1,c2,c3,c4,c5,c6,c7,c8,c9,c10,c11,c12,c13,c14],_=>exact⟨c0,c1,c2,c3,c4,c5,c6,c7,c8,c9,c10,c11,c12,c13,c14,rfl⟩
theorem Tryz.cells242:prog.cellsOf 242=18:=by kernel_rfl
theorem Tryz.cells240:prog.cellsOf 240=1:=by kernel_rfl
section
variable {H:Type} {enc:TypeId×Value→H} {W:World}
theorem ZnN {fuel:Nat} {cs:List Value} {x:DataW H×List MemPlace} (h:DataW.trod enc prog W 0 (fun _=>true) true fuel 239 cs=some x) :
 ∃ (va ha qa:Value) (A:Ak),cs=[.string A.who,.int .i64 A.verb,.string A.kd,.string A.nm,.string A.tm,va,ha,.int .i64 A.seen,.string A.hold,.string A.tw,qa,.string A.rk,.string A.rt,.string A.rp,.int .i64 A.num]∧Za6 0 W va ha qa A:=by
 obtain⟨xs,n,_,_,hl,hlen,hfld⟩:=DataW.trod_struct underlying239 h;obtain⟨c0,c1,c2,c3,c4,c5,c6,c7,c8,c9,c10,c11,c12,c13,c14,rfl⟩:=ZsC (hl.trans Tryz.cells239);simp only [Array.size,List.length_cons,List.length_nil] at hlen;have g0:DataW.trod enc prog W 0 (fun _=>true) true n 9 ((([c0,c1,c2,c3,c4,c5,c6,c7,c8,c9,c10,c11,c12,c13,c14]:List Value).drop 0).take (prog.cellsOf 9))=xs[0]?:=hfld 0 _ rfl;have g1:DataW.trod enc prog W 0 (fun _=>true) true n 3 ((([c0,c1,c2,c3,c4,c5,c6,c7,c8,c9,c10,c11,c12,c13,c14]:List Value).drop 1).take (prog.cellsOf 3))=xs[1]?:=hfld 1 _ rfl;have g2:DataW.trod enc prog W 0 (fun _=>true) true n 9 ((([c0,c1,c2,c3,c4,c5,c6,c7,c8,c9,c10,c11,c12,c13,c14]:List Value).drop 2).take (prog.cellsOf 9))=xs[2]?:=hfld 2 _ rfl
 have g3:DataW.trod enc prog W 0 (fun _=>true) true n 9 ((([c0,c1,c2,c3,c4,c5,c6,c7,c8,c9,c10,c11,c12,c13,c14]:List Value).drop 3).take (prog.cellsOf 9))=xs[3]?:=hfld 3 _ rfl;have g4:DataW.trod enc prog W 0 (fun _=>true) true n 9 ((([c0,c1,c2,c3,c4,c5,c6,c7,c8,c9,c10,c11,c12,c13,c14]:List Value).drop 4).take (prog.cellsOf 9))=xs[4]?:=hfld 4 _ rfl;have g5:DataW.trod enc prog W 0 (fun _=>true) true n 120 ((([c0,c1,c2,c3,c4,c5,c6,c7,c8,c9,c10,c11,c12,c13,c14]:List Value).drop 5).take (prog.cellsOf 120))=xs[5]?:=hfld 5 _ rfl;have g6:DataW.trod enc prog W 0 (fun _=>true) true n 120 ((([c0,c1,c2,c3,c4,c5,c6,c7,c8,c9,c10,c11,c12,c13,c14]:List Value).drop 6).take (prog.cellsOf 120))=xs[6]?:=hfld 6 _ rfl
 have g7:DataW.trod enc prog W 0 (fun _=>true) true n 3 ((([c0,c1,c2,c3,c4,c5,c6,c7,c8,c9,c10,c11,c12,c13,c14]:List Value).drop 7).take (prog.cellsOf 3))=xs[7]?:=hfld 7 _ rfl;have g8:DataW.trod enc prog W 0 (fun _=>true) true n 9 ((([c0,c1,c2,c3,c4,c5,c6,c7,c8,c9,c10,c11,c12,c13,c14]:List Value).drop 8).take (prog.cellsOf 9))=xs[8]?:=hfld 8 _ rfl;have g9:DataW.trod enc prog W 0 (fun _=>true) true n 9 ((([c0,c1,c2,c3,c4,c5,c6,c7,c8,c9,c10,c11,c12,c13,c14]:List Value).drop 9).take (prog.cellsOf 9))=xs[9]?:=hfld 9 _ rfl;have g10:DataW.trod enc prog W 0 (fun _=>true) true n 148 ((([c0,c1,c2,c3,c4,c5,c6,c7,c8,c9,c10,c11,c12,c13,c14]:List Value).drop 10).take (prog.cellsOf 148))=xs[10]?:=hfld 10 _ rfl
 have g11:DataW.trod enc prog W 0 (fun _=>true) true n 3 ((([c0,c1,c2,c3,c4,c5,c6,c7,c8,c9,c10,c11,c12,c13,c14]:List Value).drop 14).take (prog.cellsOf 3))=xs[11]?:=hfld 11 _ rfl;simp only [Tryz.cells3,Tryz.cells9,Tryz.cells120,Tryz.cells148,List.drop_succ_cons,List.drop_zero,List.take_succ_cons,List.take_zero] at g0 g1 g2 g3 g4 g5 g6 g7 g8 g9 g10 g11;rw [List.getElem?_eq_getElem (by omega)] at g0 g1 g2 g3 g4 g5 g6 g7 g8 g9 g10 g11;obtain⟨q0,e0,_,s0⟩:=DataW.trod_string underlying9 g0;obtain⟨q1,e1,_,_⟩:=DataW.trod_int underlying3 g1;obtain⟨q2,e2,_,s2⟩:=DataW.trod_string underlying9 g2;obtain⟨q3,e3,_,s3⟩:=DataW.trod_string underlying9 g3;obtain⟨q4,e4,_,s4⟩:=DataW.trod_string underlying9 g4;obtain⟨q5,hq5⟩:=ZdB g5;obtain⟨q6,hq6⟩:=ZdB g6;obtain⟨q7,e7,_,_⟩:=DataW.trod_int underlying3 g7
 obtain⟨q8,e8,_,s8⟩:=DataW.trod_string underlying9 g8;obtain⟨q9,e9,_,s9⟩:=DataW.trod_string underlying9 g9;obtain⟨q10,v10,e10,hq10,z10⟩:=Zlf g10;obtain⟨q11,e11,_,_⟩:=DataW.trod_int underlying3 g11;simp only [List.cons.injEq,and_true] at e0 e1 e2 e3 e4 e7 e8 e9 e10 e11;obtain⟨r0,r1,r2,r3⟩:=e10;subst e0 e1 e2 e3 e4 e7 e8 e9 e11 r0 r1 r2 r3;exact⟨c5,c6,_,⟨q0,q1,q2,q3,q4,q5,q6,q7,q8,q9,q10.vb,q10.kd,q10.tm,q10.pf,q11⟩,rfl,hq5.in0,hq6.in0,hq10,⟨s0,s2,s3,s4,s8,s9,z10.s1,z10.s2,z10.s3⟩⟩
end
end Go.Proofs.YtcfjmagkinpaeaaGreat
