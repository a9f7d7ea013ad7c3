import Derived.Test.YtcfjmagkinpaeaaGreatGBBL
import Derived.Test.YtcfjmagkinpaeaaGreatGN9
import Derived.Test.YtcfjmagkinpaeaaGreatGTF
set_option maxHeartbeats 16000000
set_option maxRecDepth 100000
open Go.Proofs.Tryz
namespace Go.Proofs.YtcfjmagkinpaeaaGreat
open Go.ChangeShapes Go.WideShapes Go.ChangeAt Go.RowKit Go.Deep
theorem Ztu {l:List Value} (h:l.length=7):∃ c0 c1 c2 c3 c4 c5 c6,l=[c0,c1,c2,c3,c4,c5,c6]:=by
 match l,h with
 | [c0,c1,c2,c3,c4,c5,c6],_=>exact⟨c0,c1,c2,c3,c4,c5,c6,rfl⟩
section
variable {H:Type} {enc:TypeId×Value→H} {W:World}
theorem ZrH {fuel:Nat} {cs:List Value} {x:DataW H×List MemPlace} (h:DataW.trod enc prog W 0 (fun _=>true) true fuel 146 cs=some x) :
 ∃ (x:Ob) (vv0:Value) (vv1:Value),cs=[.string x.kd,.string x.nm,.string x.tm,vv0,.bool x.en,vv1,.int .i64 x.ver]∧Zan 0 W vv0 x.vs∧Zan 0 W vv1 x.hs∧ZdY x:=by
 obtain⟨xs,n,_,_,hl,hlen,hfld⟩:=DataW.trod_struct underlying146 h;obtain⟨c0,c1,c2,c3,c4,c5,c6,rfl⟩:=Ztu (hl.trans Tryz.cells146);simp only [Array.size,List.length_cons,List.length_nil] at hlen;have g0:DataW.trod enc prog W 0 (fun _=>true) true n 9 ((([c0,c1,c2,c3,c4,c5,c6]:List Value).drop 0).take (prog.cellsOf 9))=xs[0]?:=hfld 0 _ rfl;have g1:DataW.trod enc prog W 0 (fun _=>true) true n 9 ((([c0,c1,c2,c3,c4,c5,c6]:List Value).drop 1).take (prog.cellsOf 9))=xs[1]?:=hfld 1 _ rfl;have g2:DataW.trod enc prog W 0 (fun _=>true) true n 9 ((([c0,c1,c2,c3,c4,c5,c6]:List Value).drop 2).take (prog.cellsOf 9))=xs[2]?:=hfld 2 _ rfl;have g3:DataW.trod enc prog W 0 (fun _=>true) true n 120 ((([c0,c1,c2,c3,c4,c5,c6]:List Value).drop 3).take (prog.cellsOf 120))=xs[3]?:=hfld 3 _ rfl
 have g4:DataW.trod enc prog W 0 (fun _=>true) true n 4 ((([c0,c1,c2,c3,c4,c5,c6]:List Value).drop 4).take (prog.cellsOf 4))=xs[4]?:=hfld 4 _ rfl;have g5:DataW.trod enc prog W 0 (fun _=>true) true n 120 ((([c0,c1,c2,c3,c4,c5,c6]:List Value).drop 5).take (prog.cellsOf 120))=xs[5]?:=hfld 5 _ rfl;have g6:DataW.trod enc prog W 0 (fun _=>true) true n 3 ((([c0,c1,c2,c3,c4,c5,c6]:List Value).drop 6).take (prog.cellsOf 3))=xs[6]?:=hfld 6 _ rfl;simp only [Tryz.cells4,Tryz.cells3,Tryz.cells9,Tryz.cells120,List.drop_succ_cons,List.drop_zero,List.take_succ_cons,List.take_zero] at g0 g1 g2 g3 g4 g5 g6;rw [List.getElem?_eq_getElem (by omega)] at g0 g1 g2 g3 g4 g5 g6;obtain⟨q0,e0,_,s0⟩:=DataW.trod_string underlying9 g0;obtain⟨q1,e1,_,s1⟩:=DataW.trod_string underlying9 g1;obtain⟨q2,e2,_,s2⟩:=DataW.trod_string underlying9 g2;obtain⟨q3,hq3⟩:=ZdB g3
 obtain⟨q4,e4,_⟩:=DataW.trod_bool underlying4 g4;obtain⟨q5,hq5⟩:=ZdB g5;obtain⟨q6,e6,_,_⟩:=DataW.trod_int underlying3 g6;simp only [List.cons.injEq,and_true] at e0 e1 e2 e4 e6;subst e0 e1 e2 e4 e6;exact⟨⟨q0,q1,q2,q3,q4,q5,q6⟩,c3,c5,rfl,hq3.in0,hq5.in0,⟨s0,s1,s2⟩⟩
theorem Zlc {fuel:Nat} {c:Value} {x:DataW H×List MemPlace} (h:DataW.trod enc prog W 0 (fun _=>true) true fuel 27 [c]=some x):∃ Xl,ZbC 0 W c Xl:=by
 rcases open_slice underlying27 h with ⟨hcs,_⟩ | ⟨a,len,cap,m,n,D,Pl,hcs,_,hl,hm,hmm,_,hx⟩
 · simp only [List.cons.injEq,and_true] at hcs
   exact⟨[],Or.inl ⟨_,_,hcs,rfl⟩⟩
 · simp only [List.cons.injEq,and_true] at hcs
   simp only [if_true] at hmm;subst hmm;rw [Tryz.cells146] at hx
   by_cases h0:len=0
   · subst h0
     exact⟨[],Or.inl ⟨_,_,hcs,rfl⟩⟩
   · obtain⟨Xl,hF,hall⟩:=Za7 (p:=fun i (x:Ob)=>ZdY x∧∃ vv0 vv1,Zan 0 W vv0 x.vs∧Zan 0 W vv1 x.hs∧W.cells? 0 (a.add (i*7)) 7=some [.string x.kd,.string x.nm,.string x.tm,vv0,.bool x.en,vv1,.int .i64 x.ver]) len (fun i hi=>by
      obtain⟨cs',h1,h2⟩:=hx i (by omega);obtain⟨md,vv0,vv1,e,hw0,hw1,hz⟩:=ZrH h2;rw [e] at h1;exact⟨md,hz,vv0,vv1,hw0,hw1,h1⟩)
     obtain⟨b,off,spot⟩:=a
     have hspot:spot=none:=by
      obtain⟨_,vv0,vv1,_,_,h1⟩:=hall 0 (by omega);have:=(World.cells?_some h1).2.2 0 (by omega);rw [Nat.zero_mul] at this;have e0:((⟨b,off,spot⟩:Addr).add 0).add 0=⟨b,off,spot⟩:=by simp [Addr.add]
      rw [e0] at this
      simpa using World.cell?_spot (by simpa using this)
     subst hspot
     have hcell:∀ i (hi:i < Xl.length) vv0 vv1,W.cells? 0 ((⟨b,off,none⟩:Addr).add (i*7)) 7=some [.string Xl[i].kd,.string Xl[i].nm,.string Xl[i].tm,vv0,.bool Xl[i].en,vv1,.int .i64 Xl[i].ver]→Zdp W b (off+i*7) Xl[i] vv0 vv1:=fun i hi vv0 vv1 h1=>by
      obtain⟨_,_,hc⟩:=World.cells?_some h1;rw [add_plain] at hc;have q:=fun j (hj:j < 7)=>(add_plain b (off+i*7) j) ▸ hc j hj
      exact⟨by simpa using q 0 (by omega),by simpa using q 1 (by omega),by simpa using q 2 (by omega),by simpa using q 3 (by omega),by simpa using q 4 (by omega),by simpa using q 5 (by omega),by simpa using q 6 (by omega)⟩
     have hbw:b < W.heap.size:=by
      obtain⟨_,vv0,vv1,_,_,h1⟩:=hall 0 (by omega);exact World.block_lt_of_cell? W _ (hcell 0 (by omega) vv0 vv1 h1).c0
     refine⟨Xl,Or.inr ⟨b,off,m,by rw [hcs,hF],?_,by omega,hbw,Nat.zero_le _,by omega,fun i hi=>?_⟩⟩
     · intro e;rw [e] at hF;simp at hF;omega
     · obtain⟨hz,vv0,vv1,hw0,hw1,h1⟩:=hall i hi
       exact⟨hz,vv0,vv1,hcell i hi vv0 vv1 h1,hw0,hw1⟩
end
theorem Tryz.cells150:prog.cellsOf 150=7:=by kernel_rfl
theorem Zts {l:List Value} (h:l.length=7):∃ c0 c1 c2 c3 c4 c5 c6,l=[c0,c1,c2,c3,c4,c5,c6]:=by
 match l,h with
 | [c0,c1,c2,c3,c4,c5,c6],_=>exact⟨c0,c1,c2,c3,c4,c5,c6,rfl⟩
section
variable {H:Type} {enc:TypeId×Value→H} {W:World}
theorem ZrF {fuel:Nat} {cs:List Value} {x:DataW H×List MemPlace} (h:DataW.trod enc prog W 0 (fun _=>true) true fuel 150 cs=some x) :
 ∃ (x:Gr) (vv0:Value),cs=[.int .i64 x.nu,.string x.tw,.string x.gb,vv0,.string x.kd,.string x.tm,.string x.pf]∧Zap 0 W vv0 x.vb∧ZfC x:=by
 obtain⟨xs,n,_,_,hl,hlen,hfld⟩:=DataW.trod_struct underlying150 h;obtain⟨c0,c1,c2,c3,c4,c5,c6,rfl⟩:=Zts (hl.trans Tryz.cells150);simp only [Array.size,List.length_cons,List.length_nil] at hlen;have g0:DataW.trod enc prog W 0 (fun _=>true) true n 3 ((([c0,c1,c2,c3,c4,c5,c6]:List Value).drop 0).take (prog.cellsOf 3))=xs[0]?:=hfld 0 _ rfl;have g1:DataW.trod enc prog W 0 (fun _=>true) true n 9 ((([c0,c1,c2,c3,c4,c5,c6]:List Value).drop 1).take (prog.cellsOf 9))=xs[1]?:=hfld 1 _ rfl;have g2:DataW.trod enc prog W 0 (fun _=>true) true n 9 ((([c0,c1,c2,c3,c4,c5,c6]:List Value).drop 2).take (prog.cellsOf 9))=xs[2]?:=hfld 2 _ rfl;have g3:DataW.trod enc prog W 0 (fun _=>true) true n 148 ((([c0,c1,c2,c3,c4,c5,c6]:List Value).drop 3).take (prog.cellsOf 148))=xs[3]?:=hfld 3 _ rfl
 simp only [Tryz.cells3,Tryz.cells148,Tryz.cells9,List.drop_succ_cons,List.drop_zero,List.take_succ_cons,List.take_zero] at g0 g1 g2 g3;rw [List.getElem?_eq_getElem (by omega)] at g0 g1 g2 g3;obtain⟨q0,e0,_,_⟩:=DataW.trod_int underlying3 g0;obtain⟨q1,e1,_,s1⟩:=DataW.trod_string underlying9 g1;obtain⟨q2,e2,_,s2⟩:=DataW.trod_string underlying9 g2;obtain⟨q3,v3,e3,hq3,z3⟩:=Zlf g3;simp only [List.cons.injEq,and_true] at e0 e1 e2 e3;obtain⟨r0,r1,r2,r3⟩:=e3;subst e0 e1 e2 r0 r1 r2 r3;exact⟨⟨q0,q1,q2,q3.vb,q3.kd,q3.tm,q3.pf⟩,_,rfl,hq3,⟨s1,s2,z3.s1,z3.s2,z3.s3⟩⟩
theorem Zla {fuel:Nat} {c:Value} {x:DataW H×List MemPlace} (h:DataW.trod enc prog W 0 (fun _=>true) true fuel 28 [c]=some x):∃ Xl,Zb9 0 W c Xl:=by
 rcases open_slice underlying28 h with ⟨hcs,_⟩ | ⟨a,len,cap,m,n,D,Pl,hcs,_,hl,hm,hmm,_,hx⟩
 · simp only [List.cons.injEq,and_true] at hcs
   exact⟨[],Or.inl ⟨_,_,hcs,rfl⟩⟩
 · simp only [List.cons.injEq,and_true] at hcs
   simp only [if_true] at hmm;subst hmm;rw [Tryz.cells150] at hx
   by_cases h0:len=0
   · subst h0
     exact⟨[],Or.inl ⟨_,_,hcs,rfl⟩⟩
   · obtain⟨Xl,hF,hall⟩:=Za7 (p:=fun i (x:Gr)=>ZfC x∧∃ vv0,Zap 0 W vv0 x.vb∧W.cells? 0 (a.add (i*7)) 7=some [.int .i64 x.nu,.string x.tw,.string x.gb,vv0,.string x.kd,.string x.tm,.string x.pf]) len (fun i hi=>by
      obtain⟨cs',h1,h2⟩:=hx i (by omega);obtain⟨md,vv0,e,hw0,hz⟩:=ZrF h2;rw [e] at h1;exact⟨md,hz,vv0,hw0,h1⟩)
     obtain⟨b,off,spot⟩:=a
     have hspot:spot=none:=by
      obtain⟨_,vv0,_,h1⟩:=hall 0 (by omega);have:=(World.cells?_some h1).2.2 0 (by omega);rw [Nat.zero_mul] at this;have e0:((⟨b,off,spot⟩:Addr).add 0).add 0=⟨b,off,spot⟩:=by simp [Addr.add]
      rw [e0] at this
      simpa using World.cell?_spot (by simpa using this)
     subst hspot
     have hcell:∀ i (hi:i < Xl.length) vv0,W.cells? 0 ((⟨b,off,none⟩:Addr).add (i*7)) 7=some [.int .i64 Xl[i].nu,.string Xl[i].tw,.string Xl[i].gb,vv0,.string Xl[i].kd,.string Xl[i].tm,.string Xl[i].pf]→Zdn W b (off+i*7) Xl[i] vv0:=fun i hi vv0 h1=>by
      obtain⟨_,_,hc⟩:=World.cells?_some h1;rw [add_plain] at hc;have q:=fun j (hj:j < 7)=>(add_plain b (off+i*7) j) ▸ hc j hj
      exact⟨by simpa using q 0 (by omega),by simpa using q 1 (by omega),by simpa using q 2 (by omega),by simpa using q 3 (by omega),by simpa using q 4 (by omega),by simpa using q 5 (by omega),by simpa using q 6 (by omega)⟩
     have hbw:b < W.heap.size:=by
      obtain⟨_,vv0,_,h1⟩:=hall 0 (by omega);exact World.block_lt_of_cell? W _ (hcell 0 (by omega) vv0 h1).c0
     refine⟨Xl,Or.inr ⟨b,off,m,by rw [hcs,hF],?_,by omega,hbw,Nat.zero_le _,by omega,fun i hi=>?_⟩⟩
     · intro e;rw [e] at hF;simp at hF;omega
     · obtain⟨hz,vv0,hw0,h1⟩:=hall i hi
       exact⟨hz,vv0,hcell i hi vv0 h1,hw0⟩
end
theorem Tryz.cells153:prog.cellsOf 153=4:=by kernel_rfl
theorem Ztt {l:List Value} (h:l.length=4):∃ c0 c1 c2 c3,l=[c0,c1,c2,c3]:=by
 match l,h with
 | [c0,c1,c2,c3],_=>exact⟨c0,c1,c2,c3,rfl⟩
section
variable {H:Type} {enc:TypeId×Value→H} {W:World}
theorem ZrG {fuel:Nat} {cs:List Value} {x:DataW H×List MemPlace} (h:DataW.trod enc prog W 0 (fun _=>true) true fuel 153 cs=some x) :
 ∃ (x:Le),cs=[.string x.tm,.string x.re,.int .i64 x.mo,.int .i64 x.fr]∧ZfD x:=by
 obtain⟨xs,n,_,_,hl,hlen,hfld⟩:=DataW.trod_struct underlying153 h;obtain⟨c0,c1,c2,c3,rfl⟩:=Ztt (hl.trans Tryz.cells153);simp only [Array.size,List.length_cons,List.length_nil] at hlen;have g0:DataW.trod enc prog W 0 (fun _=>true) true n 9 ((([c0,c1,c2,c3]:List Value).drop 0).take (prog.cellsOf 9))=xs[0]?:=hfld 0 _ rfl;have g1:DataW.trod enc prog W 0 (fun _=>true) true n 9 ((([c0,c1,c2,c3]:List Value).drop 1).take (prog.cellsOf 9))=xs[1]?:=hfld 1 _ rfl;have g2:DataW.trod enc prog W 0 (fun _=>true) true n 3 ((([c0,c1,c2,c3]:List Value).drop 2).take (prog.cellsOf 3))=xs[2]?:=hfld 2 _ rfl;have g3:DataW.trod enc prog W 0 (fun _=>true) true n 3 ((([c0,c1,c2,c3]:List Value).drop 3).take (prog.cellsOf 3))=xs[3]?:=hfld 3 _ rfl;simp only [Tryz.cells3,Tryz.cells9,List.drop_succ_cons,List.drop_zero,List.take_succ_cons,List.take_zero] at g0 g1 g2 g3
 rw [List.getElem?_eq_getElem (by omega)] at g0 g1 g2 g3;obtain⟨q0,e0,_,s0⟩:=DataW.trod_string underlying9 g0;obtain⟨q1,e1,_,s1⟩:=DataW.trod_string underlying9 g1;obtain⟨q2,e2,_,_⟩:=DataW.trod_int underlying3 g2;obtain⟨q3,e3,_,_⟩:=DataW.trod_int underlying3 g3;simp only [List.cons.injEq,and_true] at e0 e1 e2 e3;subst e0 e1 e2 e3;exact⟨⟨q0,q1,q2,q3⟩,rfl,⟨s0,s1⟩⟩
theorem Zlb {fuel:Nat} {c:Value} {x:DataW H×List MemPlace} (h:DataW.trod enc prog W 0 (fun _=>true) true fuel 29 [c]=some x):∃ Xl,ZbU 0 W c Xl:=by
 rcases open_slice underlying29 h with ⟨hcs,_⟩ | ⟨a,len,cap,m,n,D,Pl,hcs,_,hl,hm,hmm,_,hx⟩
 · simp only [List.cons.injEq,and_true] at hcs
   exact⟨[],Or.inl ⟨_,_,hcs,rfl⟩⟩
 · simp only [List.cons.injEq,and_true] at hcs
   simp only [if_true] at hmm;subst hmm;rw [Tryz.cells153] at hx
   by_cases h0:len=0
   · subst h0
     exact⟨[],Or.inl ⟨_,_,hcs,rfl⟩⟩
   · obtain⟨Xl,hF,hall⟩:=Za7 (p:=fun i (x:Le)=>ZfD x∧W.cells? 0 (a.add (i*4)) 4=some [.string x.tm,.string x.re,.int .i64 x.mo,.int .i64 x.fr]) len (fun i hi=>by
      obtain⟨cs',h1,h2⟩:=hx i (by omega);obtain⟨md,e,hz⟩:=ZrG h2;rw [e] at h1;exact⟨md,hz,h1⟩)
     obtain⟨b,off,spot⟩:=a
     have hspot:spot=none:=by
      obtain⟨_,h1⟩:=hall 0 (by omega);have:=(World.cells?_some h1).2.2 0 (by omega);rw [Nat.zero_mul] at this;have e0:((⟨b,off,spot⟩:Addr).add 0).add 0=⟨b,off,spot⟩:=by simp [Addr.add]
      rw [e0] at this
      simpa using World.cell?_spot (by simpa using this)
     subst hspot
     have hcell:∀ i (hi:i < Xl.length),W.cells? 0 ((⟨b,off,none⟩:Addr).add (i*4)) 4=some [.string Xl[i].tm,.string Xl[i].re,.int .i64 Xl[i].mo,.int .i64 Xl[i].fr]→Zdo W b (off+i*4) Xl[i]:=fun i hi h1=>by
      obtain⟨_,_,hc⟩:=World.cells?_some h1;rw [add_plain] at hc;have q:=fun j (hj:j < 4)=>(add_plain b (off+i*4) j) ▸ hc j hj
      exact⟨by simpa using q 0 (by omega),by simpa using q 1 (by omega),by simpa using q 2 (by omega),by simpa using q 3 (by omega)⟩
     have hbw:b < W.heap.size:=by
      obtain⟨_,h1⟩:=hall 0 (by omega);exact World.block_lt_of_cell? W _ (hcell 0 (by omega) h1).c0
     refine⟨Xl,Or.inr ⟨b,off,m,by rw [hcs,hF],?_,by omega,hbw,Nat.zero_le _,by omega,fun i hi=>?_⟩⟩
     · intro e;rw [e] at hF;simp at hF;omega
     · obtain⟨hz,h1⟩:=hall i hi
       exact⟨hz,hcell i hi h1⟩
end
theorem Tryz.cells156:prog.cellsOf 156=5:=by kernel_rfl
theorem Ztv {l:List Value} (h:l.length=5):∃ c0 c1 c2 c3 c4,l=[c0,c1,c2,c3,c4]:=by
 match l,h with
 | [c0,c1,c2,c3,c4],_=>exact⟨c0,c1,c2,c3,c4,rfl⟩
section
variable {H:Type} {enc:TypeId×Value→H} {W:World}
theorem ZrI {fuel:Nat} {cs:List Value} {x:DataW H×List MemPlace} (h:DataW.trod enc prog W 0 (fun _=>true) true fuel 156 cs=some x) :
 ∃ (x:Pu),cs=[.string x.dr,.string x.tm,.string x.re,.int .i64 x.am,.int .i64 x.un]∧ZfF x:=by
 obtain⟨xs,n,_,_,hl,hlen,hfld⟩:=DataW.trod_struct underlying156 h;obtain⟨c0,c1,c2,c3,c4,rfl⟩:=Ztv (hl.trans Tryz.cells156);simp only [Array.size,List.length_cons,List.length_nil] at hlen;have g0:DataW.trod enc prog W 0 (fun _=>true) true n 9 ((([c0,c1,c2,c3,c4]:List Value).drop 0).take (prog.cellsOf 9))=xs[0]?:=hfld 0 _ rfl;have g1:DataW.trod enc prog W 0 (fun _=>true) true n 9 ((([c0,c1,c2,c3,c4]:List Value).drop 1).take (prog.cellsOf 9))=xs[1]?:=hfld 1 _ rfl;have g2:DataW.trod enc prog W 0 (fun _=>true) true n 9 ((([c0,c1,c2,c3,c4]:List Value).drop 2).take (prog.cellsOf 9))=xs[2]?:=hfld 2 _ rfl;have g3:DataW.trod enc prog W 0 (fun _=>true) true n 3 ((([c0,c1,c2,c3,c4]:List Value).drop 3).take (prog.cellsOf 3))=xs[3]?:=hfld 3 _ rfl
 have g4:DataW.trod enc prog W 0 (fun _=>true) true n 3 ((([c0,c1,c2,c3,c4]:List Value).drop 4).take (prog.cellsOf 3))=xs[4]?:=hfld 4 _ rfl;simp only [Tryz.cells3,Tryz.cells9,List.drop_succ_cons,List.drop_zero,List.take_succ_cons,List.take_zero] at g0 g1 g2 g3 g4;rw [List.getElem?_eq_getElem (by omega)] at g0 g1 g2 g3 g4;obtain⟨q0,e0,_,s0⟩:=DataW.trod_string underlying9 g0;obtain⟨q1,e1,_,s1⟩:=DataW.trod_string underlying9 g1;obtain⟨q2,e2,_,s2⟩:=DataW.trod_string underlying9 g2;obtain⟨q3,e3,_,_⟩:=DataW.trod_int underlying3 g3;obtain⟨q4,e4,_,_⟩:=DataW.trod_int underlying3 g4;simp only [List.cons.injEq,and_true] at e0 e1 e2 e3 e4;subst e0 e1 e2 e3 e4;exact⟨⟨q0,q1,q2,q3,q4⟩,rfl,⟨s0,s1,s2⟩⟩
theorem Zld {fuel:Nat} {c:Value} {x:DataW H×List MemPlace} (h:DataW.trod enc prog W 0 (fun _=>true) true fuel 30 [c]=some x):∃ Xl,Zcd 0 W c Xl:=by
 rcases open_slice underlying30 h with ⟨hcs,_⟩ | ⟨a,len,cap,m,n,D,Pl,hcs,_,hl,hm,hmm,_,hx⟩
 · simp only [List.cons.injEq,and_true] at hcs
   exact⟨[],Or.inl ⟨_,_,hcs,rfl⟩⟩
 · simp only [List.cons.injEq,and_true] at hcs
   simp only [if_true] at hmm;subst hmm;rw [Tryz.cells156] at hx
   by_cases h0:len=0
   · subst h0
     exact⟨[],Or.inl ⟨_,_,hcs,rfl⟩⟩
   · obtain⟨Xl,hF,hall⟩:=Za7 (p:=fun i (x:Pu)=>ZfF x∧W.cells? 0 (a.add (i*5)) 5=some [.string x.dr,.string x.tm,.string x.re,.int .i64 x.am,.int .i64 x.un]) len (fun i hi=>by
      obtain⟨cs',h1,h2⟩:=hx i (by omega);obtain⟨md,e,hz⟩:=ZrI h2;rw [e] at h1;exact⟨md,hz,h1⟩)
     obtain⟨b,off,spot⟩:=a
     have hspot:spot=none:=by
      obtain⟨_,h1⟩:=hall 0 (by omega);have:=(World.cells?_some h1).2.2 0 (by omega);rw [Nat.zero_mul] at this;have e0:((⟨b,off,spot⟩:Addr).add 0).add 0=⟨b,off,spot⟩:=by simp [Addr.add]
      rw [e0] at this
      simpa using World.cell?_spot (by simpa using this)
     subst hspot
     have hcell:∀ i (hi:i < Xl.length),W.cells? 0 ((⟨b,off,none⟩:Addr).add (i*5)) 5=some [.string Xl[i].dr,.string Xl[i].tm,.string Xl[i].re,.int .i64 Xl[i].am,.int .i64 Xl[i].un]→Zdq W b (off+i*5) Xl[i]:=fun i hi h1=>by
      obtain⟨_,_,hc⟩:=World.cells?_some h1;rw [add_plain] at hc;have q:=fun j (hj:j < 5)=>(add_plain b (off+i*5) j) ▸ hc j hj
      exact⟨by simpa using q 0 (by omega),by simpa using q 1 (by omega),by simpa using q 2 (by omega),by simpa using q 3 (by omega),by simpa using q 4 (by omega)⟩
     have hbw:b < W.heap.size:=by
      obtain⟨_,h1⟩:=hall 0 (by omega);exact World.block_lt_of_cell? W _ (hcell 0 (by omega) h1).c0
     refine⟨Xl,Or.inr ⟨b,off,m,by rw [hcs,hF],?_,by omega,hbw,Nat.zero_le _,by omega,fun i hi=>?_⟩⟩
     · intro e;rw [e] at hF;simp at hF;omega
     · obtain⟨hz,h1⟩:=hall i hi
       exact⟨hz,hcell i hi h1⟩
end
theorem Tryz.cells32:prog.cellsOf 32=7:=by kernel_rfl
theorem Tryz.cells27:prog.cellsOf 27=1:=by kernel_rfl
theorem Tryz.cells28:prog.cellsOf 28=1:=by kernel_rfl
theorem Tryz.cells29:prog.cellsOf 29=1:=by kernel_rfl
theorem Tryz.cells30:prog.cellsOf 30=1:=by kernel_rfl
section
variable {H:Type} {enc:TypeId×Value→H} {W:World}
theorem ZnO {r:Reach} {b0:Nat} {v:Value} {d:DataW H} {p:List MemPlace} (hv:Value.okWide prog W r b0 32 v) (h:DataW.Trod enc prog W 0 (fun _=>true) true 32 v d p) :
 ∃ (ov gv lv pv:Value) (B:Bk),v=.agg #[.int .i64 B.now,.int .i64 B.tick,.int .i64 B.given,ov,gv,lv,pv]∧ZaH 0 W ov gv lv pv B:=by
 obtain⟨cs,rfl,hsz⟩:=okWide_struct underlying32 hv;obtain⟨c0,c1,c2,c3,c4,c5,c6,rfl⟩:=Zsk (hsz.trans Tryz.cells32);obtain⟨fuel,hf⟩:=h;obtain⟨xs,n,_,_,_,hlen,hfld⟩:=DataW.trod_struct underlying32 hf;simp only [Array.size,List.length_cons,List.length_nil] at hlen;have g0:DataW.trod enc prog W 0 (fun _=>true) true n 3 ((([c0,c1,c2,c3,c4,c5,c6]:List Value).drop 0).take (prog.cellsOf 3))=xs[0]?:=hfld 0 _ rfl;have g1:DataW.trod enc prog W 0 (fun _=>true) true n 3 ((([c0,c1,c2,c3,c4,c5,c6]:List Value).drop 1).take (prog.cellsOf 3))=xs[1]?:=hfld 1 _ rfl;have g2:DataW.trod enc prog W 0 (fun _=>true) true n 3 ((([c0,c1,c2,c3,c4,c5,c6]:List Value).drop 2).take (prog.cellsOf 3))=xs[2]?:=hfld 2 _ rfl;have g3:DataW.trod enc prog W 0 (fun _=>true) true n 27 ((([c0,c1,c2,c3,c4,c5,c6]:List Value).drop 3).take (prog.cellsOf 27))=xs[3]?:=hfld 3 _ rfl
 have g4:DataW.trod enc prog W 0 (fun _=>true) true n 28 ((([c0,c1,c2,c3,c4,c5,c6]:List Value).drop 4).take (prog.cellsOf 28))=xs[4]?:=hfld 4 _ rfl;have g5:DataW.trod enc prog W 0 (fun _=>true) true n 29 ((([c0,c1,c2,c3,c4,c5,c6]:List Value).drop 5).take (prog.cellsOf 29))=xs[5]?:=hfld 5 _ rfl;have g6:DataW.trod enc prog W 0 (fun _=>true) true n 30 ((([c0,c1,c2,c3,c4,c5,c6]:List Value).drop 6).take (prog.cellsOf 30))=xs[6]?:=hfld 6 _ rfl;simp only [Tryz.cells3,Tryz.cells27,Tryz.cells28,Tryz.cells29,Tryz.cells30,List.drop_succ_cons,List.drop_zero,List.take_succ_cons,List.take_zero] at g0 g1 g2 g3 g4 g5 g6;rw [List.getElem?_eq_getElem (by omega)] at g0 g1 g2 g3 g4 g5 g6;obtain⟨q0,e0,_,_⟩:=DataW.trod_int underlying3 g0;obtain⟨q1,e1,_,_⟩:=DataW.trod_int underlying3 g1;obtain⟨q2,e2,_,_⟩:=DataW.trod_int underlying3 g2
 simp only [List.cons.injEq,and_true] at e0 e1 e2;subst e0 e1 e2;obtain⟨Os,hO⟩:=Zlc g3;obtain⟨Gs,hG⟩:=Zla g4;obtain⟨Ls,hL⟩:=Zlb g5;obtain⟨Ps,hP⟩:=Zld g6;exact⟨c3,c4,c5,c6,⟨q0,q1,q2,Os,Gs,Ls,Ps⟩,rfl,hO,hG,hL,hP⟩
end
end Go.Proofs.YtcfjmagkinpaeaaGreat
namespace Go.Proofs.YtcfjmagkinpaeaaGreat
open Go.RowKit Go.Deep
def Zdm (Ss:List Sh) (Ms:List Md) (Ts:List Tm):Bool:=Zau Ss Ms&&Za4 Ts
section
variable (lo:Nat) (sv mv tv:Value) (Ss:List Sh) (Ms:List Md) (Ts:List Tm) (w:World)
theorem ZiK (h:ZaO lo w sv mv tv Ss Ms Ts) :
 Calls prog 53 #[.agg #[sv,mv,tv]] w fun e w'=>e=.returned (.bool (Zdm Ss Ms Ts))∧Zw_ w w':=by
 have HL:=Zab h;obtain⟨a,cap,rfl⟩:=h.shs.form;obtain⟨a1,cap1,rfl⟩:=h.mds.form;obtain⟨a2,cap2,rfl⟩:=h.tms.form;clear h;go_enter func53,ntmps53;go_wp2_with fail;generalize hWa:w.alloc _=Wa;have HBa:Hid (Zw_ w Wa):=by rw [← hWa];exact Zac w _
 have FA:Hid (Box Wa w.heap.size #[.slice a Ss.length cap,.slice a1 Ms.length cap1,.slice a2 Ts.length cap2]):=by rw [← hWa];exact Box.new _ _ _ _ rfl
 clear hWa;refine (ZiL lo lo _ _ Ss Ms _ (HL.out.below HBa.out).shs (HL.out.below HBa.out).mds).mono ?_;rintro e w1 ⟨rfl,hb1⟩;have HB1:Hid (Zw_ w w1):=bt HBa.out hb1;replace FA:=Zab (FA.out.on hb1);have g2:=FA.out.cell 2;simp at g2;clear hb1 HBa
 cases hm:Zau Ss Ms with
 | false=>
  have HE:Hid (Zdm Ss Ms Ts=false):=by unfold Hid Zdm;rw [hm];rfl
  go_wp2;go_ret;exact⟨Zaa HE.out.symm,HB1.out⟩
 | true=>
  have HE:Hid (Zdm Ss Ms Ts=Za4 Ts):=by unfold Hid Zdm;rw [hm];rfl
  go_wp2_with fail;refine (ZiM lo _ Ts _ (HL.out.below HB1.out).tms).mono ?_;rintro e w2 ⟨rfl,hb2⟩;have HB2:Hid (Zw_ w w2):=bt HB1.out hb2;clear hb2;go_wp2;go_ret;exact⟨Zaa HE.out.symm,HB2.out⟩
theorem Zin (h:ZaO lo w sv mv tv Ss Ms Ts) :
 Calls prog 28 #[.agg #[sv,mv,tv]] w fun e w'=>e=.returned (.bool (Zdm Ss Ms Ts))∧Zw_ w w':=by
 have HL:=Zab h;obtain⟨a,cap,rfl⟩:=h.shs.form;obtain⟨a1,cap1,rfl⟩:=h.mds.form;obtain⟨a2,cap2,rfl⟩:=h.tms.form;clear h;go_enter func28,ntmps28;go_wp2_with fail;generalize hWa:w.alloc _=Wa;have HBa:Hid (Zw_ w Wa):=by rw [← hWa];exact Zac w _
 have FA:Hid (Box Wa w.heap.size #[.slice a Ss.length cap,.slice a1 Ms.length cap1,.slice a2 Ts.length cap2]):=by rw [← hWa];exact Box.new _ _ _ _ rfl
 clear hWa;refine (Zio lo lo _ _ Ss Ms _ (HL.out.below HBa.out).shs (HL.out.below HBa.out).mds).mono ?_;rintro e w1 ⟨rfl,hb1⟩;have HB1:Hid (Zw_ w w1):=bt HBa.out hb1;replace FA:=Zab (FA.out.on hb1);have g2:=FA.out.cell 2;simp at g2;clear hb1 HBa
 cases hm:Zau Ss Ms with
 | false=>
  have HE:Hid (Zdm Ss Ms Ts=false):=by unfold Hid Zdm;rw [hm];rfl
  go_wp2;go_ret;exact⟨Zaa HE.out.symm,HB1.out⟩
 | true=>
  have HE:Hid (Zdm Ss Ms Ts=Za4 Ts):=by unfold Hid Zdm;rw [hm];rfl
  go_wp2_with fail;refine (Zip lo _ Ts _ (HL.out.below HB1.out).tms).mono ?_;rintro e w2 ⟨rfl,hb2⟩;have HB2:Hid (Zw_ w w2):=bt HB1.out hb2;clear hb2;go_wp2;go_ret;exact⟨Zaa HE.out.symm,HB2.out⟩
end
end Go.Proofs.YtcfjmagkinpaeaaGreat
