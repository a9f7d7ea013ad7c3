import Derived.Test.YtbdhbihhgfpnnaaGreatV19
set_option maxHeartbeats 16000000
set_option maxRecDepth 100000
open Go.Proofs.Tryz
namespace Go.Proofs.YtbdhbihhgfpnnaaGreat
open Go.ChangeShapes Go.WideShapes Go.ChangeAt Go.RowKit Go.Deep
section
variable {l cs:List Value} {fuel:Nat} {c:Value}
theorem ZsR (h:l.length=7):∃ c0 c1 c2 c3 c4 c5 c6,l=[c0,c1,c2,c3,c4,c5,c6]:=by
 match l,h with
 | [c0,c1,c2,c3,c4,c5,c6],_=>exact⟨c0,c1,c2,c3,c4,c5,c6,rfl⟩
section
variable {H:Type} {enc:TypeId×Value->H} {W:World}
theorem Zrk {x:DataW H×List MemPlace} (h:DataW.trod enc prog W 0 (fun _=>true) true fuel 163 cs=some x) :
 ∃ (x:Ob) (vv0:Value) (vv1:Value),cs=[.string x.kd,.string x.nm,.string x.tm,vv0,.bool x.en,vv1,.int .i64 x.ver]/\Zas 0 W vv0 x.vs/\Zas 0 W vv1 x.hs/\ZdN x:=by
 obtain⟨xs,n,_,_,hl,hlen,hfld⟩:=DataW.trod_struct underlying163 h;obtain⟨c0,c1,c2,c3,c4,c5,c6,rfl⟩:=ZsR (hl.trans Tryz.cells163);simp only [Array.size,List.length_cons,List.length_nil] at hlen;have g0:DataW.trod enc prog W 0 (fun _=>true) true n 9 ((([c0,c1,c2,c3,c4,c5,c6]:List Value).drop 0).take (prog.cellsOf 9))=xs[0]?:=hfld 0 _ rfl;have g1:DataW.trod enc prog W 0 (fun _=>true) true n 9 ((([c0,c1,c2,c3,c4,c5,c6]:List Value).drop 1).take (prog.cellsOf 9))=xs[1]?:=hfld 1 _ rfl;have g2:DataW.trod enc prog W 0 (fun _=>true) true n 9 ((([c0,c1,c2,c3,c4,c5,c6]:List Value).drop 2).take (prog.cellsOf 9))=xs[2]?:=hfld 2 _ rfl;have g3:DataW.trod enc prog W 0 (fun _=>true) true n 107 ((([c0,c1,c2,c3,c4,c5,c6]:List Value).drop 3).take (prog.cellsOf 107))=xs[3]?:=hfld 3 _ rfl
 have g4:DataW.trod enc prog W 0 (fun _=>true) true n 4 ((([c0,c1,c2,c3,c4,c5,c6]:List Value).drop 4).take (prog.cellsOf 4))=xs[4]?:=hfld 4 _ rfl;have g5:DataW.trod enc prog W 0 (fun _=>true) true n 107 ((([c0,c1,c2,c3,c4,c5,c6]:List Value).drop 5).take (prog.cellsOf 107))=xs[5]?:=hfld 5 _ rfl;have g6:DataW.trod enc prog W 0 (fun _=>true) true n 3 ((([c0,c1,c2,c3,c4,c5,c6]:List Value).drop 6).take (prog.cellsOf 3))=xs[6]?:=hfld 6 _ rfl;simp only [Tryz.cells4,Tryz.cells3,Tryz.cells9,Tryz.cells107,List.drop_succ_cons,List.drop_zero,List.take_succ_cons,List.take_zero] at g0 g1 g2 g3 g4 g5 g6;rw [List.getElem?_eq_getElem (by omega)] at g0 g1 g2 g3 g4 g5 g6;obtain⟨q0,e0,_,s0⟩:=DataW.trod_string underlying9 g0;obtain⟨q1,e1,_,s1⟩:=DataW.trod_string underlying9 g1;obtain⟨q2,e2,_,s2⟩:=DataW.trod_string underlying9 g2;obtain⟨q3,hq3⟩:=ZhH g3
 obtain⟨q4,e4,_⟩:=DataW.trod_bool underlying4 g4;obtain⟨q5,hq5⟩:=ZhH g5;obtain⟨q6,e6,_,_⟩:=DataW.trod_int underlying3 g6;simp only [List.cons.injEq,and_true] at e0 e1 e2 e4 e6;subst e0 e1 e2 e4 e6;exact⟨⟨q0,q1,q2,q3,q4,q5,q6⟩,c3,c5,rfl,hq3.in0,hq5.in0,⟨s0,s1,s2⟩⟩
theorem Zpe {x:DataW H×List MemPlace} (h:DataW.trod enc prog W 0 (fun _=>true) true fuel 26 [c]=some x):∃ Xl,Zbv 0 W c Xl:=by
 rcases open_slice underlying26 h with ⟨hcs,_⟩ | ⟨a,len,cap,m,n,D,Pl,hcs,_,hl,hm,hmm,_,hx⟩
 . simp only [List.cons.injEq,and_true] at hcs
   exact⟨[],Or.inl ⟨_,_,hcs,rfl⟩⟩
 . simp only [List.cons.injEq,and_true] at hcs
   simp only [if_true] at hmm;subst hmm;rw [Tryz.cells163] at hx
   by_cases h0:len=0
   . subst h0
     exact⟨[],Or.inl ⟨_,_,hcs,rfl⟩⟩
   . obtain⟨Xl,hF,hall⟩:=Zbz (p:=fun i (x:Ob)=>ZdN x/\∃ vv0 vv1,Zas 0 W vv0 x.vs/\Zas 0 W vv1 x.hs/\W.cells? 0 (a.add (i*7)) 7=some [.string x.kd,.string x.nm,.string x.tm,vv0,.bool x.en,vv1,.int .i64 x.ver]) len (fun i hi=>by
      obtain⟨cs',h1,h2⟩:=hx i (by omega);obtain⟨md,vv0,vv1,e,hw0,hw1,hz⟩:=Zrk h2;rw [e] at h1;exact⟨md,hz,vv0,vv1,hw0,hw1,h1⟩)
     obtain⟨b,off,spot⟩:=a
     have hspot:spot=none:=by
      obtain⟨_,vv0,vv1,_,_,h1⟩:=hall 0 (by omega);have:=(World.cells?_some h1).2.2 0 (by omega);rw [Nat.zero_mul] at this;have e0:((⟨b,off,spot⟩:Addr).add 0).add 0=⟨b,off,spot⟩:=by simp [Addr.add]
      rw [e0] at this
      simpa using World.cell?_spot (by simpa using this)
     subst hspot
     have hcell:∀ i (hi:i < Xl.length) vv0 vv1,W.cells? 0 ((⟨b,off,none⟩:Addr).add (i*7)) 7=some [.string Xl[i].kd,.string Xl[i].nm,.string Xl[i].tm,vv0,.bool Xl[i].en,vv1,.int .i64 Xl[i].ver]->Zdf W b (off+i*7) Xl[i] vv0 vv1:=fun i hi vv0 vv1 h1=>by
      obtain⟨_,_,hc⟩:=World.cells?_some h1;rw [add_plain] at hc;have q:=fun j (hj:j < 7)=>(add_plain b (off+i*7) j) ▸ hc j hj
      exact⟨by simpa using q 0 (by omega),by simpa using q 1 (by omega),by simpa using q 2 (by omega),by simpa using q 3 (by omega),by simpa using q 4 (by omega),by simpa using q 5 (by omega),by simpa using q 6 (by omega)⟩
     have hbw:b < W.heap.size:=by
      obtain⟨_,vv0,vv1,_,_,h1⟩:=hall 0 (by omega);exact World.block_lt_of_cell? W _ (hcell 0 (by omega) vv0 vv1 h1).c0
     refine⟨Xl,Or.inr ⟨b,off,m,by rw [hcs,hF],?_,by omega,hbw,Nat.zero_le _,by omega,fun i hi=>?_⟩⟩
     . intro e;rw [e] at hF;simp at hF;omega
     . obtain⟨hz,vv0,vv1,hw0,hw1,h1⟩:=hall i hi
       exact⟨hz,vv0,vv1,hcell i hi vv0 vv1 h1,hw0,hw1⟩
end
theorem Tryz.cells91:prog.cellsOf 91=7:=by kernel_rfl
theorem ZsO (h:l.length=7):∃ c0 c1 c2 c3 c4 c5 c6,l=[c0,c1,c2,c3,c4,c5,c6]:=by
 match l,h with
 | [c0,c1,c2,c3,c4,c5,c6],_=>exact⟨c0,c1,c2,c3,c4,c5,c6,rfl⟩
section
variable {H:Type} {enc:TypeId×Value->H} {W:World}
theorem Zrg {x:DataW H×List MemPlace} (h:DataW.trod enc prog W 0 (fun _=>true) true fuel 91 cs=some x) :
 ∃ (x:Gr) (vv0:Value),cs=[.int .i64 x.nu,.string x.tw,.string x.gb,vv0,.string x.kd,.string x.tm,.string x.pf]/\Zax 0 W vv0 x.vb/\Zft x:=by
 obtain⟨xs,n,_,_,hl,hlen,hfld⟩:=DataW.trod_struct underlying91 h;obtain⟨c0,c1,c2,c3,c4,c5,c6,rfl⟩:=ZsO (hl.trans Tryz.cells91);simp only [Array.size,List.length_cons,List.length_nil] at hlen;have g0:DataW.trod enc prog W 0 (fun _=>true) true n 3 ((([c0,c1,c2,c3,c4,c5,c6]:List Value).drop 0).take (prog.cellsOf 3))=xs[0]?:=hfld 0 _ rfl;have g1:DataW.trod enc prog W 0 (fun _=>true) true n 9 ((([c0,c1,c2,c3,c4,c5,c6]:List Value).drop 1).take (prog.cellsOf 9))=xs[1]?:=hfld 1 _ rfl;have g2:DataW.trod enc prog W 0 (fun _=>true) true n 9 ((([c0,c1,c2,c3,c4,c5,c6]:List Value).drop 2).take (prog.cellsOf 9))=xs[2]?:=hfld 2 _ rfl;have g3:DataW.trod enc prog W 0 (fun _=>true) true n 89 ((([c0,c1,c2,c3,c4,c5,c6]:List Value).drop 3).take (prog.cellsOf 89))=xs[3]?:=hfld 3 _ rfl
 simp only [Tryz.cells3,Tryz.cells89,Tryz.cells9,List.drop_succ_cons,List.drop_zero,List.take_succ_cons,List.take_zero] at g0 g1 g2 g3;rw [List.getElem?_eq_getElem (by omega)] at g0 g1 g2 g3;obtain⟨q0,e0,_,_⟩:=DataW.trod_int underlying3 g0;obtain⟨q1,e1,_,s1⟩:=DataW.trod_string underlying9 g1;obtain⟨q2,e2,_,s2⟩:=DataW.trod_string underlying9 g2;obtain⟨q3,v3,e3,hq3,z3⟩:=Zpj g3;simp only [List.cons.injEq,and_true] at e0 e1 e2 e3;obtain⟨r0,r1,r2,r3⟩:=e3;subst e0 e1 e2 r0 r1 r2 r3;exact⟨⟨q0,q1,q2,q3.vb,q3.kd,q3.tm,q3.pf⟩,_,rfl,hq3,⟨s1,s2,z3.s1,z3.s2,z3.s3⟩⟩
theorem Zlh {x:DataW H×List MemPlace} (h:DataW.trod enc prog W 0 (fun _=>true) true fuel 23 [c]=some x):∃ Xl,ZbG 0 W c Xl:=by
 rcases open_slice underlying23 h with ⟨hcs,_⟩ | ⟨a,len,cap,m,n,D,Pl,hcs,_,hl,hm,hmm,_,hx⟩
 . simp only [List.cons.injEq,and_true] at hcs
   exact⟨[],Or.inl ⟨_,_,hcs,rfl⟩⟩
 . simp only [List.cons.injEq,and_true] at hcs
   simp only [if_true] at hmm;subst hmm;rw [Tryz.cells91] at hx
   by_cases h0:len=0
   . subst h0
     exact⟨[],Or.inl ⟨_,_,hcs,rfl⟩⟩
   . obtain⟨Xl,hF,hall⟩:=Zbz (p:=fun i (x:Gr)=>Zft x/\∃ vv0,Zax 0 W vv0 x.vb/\W.cells? 0 (a.add (i*7)) 7=some [.int .i64 x.nu,.string x.tw,.string x.gb,vv0,.string x.kd,.string x.tm,.string x.pf]) len (fun i hi=>by
      obtain⟨cs',h1,h2⟩:=hx i (by omega);obtain⟨md,vv0,e,hw0,hz⟩:=Zrg h2;rw [e] at h1;exact⟨md,hz,vv0,hw0,h1⟩)
     obtain⟨b,off,spot⟩:=a
     have hspot:spot=none:=by
      obtain⟨_,vv0,_,h1⟩:=hall 0 (by omega);have:=(World.cells?_some h1).2.2 0 (by omega);rw [Nat.zero_mul] at this;have e0:((⟨b,off,spot⟩:Addr).add 0).add 0=⟨b,off,spot⟩:=by simp [Addr.add]
      rw [e0] at this
      simpa using World.cell?_spot (by simpa using this)
     subst hspot
     have hcell:∀ i (hi:i < Xl.length) vv0,W.cells? 0 ((⟨b,off,none⟩:Addr).add (i*7)) 7=some [.int .i64 Xl[i].nu,.string Xl[i].tw,.string Xl[i].gb,vv0,.string Xl[i].kd,.string Xl[i].tm,.string Xl[i].pf]->Zdd W b (off+i*7) Xl[i] vv0:=fun i hi vv0 h1=>by
      obtain⟨_,_,hc⟩:=World.cells?_some h1;rw [add_plain] at hc;have q:=fun j (hj:j < 7)=>(add_plain b (off+i*7) j) ▸ hc j hj
      exact⟨by simpa using q 0 (by omega),by simpa using q 1 (by omega),by simpa using q 2 (by omega),by simpa using q 3 (by omega),by simpa using q 4 (by omega),by simpa using q 5 (by omega),by simpa using q 6 (by omega)⟩
     have hbw:b < W.heap.size:=by
      obtain⟨_,vv0,_,h1⟩:=hall 0 (by omega);exact World.block_lt_of_cell? W _ (hcell 0 (by omega) vv0 h1).c0
     refine⟨Xl,Or.inr ⟨b,off,m,by rw [hcs,hF],?_,by omega,hbw,Nat.zero_le _,by omega,fun i hi=>?_⟩⟩
     . intro e;rw [e] at hF;simp at hF;omega
     . obtain⟨hz,vv0,hw0,h1⟩:=hall i hi
       exact⟨hz,vv0,hcell i hi vv0 h1,hw0⟩
end
theorem Tryz.cells166:prog.cellsOf 166=4:=by kernel_rfl
theorem ZsQ (h:l.length=4):∃ c0 c1 c2 c3,l=[c0,c1,c2,c3]:=by
 match l,h with
 | [c0,c1,c2,c3],_=>exact⟨c0,c1,c2,c3,rfl⟩
section
variable {H:Type} {enc:TypeId×Value->H} {W:World}
theorem Zrj {x:DataW H×List MemPlace} (h:DataW.trod enc prog W 0 (fun _=>true) true fuel 166 cs=some x) :
 ∃ (x:Le),cs=[.string x.tm,.string x.re,.int .i64 x.mo,.int .i64 x.fr]/\Zfu x:=by
 obtain⟨xs,n,_,_,hl,hlen,hfld⟩:=DataW.trod_struct underlying166 h;obtain⟨c0,c1,c2,c3,rfl⟩:=ZsQ (hl.trans Tryz.cells166);simp only [Array.size,List.length_cons,List.length_nil] at hlen;have g0:DataW.trod enc prog W 0 (fun _=>true) true n 9 ((([c0,c1,c2,c3]:List Value).drop 0).take (prog.cellsOf 9))=xs[0]?:=hfld 0 _ rfl;have g1:DataW.trod enc prog W 0 (fun _=>true) true n 9 ((([c0,c1,c2,c3]:List Value).drop 1).take (prog.cellsOf 9))=xs[1]?:=hfld 1 _ rfl;have g2:DataW.trod enc prog W 0 (fun _=>true) true n 3 ((([c0,c1,c2,c3]:List Value).drop 2).take (prog.cellsOf 3))=xs[2]?:=hfld 2 _ rfl;have g3:DataW.trod enc prog W 0 (fun _=>true) true n 3 ((([c0,c1,c2,c3]:List Value).drop 3).take (prog.cellsOf 3))=xs[3]?:=hfld 3 _ rfl;simp only [Tryz.cells3,Tryz.cells9,List.drop_succ_cons,List.drop_zero,List.take_succ_cons,List.take_zero] at g0 g1 g2 g3
 rw [List.getElem?_eq_getElem (by omega)] at g0 g1 g2 g3;obtain⟨q0,e0,_,s0⟩:=DataW.trod_string underlying9 g0;obtain⟨q1,e1,_,s1⟩:=DataW.trod_string underlying9 g1;obtain⟨q2,e2,_,_⟩:=DataW.trod_int underlying3 g2;obtain⟨q3,e3,_,_⟩:=DataW.trod_int underlying3 g3;simp only [List.cons.injEq,and_true] at e0 e1 e2 e3;subst e0 e1 e2 e3;exact⟨⟨q0,q1,q2,q3⟩,rfl,⟨s0,s1⟩⟩
theorem Zpd {x:DataW H×List MemPlace} (h:DataW.trod enc prog W 0 (fun _=>true) true fuel 27 [c]=some x):∃ Xl,ZbQ 0 W c Xl:=by
 rcases open_slice underlying27 h with ⟨hcs,_⟩ | ⟨a,len,cap,m,n,D,Pl,hcs,_,hl,hm,hmm,_,hx⟩
 . simp only [List.cons.injEq,and_true] at hcs
   exact⟨[],Or.inl ⟨_,_,hcs,rfl⟩⟩
 . simp only [List.cons.injEq,and_true] at hcs
   simp only [if_true] at hmm;subst hmm;rw [Tryz.cells166] at hx
   by_cases h0:len=0
   . subst h0
     exact⟨[],Or.inl ⟨_,_,hcs,rfl⟩⟩
   . obtain⟨Xl,hF,hall⟩:=Zbz (p:=fun i (x:Le)=>Zfu x/\W.cells? 0 (a.add (i*4)) 4=some [.string x.tm,.string x.re,.int .i64 x.mo,.int .i64 x.fr]) len (fun i hi=>by
      obtain⟨cs',h1,h2⟩:=hx i (by omega);obtain⟨md,e,hz⟩:=Zrj h2;rw [e] at h1;exact⟨md,hz,h1⟩)
     obtain⟨b,off,spot⟩:=a
     have hspot:spot=none:=by
      obtain⟨_,h1⟩:=hall 0 (by omega);have:=(World.cells?_some h1).2.2 0 (by omega);rw [Nat.zero_mul] at this;have e0:((⟨b,off,spot⟩:Addr).add 0).add 0=⟨b,off,spot⟩:=by simp [Addr.add]
      rw [e0] at this
      simpa using World.cell?_spot (by simpa using this)
     subst hspot
     have hcell:∀ i (hi:i < Xl.length),W.cells? 0 ((⟨b,off,none⟩:Addr).add (i*4)) 4=some [.string Xl[i].tm,.string Xl[i].re,.int .i64 Xl[i].mo,.int .i64 Xl[i].fr]->Zde W b (off+i*4) Xl[i]:=fun i hi h1=>by
      obtain⟨_,_,hc⟩:=World.cells?_some h1;rw [add_plain] at hc;have q:=fun j (hj:j < 4)=>(add_plain b (off+i*4) j) ▸ hc j hj
      exact⟨by simpa using q 0 (by omega),by simpa using q 1 (by omega),by simpa using q 2 (by omega),by simpa using q 3 (by omega)⟩
     have hbw:b < W.heap.size:=by
      obtain⟨_,h1⟩:=hall 0 (by omega);exact World.block_lt_of_cell? W _ (hcell 0 (by omega) h1).c0
     refine⟨Xl,Or.inr ⟨b,off,m,by rw [hcs,hF],?_,by omega,hbw,Nat.zero_le _,by omega,fun i hi=>?_⟩⟩
     . intro e;rw [e] at hF;simp at hF;omega
     . obtain⟨hz,h1⟩:=hall i hi
       exact⟨hz,hcell i hi h1⟩
end
theorem Tryz.cells169:prog.cellsOf 169=5:=by kernel_rfl
theorem ZsS (h:l.length=5):∃ c0 c1 c2 c3 c4,l=[c0,c1,c2,c3,c4]:=by
 match l,h with
 | [c0,c1,c2,c3,c4],_=>exact⟨c0,c1,c2,c3,c4,rfl⟩
section
variable {H:Type} {enc:TypeId×Value->H} {W:World}
theorem Zrl {x:DataW H×List MemPlace} (h:DataW.trod enc prog W 0 (fun _=>true) true fuel 169 cs=some x) :
 ∃ (x:Pu),cs=[.string x.dr,.string x.tm,.string x.re,.int .i64 x.am,.int .i64 x.un]/\Zfw x:=by
 obtain⟨xs,n,_,_,hl,hlen,hfld⟩:=DataW.trod_struct underlying169 h;obtain⟨c0,c1,c2,c3,c4,rfl⟩:=ZsS (hl.trans Tryz.cells169);simp only [Array.size,List.length_cons,List.length_nil] at hlen;have g0:DataW.trod enc prog W 0 (fun _=>true) true n 9 ((([c0,c1,c2,c3,c4]:List Value).drop 0).take (prog.cellsOf 9))=xs[0]?:=hfld 0 _ rfl;have g1:DataW.trod enc prog W 0 (fun _=>true) true n 9 ((([c0,c1,c2,c3,c4]:List Value).drop 1).take (prog.cellsOf 9))=xs[1]?:=hfld 1 _ rfl;have g2:DataW.trod enc prog W 0 (fun _=>true) true n 9 ((([c0,c1,c2,c3,c4]:List Value).drop 2).take (prog.cellsOf 9))=xs[2]?:=hfld 2 _ rfl;have g3:DataW.trod enc prog W 0 (fun _=>true) true n 3 ((([c0,c1,c2,c3,c4]:List Value).drop 3).take (prog.cellsOf 3))=xs[3]?:=hfld 3 _ rfl
 have g4:DataW.trod enc prog W 0 (fun _=>true) true n 3 ((([c0,c1,c2,c3,c4]:List Value).drop 4).take (prog.cellsOf 3))=xs[4]?:=hfld 4 _ rfl;simp only [Tryz.cells3,Tryz.cells9,List.drop_succ_cons,List.drop_zero,List.take_succ_cons,List.take_zero] at g0 g1 g2 g3 g4;rw [List.getElem?_eq_getElem (by omega)] at g0 g1 g2 g3 g4;obtain⟨q0,e0,_,s0⟩:=DataW.trod_string underlying9 g0;obtain⟨q1,e1,_,s1⟩:=DataW.trod_string underlying9 g1;obtain⟨q2,e2,_,s2⟩:=DataW.trod_string underlying9 g2;obtain⟨q3,e3,_,_⟩:=DataW.trod_int underlying3 g3;obtain⟨q4,e4,_,_⟩:=DataW.trod_int underlying3 g4;simp only [List.cons.injEq,and_true] at e0 e1 e2 e3 e4;subst e0 e1 e2 e3 e4;exact⟨⟨q0,q1,q2,q3,q4⟩,rfl,⟨s0,s1,s2⟩⟩
theorem Zpf {x:DataW H×List MemPlace} (h:DataW.trod enc prog W 0 (fun _=>true) true fuel 28 [c]=some x):∃ Xl,Zca 0 W c Xl:=by
 rcases open_slice underlying28 h with ⟨hcs,_⟩ | ⟨a,len,cap,m,n,D,Pl,hcs,_,hl,hm,hmm,_,hx⟩
 . simp only [List.cons.injEq,and_true] at hcs
   exact⟨[],Or.inl ⟨_,_,hcs,rfl⟩⟩
 . simp only [List.cons.injEq,and_true] at hcs
   simp only [if_true] at hmm;subst hmm;rw [Tryz.cells169] at hx
   by_cases h0:len=0
   . subst h0
     exact⟨[],Or.inl ⟨_,_,hcs,rfl⟩⟩
   . obtain⟨Xl,hF,hall⟩:=Zbz (p:=fun i (x:Pu)=>Zfw x/\W.cells? 0 (a.add (i*5)) 5=some [.string x.dr,.string x.tm,.string x.re,.int .i64 x.am,.int .i64 x.un]) len (fun i hi=>by
      obtain⟨cs',h1,h2⟩:=hx i (by omega);obtain⟨md,e,hz⟩:=Zrl h2;rw [e] at h1;exact⟨md,hz,h1⟩)
     obtain⟨b,off,spot⟩:=a
     have hspot:spot=none:=by
      obtain⟨_,h1⟩:=hall 0 (by omega);have:=(World.cells?_some h1).2.2 0 (by omega);rw [Nat.zero_mul] at this;have e0:((⟨b,off,spot⟩:Addr).add 0).add 0=⟨b,off,spot⟩:=by simp [Addr.add]
      rw [e0] at this
      simpa using World.cell?_spot (by simpa using this)
     subst hspot
     have hcell:∀ i (hi:i < Xl.length),W.cells? 0 ((⟨b,off,none⟩:Addr).add (i*5)) 5=some [.string Xl[i].dr,.string Xl[i].tm,.string Xl[i].re,.int .i64 Xl[i].am,.int .i64 Xl[i].un]->Zdg W b (off+i*5) Xl[i]:=fun i hi h1=>by
      obtain⟨_,_,hc⟩:=World.cells?_some h1;rw [add_plain] at hc;have q:=fun j (hj:j < 5)=>(add_plain b (off+i*5) j) ▸ hc j hj
      exact⟨by simpa using q 0 (by omega),by simpa using q 1 (by omega),by simpa using q 2 (by omega),by simpa using q 3 (by omega),by simpa using q 4 (by omega)⟩
     have hbw:b < W.heap.size:=by
      obtain⟨_,h1⟩:=hall 0 (by omega);exact World.block_lt_of_cell? W _ (hcell 0 (by omega) h1).c0
     refine⟨Xl,Or.inr ⟨b,off,m,by rw [hcs,hF],?_,by omega,hbw,Nat.zero_le _,by omega,fun i hi=>?_⟩⟩
     . intro e;rw [e] at hF;simp at hF;omega
     . obtain⟨hz,h1⟩:=hall i hi
       exact⟨hz,hcell i hi h1⟩
end
theorem Tryz.cells30:prog.cellsOf 30=7:=by kernel_rfl
theorem Tryz.cells26:prog.cellsOf 26=1:=by kernel_rfl
theorem Tryz.cells23:prog.cellsOf 23=1:=by kernel_rfl
theorem Tryz.cells27:prog.cellsOf 27=1:=by kernel_rfl
theorem Tryz.cells28:prog.cellsOf 28=1:=by kernel_rfl
end
variable {l cs:List Value} {fuel:Nat} {c:Value}
theorem Tryz.cells171:prog.cellsOf 171=13:=by kernel_rfl
theorem ZsT (h:l.length=13):∃ c0 c1 c2 c3 c4 c5 c6 c7 c8 c9 c10 c11 c12,l=[c0,c1,c2,c3,c4,c5,c6,c7,c8,c9,c10,c11,c12]:=by
 match l,h with
 | [c0,c1,c2,c3,c4,c5,c6,c7,c8,c9,c10,c11,c12],_=>exact⟨c0,c1,c2,c3,c4,c5,c6,c7,c8,c9,c10,c11,c12,rfl⟩
section
variable {H:Type} {enc:TypeId×Value->H} {W:World}
theorem Zrm {x:DataW H×List MemPlace} (h:DataW.trod enc prog W 0 (fun _=>true) true fuel 171 cs=some x) :
 ∃ (x:Sv),cs=[.string x.nm,.int .i64 x.ve,.bool x.gn,.int .i64 x.im,.int .i64 x.wa,.int .i64 x.dn,.int .i64 x.ov,.int .i64 x.nx,.int .i64 x.pr,.int .i64 x.ls,.int .i64 x.ms,.int .i64 x.ld,.int .i64 x.cl]/\ZdV x:=by
 obtain⟨xs,n,_,_,hl,hlen,hfld⟩:=DataW.trod_struct underlying171 h;obtain⟨c0,c1,c2,c3,c4,c5,c6,c7,c8,c9,c10,c11,c12,rfl⟩:=ZsT (hl.trans Tryz.cells171);simp only [Array.size,List.length_cons,List.length_nil] at hlen;have g0:DataW.trod enc prog W 0 (fun _=>true) true n 9 ((([c0,c1,c2,c3,c4,c5,c6,c7,c8,c9,c10,c11,c12]:List Value).drop 0).take (prog.cellsOf 9))=xs[0]?:=hfld 0 _ rfl;have g1:DataW.trod enc prog W 0 (fun _=>true) true n 3 ((([c0,c1,c2,c3,c4,c5,c6,c7,c8,c9,c10,c11,c12]:List Value).drop 1).take (prog.cellsOf 3))=xs[1]?:=hfld 1 _ rfl;have g2:DataW.trod enc prog W 0 (fun _=>true) true n 4 ((([c0,c1,c2,c3,c4,c5,c6,c7,c8,c9,c10,c11,c12]:List Value).drop 2).take (prog.cellsOf 4))=xs[2]?:=hfld 2 _ rfl
 have g3:DataW.trod enc prog W 0 (fun _=>true) true n 3 ((([c0,c1,c2,c3,c4,c5,c6,c7,c8,c9,c10,c11,c12]:List Value).drop 3).take (prog.cellsOf 3))=xs[3]?:=hfld 3 _ rfl;have g4:DataW.trod enc prog W 0 (fun _=>true) true n 3 ((([c0,c1,c2,c3,c4,c5,c6,c7,c8,c9,c10,c11,c12]:List Value).drop 4).take (prog.cellsOf 3))=xs[4]?:=hfld 4 _ rfl;have g5:DataW.trod enc prog W 0 (fun _=>true) true n 3 ((([c0,c1,c2,c3,c4,c5,c6,c7,c8,c9,c10,c11,c12]:List Value).drop 5).take (prog.cellsOf 3))=xs[5]?:=hfld 5 _ rfl;have g6:DataW.trod enc prog W 0 (fun _=>true) true n 3 ((([c0,c1,c2,c3,c4,c5,c6,c7,c8,c9,c10,c11,c12]:List Value).drop 6).take (prog.cellsOf 3))=xs[6]?:=hfld 6 _ rfl;have g7:DataW.trod enc prog W 0 (fun _=>true) true n 3 ((([c0,c1,c2,c3,c4,c5,c6,c7,c8,c9,c10,c11,c12]:List Value).drop 7).take (prog.cellsOf 3))=xs[7]?:=hfld 7 _ rfl
 have g8:DataW.trod enc prog W 0 (fun _=>true) true n 3 ((([c0,c1,c2,c3,c4,c5,c6,c7,c8,c9,c10,c11,c12]:List Value).drop 8).take (prog.cellsOf 3))=xs[8]?:=hfld 8 _ rfl;have g9:DataW.trod enc prog W 0 (fun _=>true) true n 3 ((([c0,c1,c2,c3,c4,c5,c6,c7,c8,c9,c10,c11,c12]:List Value).drop 9).take (prog.cellsOf 3))=xs[9]?:=hfld 9 _ rfl;have g10:DataW.trod enc prog W 0 (fun _=>true) true n 3 ((([c0,c1,c2,c3,c4,c5,c6,c7,c8,c9,c10,c11,c12]:List Value).drop 10).take (prog.cellsOf 3))=xs[10]?:=hfld 10 _ rfl;have g11:DataW.trod enc prog W 0 (fun _=>true) true n 3 ((([c0,c1,c2,c3,c4,c5,c6,c7,c8,c9,c10,c11,c12]:List Value).drop 11).take (prog.cellsOf 3))=xs[11]?:=hfld 11 _ rfl;have g12:DataW.trod enc prog W 0 (fun _=>true) true n 3 ((([c0,c1,c2,c3,c4,c5,c6,c7,c8,c9,c10,c11,c12]:List Value).drop 12).take (prog.cellsOf 3))=xs[12]?:=hfld 12 _ rfl
 simp only [Tryz.cells4,Tryz.cells3,Tryz.cells9,List.drop_succ_cons,List.drop_zero,List.take_succ_cons,List.take_zero] at g0 g1 g2 g3 g4 g5 g6 g7 g8 g9 g10 g11 g12;rw [List.getElem?_eq_getElem (by omega)] at g0 g1 g2 g3 g4 g5 g6 g7 g8 g9 g10 g11 g12;obtain⟨q0,e0,_,s0⟩:=DataW.trod_string underlying9 g0;obtain⟨q1,e1,_,_⟩:=DataW.trod_int underlying3 g1;obtain⟨q2,e2,_⟩:=DataW.trod_bool underlying4 g2;obtain⟨q3,e3,_,_⟩:=DataW.trod_int underlying3 g3;obtain⟨q4,e4,_,_⟩:=DataW.trod_int underlying3 g4;obtain⟨q5,e5,_,_⟩:=DataW.trod_int underlying3 g5;obtain⟨q6,e6,_,_⟩:=DataW.trod_int underlying3 g6;obtain⟨q7,e7,_,_⟩:=DataW.trod_int underlying3 g7;obtain⟨q8,e8,_,_⟩:=DataW.trod_int underlying3 g8;obtain⟨q9,e9,_,_⟩:=DataW.trod_int underlying3 g9;obtain⟨q10,e10,_,_⟩:=DataW.trod_int underlying3 g10
 obtain⟨q11,e11,_,_⟩:=DataW.trod_int underlying3 g11;obtain⟨q12,e12,_,_⟩:=DataW.trod_int underlying3 g12;simp only [List.cons.injEq,and_true] at e0 e1 e2 e3 e4 e5 e6 e7 e8 e9 e10 e11 e12;subst e0 e1 e2 e3 e4 e5 e6 e7 e8 e9 e10 e11 e12;exact⟨⟨q0,q1,q2,q3,q4,q5,q6,q7,q8,q9,q10,q11,q12⟩,rfl,⟨s0⟩⟩
theorem Zph {x:DataW H×List MemPlace} (h:DataW.trod enc prog W 0 (fun _=>true) true fuel 31 [c]=some x):∃ Xl,Zbx 0 W c Xl:=by
 rcases open_slice underlying31 h with ⟨hcs,_⟩ | ⟨a,len,cap,m,n,D,Pl,hcs,_,hl,hm,hmm,_,hx⟩
 . simp only [List.cons.injEq,and_true] at hcs
   exact⟨[],Or.inl ⟨_,_,hcs,rfl⟩⟩
 . simp only [List.cons.injEq,and_true] at hcs
   simp only [if_true] at hmm;subst hmm;rw [Tryz.cells171] at hx
   by_cases h0:len=0
   . subst h0
     exact⟨[],Or.inl ⟨_,_,hcs,rfl⟩⟩
   . obtain⟨Xl,hF,hall⟩:=Zbz (p:=fun i (x:Sv)=>ZdV x/\W.cells? 0 (a.add (i*13)) 13=some [.string x.nm,.int .i64 x.ve,.bool x.gn,.int .i64 x.im,.int .i64 x.wa,.int .i64 x.dn,.int .i64 x.ov,.int .i64 x.nx,.int .i64 x.pr,.int .i64 x.ls,.int .i64 x.ms,.int .i64 x.ld,.int .i64 x.cl]) len (fun i hi=>by
      obtain⟨cs',h1,h2⟩:=hx i (by omega);obtain⟨md,e,hz⟩:=Zrm h2;rw [e] at h1;exact⟨md,hz,h1⟩)
     obtain⟨b,off,spot⟩:=a
     have hspot:spot=none:=by
      obtain⟨_,h1⟩:=hall 0 (by omega);have:=(World.cells?_some h1).2.2 0 (by omega);rw [Nat.zero_mul] at this;have e0:((⟨b,off,spot⟩:Addr).add 0).add 0=⟨b,off,spot⟩:=by simp [Addr.add]
      rw [e0] at this
      simpa using World.cell?_spot (by simpa using this)
     subst hspot
     have hcell:∀ i (hi:i < Xl.length),W.cells? 0 ((⟨b,off,none⟩:Addr).add (i*13)) 13=some [.string Xl[i].nm,.int .i64 Xl[i].ve,.bool Xl[i].gn,.int .i64 Xl[i].im,.int .i64 Xl[i].wa,.int .i64 Xl[i].dn,.int .i64 Xl[i].ov,.int .i64 Xl[i].nx,.int .i64 Xl[i].pr,.int .i64 Xl[i].ls,.int .i64 Xl[i].ms,.int .i64 Xl[i].ld,.int .i64 Xl[i].cl]->Zcn W b (off+i*13) Xl[i]:=fun i hi h1=>by
      obtain⟨_,_,hc⟩:=World.cells?_some h1;rw [add_plain] at hc;have q:=fun j (hj:j < 13)=>(add_plain b (off+i*13) j) ▸ hc j hj
      exact⟨by simpa using q 0 (by omega),by simpa using q 1 (by omega),by simpa using q 2 (by omega),by simpa using q 3 (by omega),by simpa using q 4 (by omega),by simpa using q 5 (by omega),by simpa using q 6 (by omega),by simpa using q 7 (by omega),by simpa using q 8 (by omega),by simpa using q 9 (by omega),by simpa using q 10 (by omega),by simpa using q 11 (by omega),by simpa using q 12 (by omega)⟩
     have hbw:b < W.heap.size:=by
      obtain⟨_,h1⟩:=hall 0 (by omega);exact World.block_lt_of_cell? W _ (hcell 0 (by omega) h1).c0
     refine⟨Xl,Or.inr ⟨b,off,m,by rw [hcs,hF],?_,by omega,hbw,Nat.zero_le _,by omega,fun i hi=>?_⟩⟩
     . intro e;rw [e] at hF;simp at hF;omega
     . obtain⟨hz,h1⟩:=hall i hi
       exact⟨hz,hcell i hi h1⟩
end
theorem Tryz.cells173:prog.cellsOf 173=7:=by kernel_rfl
theorem ZsN (h:l.length=7):∃ c0 c1 c2 c3 c4 c5 c6,l=[c0,c1,c2,c3,c4,c5,c6]:=by
 match l,h with
 | [c0,c1,c2,c3,c4,c5,c6],_=>exact⟨c0,c1,c2,c3,c4,c5,c6,rfl⟩
section
variable {H:Type} {enc:TypeId×Value->H} {W:World}
theorem Zrf {x:DataW H×List MemPlace} (h:DataW.trod enc prog W 0 (fun _=>true) true fuel 173 cs=some x) :
 ∃ (x:Cp),cs=[.string x.se,.int .i64 x.nu,.int .i64 x.ve,.int .i64 x.im,.int .i64 x.st,.bool x.en,.string x.be]/\Zev x:=by
 obtain⟨xs,n,_,_,hl,hlen,hfld⟩:=DataW.trod_struct underlying173 h;obtain⟨c0,c1,c2,c3,c4,c5,c6,rfl⟩:=ZsN (hl.trans Tryz.cells173);simp only [Array.size,List.length_cons,List.length_nil] at hlen;have g0:DataW.trod enc prog W 0 (fun _=>true) true n 9 ((([c0,c1,c2,c3,c4,c5,c6]:List Value).drop 0).take (prog.cellsOf 9))=xs[0]?:=hfld 0 _ rfl;have g1:DataW.trod enc prog W 0 (fun _=>true) true n 3 ((([c0,c1,c2,c3,c4,c5,c6]:List Value).drop 1).take (prog.cellsOf 3))=xs[1]?:=hfld 1 _ rfl;have g2:DataW.trod enc prog W 0 (fun _=>true) true n 3 ((([c0,c1,c2,c3,c4,c5,c6]:List Value).drop 2).take (prog.cellsOf 3))=xs[2]?:=hfld 2 _ rfl;have g3:DataW.trod enc prog W 0 (fun _=>true) true n 3 ((([c0,c1,c2,c3,c4,c5,c6]:List Value).drop 3).take (prog.cellsOf 3))=xs[3]?:=hfld 3 _ rfl
 have g4:DataW.trod enc prog W 0 (fun _=>true) true n 3 ((([c0,c1,c2,c3,c4,c5,c6]:List Value).drop 4).take (prog.cellsOf 3))=xs[4]?:=hfld 4 _ rfl;have g5:DataW.trod enc prog W 0 (fun _=>true) true n 4 ((([c0,c1,c2,c3,c4,c5,c6]:List Value).drop 5).take (prog.cellsOf 4))=xs[5]?:=hfld 5 _ rfl;have g6:DataW.trod enc prog W 0 (fun _=>true) true n 9 ((([c0,c1,c2,c3,c4,c5,c6]:List Value).drop 6).take (prog.cellsOf 9))=xs[6]?:=hfld 6 _ rfl;simp only [Tryz.cells4,Tryz.cells3,Tryz.cells9,List.drop_succ_cons,List.drop_zero,List.take_succ_cons,List.take_zero] at g0 g1 g2 g3 g4 g5 g6;rw [List.getElem?_eq_getElem (by omega)] at g0 g1 g2 g3 g4 g5 g6;obtain⟨q0,e0,_,s0⟩:=DataW.trod_string underlying9 g0;obtain⟨q1,e1,_,_⟩:=DataW.trod_int underlying3 g1;obtain⟨q2,e2,_,_⟩:=DataW.trod_int underlying3 g2;obtain⟨q3,e3,_,_⟩:=DataW.trod_int underlying3 g3
 obtain⟨q4,e4,_,_⟩:=DataW.trod_int underlying3 g4;obtain⟨q5,e5,_⟩:=DataW.trod_bool underlying4 g5;obtain⟨q6,e6,_,s6⟩:=DataW.trod_string underlying9 g6;simp only [List.cons.injEq,and_true] at e0 e1 e2 e3 e4 e5 e6;subst e0 e1 e2 e3 e4 e5 e6;exact⟨⟨q0,q1,q2,q3,q4,q5,q6⟩,rfl,⟨s0,s6⟩⟩
theorem Zpb {x:DataW H×List MemPlace} (h:DataW.trod enc prog W 0 (fun _=>true) true fuel 32 [c]=some x):∃ Xl,Zb1 0 W c Xl:=by
 rcases open_slice underlying32 h with ⟨hcs,_⟩ | ⟨a,len,cap,m,n,D,Pl,hcs,_,hl,hm,hmm,_,hx⟩
 . simp only [List.cons.injEq,and_true] at hcs
   exact⟨[],Or.inl ⟨_,_,hcs,rfl⟩⟩
 . simp only [List.cons.injEq,and_true] at hcs
   simp only [if_true] at hmm;subst hmm;rw [Tryz.cells173] at hx
   by_cases h0:len=0
   . subst h0
     exact⟨[],Or.inl ⟨_,_,hcs,rfl⟩⟩
   . obtain⟨Xl,hF,hall⟩:=Zbz (p:=fun i (x:Cp)=>Zev x/\W.cells? 0 (a.add (i*7)) 7=some [.string x.se,.int .i64 x.nu,.int .i64 x.ve,.int .i64 x.im,.int .i64 x.st,.bool x.en,.string x.be]) len (fun i hi=>by
      obtain⟨cs',h1,h2⟩:=hx i (by omega);obtain⟨md,e,hz⟩:=Zrf h2;rw [e] at h1;exact⟨md,hz,h1⟩)
     obtain⟨b,off,spot⟩:=a
     have hspot:spot=none:=by
      obtain⟨_,h1⟩:=hall 0 (by omega);have:=(World.cells?_some h1).2.2 0 (by omega);rw [Nat.zero_mul] at this;have e0:((⟨b,off,spot⟩:Addr).add 0).add 0=⟨b,off,spot⟩:=by simp [Addr.add]
      rw [e0] at this
      simpa using World.cell?_spot (by simpa using this)
     subst hspot
     have hcell:∀ i (hi:i < Xl.length),W.cells? 0 ((⟨b,off,none⟩:Addr).add (i*7)) 7=some [.string Xl[i].se,.int .i64 Xl[i].nu,.int .i64 Xl[i].ve,.int .i64 Xl[i].im,.int .i64 Xl[i].st,.bool Xl[i].en,.string Xl[i].be]->Zdc W b (off+i*7) Xl[i]:=fun i hi h1=>by
      obtain⟨_,_,hc⟩:=World.cells?_some h1;rw [add_plain] at hc;have q:=fun j (hj:j < 7)=>(add_plain b (off+i*7) j) ▸ hc j hj
      exact⟨by simpa using q 0 (by omega),by simpa using q 1 (by omega),by simpa using q 2 (by omega),by simpa using q 3 (by omega),by simpa using q 4 (by omega),by simpa using q 5 (by omega),by simpa using q 6 (by omega)⟩
     have hbw:b < W.heap.size:=by
      obtain⟨_,h1⟩:=hall 0 (by omega);exact World.block_lt_of_cell? W _ (hcell 0 (by omega) h1).c0
     refine⟨Xl,Or.inr ⟨b,off,m,by rw [hcs,hF],?_,by omega,hbw,Nat.zero_le _,by omega,fun i hi=>?_⟩⟩
     . intro e;rw [e] at hF;simp at hF;omega
     . obtain⟨hz,h1⟩:=hall i hi
       exact⟨hz,hcell i hi h1⟩
end
theorem Tryz.cells175:prog.cellsOf 175=2:=by kernel_rfl
theorem ZsM (h:l.length=2):∃ c0 c1,l=[c0,c1]:=by
 match l,h with
 | [c0,c1],_=>exact⟨c0,c1,rfl⟩
section
variable {H:Type} {enc:TypeId×Value->H} {W:World}
theorem Zre {x:DataW H×List MemPlace} (h:DataW.trod enc prog W 0 (fun _=>true) true fuel 175 cs=some x) :
 ∃ (x:Be),cs=[.string x.nm,.bool x.dr]/\Zeu x:=by
 obtain⟨xs,n,_,_,hl,hlen,hfld⟩:=DataW.trod_struct underlying175 h;obtain⟨c0,c1,rfl⟩:=ZsM (hl.trans Tryz.cells175);simp only [Array.size,List.length_cons,List.length_nil] at hlen;have g0:DataW.trod enc prog W 0 (fun _=>true) true n 9 ((([c0,c1]:List Value).drop 0).take (prog.cellsOf 9))=xs[0]?:=hfld 0 _ rfl;have g1:DataW.trod enc prog W 0 (fun _=>true) true n 4 ((([c0,c1]:List Value).drop 1).take (prog.cellsOf 4))=xs[1]?:=hfld 1 _ rfl;simp only [Tryz.cells4,Tryz.cells9,List.drop_succ_cons,List.drop_zero,List.take_succ_cons,List.take_zero] at g0 g1;rw [List.getElem?_eq_getElem (by omega)] at g0 g1;obtain⟨q0,e0,_,s0⟩:=DataW.trod_string underlying9 g0;obtain⟨q1,e1,_⟩:=DataW.trod_bool underlying4 g1;simp only [List.cons.injEq,and_true] at e0 e1;subst e0 e1;exact⟨⟨q0,q1⟩,rfl,⟨s0⟩⟩
theorem Zo9 {x:DataW H×List MemPlace} (h:DataW.trod enc prog W 0 (fun _=>true) true fuel 33 [c]=some x):∃ Xl,Zb9 0 W c Xl:=by
 rcases open_slice underlying33 h with ⟨hcs,_⟩ | ⟨a,len,cap,m,n,D,Pl,hcs,_,hl,hm,hmm,_,hx⟩
 . simp only [List.cons.injEq,and_true] at hcs
   exact⟨[],Or.inl ⟨_,_,hcs,rfl⟩⟩
 . simp only [List.cons.injEq,and_true] at hcs
   simp only [if_true] at hmm;subst hmm;rw [Tryz.cells175] at hx
   by_cases h0:len=0
   . subst h0
     exact⟨[],Or.inl ⟨_,_,hcs,rfl⟩⟩
   . obtain⟨Xl,hF,hall⟩:=Zbz (p:=fun i (x:Be)=>Zeu x/\W.cells? 0 (a.add (i*2)) 2=some [.string x.nm,.bool x.dr]) len (fun i hi=>by
      obtain⟨cs',h1,h2⟩:=hx i (by omega);obtain⟨md,e,hz⟩:=Zre h2;rw [e] at h1;exact⟨md,hz,h1⟩)
     obtain⟨b,off,spot⟩:=a
     have hspot:spot=none:=by
      obtain⟨_,h1⟩:=hall 0 (by omega);have:=(World.cells?_some h1).2.2 0 (by omega);rw [Nat.zero_mul] at this;have e0:((⟨b,off,spot⟩:Addr).add 0).add 0=⟨b,off,spot⟩:=by simp [Addr.add]
      rw [e0] at this
      simpa using World.cell?_spot (by simpa using this)
     subst hspot
     have hcell:∀ i (hi:i < Xl.length),W.cells? 0 ((⟨b,off,none⟩:Addr).add (i*2)) 2=some [.string Xl[i].nm,.bool Xl[i].dr]->Zdb W b (off+i*2) Xl[i]:=fun i hi h1=>by
      obtain⟨_,_,hc⟩:=World.cells?_some h1;rw [add_plain] at hc;have q:=fun j (hj:j < 2)=>(add_plain b (off+i*2) j) ▸ hc j hj
      exact⟨by simpa using q 0 (by omega),by simpa using q 1 (by omega)⟩
     have hbw:b < W.heap.size:=by
      obtain⟨_,h1⟩:=hall 0 (by omega);exact World.block_lt_of_cell? W _ (hcell 0 (by omega) h1).c0
     refine⟨Xl,Or.inr ⟨b,off,m,by rw [hcs,hF],?_,by omega,hbw,Nat.zero_le _,by omega,fun i hi=>?_⟩⟩
     . intro e;rw [e] at hF;simp at hF;omega
     . obtain⟨hz,h1⟩:=hall i hi
       exact⟨hz,hcell i hi h1⟩
end
theorem Tryz.cells35:prog.cellsOf 35=4:=by kernel_rfl
theorem Tryz.cells31:prog.cellsOf 31=1:=by kernel_rfl
theorem Tryz.cells32:prog.cellsOf 32=1:=by kernel_rfl
theorem Tryz.cells33:prog.cellsOf 33=1:=by kernel_rfl
end Go.Proofs.YtbdhbihhgfpnnaaGreat
