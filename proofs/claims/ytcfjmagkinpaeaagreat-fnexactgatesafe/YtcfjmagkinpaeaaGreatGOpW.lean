import Derived.Test.YtcfjmagkinpaeaaGreatGOpSlip
import Derived.Test.YtcfjmagkinpaeaaGreatGWA
set_option maxHeartbeats 16000000
set_option maxRecDepth 100000
open Go.Proofs.Tryz
namespace Go.Proofs.YtcfjmagkinpaeaaGreat
open Go.ChangeShapes Go.WideShapes Go.ChangeAt Go.RowKit Go.Deep
theorem Ztr {l:List Value} (h:l.length=18):∃ c0 c1 c2 c3 c4 c5 c6 c7 c8 c9 c10 c11 c12 c13 c14 c15 c16 c17,l=[c0,c1,c2,c3,c4,c5,c6,c7,c8,c9,c10,c11,c12,c13,c14,c15,c16,c17]:=by
 match l,h with
 | [c0,c1,c2,c3,c4,c5,c6,c7,c8,c9,c10,c11,c12,c13,c14,c15,c16,c17],_=>exact⟨c0,c1,c2,c3,c4,c5,c6,c7,c8,c9,c10,c11,c12,c13,c14,c15,c16,c17,rfl⟩
theorem ZtC {l:List Value} (h:l.length=7):∃ c0 c1 c2 c3 c4 c5 c6,l=[c0,c1,c2,c3,c4,c5,c6]:=by
 match l,h with
 | [c0,c1,c2,c3,c4,c5,c6],_=>exact⟨c0,c1,c2,c3,c4,c5,c6,rfl⟩
theorem Ztq {l:List Value} (h:l.length=10):∃ c0 c1 c2 c3 c4 c5 c6 c7 c8 c9,l=[c0,c1,c2,c3,c4,c5,c6,c7,c8,c9]:=by
 match l,h with
 | [c0,c1,c2,c3,c4,c5,c6,c7,c8,c9],_=>exact⟨c0,c1,c2,c3,c4,c5,c6,c7,c8,c9,rfl⟩
theorem Tryz.cells113:prog.cellsOf 113=1:=by kernel_rfl
theorem Tryz.cells115:prog.cellsOf 115=10:=by kernel_rfl
theorem Tryz.cells33:prog.cellsOf 33=1:=by kernel_rfl
theorem Tryz.cells35:prog.cellsOf 35=8:=by kernel_rfl
section
variable {H:Type} {enc:TypeId×Value→H} {W:World}
theorem ZpL {fuel:Nat} {cs:List Value} {x:DataW H×List MemPlace} (h:DataW.trod enc prog W 0 (fun _=>true) true fuel 242 cs=some x):∃ S,SlC 0 W cs S:=by
 obtain⟨xs,n,_,_,hl,hlen,hfld⟩:=DataW.trod_struct underlying242 h;obtain⟨c0,c1,c2,c3,c4,c5,c6,c7,c8,c9,c10,c11,c12,c13,c14,c15,c16,c17,rfl⟩:=Ztr (hl.trans Tryz.cells242);simp only [Array.size,List.length_cons,List.length_nil] at hlen;have g0:DataW.trod enc prog W 0 (fun _=>true) true n 9 ((([c0,c1,c2,c3,c4,c5,c6,c7,c8,c9,c10,c11,c12,c13,c14,c15,c16,c17]:List Value).drop 0).take (prog.cellsOf 9))=xs[0]?:=hfld 0 _ rfl;have g1:DataW.trod enc prog W 0 (fun _=>true) true n 239 ((([c0,c1,c2,c3,c4,c5,c6,c7,c8,c9,c10,c11,c12,c13,c14,c15,c16,c17]:List Value).drop 1).take (prog.cellsOf 239))=xs[1]?:=hfld 1 _ rfl;have g2:DataW.trod enc prog W 0 (fun _=>true) true n 3 ((([c0,c1,c2,c3,c4,c5,c6,c7,c8,c9,c10,c11,c12,c13,c14,c15,c16,c17]:List Value).drop 16).take (prog.cellsOf 3))=xs[2]?:=hfld 2 _ rfl
 have g3:DataW.trod enc prog W 0 (fun _=>true) true n 240 ((([c0,c1,c2,c3,c4,c5,c6,c7,c8,c9,c10,c11,c12,c13,c14,c15,c16,c17]:List Value).drop 17).take (prog.cellsOf 240))=xs[3]?:=hfld 3 _ rfl;simp only [Tryz.cells3,Tryz.cells9,Tryz.cells239,Tryz.cells240,List.drop_succ_cons,List.drop_zero,List.take_succ_cons,List.take_zero] at g0 g1 g2 g3;rw [List.getElem?_eq_getElem (by omega)] at g0 g1 g2 g3;obtain⟨q0,e0,_,s0⟩:=DataW.trod_string underlying9 g0;obtain⟨va,ha,qa,A,e1,hA⟩:=ZnN g1;obtain⟨q2,e2,_,_⟩:=DataW.trod_int underlying3 g2;obtain⟨Ws,hW⟩:=ZpN g3;simp only [List.cons.injEq,and_true] at e0 e1 e2;obtain⟨r0,r1,r2,r3,r4,r5,r6,r7,r8,r9,r10,r11,r12,r13,r14⟩:=e1;subst e0 e2 r0 r1 r2 r3 r4 r5 r6 r7 r8 r9 r10 r11 r12 r13 r14;obtain⟨a0,k0,rfl⟩:=hA.vs.at.form';obtain⟨a1,k1,rfl⟩:=hA.hs.at.form';obtain⟨a2,k2,rfl⟩:=hA.vb.form;obtain⟨a3,k3,rfl⟩:=hW.form
 exact⟨⟨q0,A,q2,Ws⟩,a0,k0,a1,k1,a2,k2,a3,k3,rfl,hA,hW,s0⟩
theorem ZpM {fuel:Nat} {c:Value} {x:DataW H×List MemPlace} (h:DataW.trod enc prog W 0 (fun _=>true) true fuel 113 [c]=some x):∃ Xl,ZcD 0 W c Xl:=by
 rcases open_slice underlying113 h with ⟨hcs,_⟩ | ⟨a,len,cap,m,n,D,Pl,hcs,_,hl,hm,hmm,_,hx⟩
 · simp only [List.cons.injEq,and_true] at hcs
   exact⟨[],Or.inl ⟨_,_,hcs,rfl⟩⟩
 · simp only [List.cons.injEq,and_true] at hcs
   simp only [if_true] at hmm;subst hmm;rw [Tryz.cells242] at hx
   by_cases h0:len=0
   · subst h0
     exact⟨[],Or.inl ⟨_,_,hcs,rfl⟩⟩
   · obtain⟨Xl,hF,hall⟩:=Za7 (p:=fun i (x:Sl)=>∃ cs',W.cells? 0 (a.add (i*18)) 18=some cs'∧SlC 0 W cs' x) len (fun i hi=>by
      obtain⟨cs',h1,h2⟩:=hx i (by omega);obtain⟨S,hS⟩:=ZpL h2;exact⟨S,cs',h1,hS⟩)
     have hsp:∃ b off,a=⟨b,off,none⟩:=by
      obtain⟨b,off,spot⟩:=a;obtain⟨cs',h1,hS⟩:=hall 0 (by omega);have:=(World.cells?_some h1).2.2 0 (by omega);rw [Nat.zero_mul] at this;have e0:((⟨b,off,spot⟩:Addr).add 0).add 0=⟨b,off,spot⟩:=by simp [Addr.add]
      rw [e0,List.getElem?_eq_getElem (by have:=hS.len;omega)] at this;have hs:spot=none:=by simpa using World.cell?_spot (by simpa using this)
      exact⟨b,off,by rw [hs]⟩
     obtain⟨b,off,rfl⟩:=hsp
     have hrng:∀ i (cs':List Value),W.cells? 0 ((⟨b,off,none⟩:Addr).add (i*18)) 18=some cs'→W.rangeAt b (off+i*18) cs':=fun i cs' h1 j v hv=>by
      obtain⟨_,hln,hc⟩:=World.cells?_some h1;have hj:j < cs'.length:=(List.getElem?_eq_some_iff.1 hv).1
      have q:=hc j (by omega);rw [add_plain,add_plain] at q;rw [q,hv]
     have hbw:b < W.heap.size:=by
      obtain⟨cs',h1,hS⟩:=hall 0 (by omega);exact World.block_lt_of_cell? W _ (hrng 0 cs' h1 0 _ (List.getElem?_eq_getElem (by have:=hS.len;omega)))
     refine⟨Xl,Or.inr ⟨b,off,m,by rw [hcs,hF],?_,by omega,hbw,Nat.zero_le _,by omega,fun i hi=>?_⟩⟩
     · intro e;rw [e] at hF;simp at hF;omega
     · obtain⟨cs',h1,hS⟩:=hall i hi
       exact⟨cs',hrng i cs' h1,hS⟩
theorem ZhI {fuel:Nat} {cs:List Value} {x:DataW H×List MemPlace} (h:DataW.trod enc prog W 0 (fun _=>true) true fuel 32 cs=some x) :
 ∃ (ov gv lv pv:Value) (B:Bk),cs=[.int .i64 B.now,.int .i64 B.tick,.int .i64 B.given,ov,gv,lv,pv]∧ZaH 0 W ov gv lv pv B:=by
 obtain⟨xs,n,_,_,hl,hlen,hfld⟩:=DataW.trod_struct underlying32 h;obtain⟨c0,c1,c2,c3,c4,c5,c6,rfl⟩:=ZtC (hl.trans Tryz.cells32);simp only [Array.size,List.length_cons,List.length_nil] at hlen;have g0:DataW.trod enc prog W 0 (fun _=>true) true n 3 ((([c0,c1,c2,c3,c4,c5,c6]:List Value).drop 0).take (prog.cellsOf 3))=xs[0]?:=hfld 0 _ rfl;have g1:DataW.trod enc prog W 0 (fun _=>true) true n 3 ((([c0,c1,c2,c3,c4,c5,c6]:List Value).drop 1).take (prog.cellsOf 3))=xs[1]?:=hfld 1 _ rfl;have g2:DataW.trod enc prog W 0 (fun _=>true) true n 3 ((([c0,c1,c2,c3,c4,c5,c6]:List Value).drop 2).take (prog.cellsOf 3))=xs[2]?:=hfld 2 _ rfl;have g3:DataW.trod enc prog W 0 (fun _=>true) true n 27 ((([c0,c1,c2,c3,c4,c5,c6]:List Value).drop 3).take (prog.cellsOf 27))=xs[3]?:=hfld 3 _ rfl
 have g4:DataW.trod enc prog W 0 (fun _=>true) true n 28 ((([c0,c1,c2,c3,c4,c5,c6]:List Value).drop 4).take (prog.cellsOf 28))=xs[4]?:=hfld 4 _ rfl;have g5:DataW.trod enc prog W 0 (fun _=>true) true n 29 ((([c0,c1,c2,c3,c4,c5,c6]:List Value).drop 5).take (prog.cellsOf 29))=xs[5]?:=hfld 5 _ rfl;have g6:DataW.trod enc prog W 0 (fun _=>true) true n 30 ((([c0,c1,c2,c3,c4,c5,c6]:List Value).drop 6).take (prog.cellsOf 30))=xs[6]?:=hfld 6 _ rfl;simp only [Tryz.cells3,Tryz.cells27,Tryz.cells28,Tryz.cells29,Tryz.cells30,List.drop_succ_cons,List.drop_zero,List.take_succ_cons,List.take_zero] at g0 g1 g2 g3 g4 g5 g6;rw [List.getElem?_eq_getElem (by omega)] at g0 g1 g2 g3 g4 g5 g6;obtain⟨q0,e0,_,_⟩:=DataW.trod_int underlying3 g0;obtain⟨q1,e1,_,_⟩:=DataW.trod_int underlying3 g1;obtain⟨q2,e2,_,_⟩:=DataW.trod_int underlying3 g2
 simp only [List.cons.injEq,and_true] at e0 e1 e2;subst e0 e1 e2;obtain⟨Os,hO⟩:=Zlc g3;obtain⟨Gs,hG⟩:=Zla g4;obtain⟨Ls,hL⟩:=Zlb g5;obtain⟨Ps,hP⟩:=Zld g6;exact⟨c3,c4,c5,c6,⟨q0,q1,q2,Os,Gs,Ls,Ps⟩,rfl,hO,hG,hL,hP⟩
theorem ZpJ {fuel:Nat} {cs:List Value} {x:DataW H×List MemPlace} (h:DataW.trod enc prog W 0 (fun _=>true) true fuel 115 cs=some x):∃ D,DrC 0 W cs D:=by
 obtain⟨xs,n,_,_,hl,hlen,hfld⟩:=DataW.trod_struct underlying115 h;obtain⟨c0,c1,c2,c3,c4,c5,c6,c7,c8,c9,rfl⟩:=Ztq (hl.trans Tryz.cells115);simp only [Array.size,List.length_cons,List.length_nil] at hlen;have g0:DataW.trod enc prog W 0 (fun _=>true) true n 9 ((([c0,c1,c2,c3,c4,c5,c6,c7,c8,c9]:List Value).drop 0).take (prog.cellsOf 9))=xs[0]?:=hfld 0 _ rfl;have g1:DataW.trod enc prog W 0 (fun _=>true) true n 4 ((([c0,c1,c2,c3,c4,c5,c6,c7,c8,c9]:List Value).drop 1).take (prog.cellsOf 4))=xs[1]?:=hfld 1 _ rfl;have g2:DataW.trod enc prog W 0 (fun _=>true) true n 32 ((([c0,c1,c2,c3,c4,c5,c6,c7,c8,c9]:List Value).drop 2).take (prog.cellsOf 32))=xs[2]?:=hfld 2 _ rfl;have g3:DataW.trod enc prog W 0 (fun _=>true) true n 113 ((([c0,c1,c2,c3,c4,c5,c6,c7,c8,c9]:List Value).drop 9).take (prog.cellsOf 113))=xs[3]?:=hfld 3 _ rfl
 simp only [Tryz.cells4,Tryz.cells9,Tryz.cells32,Tryz.cells113,List.drop_succ_cons,List.drop_zero,List.take_succ_cons,List.take_zero] at g0 g1 g2 g3;rw [List.getElem?_eq_getElem (by omega)] at g0 g1 g2 g3;obtain⟨q0,e0,_,s0⟩:=DataW.trod_string underlying9 g0;obtain⟨q1,e1,_⟩:=DataW.trod_bool underlying4 g1;obtain⟨ov,gv,lv,pv,B,e2,hB⟩:=ZhI g2;obtain⟨Xl,hS⟩:=ZpM g3;simp only [List.cons.injEq,and_true] at e0 e1 e2;obtain⟨r0,r1,r2,r3,r4,r5,r6⟩:=e2;subst e0 e1 r0 r1 r2 r3 r4 r5 r6;obtain⟨a0,k0,rfl⟩:=hB.obs.form;obtain⟨a1,k1,rfl⟩:=hB.grs.form;obtain⟨a2,k2,rfl⟩:=hB.les.form;obtain⟨a3,k3,rfl⟩:=hB.pus.form;obtain⟨a4,k4,rfl⟩:=hS.form;exact⟨⟨q0,q1,B,Xl⟩,a0,k0,a1,k1,a2,k2,a3,k3,a4,k4,rfl,hB,hS,s0⟩
theorem ZpK {fuel:Nat} {c:Value} {x:DataW H×List MemPlace} (h:DataW.trod enc prog W 0 (fun _=>true) true fuel 33 [c]=some x):∃ Xl,Zcv 0 W c Xl:=by
 rcases open_slice underlying33 h with ⟨hcs,_⟩ | ⟨a,len,cap,m,n,D,Pl,hcs,_,hl,hm,hmm,_,hx⟩
 · simp only [List.cons.injEq,and_true] at hcs
   exact⟨[],Or.inl ⟨_,_,hcs,rfl⟩⟩
 · simp only [List.cons.injEq,and_true] at hcs
   simp only [if_true] at hmm;subst hmm;rw [Tryz.cells115] at hx
   by_cases h0:len=0
   · subst h0
     exact⟨[],Or.inl ⟨_,_,hcs,rfl⟩⟩
   · obtain⟨Xl,hF,hall⟩:=Za7 (p:=fun i (x:Dr)=>∃ cs',W.cells? 0 (a.add (i*10)) 10=some cs'∧DrC 0 W cs' x) len (fun i hi=>by
      obtain⟨cs',h1,h2⟩:=hx i (by omega);obtain⟨S,hS⟩:=ZpJ h2;exact⟨S,cs',h1,hS⟩)
     have hsp:∃ b off,a=⟨b,off,none⟩:=by
      obtain⟨b,off,spot⟩:=a;obtain⟨cs',h1,hS⟩:=hall 0 (by omega);have:=(World.cells?_some h1).2.2 0 (by omega);rw [Nat.zero_mul] at this;have e0:((⟨b,off,spot⟩:Addr).add 0).add 0=⟨b,off,spot⟩:=by simp [Addr.add]
      rw [e0,List.getElem?_eq_getElem (by have:=hS.len;omega)] at this;have hs:spot=none:=by simpa using World.cell?_spot (by simpa using this)
      exact⟨b,off,by rw [hs]⟩
     obtain⟨b,off,rfl⟩:=hsp
     have hrng:∀ i (cs':List Value),W.cells? 0 ((⟨b,off,none⟩:Addr).add (i*10)) 10=some cs'→W.rangeAt b (off+i*10) cs':=fun i cs' h1 j v hv=>by
      obtain⟨_,hln,hc⟩:=World.cells?_some h1;have hj:j < cs'.length:=(List.getElem?_eq_some_iff.1 hv).1
      have q:=hc j (by omega);rw [add_plain,add_plain] at q;rw [q,hv]
     have hbw:b < W.heap.size:=by
      obtain⟨cs',h1,hS⟩:=hall 0 (by omega);exact World.block_lt_of_cell? W _ (hrng 0 cs' h1 0 _ (List.getElem?_eq_getElem (by have:=hS.len;omega)))
     refine⟨Xl,Or.inr ⟨b,off,m,by rw [hcs,hF],?_,by omega,hbw,Nat.zero_le _,by omega,fun i hi=>?_⟩⟩
     · intro e;rw [e] at hF;simp at hF;omega
     · obtain⟨cs',h1,hS⟩:=hall i hi
       exact⟨cs',hrng i cs' h1,hS⟩
theorem Zsl {cs:Array Value} (h:cs.size=8):∃ c0 c1 c2 c3 c4 c5 c6 c7,cs=#[c0,c1,c2,c3,c4,c5,c6,c7]:=by
 obtain⟨l⟩:=cs
 match l,h with
 | [c0,c1,c2,c3,c4,c5,c6,c7],_=>exact⟨c0,c1,c2,c3,c4,c5,c6,c7,rfl⟩
theorem ZhJ {r:Reach} {b0:Nat} {v:Value} {d:DataW H} {p:List MemPlace} (hv:Value.okWide prog W r b0 35 v) (h:DataW.Trod enc prog W 0 (fun _=>true) true 35 v d p) :
 ∃ (ov gv lv pv dv:Value) (U:Wd),v=.agg #[.int .i64 U.bk.now,.int .i64 U.bk.tick,.int .i64 U.bk.given,ov,gv,lv,pv,dv]∧Zh6 0 W ov gv lv pv dv U:=by
 obtain⟨cs,rfl,hsz⟩:=okWide_struct underlying35 hv;obtain⟨c0,c1,c2,c3,c4,c5,c6,c7,rfl⟩:=Zsl (hsz.trans Tryz.cells35);obtain⟨fuel,hf⟩:=h;obtain⟨xs,n,_,_,_,hlen,hfld⟩:=DataW.trod_struct underlying35 hf;simp only [Array.size,List.length_cons,List.length_nil] at hlen;have g0:DataW.trod enc prog W 0 (fun _=>true) true n 32 ((([c0,c1,c2,c3,c4,c5,c6,c7]:List Value).drop 0).take (prog.cellsOf 32))=xs[0]?:=hfld 0 _ rfl;have g1:DataW.trod enc prog W 0 (fun _=>true) true n 33 ((([c0,c1,c2,c3,c4,c5,c6,c7]:List Value).drop 7).take (prog.cellsOf 33))=xs[1]?:=hfld 1 _ rfl;simp only [Tryz.cells32,Tryz.cells33,List.drop_succ_cons,List.drop_zero,List.take_succ_cons,List.take_zero] at g0 g1;rw [List.getElem?_eq_getElem (by omega)] at g0 g1;obtain⟨ov,gv,lv,pv,B,e2,hB⟩:=ZhI g0;obtain⟨Xl,hS⟩:=ZpK g1;simp only [List.cons.injEq,and_true] at e2
 obtain⟨r0,r1,r2,r3,r4,r5,r6⟩:=e2;subst r0 r1 r2 r3 r4 r5 r6;exact⟨_,_,_,_,c7,⟨B,Xl⟩,rfl,hB,hS⟩
end
end Go.Proofs.YtcfjmagkinpaeaaGreat
