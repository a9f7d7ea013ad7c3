import Derived.Test.YtmappejlmapboaaGreatG24
set_option maxHeartbeats 16000000
set_option maxRecDepth 100000
open Go.Proofs.Tryz
namespace Go.Proofs.YtmappejlmapboaaGreat
open Go.RowKit Go.Deep
structure Zto {X:Type} (c:X->X->Int) (L:List X) (t:X) (p:Nat):Prop where
 le:p<=L.length
 less:∀ i (h:i < L.length),i < p->c L[i] t < 0
 more:∀ i (h:i < L.length),p<=i->0<=c L[i] t
def ZrJ {X:Type} (c:X->X->Int) (L:List X) (t:X) (p:Nat):Bool:=match L[p]? with
 | some x=>decide (c x t=0)
 | none=>false
def ZsU {X:Type} (c:X->X->Int) (L:List X) (t:X):Prop:=∀ i j (hi:i < L.length) (hj:j < L.length),i < j->c L[j] t < 0->c L[i] t < 0
theorem Zsa {i j:Nat} (h:i < j):i<=(i+j) / 2/\(i+j) / 2 < j:=by omega
abbrev Zg1 (w:World) (b o:Nat) (x t:Le) (W:World):Prop:=
 W.cell? ⟨b,o,none⟩=some (.string x.tm)/\W.cell? ⟨b,o+1,none⟩=some (.string x.re)/\W.cell? ⟨b,o+2,none⟩=some (.int .i64 x.mo)/\W.cell? ⟨b,o+3,none⟩=some (.int .i64 x.fr)/\W.cell? ⟨w.heap.size,0,none⟩=some (.string t.tm)/\W.cell? ⟨w.heap.size,1,none⟩=some (.string t.re)/\W.cell? ⟨w.heap.size,2,none⟩=some (.int .i64 t.mo)/\W.cell? ⟨w.heap.size,3,none⟩=some (.int .i64 t.fr)/\Hd (Zw_ w W/\b < W.heap.size/\w.heap.size < W.heap.size)
theorem Zg1.on {w:World}{b o:Nat}{x t:Le}{W W':World} (h:Zg1 w b o x t W) (hb:Below W.heap.size W W'):Zg1 w b o x t W':=by
 obtain⟨y0,y1,y2,y3,y4,y5,y6,y7,hh⟩:=h;have e1:∀ o,W'.cell? ⟨b,o,none⟩=W.cell? ⟨b,o,none⟩:=fun o=>hb.cell (p:=⟨b,o,none⟩) hh.o.2.1
 have e2:∀ o,W'.cell? ⟨w.heap.size,o,none⟩=W.cell? ⟨w.heap.size,o,none⟩:=fun o=>hb.cell (p:=⟨w.heap.size,o,none⟩) hh.o.2.2
 exact⟨(e1 _).trans y0,(e1 _).trans y1,(e1 _).trans y2,(e1 _).trans y3,(e2 _).trans y4,(e2 _).trans y5,(e2 _).trans y6,(e2 _).trans y7,⟨hh.o.1.trans (hb.mono hh.o.1.size),Zk_ hh.o.2.1 hb.size,Zk_ hh.o.2.2 hb.size⟩⟩
theorem ZjA (lo:Nat) (v:Value) (Xl:List Le) (t:Le) (w:World) (hv:ZbH lo w v Xl) (hn:Xl.length<=1048576) (hr:ZsU Zdj Xl t) :
 Calls prog 246 #[v,.agg #[.string t.tm,.string t.re,.int .i64 t.mo,.int .i64 t.fr],.func (.func 219) #[] #[]] w
  fun e w'=>(∃ p:Nat,Zto Zdj Xl t p/\e=.returned (.tuple #[.int .i64 p,.bool (ZrJ Zdj Xl t p)]))/\Zw_ w w':=by
 have HV:=Zab hv;have HR:=Zab hr;obtain⟨a,cap,rfl⟩:=hv.form;clear hv hr;go_enter func246,ntmps246;go_wp2_with fail;generalize hWa:w.alloc _=Wa;have HB:Hd (Zw_ w Wa):=by rw [<- hWa];exact Zac w _
 have HX:Hd (Box Wa w.heap.size #[.string t.tm,.string t.re,.int .i64 t.mo,.int .i64 t.fr]):=by rw [<- hWa];exact Box.new _ _ _ _ rfl
 clear hWa
 go_loopw [9,10] (fun i j wr=>∃ p q:Nat,i=.int .i64 p/\j=.int .i64 q/\p<=q/\q<=Xl.length/\(∀ k (h:k < Xl.length),k < p->Zdj Xl[k] t < 0)/\(∀ k (h:k < Xl.length),q<=k->0<=Zdj Xl[k] t)/\Zw_ w wr/\Box wr w.heap.size #[.string t.tm,.string t.re,.int .i64 t.mo,.int .i64 t.fr])
  (fun i j _=>(intOf j).toNat - (intOf i).toNat)
 case atStart=>exact⟨0,Xl.length,rfl,rfl,Nat.zero_le _,Nat.le_refl _,fun k _ h=>by omega,fun k h h'=>by omega,HB.o,HX.o⟩
 case round=>
  obtain⟨p,q,rfl,rfl,hpq,hq,h1,h2,hb,hx⟩:=hrel;have HL1:=Zab h1;have HL2:=Zab h2;have HBr:=Zab hb;have HXr:=Zab hx;clear h1 h2 hb hx
  by_cases hlt:p < q
  . obtain⟨hm1,hm2⟩:=Zsa hlt
    have hml:(p+q) / 2 < Xl.length:=by omega
    obtain⟨m,em⟩:∃ m:Nat,(p+q) / 2=m:=⟨_,rfl⟩
    rw [em] at hm1 hm2 hml;have em':((p:Int)+(q:Int)) / 2=(m:Int):=by omega
    obtain⟨b,off,rfl,hbw,-,hc⟩:=HV.o.full' (by omega);obtain⟨hs,hcell⟩:=hc m hml;obtain⟨c0,c1,c2,c3⟩:=hcell.below HBr.o hbw;have x:=HXr.o.cell;have x0:=x 0;have x1:=x 1;have x2:=x 2;have x3:=x 3;simp at x0 x1 x2 x3;have EM:=Zab em;clear hc hcell hs x em;go_wp2
    go_region_with (go_at_call 219;refine (Zga Xl[m] t _).mono ?_;rintro e w1 ⟨rfl,hb1⟩;have hB:Hd (Zw_ w w1):=(HBr.o.drew).trans (hb1.mono HBr.o.size);have hX:Hd (Box w1 w.heap.size #[.string t.tm,.string t.re,.int .i64 t.mo,.int .i64 t.fr]):=(HXr.o.drew).on hb1;clear hb1)
    all_goals by_cases hq:Zfd Xl[m].tm Xl[m].re t.tm t.re < 0
    all_goals first
     | (have HT:Hd (Zdj Xl[m] t < 0):=hq
        go_wp2;go_roundw
        case rel=>exact⟨m+1,q,by go_num,rfl,by omega,by omega,fun k hk hkm=>by
                   by_cases e:k=m
                   . subst e;exact HT.o
                   . exact HR.o k m hk hml (by omega) HT.o,HL2.o,hB.o,hX.o⟩
        . simp [intOf];omega)
     | (have HT:Hd (0<=Zdj Xl[m] t):=by unfold Hd Zdj;omega
        go_wp2;go_roundw
        case rel=>exact⟨p,m,rfl,rfl,by omega,by omega,HL1.o,fun k hk hkm=>by
                   by_cases e:k=m
                   . subst e;exact HT.o
                   . refine Int.not_lt.1 (fun hn'=>?_)
                     have:=HR.o m k hml hk (by omega) hn';have:=HT.o
                     omega,hB.o,hX.o⟩
        . simp [intOf];omega)
  . have hpq':p=q:=by omega
    subst hpq';have HSP:Hd (Zto Zdj Xl t p):=⟨hq,HL1.o,HL2.o⟩
    by_cases hlt2:p < Xl.length
    . obtain⟨b,off,rfl,hbw,-,hc⟩:=HV.o.full' (by omega)
      obtain⟨hs,hcell⟩:=hc p hlt2;obtain⟨c0,c1,c2,c3⟩:=hcell.below HBr.o hbw;have x:=HXr.o.cell;have x0:=x 0;have x1:=x 1;have x2:=x 2;have x3:=x 3;simp at x0 x1 x2 x3;have HI:Hd (ZrJ Zdj Xl t p=decide (Zfd Xl[p].tm Xl[p].re t.tm t.re=0)):=by unfold Hd ZrJ;rw [List.getElem?_eq_getElem hlt2];rfl
      have hd:decide ((p:Int) < (Xl.length:Int))=true:=by simp;omega
      clear hc hcell hs x;go_wp2;have HBD:Hd (Zw_ w wr.drew):=HBr.o.drew;have hbl:b < wr.heap.size:=Zk_ hbw HBr.o.size
      have hxl:=HXr.o.lt
      go_region_held3 (Zg1 w b (off+p*4) Xl[p] t)
       (first
         | (exact⟨c0,c1,c2,c3,x0,x1,x2,x3,⟨HBD.o,hbl,hxl⟩⟩)
         | (with_reducible exact Zg1.on (by assumption) (by assumption)))
       (first
         | (go_at_call 219
            refine (Zga Xl[p] t _).mono ?_;rintro e w1 ⟨rfl,hb1⟩;have hB:Hd (Zw_ w w1):=HBD.o.trans (hb1.mono HBD.o.size)))
      all_goals go_wp2
      all_goals go_ret2
      all_goals exact⟨⟨p,HSP.o,by rw [HI.o];first | rfl | simp⟩,hB.o⟩
    . have HI:Hd (ZrJ Zdj Xl t p=false):=by unfold Hd ZrJ;rw [List.getElem?_eq_none (by omega)]
      have hd:decide ((p:Int) < (Xl.length:Int))=false:=by simp;omega
      go_wp2
      go_quiet (fail)
      go_wp2
      go_ret2
      exact⟨⟨p,HSP.o,by rw [HI.o];rfl⟩,below_drewN HBr.o _⟩
end Go.Proofs.YtmappejlmapboaaGreat
