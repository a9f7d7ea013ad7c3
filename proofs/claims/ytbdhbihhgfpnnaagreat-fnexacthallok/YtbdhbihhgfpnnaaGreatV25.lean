import Derived.Test.YtbdhbihhgfpnnaaGreatV20
import Derived.Test.YtbdhbihhgfpnnaaGreatV22
import Derived.Test.YtbdhbihhgfpnnaaGreatV23
import Derived.Test.YtbdhbihhgfpnnaaGreatV24
set_option maxHeartbeats 16000000
set_option maxRecDepth 100000
open Go.Proofs.Tryz
namespace Go.Proofs.YtbdhbihhgfpnnaaGreat
section
open Go.RowKit Go.Deep
structure Zsr {X:Type} (c:X->X->Int) (L:List X) (t:X) (p:Nat):Prop where
 le:p<=L.length
 less:∀ i (h:i < L.length),i < p->c L[i] t < 0
 more:∀ i (h:i < L.length),p<=i->0<=c L[i] t
def ZpW {X:Type} (c:X->X->Int) (L:List X) (t:X) (p:Nat):Bool:=match L[p]? with
 | some x=>decide (c x t=0)
 | none=>false
def ZrK {X:Type} (c:X->X->Int) (L:List X) (t:X):Prop:=∀ i j (hi:i < L.length) (hj:j < L.length),i < j->c L[j] t < 0->c L[i] t < 0
theorem ZqC {i j:Nat} (h:i < j):i<=(i+j) / 2/\(i+j) / 2 < j:=by omega
abbrev Zgd (w:World) (b o:Nat) (x t:Le) (W:World):Prop:=
 W.cell? ⟨b,o,none⟩=some (.string x.tm)/\W.cell? ⟨b,o+1,none⟩=some (.string x.re)/\W.cell? ⟨b,o+2,none⟩=some (.int .i64 x.mo)/\W.cell? ⟨b,o+3,none⟩=some (.int .i64 x.fr)/\W.cell? ⟨w.heap.size,0,none⟩=some (.string t.tm)/\W.cell? ⟨w.heap.size,1,none⟩=some (.string t.re)/\W.cell? ⟨w.heap.size,2,none⟩=some (.int .i64 t.mo)/\W.cell? ⟨w.heap.size,3,none⟩=some (.int .i64 t.fr)/\Hd (Zw_ w W/\b < W.heap.size/\w.heap.size < W.heap.size)
theorem Zgd.on {w:World}{b o:Nat}{x t:Le}{W W':World} (h:Zgd w b o x t W) (hb:Below W.heap.size W W'):Zgd w b o x t W':=by
 obtain⟨y0,y1,y2,y3,y4,y5,y6,y7,hh⟩:=h;have e1:∀ o,W'.cell? ⟨b,o,none⟩=W.cell? ⟨b,o,none⟩:=fun o=>hb.cell (p:=⟨b,o,none⟩) hh.o.2.1
 have e2:∀ o,W'.cell? ⟨w.heap.size,o,none⟩=W.cell? ⟨w.heap.size,o,none⟩:=fun o=>hb.cell (p:=⟨w.heap.size,o,none⟩) hh.o.2.2
 exact⟨(e1 _).trans y0,(e1 _).trans y1,(e1 _).trans y2,(e1 _).trans y3,(e2 _).trans y4,(e2 _).trans y5,(e2 _).trans y6,(e2 _).trans y7,⟨hh.o.1.trans (hb.mono hh.o.1.size),Zk_ hh.o.2.1 hb.size,Zk_ hh.o.2.2 hb.size⟩⟩
theorem ZiE (lo:Nat) (v:Value) (Xl:List Le) (t:Le) (w:World) (hv:ZbQ lo w v Xl) (hn:Xl.length<=1048576) (hr:ZrK Zc6 Xl t) :
 Calls prog 210 #[v,.agg #[.string t.tm,.string t.re,.int .i64 t.mo,.int .i64 t.fr],.func (.func 177) #[] #[]] w
  fun e w'=>(∃ p:Nat,Zsr Zc6 Xl t p/\e=.returned (.tuple #[.int .i64 p,.bool (ZpW Zc6 Xl t p)]))/\Zw_ w w':=by
 have HV:=Zab hv;have HR:=Zab hr;obtain⟨a,cap,rfl⟩:=hv.form;clear hv hr;go_enter func210,ntmps210;go_wp2_with fail;generalize hWa:w.alloc _=Wa;have HB:Hd (Zw_ w Wa):=by rw [<- hWa];exact Zac w _
 have HX:Hd (Box Wa w.heap.size #[.string t.tm,.string t.re,.int .i64 t.mo,.int .i64 t.fr]):=by rw [<- hWa];exact Box.new _ _ _ _ rfl
 clear hWa
 go_loopw [9,10] (fun i j wr=>∃ p q:Nat,i=.int .i64 p/\j=.int .i64 q/\p<=q/\q<=Xl.length/\(∀ k (h:k < Xl.length),k < p->Zc6 Xl[k] t < 0)/\(∀ k (h:k < Xl.length),q<=k->0<=Zc6 Xl[k] t)/\Zw_ w wr/\Box wr w.heap.size #[.string t.tm,.string t.re,.int .i64 t.mo,.int .i64 t.fr])
  (fun i j _=>(intOf j).toNat - (intOf i).toNat)
 case atStart=>exact⟨0,Xl.length,rfl,rfl,Nat.zero_le _,Nat.le_refl _,fun k _ h=>by omega,fun k h h'=>by omega,HB.o,HX.o⟩
 case round=>
  obtain⟨p,q,rfl,rfl,hpq,hq,h1,h2,hb,hx⟩:=hrel;have HL1:=Zab h1;have HL2:=Zab h2;have HBr:=Zab hb;have HXr:=Zab hx;clear h1 h2 hb hx
  by_cases hlt:p < q
  . obtain⟨hm1,hm2⟩:=ZqC hlt
    have hml:(p+q) / 2 < Xl.length:=by omega
    obtain⟨m,em⟩:∃ m:Nat,(p+q) / 2=m:=⟨_,rfl⟩
    rw [em] at hm1 hm2 hml;have em':((p:Int)+(q:Int)) / 2=(m:Int):=by omega
    obtain⟨b,off,rfl,hbw,-,hc⟩:=HV.o.full' (by omega);obtain⟨hs,hcell⟩:=hc m hml;obtain⟨c0,c1,c2,c3⟩:=hcell.below HBr.o hbw;have x:=HXr.o.cell;have x0:=x 0;have x1:=x 1;have x2:=x 2;have x3:=x 3;simp at x0 x1 x2 x3;have EM:=Zab em;clear hc hcell hs x em;go_wp2
    go_region_with (go_at_call 177;refine (Zfk Xl[m] t _).mono ?_;rintro e w1 ⟨rfl,hb1⟩;have hB:Hd (Zw_ w w1):=(HBr.o.drew).trans (hb1.mono HBr.o.size);have hX:Hd (Box w1 w.heap.size #[.string t.tm,.string t.re,.int .i64 t.mo,.int .i64 t.fr]):=(HXr.o.drew).on hb1;clear hb1)
    all_goals by_cases hq:Zes Xl[m].tm Xl[m].re t.tm t.re < 0
    all_goals first
     | (have HT:Hd (Zc6 Xl[m] t < 0):=hq
        go_wp2;go_roundw
        case rel=>exact⟨m+1,q,by go_num,rfl,by omega,by omega,fun k hk hkm=>by
                   by_cases e:k=m
                   . subst e;exact HT.o
                   . exact HR.o k m hk hml (by omega) HT.o,HL2.o,hB.o,hX.o⟩
        . simp [intOf];omega)
     | (have HT:Hd (0<=Zc6 Xl[m] t):=by unfold Hd Zc6;omega
        go_wp2;go_roundw
        case rel=>exact⟨p,m,rfl,rfl,by omega,by omega,HL1.o,fun k hk hkm=>by
                   by_cases e:k=m
                   . subst e;exact HT.o
                   . refine Int.not_lt.1 (fun hn'=>?_)
                     have:=HR.o m k hml hk (by omega) hn';have:=HT.o
                     omega,hB.o,hX.o⟩
        . simp [intOf];omega)
  . have hpq':p=q:=by omega
    subst hpq';have HSP:Hd (Zsr Zc6 Xl t p):=⟨hq,HL1.o,HL2.o⟩
    by_cases hlt2:p < Xl.length
    . obtain⟨b,off,rfl,hbw,-,hc⟩:=HV.o.full' (by omega)
      obtain⟨hs,hcell⟩:=hc p hlt2;obtain⟨c0,c1,c2,c3⟩:=hcell.below HBr.o hbw;have x:=HXr.o.cell;have x0:=x 0;have x1:=x 1;have x2:=x 2;have x3:=x 3;simp at x0 x1 x2 x3;have HI:Hd (ZpW Zc6 Xl t p=decide (Zes Xl[p].tm Xl[p].re t.tm t.re=0)):=by unfold Hd ZpW;rw [List.getElem?_eq_getElem hlt2];rfl
      have hd:decide ((p:Int) < (Xl.length:Int))=true:=by simp;omega
      clear hc hcell hs x;go_wp2;have HBD:Hd (Zw_ w wr.drew):=HBr.o.drew;have hbl:b < wr.heap.size:=Zk_ hbw HBr.o.size
      have hxl:=HXr.o.lt
      go_region_held3 (Zgd w b (off+p*4) Xl[p] t)
       (first
         | (exact⟨c0,c1,c2,c3,x0,x1,x2,x3,⟨HBD.o,hbl,hxl⟩⟩)
         | (with_reducible exact Zgd.on (by assumption) (by assumption)))
       (first
         | (go_at_call 177
            refine (Zfk Xl[p] t _).mono ?_;rintro e w1 ⟨rfl,hb1⟩;have hB:Hd (Zw_ w w1):=HBD.o.trans (hb1.mono HBD.o.size)))
      all_goals go_wp2
      all_goals go_ret2
      all_goals exact⟨⟨p,HSP.o,by rw [HI.o];first | rfl | simp⟩,hB.o⟩
    . have HI:Hd (ZpW Zc6 Xl t p=false):=by unfold Hd ZpW;rw [List.getElem?_eq_none (by omega)]
      have hd:decide ((p:Int) < (Xl.length:Int))=false:=by simp;omega
      go_wp2
      go_quiet (fail)
      go_wp2
      go_ret2
      exact⟨⟨p,HSP.o,by rw [HI.o];rfl⟩,below_drewN HBr.o _⟩
end
section
open Go.RowKit Go.Deep
theorem Zhw {a b c:Zy_} (h:Zcc a b < 0) (h':Zcc b c < 0):Zcc a c < 0:=ZdB.2 (Zdp (ZdB.1 h) (ZdB.1 h'))
theorem Zro {a b:Int}:orI a b < 0↔a < 0\/(a=0/\b < 0):=by unfold orI;split <;> omega
theorem ZoX {a b c d:Zy_}:Zes a b c d < 0↔Zcc a c < 0\/(a=c/\Zcc b d < 0):=by
 unfold Zes;rw [Zro,ZcS]
theorem Zi3 {a b c d:Zy_}:Zes a b c d=0↔a=c/\b=d:=by
 unfold Zes;rw [Zpm,ZcS,ZcS]
theorem ZlD {a b c d e f:Zy_} (h:Zes a b c d < 0) (h':Zes c d e f < 0):Zes a b e f < 0:=by
 rw [ZoX] at*
 rcases h with h | ⟨rfl,h⟩
 . rcases h' with h' | ⟨rfl,h'⟩
   . exact Or.inl (Zhw h h')
   . exact Or.inl h
 . rcases h' with h' | ⟨rfl,h'⟩
   . exact Or.inl h'
   . exact Or.inr ⟨rfl,Zhw h h'⟩
theorem Zht (x y z:Le) (h:Zc6 x y < 0) (h':Zc6 y z < 0):Zc6 x z < 0:=ZlD h h'
theorem Zlm {X:Type}{c:X->X->Int}{L:List X} (h:Zdl c L=true) {j:Nat} (hj:j+1 < L.length):c L[j] L[j+1] < 0:=by
 have:=Zel hj h;rw [Zdk hj] at this;exact of_decide_eq_true this
theorem Zp2 {X:Type}{c:X->X->Int}{L:List X} (tr:∀ x y z,c x y < 0->c y z < 0->c x z < 0) (h:Zdl c L=true) (i:Nat):∀ (d:Nat) (hj:i+d+1 < L.length),c (L[i]'(by omega)) L[i+d+1] < 0
 | 0,hj=>Zlm h hj
 | d+1,hj=>tr _ _ _ (Zp2 tr h i d (by omega)) (Zlm (j:=i+d+1) h hj)
theorem Zll {X:Type}{c:X->X->Int}{L:List X} (tr:∀ x y z,c x y < 0->c y z < 0->c x z < 0) (h:Zdl c L=true) {i j:Nat} (hi:i < L.length) (hj:j < L.length) (hij:i < j):c L[i] L[j] < 0:=by
 obtain⟨d,rfl⟩:∃ d,j=i+d+1:=⟨j - i - 1,by omega⟩
 exact Zp2 tr h i d hj
theorem Zn3 {X:Type}{c:X->X->Int}{L:List X} (tr:∀ x y z,c x y < 0->c y z < 0->c x z < 0) (h:Zdl c L=true) (t:X):ZrK c L t:=
 fun _ _ hi hj hij h'=>tr _ _ _ (Zll tr h hi hj hij) h'
theorem Zps {X:Type}{c:X->X->Int}{L:List X}{t:X}{p:Nat} (tr:∀ x y z,c x y < 0->c y z < 0->c x z < 0) (sub:∀ x y,c x y < 0->c y t=0->c x t < 0) (h:Zdl c L=true) (hp:Zsr c L t p) :
 ZpW c L t p=L.any fun x=>decide (c x t=0):=by
 unfold ZpW
 cases hx:L[p]? with
 | some x=>
  obtain⟨hl,rfl⟩:=List.getElem?_eq_some_iff.1 hx
  show decide (c L[p] t=0)=_
  by_cases h0:c L[p] t=0
  . rw [decide_eq_true h0]
    exact (List.any_eq_true.2 ⟨L[p],List.getElem_mem hl,decide_eq_true h0⟩).symm
  . rw [decide_eq_false h0]
    refine (List.any_eq_false.2 fun y hy hc=>?_).symm;obtain⟨i,hi,rfl⟩:=List.getElem_of_mem hy;have hc':=of_decide_eq_true hc
    by_cases e:i < p
    . have:=hp.less i hi e
      omega
    . by_cases e2:i=p
      . subst e2;exact h0 hc'
      . have h1:=sub _ _ (Zll tr h hl hi (by omega)) hc'
        have h2:=hp.more p hl Zl_
        omega
 | none=>
  have hl:L.length<=p:=List.getElem?_eq_none_iff.1 hx;refine (List.any_eq_false.2 fun y hy hc=>?_).symm;obtain⟨i,hi,rfl⟩:=List.getElem_of_mem hy;have:=hp.less i hi (by omega);have:=of_decide_eq_true hc
  omega
theorem Zq9 (Ls:List Le) (t r:Zy_):(Ls.any fun x=>decide (Zc6 x ⟨t,r,0,0⟩=0))=Ls.any (Zdi t r):=by
 congr 1
 funext x
 unfold Zdi Zc6;rw [Bool.eq_iff_iff,Bool.and_eq_true,ZaI,ZaI,decide_eq_true_iff,Zi3]
theorem ZgI (lo:Nat) (v:Value) (Ls:List Le) (t r:Zy_) (w:World) (hv:ZbQ lo w v Ls) (hn:Ls.length<=1048576) (hr:Zdl Zc6 Ls=true) :
 Calls prog 180 #[v,.string t,.string r] w
  fun e w'=>(∃ p:Nat,Zsr Zc6 Ls ⟨t,r,0,0⟩ p/\e=.returned (.tuple #[.int .i64 p,.bool (Ls.any (Zdi t r))]))/\Zw_ w w':=by
 have HV:=Zab hv;have HR:=Zab hr;obtain⟨a,cap,rfl⟩:=hv.form;clear hv hr;go_enter func180,ntmps180;go_wp2_with fail;refine (ZiE lo _ Ls ⟨t,r,0,0⟩ _ HV.o hn (Zn3 Zht HR.o _)).mono ?_;rintro e w1 ⟨⟨p,hp,rfl⟩,hb⟩;have HP:=Zab hp;have HB:=Zab hb
 have HE:Hd (ZpW Zc6 Ls ⟨t,r,0,0⟩ p=Ls.any (Zdi t r)):=(Zps Zht (fun x y h h0=>by
  obtain⟨e1,e2⟩:=Zi3.1 h0;unfold Zc6 at h |-;simp only at e1 e2 |-;rw [<- e1,<- e2];exact h) HR.o hp).trans (Zq9 Ls t r)
 clear hp hb;go_wp2
 go_ret2
 exact⟨⟨p,HP.o,by rw [HE.o];rfl⟩,HB.o⟩
end
section
open Go.RowKit Go.Deep
variable {k:Nat}
def gnB (given:Int) (g:Gr):Bool:=inB 1 given g.nu&&Zan g.tw&&Zag g.gb&&ZaT g.ru
def ZaX (B:Bk):Bool:=decide (B.gs.length<=24)&&Zdl Zf3 B.gs&&B.gs.all (gnB B.given)
def leB (Ts:List Tm) (x:Le):Bool:=Zfp Ts x.tm&&Zan x.re&&inB 0 1000000 x.mo&&inB 0 x.mo x.fr
def ZaO (Ts:List Tm) (Ls:List Le):Bool:=decide (Ls.length<=10)&&Zdl Zc6 Ls&&Ls.all (leB Ts)
def puB (B:Bk) (p:Pu):Bool:=B.ls.any (Zdi p.tm p.re)&&Zan p.dr&&inB 1 1000000 p.am&&inB B.tick (B.tick+10) p.un
def Za7 (B:Bk):Bool:=decide (B.ps.length<=24)&&Zdl Zgl B.ps&&B.ps.all (puB B)
theorem Zbc {X:Type}{L:List X}{f:X->Bool} (hk:k < L.length) (h:f L[k]=false):L.all f=false:=by
 rw [List.all_eq_false];exact⟨L[k],List.getElem_mem hk,by simp [h]⟩
theorem Zb2 {X:Type}{L:List X}{f:X->Bool} (h:∀ i (h:i < L.length),f L[i]=true):L.all f=true:=by
 rw [List.all_eq_true];intro x hx;obtain⟨i,hi,rfl⟩:=List.getElem_of_mem hx;exact h i hi
theorem Zbr {X:Type}{L:List X}{f:X->Bool} (hall:∀ j (h:j < L.length),j < k->f L[j]=true) (hk:k < L.length) (h:f L[k]=true):∀ j (h:j < L.length),j < k+1->f L[j]=true:=fun j hj hjk=>by
 by_cases e:j=k
 . subst e;exact h
 . exact hall j hj (by omega)
theorem ZhN (Ts:List Tm) (s:Zy_):decide (Zda Ts s < 0)=!Zfp Ts s:=by
 rw [Zgy];unfold Zda
 by_cases h:plT Ts s < Ts.length
 . simp [h]
 . simp [h]
section
variable (lo:Nat) (ov gv lv pv:Value) (B:Bk) (w:World)
theorem Zhe (h:Za2 lo w ov gv lv pv B) :
 Calls prog 126 #[.agg #[.int .i64 B.now,.int .i64 B.tick,.int .i64 B.given,ov,gv,lv,pv]] w fun e w'=>e=.returned (.bool (ZaX B))/\Zw_ w w':=by
 have HG:=Zab h.grs;obtain⟨a0,k0,rfl⟩:=h.obs.form;obtain⟨a1,k1,rfl⟩:=h.grs.form;obtain⟨a2,k2,rfl⟩:=h.les.form;obtain⟨a3,k3,rfl⟩:=h.pus.form;have HI:Hd (ZaX B=(decide (B.gs.length<=24)&&Zdl Zf3 B.gs&&B.gs.all (gnB B.given))):=rfl;clear h
 by_cases hl:B.gs.length<=24
 case neg=>
  have HE:Hd (ZaX B=false):=by unfold Hd;rw [HI.o,decide_eq_false hl];rfl
  have hgt:decide ((24:Int) < (B.gs.length:Int))=true:=by simp;omega
  go_enter func126,ntmps126;go_wp2;go_ret;exact⟨Zaa HE.o.symm,Zac _ _⟩
 have hgt:decide ((24:Int) < (B.gs.length:Int))=false:=by simp;omega
 go_enter func126,ntmps126;go_wp2_with fail;generalize hWa:w.alloc _=Wa;have HB:Hd (Zw_ w Wa):=by rw [<- hWa];exact Zac w _
 have HX:Hd (Box Wa w.heap.size #[.int .i64 B.now,.int .i64 B.tick,.int .i64 B.given,.slice a0 B.os.length k0,.slice a1 B.gs.length k1,.slice a2 B.ls.length k2,.slice a3 B.ps.length k3]):=by rw [<- hWa];exact Box.new _ _ _ _ rfl
 clear hWa;refine (Zlz lo _ B.gs _ (HG.o.below HB.o)).mono ?_;rintro e w1 ⟨rfl,hb1⟩;have HB1:Hd (Zw_ w w1):=HB.o.trans (hb1.mono HB.o.size);have HX1:=Zab (HX.o.on hb1);clear hb1 HB HX
 cases hr:Zdl Zf3 B.gs with
 | false=>
  have HE:Hd (ZaX B=false):=by unfold Hd;rw [HI.o,hr,decide_eq_true hl];rfl
  go_wp2;go_ret;exact⟨Zaa HE.o.symm,HB1.o⟩
 | true=>
  have HE:Hd (ZaX B=B.gs.all (gnB B.given)):=by unfold Hd;rw [HI.o,hr,decide_eq_true hl];rfl
  have x4:=HX1.o.cell 4;simp at x4;go_wp2;clear x4
  go_loopw [18] (fun i wr=>∃ k:Nat,i=.int .i64 k/\k<=B.gs.length/\Zw_ w wr/\Box wr w.heap.size #[.int .i64 B.now,.int .i64 B.tick,.int .i64 B.given,.slice a0 B.os.length k0,.slice a1 B.gs.length k1,.slice a2 B.ls.length k2,.slice a3 B.ps.length k3]/\∀ j (h:j < B.gs.length),j < k->gnB B.given B.gs[j]=true) (fun i _=>B.gs.length - (intOf i).toNat)
  case atStart=>exact⟨0,rfl,Nat.zero_le _,HB1.o,HX1.o,fun j _ h=>by omega⟩
  case round=>
   obtain⟨k,rfl,hk,hb,hx,hall⟩:=hrel;have HBr:=Zab hb;have HXr:=Zab hx;have HA:=Zab hall;clear hb hx hall
   by_cases hlt:k < B.gs.length
   . obtain⟨b,off,rfl,hbw,-,hc⟩:=HG.o.full' (by omega)
     obtain⟨hs,vv0,hcell,hv0⟩:=hc k hlt;obtain⟨c0,c1,c2,c3,c4,c5,c6⟩:=hcell.below HBr.o hbw;have HV:=Zab hv0;have HZ:=Zab hs;obtain⟨va,vcap,rfl⟩:=hv0.form;have HQ:Hd (gnB B.given B.gs[k]=(inB 1 B.given B.gs[k].nu&&Zan B.gs[k].tw&&Zag B.gs[k].gb&&ZaT B.gs[k].ru)):=rfl;have x2:=HXr.o.cell 2;simp at x2;have xlt:=HXr.o.lt;have x2:∀ o,(wr.alloc o).cell? ⟨w.heap.size,2,none⟩=some (.int .i64 B.given):=fun o=>(Zai _ _ _ _ xlt).trans x2
     have HBA:∀ o,Hd (Zw_ w (wr.alloc o)):=fun o=>HBr.o.trans ((Zac _ _).mono HBr.o.size)
     have s0:=hs.s0;have s1:=hs.s1;clear hc hcell hv0 hs xlt
     cases h1:inB 1 B.given B.gs[k].nu with
     | false=>
      have HN:Hd (ZaX B=false):=by unfold Hd;rw [HE.o];exact Zbc hlt (by rw [HQ.o,h1];rfl)
      go_wp2_with (first|(go_at_call 167;refine (Zah _ _ _ _).mono ?_;rintro e w' ⟨rfl,rfl⟩));go_ret;exact⟨Zaa HN.o.symm,(HBA _).o⟩
     | true=>
      cases h2:Zan B.gs[k].tw with
      | false=>
       have HN:Hd (ZaX B=false):=by unfold Hd;rw [HE.o];exact Zbc hlt (by rw [HQ.o,h1,h2];rfl)
       go_wp2_with (first|(go_at_call 167;refine (Zah _ _ _ _).mono ?_;rintro e w' ⟨rfl,rfl⟩)|(go_at_call 68;refine (Zak _ _ s0).mono ?_;rintro e w' ⟨rfl,rfl⟩));go_ret;exact⟨Zaa HN.o.symm,(HBA _).o⟩
      | true=>
       cases h3:Zag B.gs[k].gb with
       | false=>
        have HN:Hd (ZaX B=false):=by unfold Hd;rw [HE.o];exact Zbc hlt (by rw [HQ.o,h1,h2,h3];rfl)
        go_wp2_with (first|(go_at_call 167;refine (Zah _ _ _ _).mono ?_;rintro e w' ⟨rfl,rfl⟩)|(go_at_call 68;refine (Zak _ _ s0).mono ?_;rintro e w' ⟨rfl,rfl⟩)|(go_at_call 122;refine (ZbA _ _ s1).mono ?_;rintro e w' ⟨rfl,rfl⟩));go_ret;exact⟨Zaa HN.o.symm,(HBA _).o⟩
       | true=>
        have HRZ:Hd (ZeX B.gs[k].ru):=⟨HZ.o.s2,HZ.o.s3,HZ.o.s4⟩;go_wp2_with (first|(go_at_call 167;refine (Zah _ _ _ _).mono ?_;rintro e w' ⟨rfl,rfl⟩)|(go_at_call 68;refine (Zak _ _ s0).mono ?_;rintro e w' ⟨rfl,rfl⟩)|(go_at_call 122;refine (ZbA _ _ s1).mono ?_;rintro e w' ⟨rfl,rfl⟩));refine (Zd6 lo B.gs[k].ru _ _ ((HV.o.below HBr.o).below (Zac _ _)) HRZ.o).mono ?_;rintro e w2 ⟨rfl,hb2⟩;have HB2:Hd (Zw_ w w2):=(HBA _).o.trans (hb2.mono (HBA _).o.size);have HX2:=Zab ((HXr.o.on (Zac _ _)).on hb2);clear hb2
        cases h4:ZaT B.gs[k].ru with
        | false=>
         have HN:Hd (ZaX B=false):=by unfold Hd;rw [HE.o];exact Zbc hlt (by rw [HQ.o,h1,h2,h3,h4];rfl)
         go_wp2;go_ret;exact⟨Zaa HN.o.symm,HB2.o⟩
        | true=>
         have HT:Hd (gnB B.given B.gs[k]=true):=by unfold Hd;rw [HQ.o,h1,h2,h3,h4];rfl
         go_wp2;go_roundw
         . exact⟨k+1,by go_num,by omega,HB2.o,HX2.o,Zbr HA.o hlt HT.o⟩
         . simp [intOf];omega
   . have HT:Hd (ZaX B=true):=by unfold Hd;rw [HE.o];exact Zb2 (fun i hi=>HA.o i hi (by omega))
     go_wp2;go_ret;exact⟨Zaa HT.o.symm,HBr.o⟩
theorem Zhf (h:Za2 lo w ov gv lv pv B) (hn:B.ls.length<=1048576) (hrl:Zdl Zc6 B.ls=true) (ht:inB 0 1000000 B.tick=true) :
 Calls prog 128 #[.agg #[.int .i64 B.now,.int .i64 B.tick,.int .i64 B.given,ov,gv,lv,pv]] w fun e w'=>e=.returned (.bool (Za7 B))/\Zw_ w w':=by
 have HG:=Zab h.pus;have HL:=Zab h.les;have HRL:=Zab hrl;obtain⟨a0,k0,rfl⟩:=h.obs.form;obtain⟨a1,k1,rfl⟩:=h.grs.form;obtain⟨a2,k2,rfl⟩:=h.les.form;obtain⟨a3,k3,rfl⟩:=h.pus.form;have HI:Hd (Za7 B=(decide (B.ps.length<=24)&&Zdl Zgl B.ps&&B.ps.all (puB B))):=rfl;have ht0:0<=B.tick/\B.tick<=1000000:=by unfold inB at ht;exact of_decide_eq_true ht
 clear h hrl ht
 by_cases hl:B.ps.length<=24
 case neg=>
  have HE:Hd (Za7 B=false):=by unfold Hd;rw [HI.o,decide_eq_false hl];rfl
  have hgt:decide ((24:Int) < (B.ps.length:Int))=true:=by simp;omega
  go_enter func128,ntmps128;go_wp2;go_ret;exact⟨Zaa HE.o.symm,Zac _ _⟩
 have hgt:decide ((24:Int) < (B.ps.length:Int))=false:=by simp;omega
 go_enter func128,ntmps128;go_wp2_with fail;generalize hWa:w.alloc _=Wa;have HB:Hd (Zw_ w Wa):=by rw [<- hWa];exact Zac w _
 have HX:Hd (Box Wa w.heap.size #[.int .i64 B.now,.int .i64 B.tick,.int .i64 B.given,.slice a0 B.os.length k0,.slice a1 B.gs.length k1,.slice a2 B.ls.length k2,.slice a3 B.ps.length k3]):=by rw [<- hWa];exact Box.new _ _ _ _ rfl
 clear hWa;refine (ZlC lo _ B.ps _ (HG.o.below HB.o)).mono ?_;rintro e w1 ⟨rfl,hb1⟩;have HB1:Hd (Zw_ w w1):=HB.o.trans (hb1.mono HB.o.size);have HX1:=Zab (HX.o.on hb1);clear hb1 HB HX
 cases hr:Zdl Zgl B.ps with
 | false=>
  have HE:Hd (Za7 B=false):=by unfold Hd;rw [HI.o,hr,decide_eq_true hl];rfl
  go_wp2;go_ret;exact⟨Zaa HE.o.symm,HB1.o⟩
 | true=>
  have HE:Hd (Za7 B=B.ps.all (puB B)):=by unfold Hd;rw [HI.o,hr,decide_eq_true hl];rfl
  have x4:=HX1.o.cell 6;simp at x4;go_wp2;clear x4
  go_loopw [20] (fun i wr=>∃ k:Nat,i=.int .i64 k/\k<=B.ps.length/\Zw_ w wr/\Box wr w.heap.size #[.int .i64 B.now,.int .i64 B.tick,.int .i64 B.given,.slice a0 B.os.length k0,.slice a1 B.gs.length k1,.slice a2 B.ls.length k2,.slice a3 B.ps.length k3]/\∀ j (h:j < B.ps.length),j < k->puB B B.ps[j]=true) (fun i _=>B.ps.length - (intOf i).toNat)
  case atStart=>exact⟨0,rfl,Nat.zero_le _,HB1.o,HX1.o,fun j _ h=>by omega⟩
  case round=>
   obtain⟨k,rfl,hk,hb,hx,hall⟩:=hrel;have HBr:=Zab hb;have HXr:=Zab hx;have HA:=Zab hall;clear hb hx hall
   by_cases hlt:k < B.ps.length
   . obtain⟨b,off,rfl,hbw,-,hc⟩:=HG.o.full' (by omega)
     obtain⟨hs,hcell⟩:=hc k hlt;obtain⟨c0,c1,c2,c3,c4⟩:=hcell.below HBr.o hbw;have HZ:=Zab hs;have HQ:Hd (puB B B.ps[k]=(B.ls.any (Zdi B.ps[k].tm B.ps[k].re)&&Zan B.ps[k].dr&&inB 1 1000000 B.ps[k].am&&inB B.tick (B.tick+10) B.ps[k].un)):=rfl;have x5:=HXr.o.cell 5;simp at x5;have xlt:=HXr.o.lt;have x5:∀ o,(wr.alloc o).cell? ⟨w.heap.size,5,none⟩=some (.slice a2 B.ls.length k2):=fun o=>(Zai _ _ _ _ xlt).trans x5
     have HBA:∀ o,Hd (Zw_ w (wr.alloc o)):=fun o=>HBr.o.trans ((Zac _ _).mono HBr.o.size)
     clear hc hcell hs xlt;go_wp2_with fail;generalize hWb:wr.alloc _=Wb;have HBb:Hd (Zw_ w Wb):=by rw [<- hWb];exact (HBA _).o
     have HXb:Hd (Box Wb w.heap.size #[.int .i64 B.now,.int .i64 B.tick,.int .i64 B.given,.slice a0 B.os.length k0,.slice a1 B.gs.length k1,.slice a2 B.ls.length k2,.slice (some ⟨b,off,none⟩) B.ps.length k3]):=by rw [<- hWb];exact HXr.o.on (Zac _ _)
     have HYb:Hd (Box Wb wr.heap.size #[.string B.ps[k].dr,.string B.ps[k].tm,.string B.ps[k].re,.int .i64 B.ps[k].am,.int .i64 B.ps[k].un]):=by rw [<- hWb];exact Box.new _ _ _ _ rfl
     clear hWb x5 HBA;refine (ZgI lo _ B.ls _ _ _ (HL.o.below HBb.o) hn HRL.o).mono ?_;rintro e w2 ⟨⟨p,-,rfl⟩,hb2⟩;have HB2:Hd (Zw_ w w2):=HBb.o.trans (hb2.mono HBb.o.size);have HX2:=Zab (HXb.o.on hb2);have HY2:=Zab (HYb.o.on hb2);have s0:=HZ.o.s0;have y0:=HY2.o.cell 0;have y3:=HY2.o.cell 3;have y4:=HY2.o.cell 4;have z1:=HX2.o.cell 1;simp at y0 y3 y4 z1;clear hb2 HBb HXb HYb
     cases h1:B.ls.any (Zdi B.ps[k].tm B.ps[k].re) with
     | false=>
      have HN:Hd (Za7 B=false):=by unfold Hd;rw [HE.o];exact Zbc hlt (by rw [HQ.o,h1];rfl)
      go_wp2;go_ret;exact⟨Zaa HN.o.symm,HB2.o⟩
     | true=>
      cases h2:Zan B.ps[k].dr with
      | false=>
       have HN:Hd (Za7 B=false):=by unfold Hd;rw [HE.o];exact Zbc hlt (by rw [HQ.o,h1,h2];rfl)
       go_wp2_with (go_at_call 68;refine (Zak _ _ s0).mono ?_;rintro e w' ⟨rfl,rfl⟩);go_ret;exact⟨Zaa HN.o.symm,HB2.o⟩
      | true=>
       cases h3:inB 1 1000000 B.ps[k].am with
       | false=>
        have HN:Hd (Za7 B=false):=by unfold Hd;rw [HE.o];exact Zbc hlt (by rw [HQ.o,h1,h2,h3];rfl)
        go_wp2_with (first|(go_at_call 68;refine (Zak _ _ s0).mono ?_;rintro e w' ⟨rfl,rfl⟩)|(go_at_call 167;refine (Zah _ _ _ _).mono ?_;rintro e w' ⟨rfl,rfl⟩));go_ret;exact⟨Zaa HN.o.symm,HB2.o⟩
       | true=>
        cases h4:inB B.tick (B.tick+10) B.ps[k].un with
        | false=>
         have HN:Hd (Za7 B=false):=by unfold Hd;rw [HE.o];exact Zbc hlt (by rw [HQ.o,h1,h2,h3,h4];rfl)
         go_wp2_with (first|(go_at_call 68;refine (Zak _ _ s0).mono ?_;rintro e w' ⟨rfl,rfl⟩)|(go_at_call 167;refine (Zah _ _ _ _).mono ?_;rintro e w' ⟨rfl,rfl⟩));go_ret;exact⟨Zaa HN.o.symm,HB2.o⟩
        | true=>
         have HT:Hd (puB B B.ps[k]=true):=by unfold Hd;rw [HQ.o,h1,h2,h3,h4];rfl
         go_wp2_with (first|(go_at_call 68;refine (Zak _ _ s0).mono ?_;rintro e w' ⟨rfl,rfl⟩)|(go_at_call 167;refine (Zah _ _ _ _).mono ?_;rintro e w' ⟨rfl,rfl⟩));go_roundw
         . exact⟨k+1,by go_num,by omega,HB2.o,HX2.o,Zbr HA.o hlt HT.o⟩
         . simp [intOf];omega
   . have HT:Hd (Za7 B=true):=by unfold Hd;rw [HE.o];exact Zb2 (fun i hi=>HA.o i hi (by omega))
     go_wp2;go_ret;exact⟨Zaa HT.o.symm,HBr.o⟩
end
section
variable (lo:Nat) (sv mv tv lv:Value) (Ss:List Sh) (Ms:List Md) (Ts:List Tm) (Ls:List Le) (w:World)
theorem ZgA (h:ZdQ lo w sv mv tv Ss Ms Ts) (hl:ZbQ lo w lv Ls) :
 Calls prog 127 #[.agg #[sv,mv,tv],lv] w fun e w'=>e=.returned (.bool (ZaO Ts Ls))/\Zw_ w w':=by
 have HL:=Zab h;have HG:=Zab hl;obtain⟨sa,sc,rfl⟩:=h.shs.form;obtain⟨ma,mc,rfl⟩:=h.mds.form;obtain⟨ta,tc,rfl⟩:=h.tms.form;obtain⟨la,lc,rfl⟩:=hl.form;have HI:Hd (ZaO Ts Ls=(decide (Ls.length<=10)&&Zdl Zc6 Ls&&Ls.all (leB Ts))):=rfl;clear h hl
 by_cases hl:Ls.length<=10
 case neg=>
  have HE:Hd (ZaO Ts Ls=false):=by unfold Hd;rw [HI.o,decide_eq_false hl];rfl
  have hgt:decide ((10:Int) < (Ls.length:Int))=true:=by simp;omega
  go_enter func127,ntmps127;go_wp2;go_ret;exact⟨Zaa HE.o.symm,Zac _ _⟩
 have hgt:decide ((10:Int) < (Ls.length:Int))=false:=by simp;omega
 go_enter func127,ntmps127;go_wp2_with fail;generalize hWa:w.alloc _=Wa;have HB:Hd (Zw_ w Wa):=by rw [<- hWa];exact Zac w _
 have HX:Hd (Box Wa w.heap.size #[.slice sa Ss.length sc,.slice ma Ms.length mc,.slice ta Ts.length tc]):=by rw [<- hWa];exact Box.new _ _ _ _ rfl
 clear hWa;refine (ZlA lo _ Ls _ (HG.o.below HB.o)).mono ?_;rintro e w1 ⟨rfl,hb1⟩;have HB1:Hd (Zw_ w w1):=HB.o.trans (hb1.mono HB.o.size);have HX1:=Zab (HX.o.on hb1);clear hb1 HB HX
 cases hr:Zdl Zc6 Ls with
 | false=>
  have HE:Hd (ZaO Ts Ls=false):=by unfold Hd;rw [HI.o,hr,decide_eq_true hl];rfl
  go_wp2;go_ret;exact⟨Zaa HE.o.symm,HB1.o⟩
 | true=>
  have HE:Hd (ZaO Ts Ls=Ls.all (leB Ts)):=by unfold Hd;rw [HI.o,hr,decide_eq_true hl];rfl
  go_wp2
  go_loopw [17] (fun i wr=>∃ k:Nat,i=.int .i64 k/\k<=Ls.length/\Zw_ w wr/\Box wr w.heap.size #[.slice sa Ss.length sc,.slice ma Ms.length mc,.slice ta Ts.length tc]/\∀ j (h:j < Ls.length),j < k->leB Ts Ls[j]=true) (fun i _=>Ls.length - (intOf i).toNat)
  case atStart=>exact⟨0,rfl,Nat.zero_le _,HB1.o,HX1.o,fun j _ h=>by omega⟩
  case round=>
   obtain⟨k,rfl,hk,hb,hx,hall⟩:=hrel;have HBr:=Zab hb;have HXr:=Zab hx;have HA:=Zab hall;clear hb hx hall
   by_cases hlt:k < Ls.length
   . obtain⟨b,off,rfl,hbw,-,hc⟩:=HG.o.full' (by omega)
     obtain⟨hs,hcell⟩:=hc k hlt;obtain⟨c0,c1,c2,c3⟩:=hcell.below HBr.o hbw;have HZ:=Zab hs;have HQ:Hd (leB Ts Ls[k]=(Zfp Ts Ls[k].tm&&Zan Ls[k].re&&inB 0 1000000 Ls[k].mo&&inB 0 Ls[k].mo Ls[k].fr)):=rfl;have HP:=Zab (ZhN Ts Ls[k].tm);have x5:=HXr.o.cell 2;simp at x5;have xlt:=HXr.o.lt;have x5:∀ o,(wr.alloc o).cell? ⟨w.heap.size,2,none⟩=some (.slice ta Ts.length tc):=fun o=>(Zai _ _ _ _ xlt).trans x5
     have HBA:∀ o,Hd (Zw_ w (wr.alloc o)):=fun o=>HBr.o.trans ((Zac _ _).mono HBr.o.size)
     clear hc hcell hs xlt;go_wp2_with fail;generalize hWb:wr.alloc _=Wb;have HBb:Hd (Zw_ w Wb):=by rw [<- hWb];exact (HBA _).o
     have HXb:Hd (Box Wb w.heap.size #[.slice sa Ss.length sc,.slice ma Ms.length mc,.slice ta Ts.length tc]):=by rw [<- hWb];exact HXr.o.on (Zac _ _)
     have HYb:Hd (Box Wb wr.heap.size #[.string Ls[k].tm,.string Ls[k].re,.int .i64 Ls[k].mo,.int .i64 Ls[k].fr]):=by rw [<- hWb];exact Box.new _ _ _ _ rfl
     clear hWb x5 HBA;refine (Zch lo _ Ts _ _ (HL.o.below HBb.o).tms).mono ?_;rintro e w2 ⟨rfl,hb2⟩;have HB2:Hd (Zw_ w w2):=HBb.o.trans (hb2.mono HBb.o.size);have HX2:=Zab (HXb.o.on hb2);have HY2:=Zab (HYb.o.on hb2);have s1:=HZ.o.s1;have y1:=HY2.o.cell 1;have y2:=HY2.o.cell 2;have y3:=HY2.o.cell 3;simp at y1 y2 y3;clear hb2 HBb HXb HYb
     cases h1:Zfp Ts Ls[k].tm with
     | false=>
      have HN:Hd (ZaO Ts Ls=false):=by unfold Hd;rw [HE.o];exact Zbc hlt (by rw [HQ.o,h1];rfl)
      have hd:decide (Zda Ts Ls[k].tm < 0)=true:=by rw [HP.o,h1];rfl
      go_wp2;go_ret;exact⟨Zaa HN.o.symm,HB2.o⟩
     | true=>
      have hd:decide (Zda Ts Ls[k].tm < 0)=false:=by rw [HP.o,h1];rfl
      cases h2:Zan Ls[k].re with
      | false=>
       have HN:Hd (ZaO Ts Ls=false):=by unfold Hd;rw [HE.o];exact Zbc hlt (by rw [HQ.o,h1,h2];rfl)
       go_wp2_with (go_at_call 68;refine (Zak _ _ s1).mono ?_;rintro e w' ⟨rfl,rfl⟩);go_ret;exact⟨Zaa HN.o.symm,HB2.o⟩
      | true=>
       cases h3:inB 0 1000000 Ls[k].mo with
       | false=>
        have HN:Hd (ZaO Ts Ls=false):=by unfold Hd;rw [HE.o];exact Zbc hlt (by rw [HQ.o,h1,h2,h3];rfl)
        go_wp2_with (first|(go_at_call 68;refine (Zak _ _ s1).mono ?_;rintro e w' ⟨rfl,rfl⟩)|(go_at_call 167;refine (Zah _ _ _ _).mono ?_;rintro e w' ⟨rfl,rfl⟩));go_ret;exact⟨Zaa HN.o.symm,HB2.o⟩
       | true=>
        cases h4:inB 0 Ls[k].mo Ls[k].fr with
        | false=>
         have HN:Hd (ZaO Ts Ls=false):=by unfold Hd;rw [HE.o];exact Zbc hlt (by rw [HQ.o,h1,h2,h3,h4];rfl)
         go_wp2_with (first|(go_at_call 68;refine (Zak _ _ s1).mono ?_;rintro e w' ⟨rfl,rfl⟩)|(go_at_call 167;refine (Zah _ _ _ _).mono ?_;rintro e w' ⟨rfl,rfl⟩));go_ret;exact⟨Zaa HN.o.symm,HB2.o⟩
        | true=>
         have HT:Hd (leB Ts Ls[k]=true):=by unfold Hd;rw [HQ.o,h1,h2,h3,h4];rfl
         go_wp2_with (first|(go_at_call 68;refine (Zak _ _ s1).mono ?_;rintro e w' ⟨rfl,rfl⟩)|(go_at_call 167;refine (Zah _ _ _ _).mono ?_;rintro e w' ⟨rfl,rfl⟩));go_roundw
         . exact⟨k+1,by go_num,by omega,HB2.o,HX2.o,Zbr HA.o hlt HT.o⟩
         . simp [intOf];omega
   . have HT:Hd (ZaO Ts Ls=true):=by unfold Hd;rw [HE.o];exact Zb2 (fun i hi=>HA.o i hi (by omega))
     go_wp2;go_ret;exact⟨Zaa HT.o.symm,HBr.o⟩
end
end
section
open Go.RowKit Go.Deep
variable {Ss:List Sh} {Ms:List Md} {k:Nat}
theorem ZjA (h:ZaJ Ss=false):Zay Ss Ms=false:=by unfold Zay;rw [h];rfl
theorem ZhG (h:12 < Ms.length):Zay Ss Ms=false:=by
 unfold Zay;rw [show decide (Ms.length<=12)=false from decide_eq_false (by omega)];simp
theorem ZgK (hk:k < Ms.length) (h:ZcZ Ss Ms[k]=false):Zay Ss Ms=false:=by
 unfold Zay;rw [show Ms.all (ZcZ Ss)=false from by rw [List.all_eq_false];exact⟨Ms[k],List.getElem_mem hk,by simp [h]⟩];simp
theorem ZjB (hk:k < Ss.length) (h:Zbn Ms Ss[k]=false):Zay Ss Ms=false:=by
 unfold Zay;rw [show Ss.all (Zbn Ms)=false from by rw [List.all_eq_false];exact⟨Ss[k],List.getElem_mem hk,by simp [h]⟩];simp
theorem Zjz (h1:ZaJ Ss=true) (h2:Ms.length<=12) (h3:∀ i (h:i < Ms.length),ZcZ Ss Ms[i]=true) (h4:∀ i (h:i < Ss.length),Zbn Ms Ss[i]=true):Zay Ss Ms=true:=by
 unfold Zay;simp only [Bool.and_eq_true,List.all_eq_true,decide_eq_true_eq];refine⟨⟨⟨h1,h2⟩,fun m hm=>?_⟩,fun x hx=>?_⟩
 . obtain⟨i,hi,rfl⟩:=List.getElem_of_mem hm;exact h3 i hi
 . obtain⟨i,hi,rfl⟩:=List.getElem_of_mem hx;exact h4 i hi
theorem ZiJ (lo lm:Nat) (sv mv:Value) (Ss:List Sh) (Ms:List Md) (w:World) (hS:Zba lo w sv Ss) (hM:ZbY lm w mv Ms) :
 Calls prog 98 #[sv,mv] w fun e w'=>e=.returned (.bool (Zay Ss Ms))/\Zw_ w w':=by
 have HS:=Zab hS;have HM:=Zab hM;obtain⟨a1,cap1,rfl⟩:=hS.form;obtain⟨a2,cap2,rfl⟩:=hM.form;clear hS hM;go_enter func98,ntmps98;go_wp2_with fail;refine (Zhl lo _ Ss _ HS.o).mono ?_;rintro e w1 ⟨rfl,hb1⟩;have HB1:=Zab hb1;clear hb1
 have hml:(Ms.length:Int)<=9223372036854775807:=by
  rcases HM.o with ⟨_,_,_,h⟩ | ⟨_,_,_,_,_,h,_⟩
  . rw [h];simp
  . unfold maxLen at h;omega
 have hsl:(Ss.length:Int)<=9223372036854775807:=by
  rcases HS.o with ⟨_,_,_,h⟩ | ⟨_,_,_,_,_,h,_⟩
  . rw [h];simp
  . unfold maxLen at h;omega
 cases hsb:ZaJ Ss with
 | false=>
  have HQ:Hd (Zay Ss Ms=false):=ZjA hsb;go_wp2;go_ret;exact⟨Zaa HQ.o.symm,HB1.o⟩
 | true=>
  by_cases h12:(Ms.length:Int)<=12
  . have HSB:=Zab hsb
    clear hsb;go_wp2
    go_loopw [5] (fun i wr=>∃ k:Nat,i=.int .i64 k/\k<=Ms.length/\Zw_ w wr/\∀ i (h:i < Ms.length),i < k->ZcZ Ss Ms[i]=true) (fun i _=>Ms.length - (intOf i).toNat)
    case atStart=>exact⟨0,rfl,by omega,HB1.o,fun i _ h=>by omega⟩
    case round=>
     obtain⟨k,rfl,hk,hb,hall⟩:=hrel;have HA:=Zab hall;have HB:=Zab hb;clear hall hb
     by_cases hlt:k < Ms.length
     . obtain⟨b,off,rfl,hbw,hc⟩:=HM.o.full' (by omega)
       obtain⟨hsz,hcell⟩:=hc k hlt;obtain⟨c0,c1,c2,c3,c4,c5⟩:=hcell.below HB.o hbw;clear hcell hc;go_wp2_with fail;refine (Zjs lo _ Ss Ms[k] _ (HS.o.below HB.o) hsz).mono ?_;rintro e w2 ⟨rfl,hb2⟩;have HB2:Hd (Zw_ w w2):=HB.o.trans (hb2.mono HB.o.size);clear hb2 c0 c1 c2 c3 c4 c5
       cases hmb:ZcZ Ss Ms[k] with
       | false=>
        have HQ:Hd (Zay Ss Ms=false):=ZgK hlt hmb;go_wp2;go_ret;exact⟨Zaa HQ.o.symm,HB2.o⟩
       | true=>
        go_wp2;go_roundw
        case rel=>exact⟨k+1,by go_num,by omega,HB2.o,fun i h h'=>by
                   by_cases e:i=k
                   . subst e;exact hmb
                   . exact HA.o i h (by omega)⟩
        . simp [intOf];omega
     . have HAll:Hd (∀ i (h:i < Ms.length),ZcZ Ss Ms[i]=true):=fun i h=>HA.o i h (by omega)
       have HBx:Hd (Zw_ w wr):=HB.o;clear HA HB HB1;go_wp2;clear hlt hk;rename_i wx _ _ _ _ _ _
       go_loopw [6] (fun i wr=>∃ k:Nat,i=.int .i64 k/\k<=Ss.length/\Zw_ w wr/\∀ i (h:i < Ss.length),i < k->Zbn Ms Ss[i]=true) (fun i _=>Ss.length - (intOf i).toNat)
       case atStart=>exact⟨0,rfl,by omega,HBx.o,fun i _ h=>by omega⟩
       case round=>
        clear HBx;obtain⟨j,rfl,hj,hb,hall⟩:=hrel;have HA:=Zab hall;have HB:=Zab hb;clear hall hb
        by_cases hlt:j < Ss.length
        . obtain⟨b,off,rfl,hbw,hc⟩:=HS.o.full' (by omega)
          obtain⟨hsz,fv,d0,d1,hst⟩:=hc j hlt;have c0:wr.cell? ⟨b,off+j*2,none⟩=some (.string Ss[j].kind):=by rw [HB.o.cell (p:=⟨b,_,none⟩) hbw];exact d0
          have c1:wr.cell? ⟨b,off+j*2+1,none⟩=some fv:=by rw [HB.o.cell (p:=⟨b,_,none⟩) hbw];exact d1
          obtain⟨fa,fcap,rfl⟩:=hst.form;have HST:=Zab (hst.below HB.o);have hbr:b < wr.heap.size:=Zk_ hbw HB.o.size
          have h6:Ss[j].fields.length<=6:=ZcO (ZbK HSB.o (List.getElem_mem hlt));clear d0 d1 hst hc;go_wp2
          go_region_with (go_at_call 150
                          refine (Zju lo lm _ _ Ss[j] Ms _ (HST.o.below (Zb_.drew)) (HM.o.below (HB.o.drew)) (by omega)).mono ?_;rintro e w2 ⟨v2,R,rfl,hb2,ho2,hro⟩;obtain⟨ra,rcap,rfl⟩:=ho2.form;have HRO:=Zab hro;have HB2:Hd (Zw_ w w2):=(HB.o.drew).trans (hb2.mono HB.o.size);have c1':w2.cell? ⟨b,off+j*2+1,none⟩=some (.slice fa Ss[j].fields.length fcap):=(hb2.cell (p:=⟨b,off+j*2+1,none⟩) hbr).trans c1;clear hb2 ho2 hro)
          all_goals
           by_cases hq:(R.length:Int)=(Ss[j].fields.length:Int)
           . have HSR:Hd (Zbn Ms Ss[j]=true):=HRO.o.2.2.1 (by omega)
             go_wp2;go_roundw
             case rel=>exact⟨j+1,by go_num,by omega,HB2.o,fun i h h'=>by
                        by_cases e:i=j
                        . subst e;exact HSR.o
                        . exact HA.o i h (by omega)⟩
             . simp [intOf];omega
           . have HSR:Hd (Zbn Ms Ss[j]=false):=by
              unfold Hd
              cases h:Zbn Ms Ss[j] with
              | false=>rfl
              | true=>exact absurd (HRO.o.2.2.2 h) (by omega)
             have HQ:Hd (Zay Ss Ms=false):=ZjB hlt HSR.o;go_wp2;go_ret;exact⟨Zaa HQ.o.symm,HB2.o⟩
        . have HQ:Hd (Zay Ss Ms=true):=Zjz HSB.o (by omega) HAll.o (fun i h=>HA.o i h (by omega))
          go_wp2;go_ret;exact⟨Zaa HQ.o.symm,HB.o⟩
  . have HQ:Hd (Zay Ss Ms=false):=ZhG (by omega)
    go_wp2;go_ret;exact⟨Zaa HQ.o.symm,HB1.o⟩
end
open Go.ChangeShapes Go.WideShapes Go.ChangeAt Go.RowKit Go.Deep
variable {fuel:Nat} {c0 c1 c2 c3:Value}
theorem Tryz.cells37:prog.cellsOf 37=11:=by kernel_rfl
theorem Tryz.laidOut:laidOutB prog=true:=by kernel_rfl
theorem ZsL {l:List Value} (h:l.length=11):∃ c0 c1 c2 c3 c4 c5 c6 c7 c8 c9 c10,l=[c0,c1,c2,c3,c4,c5,c6,c7,c8,c9,c10]:=by
 match l,h with
 | [c0,c1,c2,c3,c4,c5,c6,c7,c8,c9,c10],_=>exact⟨c0,c1,c2,c3,c4,c5,c6,c7,c8,c9,c10,rfl⟩
section
variable {H:Type} {enc:TypeId×Value->H} {W:World}
theorem Zpa {c4 c5 c6:Value}{x:DataW H×List MemPlace} (h:DataW.trod enc prog W 0 (fun _=>true) true fuel 30 [c0,c1,c2,c3,c4,c5,c6]=some x) :
 ∃ B:Bk,c0=.int .i64 B.now/\c1=.int .i64 B.tick/\c2=.int .i64 B.given/\Za2 0 W c3 c4 c5 c6 B:=by
 obtain⟨xs,n,_,_,_,hlen,hfld⟩:=DataW.trod_struct underlying30 h;simp only [Array.size,List.length_cons,List.length_nil] at hlen;have g0:DataW.trod enc prog W 0 (fun _=>true) true n 3 ((([c0,c1,c2,c3,c4,c5,c6]:List Value).drop 0).take (prog.cellsOf 3))=xs[0]?:=hfld 0 _ rfl;have g1:DataW.trod enc prog W 0 (fun _=>true) true n 3 ((([c0,c1,c2,c3,c4,c5,c6]:List Value).drop 1).take (prog.cellsOf 3))=xs[1]?:=hfld 1 _ rfl;have g2:DataW.trod enc prog W 0 (fun _=>true) true n 3 ((([c0,c1,c2,c3,c4,c5,c6]:List Value).drop 2).take (prog.cellsOf 3))=xs[2]?:=hfld 2 _ rfl;have g3:DataW.trod enc prog W 0 (fun _=>true) true n 26 ((([c0,c1,c2,c3,c4,c5,c6]:List Value).drop 3).take (prog.cellsOf 26))=xs[3]?:=hfld 3 _ rfl
 have g4:DataW.trod enc prog W 0 (fun _=>true) true n 23 ((([c0,c1,c2,c3,c4,c5,c6]:List Value).drop 4).take (prog.cellsOf 23))=xs[4]?:=hfld 4 _ rfl;have g5:DataW.trod enc prog W 0 (fun _=>true) true n 27 ((([c0,c1,c2,c3,c4,c5,c6]:List Value).drop 5).take (prog.cellsOf 27))=xs[5]?:=hfld 5 _ rfl;have g6:DataW.trod enc prog W 0 (fun _=>true) true n 28 ((([c0,c1,c2,c3,c4,c5,c6]:List Value).drop 6).take (prog.cellsOf 28))=xs[6]?:=hfld 6 _ rfl;simp only [Tryz.cells3,Tryz.cells26,Tryz.cells23,Tryz.cells27,Tryz.cells28,List.drop_succ_cons,List.drop_zero,List.take_succ_cons,List.take_zero] at g0 g1 g2 g3 g4 g5 g6;rw [List.getElem?_eq_getElem (by omega)] at g0 g1 g2 g3 g4 g5 g6;obtain⟨q0,e0,_,_⟩:=DataW.trod_int underlying3 g0;obtain⟨q1,e1,_,_⟩:=DataW.trod_int underlying3 g1;obtain⟨q2,e2,_,_⟩:=DataW.trod_int underlying3 g2
 simp only [List.cons.injEq,and_true] at e0 e1 e2;obtain⟨Os,hO⟩:=Zpe g3;obtain⟨Gs,hG⟩:=Zlh g4;obtain⟨Ls,hL⟩:=Zpd g5;obtain⟨Ps,hP⟩:=Zpf g6;exact⟨⟨q0,q1,q2,Os,Gs,Ls,Ps⟩,e0,e1,e2,hO,hG,hL,hP⟩
theorem Zpg {x:DataW H×List MemPlace} (h:DataW.trod enc prog W 0 (fun _=>true) true fuel 35 [c0,c1,c2,c3]=some x) :
 ∃ T:Sb,c0=.int .i64 T.now/\Zc5 0 W c1 c2 c3 T:=by
 obtain⟨xs,n,_,_,_,hlen,hfld⟩:=DataW.trod_struct underlying35 h;simp only [Array.size,List.length_cons,List.length_nil] at hlen;have g0:DataW.trod enc prog W 0 (fun _=>true) true n 3 ((([c0,c1,c2,c3]:List Value).drop 0).take (prog.cellsOf 3))=xs[0]?:=hfld 0 _ rfl;have g1:DataW.trod enc prog W 0 (fun _=>true) true n 31 ((([c0,c1,c2,c3]:List Value).drop 1).take (prog.cellsOf 31))=xs[1]?:=hfld 1 _ rfl;have g2:DataW.trod enc prog W 0 (fun _=>true) true n 32 ((([c0,c1,c2,c3]:List Value).drop 2).take (prog.cellsOf 32))=xs[2]?:=hfld 2 _ rfl;have g3:DataW.trod enc prog W 0 (fun _=>true) true n 33 ((([c0,c1,c2,c3]:List Value).drop 3).take (prog.cellsOf 33))=xs[3]?:=hfld 3 _ rfl;simp only [Tryz.cells3,Tryz.cells31,Tryz.cells32,Tryz.cells33,List.drop_succ_cons,List.drop_zero,List.take_succ_cons,List.take_zero] at g0 g1 g2 g3
 rw [List.getElem?_eq_getElem (by omega)] at g0 g1 g2 g3;obtain⟨q0,e0,_,_⟩:=DataW.trod_int underlying3 g0;simp only [List.cons.injEq,and_true] at e0;obtain⟨Ss,hS⟩:=Zph g1;obtain⟨Cs,hC⟩:=Zpb g2;obtain⟨Bs,hB⟩:=Zo9 g3;exact⟨⟨q0,Ss,Cs,Bs⟩,e0,hS,hC,hB⟩
theorem Zrh {r:Reach}{b0:Nat}{v:Value}{d:DataW H}{p:List MemPlace} (hv:Value.okWide prog W r b0 37 v) (h:DataW.Trod enc prog W 0 (fun _=>true) true 37 v d p) :
 ∃ (cs:List Value) (B:Bk) (T:Sb),v=.agg cs.toArray/\HdC 0 W cs B T:=by
 obtain⟨cs,rfl,hsz⟩:=okWide_struct underlying37 hv;obtain⟨fuel,hf⟩:=h;obtain⟨c0,c1,c2,c3,c4,c5,c6,c7,c8,c9,c10,hl⟩:=ZsL (l:=cs.toList) (by simpa using hsz.trans Tryz.cells37);replace hf:DataW.trod enc prog W 0 (fun _=>true) true fuel 37 cs.toList=some (d,p):=hf;rw [hl] at hf;obtain⟨xs,n,_,_,_,hlen,hfld⟩:=DataW.trod_struct underlying37 hf;simp only [Array.size,List.length_cons,List.length_nil] at hlen;have g0:DataW.trod enc prog W 0 (fun _=>true) true n 30 ((([c0,c1,c2,c3,c4,c5,c6,c7,c8,c9,c10]:List Value).drop 0).take (prog.cellsOf 30))=xs[0]?:=hfld 0 _ rfl;have g1:DataW.trod enc prog W 0 (fun _=>true) true n 35 ((([c0,c1,c2,c3,c4,c5,c6,c7,c8,c9,c10]:List Value).drop 7).take (prog.cellsOf 35))=xs[1]?:=hfld 1 _ rfl;simp only [Tryz.cells30,Tryz.cells35,List.drop_succ_cons,List.drop_zero,List.take_succ_cons,List.take_zero] at g0 g1
 rw [List.getElem?_eq_getElem (by omega)] at g0 g1;obtain⟨B,rfl,rfl,rfl,hB⟩:=Zpa g0;obtain⟨T,rfl,hT⟩:=Zpg g1;obtain⟨a0,k0,rfl⟩:=hB.obs.form;obtain⟨a1,k1,rfl⟩:=hB.grs.form;obtain⟨a2,k2,rfl⟩:=hB.les.form;obtain⟨a3,k3,rfl⟩:=hB.pus.form;obtain⟨a4,k4,rfl⟩:=hT.svs.form;obtain⟨a5,k5,rfl⟩:=hT.cps.form;obtain⟨a6,k6,rfl⟩:=hT.bes.form;exact⟨cs.toList,B,T,rfl,a0,k0,a1,k1,a2,k2,a3,k3,a4,k4,a5,k5,a6,k6,hl,hB,hT⟩
end
end Go.Proofs.YtbdhbihhgfpnnaaGreat
