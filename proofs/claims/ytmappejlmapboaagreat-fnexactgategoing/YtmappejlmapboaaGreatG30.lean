import Derived.Test.YtmappejlmapboaaGreatG27
import Derived.Test.YtmappejlmapboaaGreatG28
import Derived.Test.YtmappejlmapboaaGreatG29
set_option maxHeartbeats 16000000
set_option maxRecDepth 100000
open Go.Proofs.Tryz
namespace Go.Proofs.YtmappejlmapboaaGreat
section
open Go.RowKit Go.Deep Go.Maps
variable {Os:List Ob} {i:Nat}
def Zfw (Os:List Ob) (a b:Zy_) (i:Nat):Bool:=match Os[i]? with
 | some o=>(o.kd.toList == a.toList)&&(o.nm.toList == b.toList)
 | none=>false
theorem Zd1 {a b:Zy_} (h:i < Os.length):Zfw Os a b i=true↔Os[i].kd=a/\Os[i].nm=b:=by
 unfold Zfw;rw [List.getElem?_eq_getElem h];dsimp only;rw [Bool.and_eq_true,ZaA,ZaA]
def Zg4 (Os:List Ob):Prop:=∀ i j (hi:i < Os.length) (hj:j < Os.length),Os[i].kd=Os[j].kd->Os[i].nm=Os[j].nm->i=j
def Zek (Os:List Ob) (P:Nat->Bool) (a b:Zy_):Option Nat:=(List.range Os.length).find? fun i=>P i&&Zfw Os a b i
structure Zfv (Os:List Ob) (D:DataW Value) (P:Nat->Bool):Prop where
 isMap:IsMap D
 at':∀ a b:Zy_,a.size<=maxLen->b.size<=maxLen->∀ z,D.atKey (ZbG a b) z=match Zek Os P a b with
  | some i=>.held (.int .i64 (i:Int))
  | none=>z
theorem Zgm {P:Nat->Bool}{a b:Zy_} (h:Zek Os P a b=some i):P i=true/\∃ hi:i < Os.length,Os[i].kd=a/\Os[i].nm=b:=by
 unfold Zek at h;have h1:=List.find?_some (p:=fun i=>P i&&Zfw Os a b i) h;have h2:=List.mem_of_find?_eq_some h;rw [Bool.and_eq_true] at h1;exact⟨h1.1,List.mem_range.1 h2,(Zd1 (List.mem_range.1 h2)).1 h1.2⟩
theorem ZeY {P:Nat->Bool} (hd:Zg4 Os) {i:Nat} (hi:i < Os.length) (hp:P i=true):Zek Os P Os[i].kd Os[i].nm=some i:=by
 cases h:Zek Os P Os[i].kd Os[i].nm with
 | none=>
  unfold Zek at h;rw [List.find?_eq_none] at h;exact absurd (by rw [hp,(Zd1 hi).2 ⟨rfl,rfl⟩];rfl) (h i (List.mem_range.2 hi))
 | some j=>
  obtain⟨-,hj,h1,h2⟩:=Zgm h;rw [hd j i hj hi h1 h2]
theorem Zgl {P:Nat->Bool}{a b:Zy_} (h:∀ i (hi:i < Os.length),P i=true->¬ (Os[i].kd=a/\Os[i].nm=b)):Zek Os P a b=none:=by
 unfold Zek;rw [List.find?_eq_none];intro i hi hc;rw [Bool.and_eq_true] at hc;exact h i (List.mem_range.1 hi) hc.1 ((Zd1 (List.mem_range.1 hi)).1 hc.2)
theorem ZlU {P P':Nat->Bool} (h:∀ i,i < Os.length->P i=P' i) (a b:Zy_):Zek Os P a b=Zek Os P' a b:=by
 unfold Zek
 have:∀ L:List Nat,(∀ i ∈ L,i < Os.length)->L.find? (fun i=>P i&&Zfw Os a b i)=L.find? (fun i=>P' i&&Zfw Os a b i):=by
  intro L
  induction L with
  | nil=>intro _;rfl
  | cons x L ih=>
   intro hL;rw [List.find?_cons,List.find?_cons,h x (hL x (List.mem_cons_self ..)),ih fun i hi=>hL i (List.mem_cons_of_mem _ hi)]
 exact this _ fun i hi=>List.mem_range.1 hi
theorem Zfv.start (Os:List Ob):Zfv Os (.map []) (fun _=>false):=
 ⟨⟨[],rfl⟩,fun a b _ _ z=>by rw [Zgl (fun i hi h=>by cases h)];rfl⟩
theorem Zfv.congr {D:DataW Value}{P P':Nat->Bool} (h:Zfv Os D P) (e:∀ i,i < Os.length->P i=P' i):Zfv Os D P':=
 ⟨h.isMap,fun a b ha hb z=>by rw [h.at' a b ha hb,ZlU e]⟩
theorem Zfv.step {D:DataW Value}{P:Nat->Bool} (h:Zfv Os D P) (hd:Zg4 Os) {i:Nat} (hi:i < Os.length) (s0:Os[i].kd.size<=maxLen) (s1:Os[i].nm.size<=maxLen) :
 Zfv Os (D.put (ZbG Os[i].kd Os[i].nm) (.held (.int .i64 (i:Int)))) (fun q=>P q || q == i):=by
 refine⟨h.isMap.put _ _,fun a b ha hb z=>?_⟩
 by_cases e:a=Os[i].kd/\b=Os[i].nm
 . obtain⟨rfl,rfl⟩:=e
   rw [atKey_put_same h.isMap (ZeG _ _),ZeY hd hi (by simp)]
 . rw [atKey_put_other (fun e'=>e (Zeu.inj Zgt ha hb s0 s1 e')),h.at' a b ha hb]
   have:Zek Os P a b=Zek Os (fun q=>P q || q == i) a b:=by
    cases h1:Zek Os P a b with
    | some j=>
     obtain⟨hp,hj,rfl,rfl⟩:=Zgm h1;rw [ZeY hd hj (by simp [hp])]
    | none=>
     symm
     refine Zgl fun j hj hp hk=>?_
     rw [Bool.or_eq_true] at hp
     rcases hp with hp | hp
     . obtain⟨rfl,rfl⟩:=hk
       rw [ZeY hd hj hp] at h1
       cases h1
     . have:j=i:=by simpa using hp
       subst this;exact e ⟨hk.1.symm,hk.2.symm⟩
   rw [this]
theorem ZeV (Ss:List Sh) (o:Ob) (ro:Int) (kd nm:Zy_):Zdf Ss o ro kd nm=(Zdu Ss o).any (ZnY ro kd nm):=by
 unfold Zdf Zdu ZdN
 cases Zcj Ss o.kd <;> rfl
end
section
open Go.RowKit Go.Deep
theorem Zik {a b c:Zy_} (h:ZcE a b < 0) (h':ZcE b c < 0):ZcE a c < 0:=Zi4.2 (Znp (Zi4.1 h) (Zi4.1 h'))
theorem Zsz {a b:Int}:orI a b < 0↔a < 0\/(a=0/\b < 0):=by unfold orI;split <;> omega
theorem ZqO {a b c d:Zy_}:Zfd a b c d < 0↔ZcE a c < 0\/(a=c/\ZcE b d < 0):=by
 unfold Zfd;rw [Zsz,Zew]
theorem Zhd {a b c d:Zy_}:Zfd a b c d=0↔a=c/\b=d:=by
 unfold Zfd;rw [Zrm,Zew,Zew]
theorem Zij {a b c d e f:Zy_} (h:Zfd a b c d < 0) (h':Zfd c d e f < 0):Zfd a b e f < 0:=by
 rw [ZqO] at*
 rcases h with h | ⟨rfl,h⟩
 . rcases h' with h' | ⟨rfl,h'⟩
   . exact Or.inl (Zik h h')
   . exact Or.inl h
 . rcases h' with h' | ⟨rfl,h'⟩
   . exact Or.inl h'
   . exact Or.inr ⟨rfl,Zik h h'⟩
theorem Zih (x y z:Le) (h:Zdj x y < 0) (h':Zdj y z < 0):Zdj x z < 0:=Zij h h'
theorem Zmx {X:Type}{c:X->X->Int}{L:List X} (h:ZdC c L=true) {j:Nat} (hj:j+1 < L.length):c L[j] L[j+1] < 0:=by
 have:=ZgZ hj h;rw [Zd7 hj] at this;exact of_decide_eq_true this
theorem ZrN {X:Type}{c:X->X->Int}{L:List X} (tr:∀ x y z,c x y < 0->c y z < 0->c x z < 0) (h:ZdC c L=true) (i:Nat):∀ (d:Nat) (hj:i+d+1 < L.length),c (L[i]'(by omega)) L[i+d+1] < 0
 | 0,hj=>Zmx h hj
 | d+1,hj=>tr _ _ _ (ZrN tr h i d (by omega)) (Zmx (j:=i+d+1) h hj)
theorem Zjy {X:Type}{c:X->X->Int}{L:List X} (tr:∀ x y z,c x y < 0->c y z < 0->c x z < 0) (h:ZdC c L=true) {i j:Nat} (hi:i < L.length) (hj:j < L.length) (hij:i < j):c L[i] L[j] < 0:=by
 obtain⟨d,rfl⟩:∃ d,j=i+d+1:=⟨j - i - 1,by omega⟩
 exact ZrN tr h i d hj
theorem ZpT {X:Type}{c:X->X->Int}{L:List X} (tr:∀ x y z,c x y < 0->c y z < 0->c x z < 0) (h:ZdC c L=true) (t:X):ZsU c L t:=
 fun _ _ hi hj hij h'=>tr _ _ _ (Zjy tr h hi hj hij) h'
theorem Zrv {X:Type}{c:X->X->Int}{L:List X}{t:X}{p:Nat} (tr:∀ x y z,c x y < 0->c y z < 0->c x z < 0) (sub:∀ x y,c x y < 0->c y t=0->c x t < 0) (h:ZdC c L=true) (hp:Zto c L t p) :
 ZrJ c L t p=L.any fun x=>decide (c x t=0):=by
 unfold ZrJ
 cases hx:L[p]? with
 | some x=>
  obtain⟨hl,rfl⟩:=List.getElem?_eq_some_iff.1 hx
  show decide (c L[p] t=0)=_
  by_cases h0:c L[p] t=0
  . rw [decide_eq_true h0]
    exact (List.any_eq_true.2 ⟨L[p],List.getElem_mem hl,decide_eq_true h0⟩).symm
  . rw [decide_eq_false h0]
    refine (List.any_eq_false.2 fun y hy hc=>?_).symm;obtain⟨i,hi,rfl⟩:=List.getElem_of_mem hy;have hc':=of_decide_eq_true hc
    by_cases e:i < p
    . have:=hp.less i hi e
      omega
    . by_cases e2:i=p
      . subst e2;exact h0 hc'
      . have h1:=sub _ _ (Zjy tr h hl hi (by omega)) hc'
        have h2:=hp.more p hl Zl_
        omega
 | none=>
  have hl:L.length<=p:=List.getElem?_eq_none_iff.1 hx;refine (List.any_eq_false.2 fun y hy hc=>?_).symm;obtain⟨i,hi,rfl⟩:=List.getElem_of_mem hy;have:=hp.less i hi (by omega);have:=of_decide_eq_true hc
  omega
theorem Zsl (Ls:List Le) (t r:Zy_):(Ls.any fun x=>decide (Zdj x ⟨t,r,0,0⟩=0))=Ls.any (Zdz t r):=by
 congr 1
 funext x
 unfold Zdz Zdj;rw [Bool.eq_iff_iff,Bool.and_eq_true,ZaA,ZaA,decide_eq_true_iff,Zhd]
theorem Zhw (lo:Nat) (v:Value) (Ls:List Le) (t r:Zy_) (w:World) (hv:ZbH lo w v Ls) (hn:Ls.length<=1048576) (hr:ZdC Zdj Ls=true) :
 Calls prog 222 #[v,.string t,.string r] w
  fun e w'=>(∃ p:Nat,Zto Zdj Ls ⟨t,r,0,0⟩ p/\e=.returned (.tuple #[.int .i64 p,.bool (Ls.any (Zdz t r))]))/\Zw_ w w':=by
 have HV:=Zab hv;have HR:=Zab hr;obtain⟨a,cap,rfl⟩:=hv.form;clear hv hr;go_enter func222,ntmps222;go_wp2_with fail;refine (ZjA lo _ Ls ⟨t,r,0,0⟩ _ HV.o hn (ZpT Zih HR.o _)).mono ?_;rintro e w1 ⟨⟨p,hp,rfl⟩,hb⟩;have HP:=Zab hp;have HB:=Zab hb
 have HE:Hd (ZrJ Zdj Ls ⟨t,r,0,0⟩ p=Ls.any (Zdz t r)):=(Zrv Zih (fun x y h h0=>by
  obtain⟨e1,e2⟩:=Zhd.1 h0;unfold Zdj at h |-;simp only at e1 e2 |-;rw [<- e1,<- e2];exact h) HR.o hp).trans (Zsl Ls t r)
 clear hp hb;go_wp2
 go_ret2
 exact⟨⟨p,HP.o,by rw [HE.o];rfl⟩,HB.o⟩
end
section
open Go.RowKit Go.Deep
variable {k:Nat}
def gnB (given:Int) (g:Gr):Bool:=inB 1 given g.nu&&Zap g.tw&&Zai g.gb&&ZaW g.ru
def ZaT (B:Bk):Bool:=decide (B.gs.length<=24)&&ZdC ZgU B.gs&&B.gs.all (gnB B.given)
def leB (Ts:List Tm) (x:Le):Bool:=Zgf Ts x.tm&&Zap x.re&&inB 0 1000000 x.mo&&inB 0 x.mo x.fr
def ZaN (Ts:List Tm) (Ls:List Le):Bool:=decide (Ls.length<=10)&&ZdC Zdj Ls&&Ls.all (leB Ts)
def puB (B:Bk) (p:Pu):Bool:=B.ls.any (Zdz p.tm p.re)&&Zap p.dr&&inB 1 1000000 p.am&&inB B.tick (B.tick+10) p.un
def Za3 (B:Bk):Bool:=decide (B.ps.length<=24)&&ZdC Zg9 B.ps&&B.ps.all (puB B)
theorem ZcD {X:Type}{L:List X}{f:X->Bool} (hk:k < L.length) (h:f L[k]=false):L.all f=false:=by
 rw [List.all_eq_false];exact⟨L[k],List.getElem_mem hk,by simp [h]⟩
theorem Zev {X:Type}{L:List X}{f:X->Bool} (h:∀ i (h:i < L.length),f L[i]=true):L.all f=true:=by
 rw [List.all_eq_true];intro x hx;obtain⟨i,hi,rfl⟩:=List.getElem_of_mem hx;exact h i hi
theorem Zdt {X:Type}{L:List X}{f:X->Bool} (hall:∀ j (h:j < L.length),j < k->f L[j]=true) (hk:k < L.length) (h:f L[k]=true):∀ j (h:j < L.length),j < k+1->f L[j]=true:=fun j hj hjk=>by
 by_cases e:j=k
 . subst e;exact h
 . exact hall j hj (by omega)
theorem ZiF (Ts:List Tm) (s:Zy_):decide (Zdr Ts s < 0)=!Zgf Ts s:=by
 rw [Zhm];unfold Zdr
 by_cases h:plT Ts s < Ts.length
 . simp [h]
 . simp [h]
section
variable (lo:Nat) (ov gv lv pv:Value) (B:Bk) (w:World)
theorem ZhY (h:ZaU lo w ov gv lv pv B) :
 Calls prog 182 #[.agg #[.int .i64 B.now,.int .i64 B.tick,.int .i64 B.given,ov,gv,lv,pv]] w fun e w'=>e=.returned (.bool (ZaT B))/\Zw_ w w':=by
 have HG:=Zab h.grs;obtain⟨a0,k0,rfl⟩:=h.obs.form;obtain⟨a1,k1,rfl⟩:=h.grs.form;obtain⟨a2,k2,rfl⟩:=h.les.form;obtain⟨a3,k3,rfl⟩:=h.pus.form;have HI:Hd (ZaT B=(decide (B.gs.length<=24)&&ZdC ZgU B.gs&&B.gs.all (gnB B.given))):=rfl;clear h
 by_cases hl:B.gs.length<=24
 case neg=>
  have HE:Hd (ZaT B=false):=by unfold Hd;rw [HI.o,decide_eq_false hl];rfl
  have hgt:decide ((24:Int) < (B.gs.length:Int))=true:=by simp;omega
  go_enter func182,ntmps182;go_wp2;go_ret;exact⟨Zaa HE.o.symm,Zac _ _⟩
 have hgt:decide ((24:Int) < (B.gs.length:Int))=false:=by simp;omega
 go_enter func182,ntmps182;go_wp2_with fail;generalize hWa:w.alloc _=Wa;have HB:Hd (Zw_ w Wa):=by rw [<- hWa];exact Zac w _
 have HX:Hd (Box Wa w.heap.size #[.int .i64 B.now,.int .i64 B.tick,.int .i64 B.given,.slice a0 B.os.length k0,.slice a1 B.gs.length k1,.slice a2 B.ls.length k2,.slice a3 B.ps.length k3]):=by rw [<- hWa];exact Box.new _ _ _ _ rfl
 clear hWa;refine (ZmL lo _ B.gs _ (HG.o.below HB.o)).mono ?_;rintro e w1 ⟨rfl,hb1⟩;have HB1:Hd (Zw_ w w1):=HB.o.trans (hb1.mono HB.o.size);have HX1:=Zab (HX.o.on hb1);clear hb1 HB HX
 cases hr:ZdC ZgU B.gs with
 | false=>
  have HE:Hd (ZaT B=false):=by unfold Hd;rw [HI.o,hr,decide_eq_true hl];rfl
  go_wp2;go_ret;exact⟨Zaa HE.o.symm,HB1.o⟩
 | true=>
  have HE:Hd (ZaT B=B.gs.all (gnB B.given)):=by unfold Hd;rw [HI.o,hr,decide_eq_true hl];rfl
  have x4:=HX1.o.cell 4;simp at x4;go_wp2;clear x4
  go_loopw [18] (fun i wr=>∃ k:Nat,i=.int .i64 k/\k<=B.gs.length/\Zw_ w wr/\Box wr w.heap.size #[.int .i64 B.now,.int .i64 B.tick,.int .i64 B.given,.slice a0 B.os.length k0,.slice a1 B.gs.length k1,.slice a2 B.ls.length k2,.slice a3 B.ps.length k3]/\∀ j (h:j < B.gs.length),j < k->gnB B.given B.gs[j]=true) (fun i _=>B.gs.length - (intOf i).toNat)
  case atStart=>exact⟨0,rfl,Nat.zero_le _,HB1.o,HX1.o,fun j _ h=>by omega⟩
  case round=>
   obtain⟨k,rfl,hk,hb,hx,hall⟩:=hrel;have HBr:=Zab hb;have HXr:=Zab hx;have HA:=Zab hall;clear hb hx hall
   by_cases hlt:k < B.gs.length
   . obtain⟨b,off,rfl,hbw,-,hc⟩:=HG.o.full' (by omega)
     obtain⟨hs,vv0,hcell,hv0⟩:=hc k hlt;obtain⟨c0,c1,c2,c3,c4,c5,c6⟩:=hcell.below HBr.o hbw;have HV:=Zab hv0;have HZ:=Zab hs;obtain⟨va,vcap,rfl⟩:=hv0.form;have HQ:Hd (gnB B.given B.gs[k]=(inB 1 B.given B.gs[k].nu&&Zap B.gs[k].tw&&Zai B.gs[k].gb&&ZaW B.gs[k].ru)):=rfl;have x2:=HXr.o.cell 2;simp at x2;have xlt:=HXr.o.lt;have x2:∀ o,(wr.alloc o).cell? ⟨w.heap.size,2,none⟩=some (.int .i64 B.given):=fun o=>(Zaj _ _ _ _ xlt).trans x2
     have HBA:∀ o,Hd (Zw_ w (wr.alloc o)):=fun o=>HBr.o.trans ((Zac _ _).mono HBr.o.size)
     have s0:=hs.s0;have s1:=hs.s1;clear hc hcell hv0 hs xlt
     cases h1:inB 1 B.given B.gs[k].nu with
     | false=>
      have HN:Hd (ZaT B=false):=by unfold Hd;rw [HE.o];exact ZcD hlt (by rw [HQ.o,h1];rfl)
      go_wp2_with (first|(go_at_call 209;refine (ZaQ _ _ _ _).mono ?_;rintro e w' ⟨rfl,rfl⟩));go_ret;exact⟨Zaa HN.o.symm,(HBA _).o⟩
     | true=>
      cases h2:Zap B.gs[k].tw with
      | false=>
       have HN:Hd (ZaT B=false):=by unfold Hd;rw [HE.o];exact ZcD hlt (by rw [HQ.o,h1,h2];rfl)
       go_wp2_with (first|(go_at_call 209;refine (ZaQ _ _ _ _).mono ?_;rintro e w' ⟨rfl,rfl⟩)|(go_at_call 206;refine (Zan _ _ s0).mono ?_;rintro e w' ⟨rfl,rfl⟩));go_ret;exact⟨Zaa HN.o.symm,(HBA _).o⟩
      | true=>
       cases h3:Zai B.gs[k].gb with
       | false=>
        have HN:Hd (ZaT B=false):=by unfold Hd;rw [HE.o];exact ZcD hlt (by rw [HQ.o,h1,h2,h3];rfl)
        go_wp2_with (first|(go_at_call 209;refine (ZaQ _ _ _ _).mono ?_;rintro e w' ⟨rfl,rfl⟩)|(go_at_call 206;refine (Zan _ _ s0).mono ?_;rintro e w' ⟨rfl,rfl⟩)|(go_at_call 216;refine (ZbJ _ _ s1).mono ?_;rintro e w' ⟨rfl,rfl⟩));go_ret;exact⟨Zaa HN.o.symm,(HBA _).o⟩
       | true=>
        have HRZ:Hd (Zg6 B.gs[k].ru):=⟨HZ.o.s2,HZ.o.s3,HZ.o.s4⟩;go_wp2_with (first|(go_at_call 209;refine (ZaQ _ _ _ _).mono ?_;rintro e w' ⟨rfl,rfl⟩)|(go_at_call 206;refine (Zan _ _ s0).mono ?_;rintro e w' ⟨rfl,rfl⟩)|(go_at_call 216;refine (ZbJ _ _ s1).mono ?_;rintro e w' ⟨rfl,rfl⟩));refine (Zkh lo B.gs[k].ru _ _ ((HV.o.below HBr.o).below (Zac _ _)) HRZ.o).mono ?_;rintro e w2 ⟨rfl,hb2⟩;have HB2:Hd (Zw_ w w2):=(HBA _).o.trans (hb2.mono (HBA _).o.size);have HX2:=Zab ((HXr.o.on (Zac _ _)).on hb2);clear hb2
        cases h4:ZaW B.gs[k].ru with
        | false=>
         have HN:Hd (ZaT B=false):=by unfold Hd;rw [HE.o];exact ZcD hlt (by rw [HQ.o,h1,h2,h3,h4];rfl)
         go_wp2;go_ret;exact⟨Zaa HN.o.symm,HB2.o⟩
        | true=>
         have HT:Hd (gnB B.given B.gs[k]=true):=by unfold Hd;rw [HQ.o,h1,h2,h3,h4];rfl
         go_wp2;go_roundw
         . exact⟨k+1,by go_num,by omega,HB2.o,HX2.o,Zdt HA.o hlt HT.o⟩
         . simp [intOf];omega
   . have HT:Hd (ZaT B=true):=by unfold Hd;rw [HE.o];exact Zev (fun i hi=>HA.o i hi (by omega))
     go_wp2;go_ret;exact⟨Zaa HT.o.symm,HBr.o⟩
theorem ZhZ (h:ZaU lo w ov gv lv pv B) (hn:B.ls.length<=1048576) (hrl:ZdC Zdj B.ls=true) (ht:inB 0 1000000 B.tick=true) :
 Calls prog 184 #[.agg #[.int .i64 B.now,.int .i64 B.tick,.int .i64 B.given,ov,gv,lv,pv]] w fun e w'=>e=.returned (.bool (Za3 B))/\Zw_ w w':=by
 have HG:=Zab h.pus;have HL:=Zab h.les;have HRL:=Zab hrl;obtain⟨a0,k0,rfl⟩:=h.obs.form;obtain⟨a1,k1,rfl⟩:=h.grs.form;obtain⟨a2,k2,rfl⟩:=h.les.form;obtain⟨a3,k3,rfl⟩:=h.pus.form;have HI:Hd (Za3 B=(decide (B.ps.length<=24)&&ZdC Zg9 B.ps&&B.ps.all (puB B))):=rfl;have ht0:0<=B.tick/\B.tick<=1000000:=by unfold inB at ht;exact of_decide_eq_true ht
 clear h hrl ht
 by_cases hl:B.ps.length<=24
 case neg=>
  have HE:Hd (Za3 B=false):=by unfold Hd;rw [HI.o,decide_eq_false hl];rfl
  have hgt:decide ((24:Int) < (B.ps.length:Int))=true:=by simp;omega
  go_enter func184,ntmps184;go_wp2;go_ret;exact⟨Zaa HE.o.symm,Zac _ _⟩
 have hgt:decide ((24:Int) < (B.ps.length:Int))=false:=by simp;omega
 go_enter func184,ntmps184;go_wp2_with fail;generalize hWa:w.alloc _=Wa;have HB:Hd (Zw_ w Wa):=by rw [<- hWa];exact Zac w _
 have HX:Hd (Box Wa w.heap.size #[.int .i64 B.now,.int .i64 B.tick,.int .i64 B.given,.slice a0 B.os.length k0,.slice a1 B.gs.length k1,.slice a2 B.ls.length k2,.slice a3 B.ps.length k3]):=by rw [<- hWa];exact Box.new _ _ _ _ rfl
 clear hWa;refine (ZmO lo _ B.ps _ (HG.o.below HB.o)).mono ?_;rintro e w1 ⟨rfl,hb1⟩;have HB1:Hd (Zw_ w w1):=HB.o.trans (hb1.mono HB.o.size);have HX1:=Zab (HX.o.on hb1);clear hb1 HB HX
 cases hr:ZdC Zg9 B.ps with
 | false=>
  have HE:Hd (Za3 B=false):=by unfold Hd;rw [HI.o,hr,decide_eq_true hl];rfl
  go_wp2;go_ret;exact⟨Zaa HE.o.symm,HB1.o⟩
 | true=>
  have HE:Hd (Za3 B=B.ps.all (puB B)):=by unfold Hd;rw [HI.o,hr,decide_eq_true hl];rfl
  have x4:=HX1.o.cell 6;simp at x4;go_wp2;clear x4
  go_loopw [20] (fun i wr=>∃ k:Nat,i=.int .i64 k/\k<=B.ps.length/\Zw_ w wr/\Box wr w.heap.size #[.int .i64 B.now,.int .i64 B.tick,.int .i64 B.given,.slice a0 B.os.length k0,.slice a1 B.gs.length k1,.slice a2 B.ls.length k2,.slice a3 B.ps.length k3]/\∀ j (h:j < B.ps.length),j < k->puB B B.ps[j]=true) (fun i _=>B.ps.length - (intOf i).toNat)
  case atStart=>exact⟨0,rfl,Nat.zero_le _,HB1.o,HX1.o,fun j _ h=>by omega⟩
  case round=>
   obtain⟨k,rfl,hk,hb,hx,hall⟩:=hrel;have HBr:=Zab hb;have HXr:=Zab hx;have HA:=Zab hall;clear hb hx hall
   by_cases hlt:k < B.ps.length
   . obtain⟨b,off,rfl,hbw,-,hc⟩:=HG.o.full' (by omega)
     obtain⟨hs,hcell⟩:=hc k hlt;obtain⟨c0,c1,c2,c3,c4⟩:=hcell.below HBr.o hbw;have HZ:=Zab hs;have HQ:Hd (puB B B.ps[k]=(B.ls.any (Zdz B.ps[k].tm B.ps[k].re)&&Zap B.ps[k].dr&&inB 1 1000000 B.ps[k].am&&inB B.tick (B.tick+10) B.ps[k].un)):=rfl;have x5:=HXr.o.cell 5;simp at x5;have xlt:=HXr.o.lt;have x5:∀ o,(wr.alloc o).cell? ⟨w.heap.size,5,none⟩=some (.slice a2 B.ls.length k2):=fun o=>(Zaj _ _ _ _ xlt).trans x5
     have HBA:∀ o,Hd (Zw_ w (wr.alloc o)):=fun o=>HBr.o.trans ((Zac _ _).mono HBr.o.size)
     clear hc hcell hs xlt;go_wp2_with fail;generalize hWb:wr.alloc _=Wb;have HBb:Hd (Zw_ w Wb):=by rw [<- hWb];exact (HBA _).o
     have HXb:Hd (Box Wb w.heap.size #[.int .i64 B.now,.int .i64 B.tick,.int .i64 B.given,.slice a0 B.os.length k0,.slice a1 B.gs.length k1,.slice a2 B.ls.length k2,.slice (some ⟨b,off,none⟩) B.ps.length k3]):=by rw [<- hWb];exact HXr.o.on (Zac _ _)
     have HYb:Hd (Box Wb wr.heap.size #[.string B.ps[k].dr,.string B.ps[k].tm,.string B.ps[k].re,.int .i64 B.ps[k].am,.int .i64 B.ps[k].un]):=by rw [<- hWb];exact Box.new _ _ _ _ rfl
     clear hWb x5 HBA;refine (Zhw lo _ B.ls _ _ _ (HL.o.below HBb.o) hn HRL.o).mono ?_;rintro e w2 ⟨⟨p,-,rfl⟩,hb2⟩;have HB2:Hd (Zw_ w w2):=HBb.o.trans (hb2.mono HBb.o.size);have HX2:=Zab (HXb.o.on hb2);have HY2:=Zab (HYb.o.on hb2);have s0:=HZ.o.s0;have y0:=HY2.o.cell 0;have y3:=HY2.o.cell 3;have y4:=HY2.o.cell 4;have z1:=HX2.o.cell 1;simp at y0 y3 y4 z1;clear hb2 HBb HXb HYb
     cases h1:B.ls.any (Zdz B.ps[k].tm B.ps[k].re) with
     | false=>
      have HN:Hd (Za3 B=false):=by unfold Hd;rw [HE.o];exact ZcD hlt (by rw [HQ.o,h1];rfl)
      go_wp2;go_ret;exact⟨Zaa HN.o.symm,HB2.o⟩
     | true=>
      cases h2:Zap B.ps[k].dr with
      | false=>
       have HN:Hd (Za3 B=false):=by unfold Hd;rw [HE.o];exact ZcD hlt (by rw [HQ.o,h1,h2];rfl)
       go_wp2_with (go_at_call 206;refine (Zan _ _ s0).mono ?_;rintro e w' ⟨rfl,rfl⟩);go_ret;exact⟨Zaa HN.o.symm,HB2.o⟩
      | true=>
       cases h3:inB 1 1000000 B.ps[k].am with
       | false=>
        have HN:Hd (Za3 B=false):=by unfold Hd;rw [HE.o];exact ZcD hlt (by rw [HQ.o,h1,h2,h3];rfl)
        go_wp2_with (first|(go_at_call 206;refine (Zan _ _ s0).mono ?_;rintro e w' ⟨rfl,rfl⟩)|(go_at_call 209;refine (ZaQ _ _ _ _).mono ?_;rintro e w' ⟨rfl,rfl⟩));go_ret;exact⟨Zaa HN.o.symm,HB2.o⟩
       | true=>
        cases h4:inB B.tick (B.tick+10) B.ps[k].un with
        | false=>
         have HN:Hd (Za3 B=false):=by unfold Hd;rw [HE.o];exact ZcD hlt (by rw [HQ.o,h1,h2,h3,h4];rfl)
         go_wp2_with (first|(go_at_call 206;refine (Zan _ _ s0).mono ?_;rintro e w' ⟨rfl,rfl⟩)|(go_at_call 209;refine (ZaQ _ _ _ _).mono ?_;rintro e w' ⟨rfl,rfl⟩));go_ret;exact⟨Zaa HN.o.symm,HB2.o⟩
        | true=>
         have HT:Hd (puB B B.ps[k]=true):=by unfold Hd;rw [HQ.o,h1,h2,h3,h4];rfl
         go_wp2_with (first|(go_at_call 206;refine (Zan _ _ s0).mono ?_;rintro e w' ⟨rfl,rfl⟩)|(go_at_call 209;refine (ZaQ _ _ _ _).mono ?_;rintro e w' ⟨rfl,rfl⟩));go_roundw
         . exact⟨k+1,by go_num,by omega,HB2.o,HX2.o,Zdt HA.o hlt HT.o⟩
         . simp [intOf];omega
   . have HT:Hd (Za3 B=true):=by unfold Hd;rw [HE.o];exact Zev (fun i hi=>HA.o i hi (by omega))
     go_wp2;go_ret;exact⟨Zaa HT.o.symm,HBr.o⟩
end
section
variable (lo:Nat) (sv mv tv lv:Value) (Ss:List Sh) (Ms:List Md) (Ts:List Tm) (Ls:List Le) (w:World)
theorem Zho (h:ZbF lo w sv mv tv Ss Ms Ts) (hl:ZbH lo w lv Ls) :
 Calls prog 183 #[.agg #[sv,mv,tv],lv] w fun e w'=>e=.returned (.bool (ZaN Ts Ls))/\Zw_ w w':=by
 have HL:=Zab h;have HG:=Zab hl;obtain⟨sa,sc,rfl⟩:=h.shs.form;obtain⟨ma,mc,rfl⟩:=h.mds.form;obtain⟨ta,tc,rfl⟩:=h.tms.form;obtain⟨la,lc,rfl⟩:=hl.form;have HI:Hd (ZaN Ts Ls=(decide (Ls.length<=10)&&ZdC Zdj Ls&&Ls.all (leB Ts))):=rfl;clear h hl
 by_cases hl:Ls.length<=10
 case neg=>
  have HE:Hd (ZaN Ts Ls=false):=by unfold Hd;rw [HI.o,decide_eq_false hl];rfl
  have hgt:decide ((10:Int) < (Ls.length:Int))=true:=by simp;omega
  go_enter func183,ntmps183;go_wp2;go_ret;exact⟨Zaa HE.o.symm,Zac _ _⟩
 have hgt:decide ((10:Int) < (Ls.length:Int))=false:=by simp;omega
 go_enter func183,ntmps183;go_wp2_with fail;generalize hWa:w.alloc _=Wa;have HB:Hd (Zw_ w Wa):=by rw [<- hWa];exact Zac w _
 have HX:Hd (Box Wa w.heap.size #[.slice sa Ss.length sc,.slice ma Ms.length mc,.slice ta Ts.length tc]):=by rw [<- hWa];exact Box.new _ _ _ _ rfl
 clear hWa;refine (ZmM lo _ Ls _ (HG.o.below HB.o)).mono ?_;rintro e w1 ⟨rfl,hb1⟩;have HB1:Hd (Zw_ w w1):=HB.o.trans (hb1.mono HB.o.size);have HX1:=Zab (HX.o.on hb1);clear hb1 HB HX
 cases hr:ZdC Zdj Ls with
 | false=>
  have HE:Hd (ZaN Ts Ls=false):=by unfold Hd;rw [HI.o,hr,decide_eq_true hl];rfl
  go_wp2;go_ret;exact⟨Zaa HE.o.symm,HB1.o⟩
 | true=>
  have HE:Hd (ZaN Ts Ls=Ls.all (leB Ts)):=by unfold Hd;rw [HI.o,hr,decide_eq_true hl];rfl
  go_wp2
  go_loopw [17] (fun i wr=>∃ k:Nat,i=.int .i64 k/\k<=Ls.length/\Zw_ w wr/\Box wr w.heap.size #[.slice sa Ss.length sc,.slice ma Ms.length mc,.slice ta Ts.length tc]/\∀ j (h:j < Ls.length),j < k->leB Ts Ls[j]=true) (fun i _=>Ls.length - (intOf i).toNat)
  case atStart=>exact⟨0,rfl,Nat.zero_le _,HB1.o,HX1.o,fun j _ h=>by omega⟩
  case round=>
   obtain⟨k,rfl,hk,hb,hx,hall⟩:=hrel;have HBr:=Zab hb;have HXr:=Zab hx;have HA:=Zab hall;clear hb hx hall
   by_cases hlt:k < Ls.length
   . obtain⟨b,off,rfl,hbw,-,hc⟩:=HG.o.full' (by omega)
     obtain⟨hs,hcell⟩:=hc k hlt;obtain⟨c0,c1,c2,c3⟩:=hcell.below HBr.o hbw;have HZ:=Zab hs;have HQ:Hd (leB Ts Ls[k]=(Zgf Ts Ls[k].tm&&Zap Ls[k].re&&inB 0 1000000 Ls[k].mo&&inB 0 Ls[k].mo Ls[k].fr)):=rfl;have HP:=Zab (ZiF Ts Ls[k].tm);have x5:=HXr.o.cell 2;simp at x5;have xlt:=HXr.o.lt;have x5:∀ o,(wr.alloc o).cell? ⟨w.heap.size,2,none⟩=some (.slice ta Ts.length tc):=fun o=>(Zaj _ _ _ _ xlt).trans x5
     have HBA:∀ o,Hd (Zw_ w (wr.alloc o)):=fun o=>HBr.o.trans ((Zac _ _).mono HBr.o.size)
     clear hc hcell hs xlt;go_wp2_with fail;generalize hWb:wr.alloc _=Wb;have HBb:Hd (Zw_ w Wb):=by rw [<- hWb];exact (HBA _).o
     have HXb:Hd (Box Wb w.heap.size #[.slice sa Ss.length sc,.slice ma Ms.length mc,.slice ta Ts.length tc]):=by rw [<- hWb];exact HXr.o.on (Zac _ _)
     have HYb:Hd (Box Wb wr.heap.size #[.string Ls[k].tm,.string Ls[k].re,.int .i64 Ls[k].mo,.int .i64 Ls[k].fr]):=by rw [<- hWb];exact Box.new _ _ _ _ rfl
     clear hWb x5 HBA;refine (Zcu lo _ Ts _ _ (HL.o.below HBb.o).tms).mono ?_;rintro e w2 ⟨rfl,hb2⟩;have HB2:Hd (Zw_ w w2):=HBb.o.trans (hb2.mono HBb.o.size);have HX2:=Zab (HXb.o.on hb2);have HY2:=Zab (HYb.o.on hb2);have s1:=HZ.o.s1;have y1:=HY2.o.cell 1;have y2:=HY2.o.cell 2;have y3:=HY2.o.cell 3;simp at y1 y2 y3;clear hb2 HBb HXb HYb
     cases h1:Zgf Ts Ls[k].tm with
     | false=>
      have HN:Hd (ZaN Ts Ls=false):=by unfold Hd;rw [HE.o];exact ZcD hlt (by rw [HQ.o,h1];rfl)
      have hd:decide (Zdr Ts Ls[k].tm < 0)=true:=by rw [HP.o,h1];rfl
      go_wp2;go_ret;exact⟨Zaa HN.o.symm,HB2.o⟩
     | true=>
      have hd:decide (Zdr Ts Ls[k].tm < 0)=false:=by rw [HP.o,h1];rfl
      cases h2:Zap Ls[k].re with
      | false=>
       have HN:Hd (ZaN Ts Ls=false):=by unfold Hd;rw [HE.o];exact ZcD hlt (by rw [HQ.o,h1,h2];rfl)
       go_wp2_with (go_at_call 206;refine (Zan _ _ s1).mono ?_;rintro e w' ⟨rfl,rfl⟩);go_ret;exact⟨Zaa HN.o.symm,HB2.o⟩
      | true=>
       cases h3:inB 0 1000000 Ls[k].mo with
       | false=>
        have HN:Hd (ZaN Ts Ls=false):=by unfold Hd;rw [HE.o];exact ZcD hlt (by rw [HQ.o,h1,h2,h3];rfl)
        go_wp2_with (first|(go_at_call 206;refine (Zan _ _ s1).mono ?_;rintro e w' ⟨rfl,rfl⟩)|(go_at_call 209;refine (ZaQ _ _ _ _).mono ?_;rintro e w' ⟨rfl,rfl⟩));go_ret;exact⟨Zaa HN.o.symm,HB2.o⟩
       | true=>
        cases h4:inB 0 Ls[k].mo Ls[k].fr with
        | false=>
         have HN:Hd (ZaN Ts Ls=false):=by unfold Hd;rw [HE.o];exact ZcD hlt (by rw [HQ.o,h1,h2,h3,h4];rfl)
         go_wp2_with (first|(go_at_call 206;refine (Zan _ _ s1).mono ?_;rintro e w' ⟨rfl,rfl⟩)|(go_at_call 209;refine (ZaQ _ _ _ _).mono ?_;rintro e w' ⟨rfl,rfl⟩));go_ret;exact⟨Zaa HN.o.symm,HB2.o⟩
        | true=>
         have HT:Hd (leB Ts Ls[k]=true):=by unfold Hd;rw [HQ.o,h1,h2,h3,h4];rfl
         go_wp2_with (first|(go_at_call 206;refine (Zan _ _ s1).mono ?_;rintro e w' ⟨rfl,rfl⟩)|(go_at_call 209;refine (ZaQ _ _ _ _).mono ?_;rintro e w' ⟨rfl,rfl⟩));go_roundw
         . exact⟨k+1,by go_num,by omega,HB2.o,HX2.o,Zdt HA.o hlt HT.o⟩
         . simp [intOf];omega
   . have HT:Hd (ZaN Ts Ls=true):=by unfold Hd;rw [HE.o];exact Zev (fun i hi=>HA.o i hi (by omega))
     go_wp2;go_ret;exact⟨Zaa HT.o.symm,HBr.o⟩
end
end
section
open Go.RowKit Go.Deep Go.Maps
def Zju (Ps:List Pu):List Tri:=Ps.map fun p=>(p.tm,p.re,p.am)
theorem Zq6 (Ps:List Pu) (t r:Zy_):Zlo (Zju Ps) t r=Zfx Ps t r:=by
 unfold Zlo Zju Zfx;rw [List.map_map]
 congr 1
 refine List.map_congr_left fun p _=>?_
 unfold Zmo;simp only [Function.comp]
 by_cases h:p.tm=t/\p.re=r
 . obtain⟨h1,h2⟩:=h
   rw [if_pos ⟨h1,h2⟩,if_pos (by rw [Bool.and_eq_true];exact⟨ZaA.2 h1,ZaA.2 h2⟩)]
 . rw [if_neg h,if_neg (fun hb=>h (by rw [Bool.and_eq_true] at hb;exact⟨ZaA.1 hb.1,ZaA.1 hb.2⟩))]
theorem ZoQ (lo:Nat) (v:Value) (Ps:List Pu) (w:World) (hv:Zb7 lo w v Ps) (hn:Ps.length<=1048576) :
 Calls prog 223 #[v] w
  fun e w'=>e=.returned (.map (some w.heap.size))/\Zw_ w w'/\∃ D:DataW Unit,w'.ownsMap prog 251 (plainElem prog 3) w.heap.size Ps.length D/\ZfF (Zju Ps) D:=by
 have HV:=Zab hv;obtain⟨a,cap,rfl⟩:=hv.form;clear hv;have hmm:=@run_makeMap prog;go_enter func223,ntmps223;go_wp2;clear hmm
 go_loopw [9] (fun i wr=>∃ k:Nat,i=.int .i64 k/\k<=Ps.length/\Zw_ w wr/\∃ D:DataW Unit,wr.ownsMap prog 251 (plainElem prog 3) w.heap.size k D/\ZfF (Zju (Ps.take k)) D) (fun i _=>Ps.length - (intOf i).toNat)
 case atStart=>exact⟨0,rfl,Nat.zero_le _,Zac _ _,.map [],World.ownsMap_made _ _ _ _,ZfF.start⟩
 case round=>
  obtain⟨k,rfl,hk,hb,D,ho,hsum⟩:=hrel;have HB:=Zab hb;have HSUM:=Zab hsum;clear hb hsum
  by_cases hlt:k < Ps.length
  . obtain⟨b,off,rfl,hbw,-,hc⟩:=HV.o.full' (by omega)
    obtain⟨hs,hcell⟩:=hc k hlt;obtain⟨c0,c1,c2,c3,c4⟩:=hcell.below HB.o hbw;have HZ:=Zab hs;have HT:Hd (Zju (Ps.take (k+1))=Zju (Ps.take k) ++ [(Ps[k].tm,Ps[k].re,Ps[k].am)]):=by unfold Hd Zju;rw [List.take_succ_eq_append_getElem hlt,List.map_append];rfl
    have hol:=ho.lt
    obtain⟨Wb,hWb,HYb,HBb,HOb⟩:∃ Wb,Wb=wr.alloc (.cells #[.string Ps[k].dr,.string Ps[k].tm,.string Ps[k].re,.int .i64 Ps[k].am,.int .i64 Ps[k].un] 144)/\Hd (Box Wb wr.heap.size #[.string Ps[k].dr,.string Ps[k].tm,.string Ps[k].re,.int .i64 Ps[k].am,.int .i64 Ps[k].un])/\Hd (Zw_ w Wb)/\Hd (Wb.ownsMap prog 251 (plainElem prog 3) w.heap.size k D):=by
     refine⟨_,rfl,?_,?_,?_⟩
     . exact Box.new _ _ _ _ rfl
     . exact HB.o.trans ((Zac _ _).mono HB.o.size)
     . exact ho.alloc _
    obtain⟨c,v0,st,w1,hent,hat,hwc,hl0,hl1,hg1,hs1,hst⟩:=Zj0 Zgt underlying218 underlying3 Zi1 HOb.o.drew (by unfold maxLen;omega) (Zeu.mk' hs.s1 hs.s2);have ew:IntKind.i64.wrap (c+Ps[k].am)=wrap64 (c+Ps[k].am):=IntWalk.i64_left _;obtain⟨w2,hrun2,ho2,hg2,hs2⟩:=hst (IntKind.i64.wrap (c+Ps[k].am)) (by rw [ew];exact wrap64_wf _);rw [ew] at ho2;have HO2:=Zab ho2;have HG2:=Zab hg2;have HAT:=Zab hat;have y1:=HYb.o.cell 1;have y2:=HYb.o.cell 2;have y3:=HYb.o.cell 3;simp at y1 y2 y3;simp only [goInt] at hent hrun2;clear ew hst ho2 hg2 hg1 hat ho hc hcell hs hs1 hs2 hwc;go_wp2;rw [<- hWb];clear hWb
    go_region
    all_goals go_wp2
    all_goals go_roundw
    all_goals first
     | (case rel=>exact⟨k+1,by go_num,by omega,ZbR HBb.o.drew HG2.o Zl_,_,HO2.o,by rw [HT.o];exact HSUM.o.step HZ.o.s1 HZ.o.s2 HAT.o _⟩)
     | (case measure=>simp [intOf];omega)
  . have he:k=Ps.length:=by omega
    subst he;have HT:Hd (Zju (Ps.take Ps.length)=Zju Ps):=by unfold Hd;rw [List.take_length]
    have HO:=Zab ho;clear ho;go_wp2;go_ret;exact⟨rfl,HB.o,D,HO.o,HT.o ▸ HSUM.o⟩
def Zff (Ss:List Sh) (Ts:List Tm) (B:Bk) (g:Le):Bool:=decide (wrap64 (Zdk Ss Ts B.os g.tm g.re+Zfx B.ps g.tm g.re+g.fr)=g.mo)
def ZkR (Ss:List Sh) (Ts:List Tm) (B:Bk):Bool:=B.ls.all (Zff Ss Ts B)
section
variable (lo:Nat) (sv mv tv ov gv lv pv:Value) (Ss:List Sh) (Ms:List Md) (Ts:List Tm) (B:Bk) (w:World)
theorem Zki (hl:ZbF lo w sv mv tv Ss Ms Ts) (h:ZaU lo w ov gv lv pv B) (hn:Zbn B) :
 Calls prog 185 #[.agg #[sv,mv,tv],.agg #[.int .i64 B.now,.int .i64 B.tick,.int .i64 B.given,ov,gv,lv,pv]] w fun e w'=>e=.returned (.bool (ZkR Ss Ts B))/\Zw_ w w':=by
 have HL:=Zab hl;have HK:=Zab h;have HTR:=Zab (ZsK hl.shs h.obs.sizes);have hpl:B.ps.length<=1048576:=hn.2.2.2.1;have hll:B.ls.length<=1048576:=hn.2.2.1.1;have HOS:Hd (Zbl B.os):=hn.1;obtain⟨sa,sc,rfl⟩:=hl.shs.form;obtain⟨ma,mc,rfl⟩:=hl.mds.form;obtain⟨ta,tc,rfl⟩:=hl.tms.form;obtain⟨a0,k0,rfl⟩:=h.obs.form;obtain⟨a1,k1,rfl⟩:=h.grs.form;obtain⟨a2,k2,rfl⟩:=h.les.form;obtain⟨a3,k3,rfl⟩:=h.pus.form;clear h hl hn;go_enter func185,ntmps185;go_wp2;generalize hWa:(World.alloc (w.alloc _) _)=Wa;have HB:Hd (Zw_ w Wa):=by rw [<- hWa];exact (Zac w _).alloc (by simp) _
 have HX:Hd (Box Wa w.heap.size #[.slice sa Ss.length sc,.slice ma Ms.length mc,.slice ta Ts.length tc]):=by rw [<- hWa];exact (Box.new _ _ _ _ rfl).on (Zac _ _)
 have HY:Hd (Box Wa (w.heap.size+1) #[.int .i64 B.now,.int .i64 B.tick,.int .i64 B.given,.slice a0 B.os.length k0,.slice a1 B.gs.length k1,.slice a2 B.ls.length k2,.slice a3 B.ps.length k3]):=by rw [<- hWa];exact Box.new _ _ _ _ (by simp)
 clear hWa;have HD:Hd (Zw_ w Wa.drew):=HB.o.drew
 go_region_held3 (Zbo Wa w.heap.size #[.slice sa Ss.length sc,.slice ma Ms.length mc,.slice ta Ts.length tc] (w.heap.size+1) #[.int .i64 B.now,.int .i64 B.tick,.int .i64 B.given,.slice a0 B.os.length k0,.slice a1 B.gs.length k1,.slice a2 B.ls.length k2,.slice a3 B.ps.length k3])
  (first
    | (with_reducible exact Zbo.drew HX.o HY.o)
    | (with_reducible exact Zbo.on (by assumption) (by assumption)))
  (first
    | (go_at_call 159
       refine (Zl9 lo _ _ Ss B.os _ (HL.o.below HD.o).shs (HK.o.below HD.o).obs HOS.o).mono ?_;rintro e w1 ⟨rfl,hb1,D,ho,hsum⟩;have HC1:Hd (Zw_ w w1):=HD.o.trans (hb1.mono HD.o.size);have HOW:Hd (w1.ownsMap prog 251 (plainElem prog 3) Wa.heap.size (Zcw Ss B.os).length D):=ho;have HSU:=Zab hsum;clear ho hsum)
    | (go_at_call 223
       refine (ZoQ lo _ B.ps _ (HK.o.below HC1.o).pus hpl).mono ?_;rintro e w2 ⟨rfl,hb2,D2,ho2,hsum2⟩;have HC2:Hd (Zw_ w w2):=HC1.o.trans (hb2.mono HC1.o.size);have HOW2:=Zab (HOW.o.kept (ZaB hb2) (by simp));have HOD:=Zab ho2;have HSD:=Zab hsum2;clear ho2 hsum2))
 have HCa:Hd (Below Wa.heap.size Wa w2):=(Zb_.drew.trans hb1).trans (hb2.mono ((Zb_.drew.trans hb1:Below Wa.heap.size Wa w1)).size);have HX2:=Zab (HX.o.on HCa.o);have HY2:=Zab (HY.o.on HCa.o);clear HCa hb1 hb2 HOW HC1 HD HB HX HY;generalize Wa.heap.size=ba at*;generalize w1.heap.size=bd at*;have y5:=HY2.o.cell 5;simp at y5;go_wp2;clear y5
 go_loopw [21] (fun i wr=>∃ k:Nat,i=.int .i64 k/\k<=B.ls.length/\Zw_ w wr/\Box wr w.heap.size #[.slice sa Ss.length sc,.slice ma Ms.length mc,.slice ta Ts.length tc]/\wr.ownsMap prog 251 (plainElem prog 3) ba (Zcw Ss B.os).length D/\wr.ownsMap prog 251 (plainElem prog 3) bd B.ps.length D2/\∀ j (h:j < B.ls.length),j < k->Zff Ss Ts B B.ls[j]=true) (fun i _=>B.ls.length - (intOf i).toNat)
 case atStart=>exact⟨0,rfl,Nat.zero_le _,HC2.o,HX2.o,HOW2.o,HOD.o,fun j _ h=>by omega⟩
 case round=>
  obtain⟨k,rfl,hk,hb,hx,hoa,hod,hall⟩:=hrel;have HBr:=Zab hb;have HXr:=Zab hx;have HOA:=Zab hoa;have HODr:=Zab hod;have HA:=Zab hall;clear hb hx hoa hod hall
  by_cases hlt:k < B.ls.length
  . obtain⟨b,off,rfl,hbw,-,hc⟩:=HK.o.les.full' (by omega)
    obtain⟨hs,hcell⟩:=hc k hlt;obtain⟨c0,c1,c2,c3⟩:=hcell.below HBr.o hbw;have HZ:=Zab hs;have HQ:Hd (Zff Ss Ts B B.ls[k]=decide (wrap64 (Zdk Ss Ts B.os B.ls[k].tm B.ls[k].re+Zfx B.ps B.ls[k].tm B.ls[k].re+B.ls[k].fr)=B.ls[k].mo)):=rfl;have HUZ:=Zab (Zoh Ss Ts B.ls[k].tm B.ls[k].re B.os);have x2:=HXr.o.cell 2;simp at x2;have xlt:=HXr.o.lt;have x2:∀ o,(wr.alloc o).cell? ⟨w.heap.size,2,none⟩=some (.slice ta Ts.length tc):=fun o=>(Zaj _ _ _ _ xlt).trans x2
    clear hc hcell hs xlt;go_wp2_with fail;generalize hWb:wr.alloc _=Wb;have HBb:Hd (Zw_ w Wb):=by rw [<- hWb];exact HBr.o.trans ((Zac _ _).mono HBr.o.size)
    have HXb:Hd (Box Wb w.heap.size #[.slice sa Ss.length sc,.slice ma Ms.length mc,.slice ta Ts.length tc]):=by rw [<- hWb];exact HXr.o.on (Zac _ _)
    have HYb:Hd (Box Wb wr.heap.size #[.string B.ls[k].tm,.string B.ls[k].re,.int .i64 B.ls[k].mo,.int .i64 B.ls[k].fr]):=by rw [<- hWb];exact Box.new _ _ _ _ rfl
    have HOA1:Hd (Wb.ownsMap prog 251 (plainElem prog 3) ba (Zcw Ss B.os).length D):=by rw [<- hWb];exact HOA.o.alloc _
    have HOD1:Hd (Wb.ownsMap prog 251 (plainElem prog 3) bd B.ps.length D2):=by rw [<- hWb];exact HODr.o.alloc _
    clear hWb x2 HOA HODr;refine (ZjH lo _ Ts _ _ _ _ (HL.o.below HBb.o).tms HOA1.o HSU.o HTR.o).mono ?_;rintro e w3 ⟨rfl,hb3⟩;have HB3:Hd (Zw_ w w3):=HBb.o.trans (hb3.mono HBb.o.size);have HX3:=Zab (HXb.o.on hb3);have HY3:=Zab (HYb.o.on hb3);have HOA3:=Zab (HOA1.o.kept (ZaB hb3) (by simp));have HOD3:=Zab (HOD1.o.kept (ZaB hb3) (by simp))
    have hlk:∀ n,(Instr.lookup 218 (.map (some bd)) (.agg #[.string B.ls[k].tm,.string B.ls[k].re]) false).run prog (w3.drewN n)=.ok (.int .i64 (wrap64 (Zfx B.ps B.ls[k].tm B.ls[k].re))) (w3.drewN n):=fun n=>by
     obtain⟨c,hl,hat,-⟩:=(ZcH HOD3.o (w':=w3.drewN n) (by simp)).lookup_int Zi0 underlying218 underlying3 (Zi1 _) (Zeu.mk' HZ.o.s0 HZ.o.s1);rw [HSD.o.sums _ _ HZ.o.s0 HZ.o.s1,Zq6] at hat;injection hat with hat
     injection hat with _ hat
     rw [hat];exact hl
    have y0:=HY3.o.cell 0;have y1:=HY3.o.cell 1;have y2:=HY3.o.cell 2;have y3:=HY3.o.cell 3;simp at y0 y1 y2 y3;clear hb3 HBb HXb HYb HOA1 HOD1;have HV:Hd (wrap64 (wrap64 (wrap64 ((Zcw Ss B.os).map (ZhM Ts B.ls[k].tm B.ls[k].re)).sum+wrap64 (Zfx B.ps B.ls[k].tm B.ls[k].re))+B.ls[k].fr)=wrap64 (Zdk Ss Ts B.os B.ls[k].tm B.ls[k].re+Zfx B.ps B.ls[k].tm B.ls[k].re+B.ls[k].fr)):=by unfold Hd;rw [ZhQ,Zf0,HUZ.o]
    go_wp2
    go_quiet (fail)
    have HBn:Hd (Zw_ w (w3.drewN nq)):=below_drewN HB3.o _;have HXn:=Zab (HX3.o.on (below_drewN Zb_ nq));have HOAn:=Zab (ZcH HOA3.o (w':=w3.drewN nq) (by simp));have HODn:=Zab (ZcH HOD3.o (w':=w3.drewN nq) (by simp));clear hlk
    by_cases hq:wrap64 (wrap64 (wrap64 ((Zcw Ss B.os).map (ZhM Ts B.ls[k].tm B.ls[k].re)).sum+wrap64 (Zfx B.ps B.ls[k].tm B.ls[k].re))+B.ls[k].fr)=B.ls[k].mo
    . have HT:Hd (Zff Ss Ts B B.ls[k]=true):=by unfold Hd;rw [HQ.o,<- HV.o];exact decide_eq_true hq
      have hd:(wrap64 (wrap64 (wrap64 ((Zcw Ss B.os).map (ZhM Ts B.ls[k].tm B.ls[k].re)).sum+wrap64 (Zfx B.ps B.ls[k].tm B.ls[k].re))+B.ls[k].fr) != B.ls[k].mo)=false:=by simp [hq]
      clear hq;go_wp2;go_roundw
      . exact⟨k+1,by go_num,by omega,HBn.o,HXn.o,HOAn.o,HODn.o,Zdt HA.o hlt HT.o⟩
      . simp [intOf];omega
    . have HN:Hd (ZkR Ss Ts B=false):=ZcD hlt (by rw [HQ.o,<- HV.o];exact decide_eq_false hq)
      have hd:(wrap64 (wrap64 (wrap64 ((Zcw Ss B.os).map (ZhM Ts B.ls[k].tm B.ls[k].re)).sum+wrap64 (Zfx B.ps B.ls[k].tm B.ls[k].re))+B.ls[k].fr) != B.ls[k].mo)=true:=by simp [hq]
      clear hq;go_wp2;go_ret;exact⟨Zaa HN.o.symm,HBn.o⟩
  . have HT:Hd (ZkR Ss Ts B=true):=Zev (fun i hi=>HA.o i hi (by omega))
    go_wp2;go_ret;exact⟨Zaa HT.o.symm,HBr.o⟩
end
end
open Go.RowKit Go.Deep
variable {b o c0 c1 lo hi off n lo' hi':Nat} {w w' v wr v':World} {x y:Gr} {Xl:List Gr} {vv0:Value}
def Zf2 (b o c0 c1:Nat) (w:World) (x:Gr):Prop:=Zem x/\∃ (vv0:Value),c0<=c1/\ZcM w b o x vv0/\Zav c0 c1 w vv0 x.vb
theorem Zf2.near {o1 d0 d1:Nat} (h:Zf2 b o c0 c1 w x) (hn:ZbT b o1 7 d0 d1 w w') (ho:o+7<=o1\/o1+7<=o) (hi:c1<=d0\/d1<=c0) (hb:b < c0\/c1<=b):Zf2 b o c0 c1 w' x:=by
 obtain⟨hs,vv0,q0,hc,l0⟩:=h;obtain⟨h0,h1,h2,h3,h4,h5,h6⟩:=hc;have e:∀ t,t < 7->w'.cell? ⟨b,o+t,none⟩=w.cell? ⟨b,o+t,none⟩:=fun t ht=>hn.cell _ (by omega)
 have e0:w'.cell? ⟨b,o,none⟩=w.cell? ⟨b,o,none⟩:=hn.cell _ (by omega);exact⟨hs,vv0,q0,⟨e0.trans h0,(e 1 (by omega)).trans h1,(e 2 (by omega)).trans h2,(e 3 (by omega)).trans h3,(e 4 (by omega)).trans h4,(e 5 (by omega)).trans h5,(e 6 (by omega)).trans h6⟩,l0.near hn (by omega) (by omega)⟩
theorem Zf2.touch (h:Zf2 b o c0 c1 w x) (ht:Zag lo hi w w') (hlt:b < w.heap.size) (hb:b < lo\/hi<=b) (hi':c1<=lo\/hi<=c0):Zf2 b o c0 c1 w' x:=by
 obtain⟨hs,vv0,q0,hc,l0⟩:=h;obtain⟨h0,h1,h2,h3,h4,h5,h6⟩:=hc;exact⟨hs,vv0,q0,⟨(ht.cell (p:=⟨b,o,none⟩) hlt hb).trans h0,(ht.cell (p:=⟨b,o+1,none⟩) hlt hb).trans h1,(ht.cell (p:=⟨b,o+2,none⟩) hlt hb).trans h2,(ht.cell (p:=⟨b,o+3,none⟩) hlt hb).trans h3,(ht.cell (p:=⟨b,o+4,none⟩) hlt hb).trans h4,(ht.cell (p:=⟨b,o+5,none⟩) hlt hb).trans h5,(ht.cell (p:=⟨b,o+6,none⟩) hlt hb).trans h6⟩,l0.touch ht (by omega)⟩
theorem Zf2.below (h:Zf2 b o c0 c1 w x) (ht:Zw_ w w') (hlt:b < w.heap.size):Zf2 b o c0 c1 w' x:=by
 obtain⟨hs,vv0,q0,hc,l0⟩:=h;obtain⟨h0,h1,h2,h3,h4,h5,h6⟩:=hc;exact⟨hs,vv0,q0,⟨(ht.cell (p:=⟨b,o,none⟩) hlt).trans h0,(ht.cell (p:=⟨b,o+1,none⟩) hlt).trans h1,(ht.cell (p:=⟨b,o+2,none⟩) hlt).trans h2,(ht.cell (p:=⟨b,o+3,none⟩) hlt).trans h3,(ht.cell (p:=⟨b,o+4,none⟩) hlt).trans h4,(ht.cell (p:=⟨b,o+5,none⟩) hlt).trans h5,(ht.cell (p:=⟨b,o+6,none⟩) hlt).trans h6⟩,l0.below ht⟩
structure ZfA (lo hi:Nat) (w:World) (b off n:Nat) (c:Nat->Nat×Nat) (X:Nat->Gr):Prop where
 lt:b < w.heap.size
 low:lo<=b
 bh:b < hi
 seg:∀ i,i < n->lo<=(c i).1/\(c i).2<=hi/\(b < (c i).1\/(c i).2<=b)
 mono:∀ i j,i < j->j < n->(c i).2<=(c j).1
 frz:∀ i,w.frozen? ⟨b,i,none⟩=false
 row:∀ i,i < n->Zf2 b (off+i*7) (c i).1 (c i).2 w (X i)
theorem ZfA.near {c:Nat->Nat×Nat}{X:Nat->Gr} (h:ZfA lo hi w b off n c X) {j:Nat} (hj:j < n) (hn:ZbT b (off+j*7) 7 (c j).1 (c j).2 w w') {x:Gr} (hx:Zf2 b (off+j*7) (c j).1 (c j).2 w' x):ZfA lo hi w' b off n c (fun i=>if i=j then x else X i):=by
 refine⟨Zk_ h.lt hn.size,h.low,h.bh,h.seg,h.mono,fun i=>(hn.frz i).trans (h.frz i),fun i hi'=>?_⟩
 by_cases e:i=j
 . subst e;rw [if_pos rfl];exact hx
 . rw [if_neg e]
   refine (h.row i hi').near hn (by omega) ?_ (h.seg i hi').2.2
   rcases Nat.lt_or_ge i j with hij | hij
   . exact Or.inl (h.mono i j hij hj)
   . exact Or.inr (h.mono j i (by omega) hi')
theorem ZfA.touch {c:Nat->Nat×Nat}{X:Nat->Gr} (h:ZfA lo hi w b off n c X) (ht:Zag lo' hi' w w') (ho:hi<=lo'\/hi'<=lo):ZfA lo hi w' b off n c X:=by
 have h1:=h.low;have h2:=h.bh;refine⟨Zk_ h.lt ht.size,h.low,h.bh,h.seg,h.mono,fun i=>(ht.frozen (p:=⟨b,i,none⟩) h.lt (by simp only [];omega)).trans (h.frz i),fun i hi'=>?_⟩;have h5:=h.seg i hi';exact (h.row i hi').touch ht h.lt (by omega) (by omega)
theorem ZfA.below {c:Nat->Nat×Nat}{X:Nat->Gr} (h:ZfA lo hi w b off n c X) (ht:Zw_ w w'):ZfA lo hi w' b off n c X:=
 ⟨Zk_ h.lt ht.size,h.low,h.bh,h.seg,h.mono,fun i=>(ht.frozen (p:=⟨b,i,none⟩) h.lt).trans (h.frz i),fun i hi'=>(h.row i hi').below ht h.lt⟩
theorem ZfA.to {c:Nat->Nat×Nat}{X Y:Nat->Gr} (h:ZfA lo hi w b off n c X) (e:∀ i,i < n->X i=Y i):ZfA lo hi w b off n c Y:=
 ⟨h.lt,h.low,h.bh,h.seg,h.mono,h.frz,fun i hi'=>e i hi' ▸ h.row i hi'⟩
def Zb6 (lo hi:Nat) (w:World) (v:Value) (Xl:List Gr):Prop:=
 (∃ (a:Option Addr) (cap:Nat),v=.slice a 0 cap/\Xl=[])\/
 ∃ (b off cap:Nat) (c:Nat->Nat×Nat) (X:Nat->Gr),v=.slice (some ⟨b,off,none⟩) Xl.length cap/\Xl≠[]/\Xl.length<=maxLen/\Xl.length<=cap/\(∀ i (h:i < Xl.length),X i=Xl[i])/\ZfA lo hi w b off Xl.length c X
theorem Zb6.touch {v:Value} (h:Zb6 lo hi w v Xl) (ht:Zag lo' hi' w w') (ho:hi<=lo'\/hi'<=lo):Zb6 lo hi w' v Xl:=by
 rcases h with h | ⟨b,off,cap,c,X,h1,h2,h3,h4,h5,h6⟩
 . exact Or.inl h
 . exact Or.inr ⟨b,off,cap,c,X,h1,h2,h3,h4,h5,h6.touch ht ho⟩
theorem Zb6.below {v:Value} (h:Zb6 lo hi w v Xl) (ht:Zw_ w w'):Zb6 lo hi w' v Xl:=by
 rcases h with h | ⟨b,off,cap,c,X,h1,h2,h3,h4,h5,h6⟩
 . exact Or.inl h
 . exact Or.inr ⟨b,off,cap,c,X,h1,h2,h3,h4,h5,h6.below ht⟩
theorem Zb6.form {v:Value} (h:Zb6 lo hi w v Xl):∃ a cap,v=.slice a Xl.length cap:=by
 rcases h with ⟨a,cap,h,rfl⟩ | ⟨b,off,cap,c,X,h1,_⟩
 . exact⟨a,cap,h⟩
 . exact⟨_,cap,h1⟩
theorem Zb6.at {v:Value} (h:Zb6 lo hi w v Xl):ZbV lo w v Xl:=by
 rcases h with h | ⟨b,off,cap,c,X,h1,h2,h3,h4,h5,h6⟩
 . exact Or.inl h
 . refine Or.inr ⟨b,off,cap,h1,h2,h3,h6.lt,h6.low,h4,fun i hi'=>?_⟩
   have hr:=h6.row i hi';have g0:=h6.seg i hi';rw [h5 i hi'] at hr;obtain⟨hs,vv0,q0,hc,l0⟩:=hr;exact⟨hs,vv0,hc,(l0.in').mono (by omega)⟩
def ZsO (k:Int) (x:Gr):Gr:=⟨k,mtB (k+1),mtB (k+1+1),Zed (k+1+1+1) x.vb.length,mtB (k+1+1+1+x.vb.length),mtB (k+1+1+1+x.vb.length+1),mtB (k+1+1+1+x.vb.length+1+1)⟩
def Zti (x:Gr):Nat:=6+x.vb.length
def ZdQ (Xl:List Gr) (i:Nat):Nat:=((Xl.take i).map Zti).sum
def Znt (k:Int) (Xl:List Gr):List Gr:=Xl.mapIdx (fun i x=>ZsO (k+(ZdQ Xl i:Int)) x)
theorem ZdI (k:Int) (Xl:List Gr):(Znt k Xl).length=Xl.length:=by unfold Znt;simp
theorem ZpB (k:Int) (Xl:List Gr) (i:Nat) (h:i < (Znt k Xl).length) (h':i < Xl.length):(Znt k Xl)[i]=ZsO (k+(ZdQ Xl i:Int)) Xl[i]:=List.getElem_mapIdx (f:=fun i x=>ZsO (k+(ZdQ Xl i:Int)) x) (h:=h)
theorem ZiG {i:Nat} (h:i < Xl.length):ZdQ Xl (i+1)=ZdQ Xl i+Zti Xl[i]:=by
 unfold ZdQ;rw [List.take_succ_eq_append_getElem h,List.map_append,List.sum_append];simp
theorem Zmr (hn:ZeN Xl):∀ {i:Nat},i<=Xl.length->ZdQ Xl i<=i*3000000:=by
 intro i
 induction i with
 | zero=>intro _;simp [ZdQ]
 | succ i ih=>
  intro hi';have h1:=ih (by omega);rw [ZiG (by omega)]
  have h2:Zti Xl[i]<=3000000:=by
   have hsm:=hn.2 i (by omega);unfold Zen at hsm;unfold Zti
   omega
  omega
structure Ze9 (wr:World) (b o c0 c1:Nat) (vv0:Value) (v:World) (y:Gr):Prop where
 near:ZbT b o 7 c0 c1 wr v
 bc:b < c0\/c1<=b
 q0:c0<=c1
 cells:ZcM v b o y vv0
 l0:Zav c0 c1 v vv0 y.vb
 frz:∀ i,v.frozen? ⟨b,i,none⟩=false
 lt:b < v.heap.size
theorem Ze9.below (h:Ze9 wr b o c0 c1 vv0 v y) (hb:Below v.heap.size v v'):Ze9 wr b o c0 c1 vv0 v' y:=
 ⟨h.near.trans (ZbT.below hb h.lt),h.bc,h.q0,h.cells.below hb h.lt,h.l0.below hb,fun i=>(hb.frozen (p:=⟨b,i,none⟩) h.lt).trans (h.frz i),Zk_ h.lt hb.size⟩
theorem Ze9.s0 (h:Ze9 wr b o c0 c1 vv0 v y) (u:Int):Ze9 wr b o c0 c1 vv0 (v.setCell ⟨b,o,none⟩ (.int .i64 u)) { y with nu:=u }:=by
 obtain⟨h0,h1,h2,h3,h4,h5,h6⟩:=h.cells;have ht:Zag b (b+1) v (v.setCell ⟨b,o,none⟩ (.int .i64 u)):=Zag.setCell _ _ _ _ _ ⟨Nat.le_refl _,by simp only [];omega⟩;have hbc:=h.bc;have hq0:=h.q0;exact⟨h.near.trans (ZbT.set _ _ _ _ _ _ _ _ (by omega) (by omega)),h.bc,h.q0,⟨World.cell?_setCell_same' _ _ _ (by rw [h0];rfl),(cne (by omega)).trans h1,(cne (by omega)).trans h2,(cne (by omega)).trans h3,(cne (by omega)).trans h4,(cne (by omega)).trans h5,(cne (by omega)).trans h6⟩,h.l0.touch ht (by omega),fun i=>by rw [World.frozen?_setCell];exact h.frz i,by simpa [World.setCell] using h.lt⟩
theorem Ze9.s1 (h:Ze9 wr b o c0 c1 vv0 v y) (u:Zy_):Ze9 wr b o c0 c1 vv0 (v.setCell ⟨b,o+1,none⟩ (.string u)) { y with tw:=u }:=by
 obtain⟨h0,h1,h2,h3,h4,h5,h6⟩:=h.cells;have ht:Zag b (b+1) v (v.setCell ⟨b,o+1,none⟩ (.string u)):=Zag.setCell _ _ _ _ _ ⟨Nat.le_refl _,by simp only [];omega⟩;have hbc:=h.bc;have hq0:=h.q0;exact⟨h.near.trans (ZbT.set _ _ _ _ _ _ _ _ (by omega) (by omega)),h.bc,h.q0,⟨(cne (by omega)).trans h0,World.cell?_setCell_same' _ _ _ (by rw [h1];rfl),(cne (by omega)).trans h2,(cne (by omega)).trans h3,(cne (by omega)).trans h4,(cne (by omega)).trans h5,(cne (by omega)).trans h6⟩,h.l0.touch ht (by omega),fun i=>by rw [World.frozen?_setCell];exact h.frz i,by simpa [World.setCell] using h.lt⟩
theorem Ze9.s2 (h:Ze9 wr b o c0 c1 vv0 v y) (u:Zy_):Ze9 wr b o c0 c1 vv0 (v.setCell ⟨b,o+2,none⟩ (.string u)) { y with gb:=u }:=by
 obtain⟨h0,h1,h2,h3,h4,h5,h6⟩:=h.cells;have ht:Zag b (b+1) v (v.setCell ⟨b,o+2,none⟩ (.string u)):=Zag.setCell _ _ _ _ _ ⟨Nat.le_refl _,by simp only [];omega⟩;have hbc:=h.bc;have hq0:=h.q0;exact⟨h.near.trans (ZbT.set _ _ _ _ _ _ _ _ (by omega) (by omega)),h.bc,h.q0,⟨(cne (by omega)).trans h0,(cne (by omega)).trans h1,World.cell?_setCell_same' _ _ _ (by rw [h2];rfl),(cne (by omega)).trans h3,(cne (by omega)).trans h4,(cne (by omega)).trans h5,(cne (by omega)).trans h6⟩,h.l0.touch ht (by omega),fun i=>by rw [World.frozen?_setCell];exact h.frz i,by simpa [World.setCell] using h.lt⟩
theorem Ze9.s4 (h:Ze9 wr b o c0 c1 vv0 v y) (u:Zy_):Ze9 wr b o c0 c1 vv0 (v.setCell ⟨b,o+4,none⟩ (.string u)) { y with kd:=u }:=by
 obtain⟨h0,h1,h2,h3,h4,h5,h6⟩:=h.cells;have ht:Zag b (b+1) v (v.setCell ⟨b,o+4,none⟩ (.string u)):=Zag.setCell _ _ _ _ _ ⟨Nat.le_refl _,by simp only [];omega⟩;have hbc:=h.bc;have hq0:=h.q0;exact⟨h.near.trans (ZbT.set _ _ _ _ _ _ _ _ (by omega) (by omega)),h.bc,h.q0,⟨(cne (by omega)).trans h0,(cne (by omega)).trans h1,(cne (by omega)).trans h2,(cne (by omega)).trans h3,World.cell?_setCell_same' _ _ _ (by rw [h4];rfl),(cne (by omega)).trans h5,(cne (by omega)).trans h6⟩,h.l0.touch ht (by omega),fun i=>by rw [World.frozen?_setCell];exact h.frz i,by simpa [World.setCell] using h.lt⟩
theorem Ze9.s5 (h:Ze9 wr b o c0 c1 vv0 v y) (u:Zy_):Ze9 wr b o c0 c1 vv0 (v.setCell ⟨b,o+5,none⟩ (.string u)) { y with tm:=u }:=by
 obtain⟨h0,h1,h2,h3,h4,h5,h6⟩:=h.cells;have ht:Zag b (b+1) v (v.setCell ⟨b,o+5,none⟩ (.string u)):=Zag.setCell _ _ _ _ _ ⟨Nat.le_refl _,by simp only [];omega⟩;have hbc:=h.bc;have hq0:=h.q0;exact⟨h.near.trans (ZbT.set _ _ _ _ _ _ _ _ (by omega) (by omega)),h.bc,h.q0,⟨(cne (by omega)).trans h0,(cne (by omega)).trans h1,(cne (by omega)).trans h2,(cne (by omega)).trans h3,(cne (by omega)).trans h4,World.cell?_setCell_same' _ _ _ (by rw [h5];rfl),(cne (by omega)).trans h6⟩,h.l0.touch ht (by omega),fun i=>by rw [World.frozen?_setCell];exact h.frz i,by simpa [World.setCell] using h.lt⟩
theorem Ze9.s6 (h:Ze9 wr b o c0 c1 vv0 v y) (u:Zy_):Ze9 wr b o c0 c1 vv0 (v.setCell ⟨b,o+6,none⟩ (.string u)) { y with pf:=u }:=by
 obtain⟨h0,h1,h2,h3,h4,h5,h6⟩:=h.cells;have ht:Zag b (b+1) v (v.setCell ⟨b,o+6,none⟩ (.string u)):=Zag.setCell _ _ _ _ _ ⟨Nat.le_refl _,by simp only [];omega⟩;have hbc:=h.bc;have hq0:=h.q0;exact⟨h.near.trans (ZbT.set _ _ _ _ _ _ _ _ (by omega) (by omega)),h.bc,h.q0,⟨(cne (by omega)).trans h0,(cne (by omega)).trans h1,(cne (by omega)).trans h2,(cne (by omega)).trans h3,(cne (by omega)).trans h4,(cne (by omega)).trans h5,World.cell?_setCell_same' _ _ _ (by rw [h6];rfl)⟩,h.l0.touch ht (by omega),fun i=>by rw [World.frozen?_setCell];exact h.frz i,by simpa [World.setCell] using h.lt⟩
theorem Ze9.m0' (h:Ze9 wr b o c0 c1 vv0 v y) (ht:Zag c0 c1 v v') {L:List Int} (hl:Zav c0 c1 v' vv0 L):Ze9 wr b o c0 c1 vv0 v' { y with vb:=L }:=by
 obtain⟨h0,h1,h2,h3,h4,h5,h6⟩:=h.cells;have hbc:=h.bc;have hq0:=h.q0;have hlt:=h.lt;have e:∀ i,v'.cell? ⟨b,i,none⟩=v.cell? ⟨b,i,none⟩:=fun i=>ht.cell (p:=⟨b,i,none⟩) h.lt (by simp only [];omega)
 exact⟨h.near.trans (ZbT.touch ht h.lt (by omega) (by omega) (by omega)),h.bc,h.q0,⟨(e _).trans h0,(e _).trans h1,(e _).trans h2,(e _).trans h3,(e _).trans h4,(e _).trans h5,(e _).trans h6⟩,hl,fun i=>(ht.frozen (p:=⟨b,i,none⟩) h.lt (by simp only [];omega)).trans (h.frz i),Zk_ h.lt ht.size⟩
end Go.Proofs.YtmappejlmapboaaGreat
