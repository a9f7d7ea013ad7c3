import Derived.Test.YtmappejlmapboaaGreatV22
import Derived.Test.YtmappejlmapboaaGreatV27
set_option maxHeartbeats 16000000
set_option maxRecDepth 100000
open Go.Proofs.Tryz
namespace Go.Proofs.YtmappejlmapboaaGreat
open Go.RowKit Go.Deep
structure Zr0 {X:Type} (c:X->X->Int) (L:List X) (t:X) (p:Nat):Prop where
 le:p<=L.length
 less:∀ i (h:i < L.length),i < p->c L[i] t < 0
 more:∀ i (h:i < L.length),p<=i->0<=c L[i] t
def Zqb {X:Type} (c:X->X->Int) (L:List X) (t:X) (p:Nat):Bool:=match L[p]? with
 | some x=>decide (c x t=0)
 | none=>false
def Zrw {X:Type} (c:X->X->Int) (L:List X) (t:X):Prop:=∀ i j (hi:i < L.length) (hj:j < L.length),i < j->c L[j] t < 0->c L[i] t < 0
theorem ZqB {i j:Nat} (h:i < j):i<=(i+j) / 2/\(i+j) / 2 < j:=by omega
abbrev Zgs (w:World) (b o:Nat) (x t:Le) (W:World):Prop:=
 W.cell? ⟨b,o,none⟩=some (.string x.tm)/\W.cell? ⟨b,o+1,none⟩=some (.string x.re)/\W.cell? ⟨b,o+2,none⟩=some (.int .i64 x.mo)/\W.cell? ⟨b,o+3,none⟩=some (.int .i64 x.fr)/\W.cell? ⟨w.heap.size,0,none⟩=some (.string t.tm)/\W.cell? ⟨w.heap.size,1,none⟩=some (.string t.re)/\W.cell? ⟨w.heap.size,2,none⟩=some (.int .i64 t.mo)/\W.cell? ⟨w.heap.size,3,none⟩=some (.int .i64 t.fr)/\Hd (Zw_ w W/\b < W.heap.size/\w.heap.size < W.heap.size)
theorem Zgs.on {w:World}{b o:Nat}{x t:Le}{W W':World} (h:Zgs w b o x t W) (hb:Below W.heap.size W W'):Zgs w b o x t W':=by
 obtain⟨y0,y1,y2,y3,y4,y5,y6,y7,hh⟩:=h;have e1:∀ o,W'.cell? ⟨b,o,none⟩=W.cell? ⟨b,o,none⟩:=fun o=>hb.cell (p:=⟨b,o,none⟩) hh.o.2.1
 have e2:∀ o,W'.cell? ⟨w.heap.size,o,none⟩=W.cell? ⟨w.heap.size,o,none⟩:=fun o=>hb.cell (p:=⟨w.heap.size,o,none⟩) hh.o.2.2
 exact⟨(e1 _).trans y0,(e1 _).trans y1,(e1 _).trans y2,(e1 _).trans y3,(e2 _).trans y4,(e2 _).trans y5,(e2 _).trans y6,(e2 _).trans y7,⟨hh.o.1.trans (hb.mono hh.o.1.size),Zk_ hh.o.2.1 hb.size,Zk_ hh.o.2.2 hb.size⟩⟩
theorem ZiI (lo:Nat) (v:Value) (Xl:List Le) (t:Le) (w:World) (hv:Zbx lo w v Xl) (hn:Xl.length<=1048576) (hr:Zrw Zc0 Xl t) :
 Calls prog 246 #[v,.agg #[.string t.tm,.string t.re,.int .i64 t.mo,.int .i64 t.fr],.func (.func 219) #[] #[]] w
  fun e w'=>(∃ p:Nat,Zr0 Zc0 Xl t p/\e=.returned (.tuple #[.int .i64 p,.bool (Zqb Zc0 Xl t p)]))/\Zw_ w w':=by
 have HV:=Zab hv;have HR:=Zab hr;obtain⟨a,cap,rfl⟩:=hv.form;clear hv hr;go_enter func246,ntmps246;go_wp2_with fail;generalize hWa:w.alloc _=Wa;have HB:Hd (Zw_ w Wa):=by rw [<- hWa];exact Zac w _
 have HX:Hd (Box Wa w.heap.size #[.string t.tm,.string t.re,.int .i64 t.mo,.int .i64 t.fr]):=by rw [<- hWa];exact Box.new _ _ _ _ rfl
 clear hWa
 go_loopw [9,10] (fun i j wr=>∃ p q:Nat,i=.int .i64 p/\j=.int .i64 q/\p<=q/\q<=Xl.length/\(∀ k (h:k < Xl.length),k < p->Zc0 Xl[k] t < 0)/\(∀ k (h:k < Xl.length),q<=k->0<=Zc0 Xl[k] t)/\Zw_ w wr/\Box wr w.heap.size #[.string t.tm,.string t.re,.int .i64 t.mo,.int .i64 t.fr])
  (fun i j _=>(intOf j).toNat - (intOf i).toNat)
 case atStart=>exact⟨0,Xl.length,rfl,rfl,Nat.zero_le _,Nat.le_refl _,fun k _ h=>by omega,fun k h h'=>by omega,HB.o,HX.o⟩
 case round=>
  obtain⟨p,q,rfl,rfl,hpq,hq,h1,h2,hb,hx⟩:=hrel;have HL1:=Zab h1;have HL2:=Zab h2;have HBr:=Zab hb;have HXr:=Zab hx;clear h1 h2 hb hx
  by_cases hlt:p < q
  . obtain⟨hm1,hm2⟩:=ZqB hlt
    have hml:(p+q) / 2 < Xl.length:=by omega
    obtain⟨m,em⟩:∃ m:Nat,(p+q) / 2=m:=⟨_,rfl⟩
    rw [em] at hm1 hm2 hml;have em':((p:Int)+(q:Int)) / 2=(m:Int):=by omega
    obtain⟨b,off,rfl,hbw,-,hc⟩:=HV.o.full' (by omega);obtain⟨hs,hcell⟩:=hc m hml;obtain⟨c0,c1,c2,c3⟩:=hcell.below HBr.o hbw;have x:=HXr.o.cell;have x0:=x 0;have x1:=x 1;have x2:=x 2;have x3:=x 3;simp at x0 x1 x2 x3;have EM:=Zab em;clear hc hcell hs x em;go_wp2
    go_region_with (go_at_call 219;refine (ZfE Xl[m] t _).mono ?_;rintro e w1 ⟨rfl,hb1⟩;have hB:Hd (Zw_ w w1):=(HBr.o.drew).trans (hb1.mono HBr.o.size);have hX:Hd (Box w1 w.heap.size #[.string t.tm,.string t.re,.int .i64 t.mo,.int .i64 t.fr]):=(HXr.o.drew).on hb1;clear hb1)
    all_goals by_cases hq:ZeI Xl[m].tm Xl[m].re t.tm t.re < 0
    all_goals first
     | (have HT:Hd (Zc0 Xl[m] t < 0):=hq
        go_wp2;go_roundw
        case rel=>exact⟨m+1,q,by go_num,rfl,by omega,by omega,fun k hk hkm=>by
                   by_cases e:k=m
                   . subst e;exact HT.o
                   . exact HR.o k m hk hml (by omega) HT.o,HL2.o,hB.o,hX.o⟩
        . simp [intOf];omega)
     | (have HT:Hd (0<=Zc0 Xl[m] t):=by unfold Hd Zc0;omega
        go_wp2;go_roundw
        case rel=>exact⟨p,m,rfl,rfl,by omega,by omega,HL1.o,fun k hk hkm=>by
                   by_cases e:k=m
                   . subst e;exact HT.o
                   . refine Int.not_lt.1 (fun hn'=>?_)
                     have:=HR.o m k hml hk (by omega) hn';have:=HT.o
                     omega,hB.o,hX.o⟩
        . simp [intOf];omega)
  . have hpq':p=q:=by omega
    subst hpq';have HSP:Hd (Zr0 Zc0 Xl t p):=⟨hq,HL1.o,HL2.o⟩
    by_cases hlt2:p < Xl.length
    . obtain⟨b,off,rfl,hbw,-,hc⟩:=HV.o.full' (by omega)
      obtain⟨hs,hcell⟩:=hc p hlt2;obtain⟨c0,c1,c2,c3⟩:=hcell.below HBr.o hbw;have x:=HXr.o.cell;have x0:=x 0;have x1:=x 1;have x2:=x 2;have x3:=x 3;simp at x0 x1 x2 x3;have HI:Hd (Zqb Zc0 Xl t p=decide (ZeI Xl[p].tm Xl[p].re t.tm t.re=0)):=by unfold Hd Zqb;rw [List.getElem?_eq_getElem hlt2];rfl
      have hd:decide ((p:Int) < (Xl.length:Int))=true:=by simp;omega
      clear hc hcell hs x;go_wp2;have HBD:Hd (Zw_ w wr.drew):=HBr.o.drew;have hbl:b < wr.heap.size:=Zk_ hbw HBr.o.size
      have hxl:=HXr.o.lt
      go_region_held3 (Zgs w b (off+p*4) Xl[p] t)
       (first
         | (exact⟨c0,c1,c2,c3,x0,x1,x2,x3,⟨HBD.o,hbl,hxl⟩⟩)
         | (with_reducible exact Zgs.on (by assumption) (by assumption)))
       (first
         | (go_at_call 219
            refine (ZfE Xl[p] t _).mono ?_;rintro e w1 ⟨rfl,hb1⟩;have hB:Hd (Zw_ w w1):=HBD.o.trans (hb1.mono HBD.o.size)))
      all_goals go_wp2
      all_goals go_ret2
      all_goals exact⟨⟨p,HSP.o,by rw [HI.o];first | rfl | simp⟩,hB.o⟩
    . have HI:Hd (Zqb Zc0 Xl t p=false):=by unfold Hd Zqb;rw [List.getElem?_eq_none (by omega)]
      have hd:decide ((p:Int) < (Xl.length:Int))=false:=by simp;omega
      go_wp2
      go_quiet (fail)
      go_wp2
      go_ret2
      exact⟨⟨p,HSP.o,by rw [HI.o];rfl⟩,below_drewN HBr.o _⟩
variable {Ss:List Sh} {Ms:List Md} {k:Nat}
theorem Zjw (h:ZaE Ss=false):Zax Ss Ms=false:=by unfold Zax;rw [h];rfl
theorem ZhK (h:12 < Ms.length):Zax Ss Ms=false:=by
 unfold Zax;rw [show decide (Ms.length<=12)=false from decide_eq_false (by omega)];simp
theorem ZgW (hk:k < Ms.length) (h:ZcU Ss Ms[k]=false):Zax Ss Ms=false:=by
 unfold Zax;rw [show Ms.all (ZcU Ss)=false from by rw [List.all_eq_false];exact⟨Ms[k],List.getElem_mem hk,by simp [h]⟩];simp
theorem Zjx (hk:k < Ss.length) (h:Zbk Ms Ss[k]=false):Zax Ss Ms=false:=by
 unfold Zax;rw [show Ss.all (Zbk Ms)=false from by rw [List.all_eq_false];exact⟨Ss[k],List.getElem_mem hk,by simp [h]⟩];simp
theorem Zjv (h1:ZaE Ss=true) (h2:Ms.length<=12) (h3:∀ i (h:i < Ms.length),ZcU Ss Ms[i]=true) (h4:∀ i (h:i < Ss.length),Zbk Ms Ss[i]=true):Zax Ss Ms=true:=by
 unfold Zax;simp only [Bool.and_eq_true,List.all_eq_true,decide_eq_true_eq];refine⟨⟨⟨h1,h2⟩,fun m hm=>?_⟩,fun x hx=>?_⟩
 . obtain⟨i,hi,rfl⟩:=List.getElem_of_mem hm;exact h3 i hi
 . obtain⟨i,hi,rfl⟩:=List.getElem_of_mem hx;exact h4 i hi
theorem ZiM (lo lm:Nat) (sv mv:Value) (Ss:List Sh) (Ms:List Md) (w:World) (hS:ZaH lo w sv Ss) (hM:Za7 lm w mv Ms) :
 Calls prog 124 #[sv,mv] w fun e w'=>e=.returned (.bool (Zax Ss Ms))/\Zw_ w w':=by
 have HS:=Zab hS;have HM:=Zab hM;obtain⟨a1,cap1,rfl⟩:=hS.form;obtain⟨a2,cap2,rfl⟩:=hM.form;clear hS hM;go_enter func124,ntmps124;go_wp2_with fail;refine (Zhp lo _ Ss _ HS.o).mono ?_;rintro e w1 ⟨rfl,hb1⟩;have HB1:=Zab hb1;clear hb1
 have hml:(Ms.length:Int)<=9223372036854775807:=by
  rcases HM.o with ⟨_,_,_,h⟩ | ⟨_,_,_,_,_,h,_⟩
  . rw [h];simp
  . unfold maxLen at h;omega
 have hsl:(Ss.length:Int)<=9223372036854775807:=by
  rcases HS.o with ⟨_,_,_,h⟩ | ⟨_,_,_,_,_,h,_⟩
  . rw [h];simp
  . unfold maxLen at h;omega
 cases hsb:ZaE Ss with
 | false=>
  have HQ:Hd (Zax Ss Ms=false):=Zjw hsb;go_wp2;go_ret;exact⟨Zaa HQ.o.symm,HB1.o⟩
 | true=>
  by_cases h12:(Ms.length:Int)<=12
  . have HSB:=Zab hsb
    clear hsb;go_wp2
    go_loopw [5] (fun i wr=>∃ k:Nat,i=.int .i64 k/\k<=Ms.length/\Zw_ w wr/\∀ i (h:i < Ms.length),i < k->ZcU Ss Ms[i]=true) (fun i _=>Ms.length - (intOf i).toNat)
    case atStart=>exact⟨0,rfl,by omega,HB1.o,fun i _ h=>by omega⟩
    case round=>
     obtain⟨k,rfl,hk,hb,hall⟩:=hrel;have HA:=Zab hall;have HB:=Zab hb;clear hall hb
     by_cases hlt:k < Ms.length
     . obtain⟨b,off,rfl,hbw,hc⟩:=HM.o.full' (by omega)
       obtain⟨hsz,hcell⟩:=hc k hlt;obtain⟨c0,c1,c2,c3,c4,c5⟩:=hcell.below HB.o hbw;clear hcell hc;go_wp2_with fail;refine (Zjl lo _ Ss Ms[k] _ (HS.o.below HB.o) hsz).mono ?_;rintro e w2 ⟨rfl,hb2⟩;have HB2:Hd (Zw_ w w2):=HB.o.trans (hb2.mono HB.o.size);clear hb2 c0 c1 c2 c3 c4 c5
       cases hmb:ZcU Ss Ms[k] with
       | false=>
        have HQ:Hd (Zax Ss Ms=false):=ZgW hlt hmb;go_wp2;go_ret;exact⟨Zaa HQ.o.symm,HB2.o⟩
       | true=>
        go_wp2;go_roundw
        case rel=>exact⟨k+1,by go_num,by omega,HB2.o,fun i h h'=>by
                   by_cases e:i=k
                   . subst e;exact hmb
                   . exact HA.o i h (by omega)⟩
        . simp [intOf];omega
     . have HAll:Hd (∀ i (h:i < Ms.length),ZcU Ss Ms[i]=true):=fun i h=>HA.o i h (by omega)
       have HBx:Hd (Zw_ w wr):=HB.o;clear HA HB HB1;go_wp2;clear hlt hk;rename_i wx _ _ _ _ _ _
       go_loopw [6] (fun i wr=>∃ k:Nat,i=.int .i64 k/\k<=Ss.length/\Zw_ w wr/\∀ i (h:i < Ss.length),i < k->Zbk Ms Ss[i]=true) (fun i _=>Ss.length - (intOf i).toNat)
       case atStart=>exact⟨0,rfl,by omega,HBx.o,fun i _ h=>by omega⟩
       case round=>
        clear HBx;obtain⟨j,rfl,hj,hb,hall⟩:=hrel;have HA:=Zab hall;have HB:=Zab hb;clear hall hb
        by_cases hlt:j < Ss.length
        . obtain⟨b,off,rfl,hbw,hc⟩:=HS.o.full' (by omega)
          obtain⟨hsz,fv,d0,d1,hst⟩:=hc j hlt;have c0:wr.cell? ⟨b,off+j*2,none⟩=some (.string Ss[j].kind):=by rw [HB.o.cell (p:=⟨b,_,none⟩) hbw];exact d0
          have c1:wr.cell? ⟨b,off+j*2+1,none⟩=some fv:=by rw [HB.o.cell (p:=⟨b,_,none⟩) hbw];exact d1
          obtain⟨fa,fcap,rfl⟩:=hst.form;have HST:=Zab (hst.below HB.o);have hbr:b < wr.heap.size:=Zk_ hbw HB.o.size
          have h6:Ss[j].fields.length<=6:=ZcL (ZbG HSB.o (List.getElem_mem hlt));clear d0 d1 hst hc;go_wp2
          go_region_with (go_at_call 168
                          refine (Zjn lo lm _ _ Ss[j] Ms _ (HST.o.below (Zb_.drew)) (HM.o.below (HB.o.drew)) (by omega)).mono ?_;rintro e w2 ⟨v2,R,rfl,hb2,ho2,hro⟩;obtain⟨ra,rcap,rfl⟩:=ho2.form;have HRO:=Zab hro;have HB2:Hd (Zw_ w w2):=(HB.o.drew).trans (hb2.mono HB.o.size);have c1':w2.cell? ⟨b,off+j*2+1,none⟩=some (.slice fa Ss[j].fields.length fcap):=(hb2.cell (p:=⟨b,off+j*2+1,none⟩) hbr).trans c1;clear hb2 ho2 hro)
          all_goals
           by_cases hq:(R.length:Int)=(Ss[j].fields.length:Int)
           . have HSR:Hd (Zbk Ms Ss[j]=true):=HRO.o.2.2.1 (by omega)
             go_wp2;go_roundw
             case rel=>exact⟨j+1,by go_num,by omega,HB2.o,fun i h h'=>by
                        by_cases e:i=j
                        . subst e;exact HSR.o
                        . exact HA.o i h (by omega)⟩
             . simp [intOf];omega
           . have HSR:Hd (Zbk Ms Ss[j]=false):=by
              unfold Hd
              cases h:Zbk Ms Ss[j] with
              | false=>rfl
              | true=>exact absurd (HRO.o.2.2.2 h) (by omega)
             have HQ:Hd (Zax Ss Ms=false):=Zjx hlt HSR.o;go_wp2;go_ret;exact⟨Zaa HQ.o.symm,HB2.o⟩
        . have HQ:Hd (Zax Ss Ms=true):=Zjv HSB.o (by omega) HAll.o (fun i h=>HA.o i h (by omega))
          go_wp2;go_ret;exact⟨Zaa HQ.o.symm,HB.o⟩
  . have HQ:Hd (Zax Ss Ms=false):=ZhK (by omega)
    go_wp2;go_ret;exact⟨Zaa HQ.o.symm,HB1.o⟩
end Go.Proofs.YtmappejlmapboaaGreat
