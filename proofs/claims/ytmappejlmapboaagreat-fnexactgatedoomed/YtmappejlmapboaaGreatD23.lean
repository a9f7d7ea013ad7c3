import Derived.Test.YtmappejlmapboaaGreatD22
set_option maxHeartbeats 16000000
set_option maxRecDepth 100000
open Go.Proofs.Tryz
namespace Go.Proofs.YtmappejlmapboaaGreat
open Go.RowKit Go.Deep
section
variable {Ls:List Le}
def ZdK (t r:Zy_) (x:Le):Bool:=x.tm.toList == t.toList&&x.re.toList == r.toList
def Zl9 (Ls:List Le) (t r:Zy_):Nat:=Ls.findIdx (ZdK t r)
def ZrU (Ls:List Le) (t r:Zy_):Int:=if Zl9 Ls t r < Ls.length then (Zl9 Ls t r:Int) else -1
theorem ZrW {t r:Zy_}{k:Nat} (hk:k < Ls.length) (h:ZdK t r Ls[k]=true) (hall:∀ i (h:i < Ls.length),i < k->ZdK t r Ls[i]=false):ZrU Ls t r=k:=by
 have e:Zl9 Ls t r=k:=by
  unfold Zl9;rw [List.findIdx_eq hk];exact⟨h,fun j hj=>hall j (by omega) hj⟩
 unfold ZrU;rw [e,if_pos hk]
theorem Zs6 {t r:Zy_} (hall:∀ i (h:i < Ls.length),ZdK t r Ls[i]=false):ZrU Ls t r= -1:=by
 have e:Zl9 Ls t r=Ls.length:=by
  unfold Zl9;rw [List.findIdx_eq_length];intro x hx;obtain⟨i,hi,rfl⟩:=List.getElem_of_mem hx;exact hall i hi
 unfold ZrU;rw [e,if_neg (Nat.lt_irrefl _)]
theorem ZrV (Ls:List Le) (t r:Zy_):decide (ZrU Ls t r < 0)=!Ls.any (ZdK t r):=by
 unfold ZrU Zl9
 cases h:Ls.any (ZdK t r) with
 | true=>
  obtain⟨x,hx,hp⟩:=List.any_eq_true.1 h;rw [if_pos (List.findIdx_lt_length_of_exists ⟨x,hx,hp⟩)];simp
 | false=>
  have e:Ls.findIdx (ZdK t r)=Ls.length:=List.findIdx_eq_length.2 (fun x hx=>by
   have:=List.any_eq_false.1 h x hx
   simpa using this)
  rw [e,if_neg (Nat.lt_irrefl _)]
  rfl
def Zm6 (t r:Zy_) (p:Pu):Int:=if (p.tm.toList == t.toList&&p.re.toList == r.toList)=true then p.am else 0
def ZfQ (Ps:List Pu) (t r:Zy_):Int:=(Ps.map (Zm6 t r)).sum
theorem ZqK (A:List Pu) (p:Pu) (t r:Zy_):ZfQ (A ++ [p]) t r=ZfQ A t r+Zm6 t r p:=by simp [ZfQ]
def Zd4 (B:Bk):Bool:=inB 0 1000000 B.now&&inB 0 1000000 B.tick&&inB 0 B.now B.given
section
variable (lo:Nat) (ov gv lv pv:Value) (B:Bk) (t r:Zy_) (w:World)
theorem ZaY (h:ZaU lo w ov gv lv pv B) :
 Calls prog 134 #[.agg #[.int .i64 B.now,.int .i64 B.tick,.int .i64 B.given,ov,gv,lv,pv],.string t,.string r] w fun e w'=>e=.returned (.int .i64 (ZrU B.ls t r))/\Zw_ w w':=by
 have HL:=Zab h.les;have hm:=h.les.max;unfold maxLen at hm;obtain⟨a0,k0,rfl⟩:=h.obs.form;obtain⟨a1,k1,rfl⟩:=h.grs.form;obtain⟨a2,k2,rfl⟩:=h.les.form;obtain⟨a3,k3,rfl⟩:=h.pus.form;clear h;go_enter func134,ntmps134;go_wp2_with fail;generalize hWa:w.alloc _=Wa;have HB:Hd (Zw_ w Wa):=by rw [<- hWa];exact Zac w _
 have HX:Hd (Box Wa w.heap.size #[.int .i64 B.now,.int .i64 B.tick,.int .i64 B.given,.slice a0 B.os.length k0,.slice a1 B.gs.length k1,.slice a2 B.ls.length k2,.slice a3 B.ps.length k3]):=by rw [<- hWa];exact Box.new _ _ _ _ rfl
 clear hWa;have x5:=HX.o.cell 5;simp at x5
 go_loop [7] (fun i=>∃ k:Nat,i=.int .i64 k/\k<=B.ls.length/\∀ j (h:j < B.ls.length),j < k->ZdK t r B.ls[j]=false) (fun i=>B.ls.length - (intOf i).toNat)
 case atStart=>exact⟨0,rfl,Nat.zero_le _,fun j _ h=>by omega⟩
 case round=>
  obtain⟨k,rfl,hk,hall⟩:=hrel;have HA:=Zab hall;clear hall
  by_cases hlt:k < B.ls.length
  . obtain⟨b,off,rfl,hbw,-,hc⟩:=HL.o.full' (by omega)
    obtain⟨hs,hcell⟩:=hc k hlt;obtain⟨c0,c1,c2,c3⟩:=hcell.below HB.o hbw;have HI:Hd (ZdK t r B.ls[k]=(B.ls[k].tm.toList == t.toList&&B.ls[k].re.toList == r.toList)):=rfl;clear hc hcell hs
    cases h1:(B.ls[k].tm.toList == t.toList) with
    | false=>
     have HE:Hd (ZdK t r B.ls[k]=false):=by unfold Hd;rw [HI.o,h1];rfl
     go_wp2
     go_round
     case rel=>exact⟨k+1,by go_num,by omega,fun j hj hjk=>by
                by_cases e:j=k
                . subst e;exact HE.o
                . exact HA.o j hj (by omega)⟩
     . simp [intOf];omega
    | true=>
     cases h2:(B.ls[k].re.toList == r.toList) with
     | false=>
      have HE:Hd (ZdK t r B.ls[k]=false):=by unfold Hd;rw [HI.o,h1,h2];rfl
      go_wp2
      go_round
      case rel=>exact⟨k+1,by go_num,by omega,fun j hj hjk=>by
                 by_cases e:j=k
                 . subst e;exact HE.o
                 . exact HA.o j hj (by omega)⟩
      . simp [intOf];omega
     | true=>
      have HE:Hd (ZrU B.ls t r=k):=ZrW hlt (by rw [HI.o,h1,h2];rfl) HA.o;go_wp2;go_ret;exact⟨ZaE HE.o.symm,HB.o⟩
  . have HE:Hd (ZrU B.ls t r= -1):=Zs6 (fun i hi=>HA.o i hi (by omega))
    go_wp2;go_ret;exact⟨ZaE HE.o.symm,HB.o⟩
theorem Zk0 (h:ZaU lo w ov gv lv pv B) :
 Calls prog 137 #[.agg #[.int .i64 B.now,.int .i64 B.tick,.int .i64 B.given,ov,gv,lv,pv],.string t,.string r] w fun e w'=>e=.returned (.int .i64 (wrap64 (ZfQ B.ps t r)))/\Zw_ w w':=by
 have HL:=Zab h.pus;have hm:=h.pus.max;unfold maxLen at hm;obtain⟨a0,k0,rfl⟩:=h.obs.form;obtain⟨a1,k1,rfl⟩:=h.grs.form;obtain⟨a2,k2,rfl⟩:=h.les.form;obtain⟨a3,k3,rfl⟩:=h.pus.form;clear h;go_enter func137,ntmps137;go_wp2_with fail;generalize hWa:w.alloc _=Wa;have HB:Hd (Zw_ w Wa):=by rw [<- hWa];exact Zac w _
 have HX:Hd (Box Wa w.heap.size #[.int .i64 B.now,.int .i64 B.tick,.int .i64 B.given,.slice a0 B.os.length k0,.slice a1 B.gs.length k1,.slice a2 B.ls.length k2,.slice a3 B.ps.length k3]):=by rw [<- hWa];exact Box.new _ _ _ _ rfl
 clear hWa;have x5:=HX.o.cell 6;simp at x5
 go_loop [7,8] (fun n i=>∃ k:Nat,n=.int .i64 (wrap64 (ZfQ (B.ps.take k) t r))/\i=.int .i64 k/\k<=B.ps.length) (fun _ i=>B.ps.length - (intOf i).toNat)
 case atStart=>exact⟨0,by simp [ZfQ,wrap64],rfl,Nat.zero_le _⟩
 case round=>
  obtain⟨k,rfl,rfl,hk⟩:=hrel
  by_cases hlt:k < B.ps.length
  . obtain⟨b,off,rfl,hbw,-,hc⟩:=HL.o.full' (by omega)
    obtain⟨hs,hcell⟩:=hc k hlt;obtain⟨c0,c1,c2,c3,c4⟩:=hcell.below HB.o hbw;have HI:Hd (Zm6 t r B.ps[k]=if (B.ps[k].tm.toList == t.toList&&B.ps[k].re.toList == r.toList)=true then B.ps[k].am else 0):=rfl;have HU:=Zab (ZqK (B.ps.take k) B.ps[k] t r);have HT:=Zab (List.take_succ_eq_append_getElem hlt);clear hc hcell hs
    cases h1:(B.ps[k].tm.toList == t.toList) with
    | false=>
     have HE:Hd (ZfQ (B.ps.take (k+1)) t r=ZfQ (B.ps.take k) t r):=by unfold Hd;rw [HT.o,HU.o,HI.o,h1];simp
     go_wp2
     go_round
     . exact⟨k+1,by rw [HE.o],by go_num,by omega⟩
     . simp [intOf];omega
    | true=>
     cases h2:(B.ps[k].re.toList == r.toList) with
     | false=>
      have HE:Hd (ZfQ (B.ps.take (k+1)) t r=ZfQ (B.ps.take k) t r):=by unfold Hd;rw [HT.o,HU.o,HI.o,h1,h2];simp
      go_wp2
      go_round
      . exact⟨k+1,by rw [HE.o],by go_num,by omega⟩
      . simp [intOf];omega
     | true=>
      have HE:Hd (ZfQ (B.ps.take (k+1)) t r=ZfQ (B.ps.take k) t r+B.ps[k].am):=by unfold Hd;rw [HT.o,HU.o,HI.o,h1,h2];simp
      go_wp2
      go_round
      . exact⟨k+1,by rw [HE.o,Zgm],by go_num,by omega⟩
      . simp [intOf];omega
  . have he:k=B.ps.length:=by omega
    subst he;have HE:Hd (ZfQ (B.ps.take B.ps.length) t r=ZfQ B.ps t r):=by unfold Hd;rw [List.take_length]
    go_wp2;go_ret;exact⟨ZaE (by first | rw [HE.o] | rfl),HB.o⟩
theorem ZmI (h:ZaU lo w ov gv lv pv B) :
 Calls prog 180 #[.agg #[.int .i64 B.now,.int .i64 B.tick,.int .i64 B.given,ov,gv,lv,pv]] w fun e w'=>e=.returned (.bool (Zd4 B))/\Zw_ w w':=by
 obtain⟨a0,k0,rfl⟩:=h.obs.form;obtain⟨a1,k1,rfl⟩:=h.grs.form;obtain⟨a2,k2,rfl⟩:=h.les.form;obtain⟨a3,k3,rfl⟩:=h.pus.form;clear h;have HI:Hd (Zd4 B=(inB 0 1000000 B.now&&inB 0 1000000 B.tick&&inB 0 B.now B.given)):=rfl
 cases h1:inB 0 1000000 B.now with
 | false=>
  have HE:Hd (Zd4 B=false):=by unfold Hd;rw [HI.o,h1];rfl
  go_enter func180,ntmps180;go_wp2_with (go_at_call 209;refine (ZaR _ _ _ _).mono ?_;rintro e w' ⟨rfl,rfl⟩);go_ret;exact⟨Zaa HE.o.symm,Zac _ _⟩
 | true=>
  cases h2:inB 0 1000000 B.tick with
  | false=>
   have HE:Hd (Zd4 B=false):=by unfold Hd;rw [HI.o,h1,h2];rfl
   go_enter func180,ntmps180;go_wp2_with (go_at_call 209;refine (ZaR _ _ _ _).mono ?_;rintro e w' ⟨rfl,rfl⟩);go_ret;exact⟨Zaa HE.o.symm,Zac _ _⟩
  | true=>
   have HE:Hd (Zd4 B=inB 0 B.now B.given):=by unfold Hd;rw [HI.o,h1,h2];rfl
   go_enter func180,ntmps180;go_wp2_with (go_at_call 209;refine (ZaR _ _ _ _).mono ?_;rintro e w' ⟨rfl,rfl⟩);go_ret;exact⟨Zaa HE.o.symm,Zac _ _⟩
end
end
structure Zub {X:Type} (c:X->X->Int) (L:List X) (t:X) (p:Nat):Prop where
 le:p<=L.length
 less:∀ i (h:i < L.length),i < p->c L[i] t < 0
 more:∀ i (h:i < L.length),p<=i->0<=c L[i] t
def Zsv {X:Type} (c:X->X->Int) (L:List X) (t:X) (p:Nat):Bool:=match L[p]? with
 | some x=>decide (c x t=0)
 | none=>false
def ZtH {X:Type} (c:X->X->Int) (L:List X) (t:X):Prop:=∀ i j (hi:i < L.length) (hj:j < L.length),i < j->c L[j] t < 0->c L[i] t < 0
theorem ZsW {i j:Nat} (h:i < j):i<=(i+j) / 2/\(i+j) / 2 < j:=by omega
abbrev Zht (w:World) (b o:Nat) (x t:Le) (W:World):Prop:=
 W.cell? ⟨b,o,none⟩=some (.string x.tm)/\W.cell? ⟨b,o+1,none⟩=some (.string x.re)/\W.cell? ⟨b,o+2,none⟩=some (.int .i64 x.mo)/\W.cell? ⟨b,o+3,none⟩=some (.int .i64 x.fr)/\W.cell? ⟨w.heap.size,0,none⟩=some (.string t.tm)/\W.cell? ⟨w.heap.size,1,none⟩=some (.string t.re)/\W.cell? ⟨w.heap.size,2,none⟩=some (.int .i64 t.mo)/\W.cell? ⟨w.heap.size,3,none⟩=some (.int .i64 t.fr)/\Hd (Zw_ w W/\b < W.heap.size/\w.heap.size < W.heap.size)
theorem Zht.on {w:World}{b o:Nat}{x t:Le}{W W':World} (h:Zht w b o x t W) (hb:Below W.heap.size W W'):Zht w b o x t W':=by
 obtain⟨y0,y1,y2,y3,y4,y5,y6,y7,hh⟩:=h;have e1:∀ o,W'.cell? ⟨b,o,none⟩=W.cell? ⟨b,o,none⟩:=fun o=>hb.cell (p:=⟨b,o,none⟩) hh.o.2.1
 have e2:∀ o,W'.cell? ⟨w.heap.size,o,none⟩=W.cell? ⟨w.heap.size,o,none⟩:=fun o=>hb.cell (p:=⟨w.heap.size,o,none⟩) hh.o.2.2
 exact⟨(e1 _).trans y0,(e1 _).trans y1,(e1 _).trans y2,(e1 _).trans y3,(e2 _).trans y4,(e2 _).trans y5,(e2 _).trans y6,(e2 _).trans y7,⟨hh.o.1.trans (hb.mono hh.o.1.size),Zk_ hh.o.2.1 hb.size,Zk_ hh.o.2.2 hb.size⟩⟩
theorem Zke (lo:Nat) (v:Value) (Xl:List Le) (t:Le) (w:World) (hv:ZbJ lo w v Xl) (hn:Xl.length<=1048576) (hr:ZtH Zdt Xl t) :
 Calls prog 246 #[v,.agg #[.string t.tm,.string t.re,.int .i64 t.mo,.int .i64 t.fr],.func (.func 219) #[] #[]] w
  fun e w'=>(∃ p:Nat,Zub Zdt Xl t p/\e=.returned (.tuple #[.int .i64 p,.bool (Zsv Zdt Xl t p)]))/\Zw_ w w':=by
 have HV:=Zab hv;have HR:=Zab hr;obtain⟨a,cap,rfl⟩:=hv.form;clear hv hr;go_enter func246,ntmps246;go_wp2_with fail;generalize hWa:w.alloc _=Wa;have HB:Hd (Zw_ w Wa):=by rw [<- hWa];exact Zac w _
 have HX:Hd (Box Wa w.heap.size #[.string t.tm,.string t.re,.int .i64 t.mo,.int .i64 t.fr]):=by rw [<- hWa];exact Box.new _ _ _ _ rfl
 clear hWa
 go_loopw [9,10] (fun i j wr=>∃ p q:Nat,i=.int .i64 p/\j=.int .i64 q/\p<=q/\q<=Xl.length/\(∀ k (h:k < Xl.length),k < p->Zdt Xl[k] t < 0)/\(∀ k (h:k < Xl.length),q<=k->0<=Zdt Xl[k] t)/\Zw_ w wr/\Box wr w.heap.size #[.string t.tm,.string t.re,.int .i64 t.mo,.int .i64 t.fr])
  (fun i j _=>(intOf j).toNat - (intOf i).toNat)
 case atStart=>exact⟨0,Xl.length,rfl,rfl,Nat.zero_le _,Nat.le_refl _,fun k _ h=>by omega,fun k h h'=>by omega,HB.o,HX.o⟩
 case round=>
  obtain⟨p,q,rfl,rfl,hpq,hq,h1,h2,hb,hx⟩:=hrel;have HL1:=Zab h1;have HL2:=Zab h2;have HBr:=Zab hb;have HXr:=Zab hx;clear h1 h2 hb hx
  by_cases hlt:p < q
  . obtain⟨hm1,hm2⟩:=ZsW hlt
    have hml:(p+q) / 2 < Xl.length:=by omega
    obtain⟨m,em⟩:∃ m:Nat,(p+q) / 2=m:=⟨_,rfl⟩
    rw [em] at hm1 hm2 hml;have em':((p:Int)+(q:Int)) / 2=(m:Int):=by omega
    obtain⟨b,off,rfl,hbw,-,hc⟩:=HV.o.full' (by omega);obtain⟨hs,hcell⟩:=hc m hml;obtain⟨c0,c1,c2,c3⟩:=hcell.below HBr.o hbw;have x:=HXr.o.cell;have x0:=x 0;have x1:=x 1;have x2:=x 2;have x3:=x 3;simp at x0 x1 x2 x3;have EM:=Zab em;clear hc hcell hs x em;go_wp2
    go_region_with (go_at_call 219;refine (Zgw Xl[m] t _).mono ?_;rintro e w1 ⟨rfl,hb1⟩;have hB:Hd (Zw_ w w1):=(HBr.o.drew).trans (hb1.mono HBr.o.size);have hX:Hd (Box w1 w.heap.size #[.string t.tm,.string t.re,.int .i64 t.mo,.int .i64 t.fr]):=(HXr.o.drew).on hb1;clear hb1)
    all_goals by_cases hq:Zfs Xl[m].tm Xl[m].re t.tm t.re < 0
    all_goals first
     | (have HT:Hd (Zdt Xl[m] t < 0):=hq
        go_wp2;go_roundw
        case rel=>exact⟨m+1,q,by go_num,rfl,by omega,by omega,fun k hk hkm=>by
                   by_cases e:k=m
                   . subst e;exact HT.o
                   . exact HR.o k m hk hml (by omega) HT.o,HL2.o,hB.o,hX.o⟩
        . simp [intOf];omega)
     | (have HT:Hd (0<=Zdt Xl[m] t):=by unfold Hd Zdt;omega
        go_wp2;go_roundw
        case rel=>exact⟨p,m,rfl,rfl,by omega,by omega,HL1.o,fun k hk hkm=>by
                   by_cases e:k=m
                   . subst e;exact HT.o
                   . refine Int.not_lt.1 (fun hn'=>?_)
                     have:=HR.o m k hml hk (by omega) hn';have:=HT.o
                     omega,hB.o,hX.o⟩
        . simp [intOf];omega)
  . have hpq':p=q:=by omega
    subst hpq';have HSP:Hd (Zub Zdt Xl t p):=⟨hq,HL1.o,HL2.o⟩
    by_cases hlt2:p < Xl.length
    . obtain⟨b,off,rfl,hbw,-,hc⟩:=HV.o.full' (by omega)
      obtain⟨hs,hcell⟩:=hc p hlt2;obtain⟨c0,c1,c2,c3⟩:=hcell.below HBr.o hbw;have x:=HXr.o.cell;have x0:=x 0;have x1:=x 1;have x2:=x 2;have x3:=x 3;simp at x0 x1 x2 x3;have HI:Hd (Zsv Zdt Xl t p=decide (Zfs Xl[p].tm Xl[p].re t.tm t.re=0)):=by unfold Hd Zsv;rw [List.getElem?_eq_getElem hlt2];rfl
      have hd:decide ((p:Int) < (Xl.length:Int))=true:=by simp;omega
      clear hc hcell hs x;go_wp2;have HBD:Hd (Zw_ w wr.drew):=HBr.o.drew;have hbl:b < wr.heap.size:=Zk_ hbw HBr.o.size
      have hxl:=HXr.o.lt
      go_region_held3 (Zht w b (off+p*4) Xl[p] t)
       (first
         | (exact⟨c0,c1,c2,c3,x0,x1,x2,x3,⟨HBD.o,hbl,hxl⟩⟩)
         | (with_reducible exact Zht.on (by assumption) (by assumption)))
       (first
         | (go_at_call 219
            refine (Zgw Xl[p] t _).mono ?_;rintro e w1 ⟨rfl,hb1⟩;have hB:Hd (Zw_ w w1):=HBD.o.trans (hb1.mono HBD.o.size)))
      all_goals go_wp2
      all_goals go_ret2
      all_goals exact⟨⟨p,HSP.o,by rw [HI.o];first | rfl | simp⟩,hB.o⟩
    . have HI:Hd (Zsv Zdt Xl t p=false):=by unfold Hd Zsv;rw [List.getElem?_eq_none (by omega)]
      have hd:decide ((p:Int) < (Xl.length:Int))=false:=by simp;omega
      go_wp2
      go_quiet (fail)
      go_wp2
      go_ret2
      exact⟨⟨p,HSP.o,by rw [HI.o];rfl⟩,below_drewN HBr.o _⟩
variable {wr w1:World} {B k:Nat} {Xl:List Pu}
def Zba (wr:World) (B:Nat) (Xl:List Pu) (k:Nat) (c:Nat->Nat):Prop:=
 B < c 0/\(∀ i,i < k->c i<=c (i+1))/\c k<=wr.heap.size/\∃ f,wr.rowIs B 144 (Xl.length*5) f/\∀ i (h:i < Xl.length),i < k->ZeJ Xl[i]/\f (i*5)=.string Xl[i].dr/\f (i*5+1)=.string Xl[i].tm/\f (i*5+2)=.string Xl[i].re/\f (i*5+3)=.int .i64 Xl[i].am/\f (i*5+4)=.int .i64 Xl[i].un
theorem Zba.le {c:Nat->Nat} (h:Zba wr B Xl k c) {i:Nat}:∀ {j:Nat},i<=j->j<=k->c i<=c j:=by
 intro j
 induction j with
 | zero=>intro hij _;have:i=0:=by omega
         subst this;exact Nat.le_refl _
 | succ j ih=>
  intro hij hjn
  by_cases e:i=j+1
  . subst e;exact Nat.le_refl _
  . exact Nat.le_trans (ih (by omega) (by omega)) (h.2.1 j (by omega))
theorem Zba.below {c:Nat->Nat} (h:Zba wr B Xl k c) (hb:Below wr.heap.size wr w1):Zba w1 B Xl k c:=by
 obtain⟨g1,g2,g3,f,hr,hall⟩:=h;refine⟨g1,g2,Nat.le_trans g3 hb.size,f,hr.of_block (hb.block B hr.lt),fun i hi hik=>?_⟩;obtain⟨hz,h0,h1,h2,h3,h4⟩:=hall i hi hik;exact⟨hz,h0,h1,h2,h3,h4⟩
theorem Zba.free {c:Nat->Nat} (h:Zba wr B Xl k c) (i:Nat):wr.frozen? ⟨B,i,none⟩=false:=by
 obtain⟨_,_,_,f,hr,_⟩:=h;exact hr.frozen i
theorem Zba.there {c:Nat->Nat} (h:Zba wr B Xl k c) (i:Nat) (hi:i < Xl.length*5):∃ v,wr.cell? ⟨B,i,none⟩=some v:=by
 obtain⟨_,_,_,f,hr,_⟩:=h;exact⟨_,hr.cell hi⟩
theorem Zba.step {c:Nat->Nat} (h:Zba w1 B Xl k c) (hk:k < Xl.length) (hz:ZeJ Xl[k]) (d:Nat) (hd0:c k<=d) (hd:d<=w1.heap.size) :
 Zba (((((w1.setCell ⟨B,k*5,none⟩ (.string Xl[k].dr)).setCell ⟨B,k*5+1,none⟩ (.string Xl[k].tm)).setCell ⟨B,k*5+2,none⟩ (.string Xl[k].re)).setCell ⟨B,k*5+3,none⟩ (.int .i64 Xl[k].am)).setCell ⟨B,k*5+4,none⟩ (.int .i64 Xl[k].un)) B Xl (k+1) (fun j=>if j<=k then c j else d):=by
 have hle:=fun i (hi:i<=k)=>h.le (i:=0) (j:=i) Zz_ hi
 have hle2:=fun i (hi:i < k)=>h.le (i:=i+1) (j:=k) (by omega) Zl_
 obtain⟨g1,g2,g3,f,hr,hall⟩:=h;have hts:Zag B (B+1) w1 (((((w1.setCell ⟨B,k*5,none⟩ (.string Xl[k].dr)).setCell ⟨B,k*5+1,none⟩ (.string Xl[k].tm)).setCell ⟨B,k*5+2,none⟩ (.string Xl[k].re)).setCell ⟨B,k*5+3,none⟩ (.int .i64 Xl[k].am)).setCell ⟨B,k*5+4,none⟩ (.int .i64 Xl[k].un)):=((((Zag.setB B _ _ _).trans (Zag.setB B _ _ _)).trans (Zag.setB B _ _ _)).trans (Zag.setB B _ _ _)).trans (Zag.setB B _ _ _);refine⟨by simpa using g1,fun i hi=>?_,?_,_,(((((hr.set _ _).set _ _).set _ _).set _ _).set _ _),fun i hi hik=>?_⟩
 . dsimp only
   by_cases e:i=k
   . subst e;rw [if_pos Zl_,if_neg (by omega)];exact hd0
   . rw [if_pos (by omega),if_pos (by omega)];exact g2 i (by omega)
 . dsimp only;rw [if_neg (by omega)];exact Nat.le_trans hd hts.size
 by_cases e:i=k
 . subst e
   have hb0:=hle i Zl_;exact⟨hz,by simp,by simp,by simp,by simp,by simp⟩
 . have hb0:=hle i (by omega)
   obtain⟨hz,h0,h1,h2,h3,h4⟩:=hall i hi (by omega);refine⟨hz,?_,?_,?_,?_,?_⟩
   . rw [if_neg (by omega),if_neg (by omega),if_neg (by omega),if_neg (by omega),if_neg (by omega)];exact h0
   . rw [if_neg (by omega),if_neg (by omega),if_neg (by omega),if_neg (by omega),if_neg (by omega)];exact h1
   . rw [if_neg (by omega),if_neg (by omega),if_neg (by omega),if_neg (by omega),if_neg (by omega)];exact h2
   . rw [if_neg (by omega),if_neg (by omega),if_neg (by omega),if_neg (by omega),if_neg (by omega)];exact h3
   . rw [if_neg (by omega),if_neg (by omega),if_neg (by omega),if_neg (by omega),if_neg (by omega)];exact h4
theorem Zba.own {c:Nat->Nat} (h:Zba wr B Xl k c) (hk:k=Xl.length) (hne:Xl≠[]) (hm:Xl.length<=maxLen):Zcv B wr.heap.size wr (.slice (some ⟨B,0,none⟩) Xl.length Xl.length) Xl:=by
 subst hk;obtain⟨g1,g2,g3,f,hr,hall⟩:=h;have h0:0 < Xl.length:=List.length_pos_iff.2 hne
 refine Or.inr ⟨B,0,Xl.length,c,fun i=>if h:i < Xl.length then Xl[i] else Xl[0],rfl,hne,hm,Nat.le_refl _,fun i hi=>by simp [hi],hr.lt,Nat.le_refl _,g1,hr.lt,g2,g3,fun i=>hr.frozen i,fun i hi=>?_⟩;obtain⟨hz,h0,h1,h2,h3,h4⟩:=hall i hi hi;simp only [hi,dif_pos];rw [Nat.zero_add];exact⟨hz,⟨by rw [hr.cell (by omega),h0],by rw [hr.cell (by omega),h1],by rw [hr.cell (by omega),h2],by rw [hr.cell (by omega),h3],by rw [hr.cell (by omega),h4]⟩⟩
theorem Zba.new (w:World) (Xl:List Pu) (z:Array Value):Zba (w.alloc (.cells (madeCells z (Xl.length*5)) 144)) w.heap.size Xl 0 (fun _=>w.heap.size+1):=by
 refine⟨Nat.lt_succ_self _,fun i hi=>by omega,by simp,fun i=>(madeCells z (Xl.length*5)).getD i default,?_,fun i _ h=>by omega⟩;have:=World.rowIs_alloc w (madeCells z (Xl.length*5)) 144 (fun i=>(madeCells z (Xl.length*5)).getD i default) (fun i hi=>by simp [Array.getD,hi])
 rwa [size_madeCells] at this
theorem Zpc (lo:Nat) (v:Value) (Xl:List Pu) (w:World) (hv:Zb9 lo w v Xl) (hn:Ze5 Xl) :
 Calls prog 42 #[v] w fun e w'=>∃ v',e=.returned v'/\Zw_ w w'/\Zcv w.heap.size w'.heap.size w' v' Xl:=by
 obtain⟨i0,hi,hz0,hz1,hz2⟩:=info_parts Tryz.info144;have HSM:=Zab hn.2;have hn1:=hn.1;clear hn
 by_cases hL:Xl=[]
 . subst hL
   obtain⟨a,cap,rfl⟩:=hv.form;clear hv
   have hmk:∀ u:World,(Instr.makeSlice 46 (.int .i64 0) (.int .i64 0)).run prog u=.ok (.slice (some ⟨u.heap.size,0,none⟩) 0 0) (u.alloc (.cells (madeCells (Value.cells (.agg #[.string ⟨#[]⟩,.string ⟨#[]⟩,.string ⟨#[]⟩,.int .i64 0,.int .i64 0])) 0) 144)):=fun u=>by
    have h:=run_make (P:=prog) u 46 144 i0 _ underlying46 hi hz0 .i64 .i64 0 0 (by omega) (by omega) (by omega) (by omega)
    simpa [hz1] using h
   go_enter func42,ntmps42;go_wp2
   go_loop [4] (fun i=>i=.int .i64 0) (fun _=>0)
   case atStart=>rfl
   case round=>
    subst hrel;go_wp2;go_ret;exact⟨_,rfl,Zb_.alloc Zl_ _,Or.inl ⟨_,_,rfl,rfl⟩⟩
 . obtain⟨b,off,cap,rfl,hm,hbw,_,hc⟩:=hv.full hL
   clear hv;have HM:Hd (Xl.length<=maxLen):=hm;unfold maxLen at hm
   have hmk:∀ u:World,(Instr.makeSlice 46 (.int .i64 (Xl.length:Int)) (.int .i64 (Xl.length:Int))).run prog u=.ok (.slice (some ⟨u.heap.size,0,none⟩) Xl.length Xl.length) (u.alloc (.cells (madeCells (Value.cells (.agg #[.string ⟨#[]⟩,.string ⟨#[]⟩,.string ⟨#[]⟩,.int .i64 0,.int .i64 0])) (Xl.length*5)) 144)):=fun u=>by
    have h:=run_make (P:=prog) u 46 144 i0 _ underlying46 hi hz0 .i64 .i64 Xl.length Xl.length (by omega) (by omega) (by rw [hz2];omega) (by omega);rw [hz1] at h
    simpa using h
   clear hi hz0 hz1 hz2;go_enter func42,ntmps42;go_wp2;clear hmk
   go_loopw [4] (fun i wr=>∃ (k:Nat) (c:Nat->Nat),i=.int .i64 k/\k<=Xl.length/\Zw_ w wr/\Zba wr w.heap.size Xl k c) (fun i _=>Xl.length - (intOf i).toNat)
   case atStart=>exact⟨0,_,rfl,by omega,Zb_.alloc Zl_ _,Zba.new w Xl _⟩
   case round=>
    obtain⟨k,c,rfl,hk,hb,hf⟩:=hrel
    by_cases hlt:k < Xl.length
    . obtain⟨hs,hc⟩:=hc k hlt
      have HB:=Zab hb;have HF:=Zab hf;have HSZ:=Zab hs;obtain⟨c0,c1,c2,c3,c4⟩:=hc.below hb hbw;clear hc hb hf hs;go_wp2_with fail;refine (Znn _ _).mono ?_;rintro e w1 ⟨rfl,hb1⟩;have hf1:=HF.o.below hb1;have hB:Hd (Zw_ w w1):=HB.o.trans (hb1.mono HB.o.size);have HST:=Zab (hf1.step hlt HSZ.o w1.heap.size (Nat.le_trans HF.o.2.2.1 hb1.size) Zl_);have hfr:=hf1.free;obtain⟨o0,ho0⟩:=hf1.there (k*5) (by omega);obtain⟨o1,ho1⟩:=hf1.there (k*5+1) (by omega);obtain⟨o2,ho2⟩:=hf1.there (k*5+2) (by omega);obtain⟨o3,ho3⟩:=hf1.there (k*5+3) (by omega);obtain⟨o4,ho4⟩:=hf1.there (k*5+4) (by omega);clear hf1 hb1 HF HB c0 c1 c2 c3 c4;go_wp2;go_roundw
      . 
       exact⟨k+1,_,by go_num,by omega,(((((hB.o.setCell Zl_ _).setCell Zl_ _).setCell Zl_ _).setCell Zl_ _).setCell Zl_ _),HST.o⟩
      . simp [intOf];omega
    . have e:k=Xl.length:=by omega
      go_wp2;go_ret;exact⟨_,rfl,hb,hf.own e hL HM.o⟩
end Go.Proofs.YtmappejlmapboaaGreat
