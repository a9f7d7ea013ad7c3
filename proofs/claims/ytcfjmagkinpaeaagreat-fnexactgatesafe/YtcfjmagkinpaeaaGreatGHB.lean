import Derived.Test.YtcfjmagkinpaeaaGreatGHA
import Derived.Test.YtcfjmagkinpaeaaGreatGGG
set_option maxHeartbeats 16000000
set_option maxRecDepth 100000
open Go.Proofs.Tryz
namespace Go.Proofs.YtcfjmagkinpaeaaGreat
open Go.RowKit Go.Deep
def Zdt (t r:Zy_) (x:Le):Bool:=x.tm.toList == t.toList&&x.re.toList == r.toList
def Zkj (Ls:List Le) (t r:Zy_):Nat:=Ls.findIdx (Zdt t r)
def ZpD (Ls:List Le) (t r:Zy_):Int:=if Zkj Ls t r < Ls.length then (Zkj Ls t r:Int) else -1
theorem ZpF {Ls:List Le} {t r:Zy_} {k:Nat} (hk:k < Ls.length) (h:Zdt t r Ls[k]=true) (hall:∀ i (h:i < Ls.length),i < k→Zdt t r Ls[i]=false):ZpD Ls t r=k:=by
 have e:Zkj Ls t r=k:=by
  unfold Zkj;rw [List.findIdx_eq hk];exact⟨h,fun j hj=>hall j (by omega) hj⟩
 unfold ZpD;rw [e,if_pos hk]
theorem Zry {Ls:List Le} {t r:Zy_} (hall:∀ i (h:i < Ls.length),Zdt t r Ls[i]=false):ZpD Ls t r= -1:=by
 have e:Zkj Ls t r=Ls.length:=by
  unfold Zkj;rw [List.findIdx_eq_length];intro x hx;obtain⟨i,hi,rfl⟩:=List.getElem_of_mem hx;exact hall i hi
 unfold ZpD;rw [e,if_neg (Nat.lt_irrefl _)]
theorem ZpE (Ls:List Le) (t r:Zy_):decide (ZpD Ls t r < 0)=!Ls.any (Zdt t r):=by
 unfold ZpD Zkj
 cases h:Ls.any (Zdt t r) with
 | true=>
  obtain⟨x,hx,hp⟩:=List.any_eq_true.1 h;rw [if_pos (List.findIdx_lt_length_of_exists ⟨x,hx,hp⟩)];simp
 | false=>
  have e:Ls.findIdx (Zdt t r)=Ls.length:=List.findIdx_eq_length.2 (fun x hx=>by
   have:=List.any_eq_false.1 h x hx
   simpa using this)
  rw [e,if_neg (Nat.lt_irrefl _)]
  rfl
def Zlg (t r:Zy_) (p:Pu):Int:=if (p.tm.toList == t.toList&&p.re.toList == r.toList)=true then p.am else 0
def Ze5 (Ps:List Pu) (t r:Zy_):Int:=(Ps.map (Zlg t r)).sum
theorem ZnR (A:List Pu) (p:Pu) (t r:Zy_):Ze5 (A ++ [p]) t r=Ze5 A t r+Zlg t r p:=by simp [Ze5]
def ZdF (B:Bk):Bool:=inB 0 1000000 B.now&&inB 0 1000000 B.tick&&inB 0 B.now B.given
section
variable (lo:Nat) (ov gv lv pv:Value) (B:Bk) (t r:Zy_) (w:World)
theorem Za3 (h:ZaH lo w ov gv lv pv B) :
 Calls prog 108 #[.agg #[.int .i64 B.now,.int .i64 B.tick,.int .i64 B.given,ov,gv,lv,pv],.string t,.string r] w fun e w'=>e=.returned (.int .i64 (ZpD B.ls t r))∧Zw_ w w':=by
 have HL:=Zab h.les;have hm:=h.les.max;unfold maxLen at hm;obtain⟨a0,k0,rfl⟩:=h.obs.form;obtain⟨a1,k1,rfl⟩:=h.grs.form;obtain⟨a2,k2,rfl⟩:=h.les.form;obtain⟨a3,k3,rfl⟩:=h.pus.form;clear h;go_enter func108,ntmps108;go_wp2_with fail;generalize hWa:w.alloc _=Wa;have HB:Hid (Zw_ w Wa):=by rw [← hWa];exact Zac w _
 have HX:Hid (Box Wa w.heap.size #[.int .i64 B.now,.int .i64 B.tick,.int .i64 B.given,.slice a0 B.os.length k0,.slice a1 B.gs.length k1,.slice a2 B.ls.length k2,.slice a3 B.ps.length k3]):=by rw [← hWa];exact Box.new _ _ _ _ rfl
 clear hWa;have x5:=HX.out.cell 5;simp at x5
 go_loop [7] (fun i=>∃ k:Nat,i=.int .i64 k∧k≤B.ls.length∧∀ j (h:j < B.ls.length),j < k→Zdt t r B.ls[j]=false) (fun i=>B.ls.length - (intOf i).toNat)
 case atStart=>exact⟨0,rfl,Nat.zero_le _,fun j _ h=>by omega⟩
 case round=>
  obtain⟨k,rfl,hk,hall⟩:=hrel;have HA:=Zab hall;clear hall
  by_cases hlt:k < B.ls.length
  · obtain⟨b,off,rfl,hbw,-,hc⟩:=HL.out.full' (by omega)
    obtain⟨hs,hcell⟩:=hc k hlt;obtain⟨c0,c1,c2,c3⟩:=hcell.below HB.out hbw;have HI:Hid (Zdt t r B.ls[k]=(B.ls[k].tm.toList == t.toList&&B.ls[k].re.toList == r.toList)):=rfl;clear hc hcell hs
    cases h1:(B.ls[k].tm.toList == t.toList) with
    | false=>
     have HE:Hid (Zdt t r B.ls[k]=false):=by unfold Hid;rw [HI.out,h1];rfl
     go_wp2
     go_round
     case rel=>exact⟨k+1,by go_num,by omega,fun j hj hjk=>by
                by_cases e:j=k
                · subst e;exact HE.out
                · exact HA.out j hj (by omega)⟩
     case measure=>simp [intOf];omega
    | true=>
     cases h2:(B.ls[k].re.toList == r.toList) with
     | false=>
      have HE:Hid (Zdt t r B.ls[k]=false):=by unfold Hid;rw [HI.out,h1,h2];rfl
      go_wp2
      go_round
      case rel=>exact⟨k+1,by go_num,by omega,fun j hj hjk=>by
                 by_cases e:j=k
                 · subst e;exact HE.out
                 · exact HA.out j hj (by omega)⟩
      case measure=>simp [intOf];omega
     | true=>
      have HE:Hid (ZpD B.ls t r=k):=ZpF hlt (by rw [HI.out,h1,h2];rfl) HA.out;go_wp2;go_ret;exact⟨Zaz HE.out.symm,HB.out⟩
  · have HE:Hid (ZpD B.ls t r= -1):=Zry (fun i hi=>HA.out i hi (by omega))
    go_wp2;go_ret;exact⟨Zaz HE.out.symm,HB.out⟩
theorem Zjl (h:ZaH lo w ov gv lv pv B) :
 Calls prog 111 #[.agg #[.int .i64 B.now,.int .i64 B.tick,.int .i64 B.given,ov,gv,lv,pv],.string t,.string r] w fun e w'=>e=.returned (.int .i64 (wrap64 (Ze5 B.ps t r)))∧Zw_ w w':=by
 have HL:=Zab h.pus;have hm:=h.pus.max;unfold maxLen at hm;obtain⟨a0,k0,rfl⟩:=h.obs.form;obtain⟨a1,k1,rfl⟩:=h.grs.form;obtain⟨a2,k2,rfl⟩:=h.les.form;obtain⟨a3,k3,rfl⟩:=h.pus.form;clear h;go_enter func111,ntmps111;go_wp2_with fail;generalize hWa:w.alloc _=Wa;have HB:Hid (Zw_ w Wa):=by rw [← hWa];exact Zac w _
 have HX:Hid (Box Wa w.heap.size #[.int .i64 B.now,.int .i64 B.tick,.int .i64 B.given,.slice a0 B.os.length k0,.slice a1 B.gs.length k1,.slice a2 B.ls.length k2,.slice a3 B.ps.length k3]):=by rw [← hWa];exact Box.new _ _ _ _ rfl
 clear hWa;have x5:=HX.out.cell 6;simp at x5
 go_loop [7,8] (fun n i=>∃ k:Nat,n=.int .i64 (wrap64 (Ze5 (B.ps.take k) t r))∧i=.int .i64 k∧k≤B.ps.length) (fun _ i=>B.ps.length - (intOf i).toNat)
 case atStart=>exact⟨0,by simp [Ze5,wrap64],rfl,Nat.zero_le _⟩
 case round=>
  obtain⟨k,rfl,rfl,hk⟩:=hrel
  by_cases hlt:k < B.ps.length
  · obtain⟨b,off,rfl,hbw,-,hc⟩:=HL.out.full' (by omega)
    obtain⟨hs,hcell⟩:=hc k hlt;obtain⟨c0,c1,c2,c3,c4⟩:=hcell.below HB.out hbw;have HI:Hid (Zlg t r B.ps[k]=if (B.ps[k].tm.toList == t.toList&&B.ps[k].re.toList == r.toList)=true then B.ps[k].am else 0):=rfl;have HU:=Zab (ZnR (B.ps.take k) B.ps[k] t r);have HT:=Zab (List.take_succ_eq_append_getElem hlt);clear hc hcell hs
    cases h1:(B.ps[k].tm.toList == t.toList) with
    | false=>
     have HE:Hid (Ze5 (B.ps.take (k+1)) t r=Ze5 (B.ps.take k) t r):=by unfold Hid;rw [HT.out,HU.out,HI.out,h1];simp
     go_wp2
     go_round
     case rel=>exact⟨k+1,by rw [HE.out],by go_num,by omega⟩
     case measure=>simp [intOf];omega
    | true=>
     cases h2:(B.ps[k].re.toList == r.toList) with
     | false=>
      have HE:Hid (Ze5 (B.ps.take (k+1)) t r=Ze5 (B.ps.take k) t r):=by unfold Hid;rw [HT.out,HU.out,HI.out,h1,h2];simp
      go_wp2
      go_round
      case rel=>exact⟨k+1,by rw [HE.out],by go_num,by omega⟩
      case measure=>simp [intOf];omega
     | true=>
      have HE:Hid (Ze5 (B.ps.take (k+1)) t r=Ze5 (B.ps.take k) t r+B.ps[k].am):=by unfold Hid;rw [HT.out,HU.out,HI.out,h1,h2];simp
      go_wp2
      go_round
      case rel=>exact⟨k+1,by rw [HE.out,Zfr],by go_num,by omega⟩
      case measure=>simp [intOf];omega
  · have he:k=B.ps.length:=by omega
    subst he;have HE:Hid (Ze5 (B.ps.take B.ps.length) t r=Ze5 B.ps t r):=by unfold Hid;rw [List.take_length]
    go_wp2;go_ret;exact⟨Zaz (by first | rw [HE.out] | rfl),HB.out⟩
theorem ZkJ (h:ZaH lo w ov gv lv pv B) :
 Calls prog 84 #[.agg #[.int .i64 B.now,.int .i64 B.tick,.int .i64 B.given,ov,gv,lv,pv]] w fun e w'=>e=.returned (.bool (ZdF B))∧Zw_ w w':=by
 obtain⟨a0,k0,rfl⟩:=h.obs.form;obtain⟨a1,k1,rfl⟩:=h.grs.form;obtain⟨a2,k2,rfl⟩:=h.les.form;obtain⟨a3,k3,rfl⟩:=h.pus.form;clear h;have HI:Hid (ZdF B=(inB 0 1000000 B.now&&inB 0 1000000 B.tick&&inB 0 B.now B.given)):=rfl
 cases h1:inB 0 1000000 B.now with
 | false=>
  have HE:Hid (ZdF B=false):=by unfold Hid;rw [HI.out,h1];rfl
  go_enter func84,ntmps84;go_wp2_with (go_at_call 130;refine (Zat _ _ _ _).mono ?_;rintro e w' ⟨rfl,rfl⟩);go_ret;exact⟨Zaa HE.out.symm,Zac _ _⟩
 | true=>
  cases h2:inB 0 1000000 B.tick with
  | false=>
   have HE:Hid (ZdF B=false):=by unfold Hid;rw [HI.out,h1,h2];rfl
   go_enter func84,ntmps84;go_wp2_with (go_at_call 130;refine (Zat _ _ _ _).mono ?_;rintro e w' ⟨rfl,rfl⟩);go_ret;exact⟨Zaa HE.out.symm,Zac _ _⟩
  | true=>
   have HE:Hid (ZdF B=inB 0 B.now B.given):=by unfold Hid;rw [HI.out,h1,h2];rfl
   go_enter func84,ntmps84;go_wp2_with (go_at_call 130;refine (Zat _ _ _ _).mono ?_;rintro e w' ⟨rfl,rfl⟩);go_ret;exact⟨Zaa HE.out.symm,Zac _ _⟩
end
structure Zs1 {X:Type} (c:X→X→Int) (L:List X) (t:X) (p:Nat):Prop where
 le:p≤L.length
 less:∀ i (h:i < L.length),i < p→c L[i] t < 0
 more:∀ i (h:i < L.length),p≤i→0≤c L[i] t
def ZqN {X:Type} (c:X→X→Int) (L:List X) (t:X) (p:Nat):Bool:=match L[p]? with
 | some x=>decide (c x t=0)
 | none=>false
def Zsf {X:Type} (c:X→X→Int) (L:List X) (t:X):Prop:=∀ i j (hi:i < L.length) (hj:j < L.length),i < j→c L[j] t < 0→c L[i] t < 0
theorem Zrm {i j:Nat} (h:i < j):i≤(i+j) / 2∧(i+j) / 2 < j:=by omega
abbrev Zge (w:World) (b o:Nat) (x t:Le) (W:World):Prop:=
 W.cell? ⟨b,o,none⟩=some (.string x.tm)∧W.cell? ⟨b,o+1,none⟩=some (.string x.re)∧W.cell? ⟨b,o+2,none⟩=some (.int .i64 x.mo)∧W.cell? ⟨b,o+3,none⟩=some (.int .i64 x.fr)∧W.cell? ⟨w.heap.size,0,none⟩=some (.string t.tm)∧W.cell? ⟨w.heap.size,1,none⟩=some (.string t.re)∧W.cell? ⟨w.heap.size,2,none⟩=some (.int .i64 t.mo)∧W.cell? ⟨w.heap.size,3,none⟩=some (.int .i64 t.fr)∧Hid (Zw_ w W∧b < W.heap.size∧w.heap.size < W.heap.size)
theorem Zge.on {w:World} {b o:Nat} {x t:Le} {W W':World} (h:Zge w b o x t W) (hb:Below W.heap.size W W'):Zge w b o x t W':=by
 obtain⟨y0,y1,y2,y3,y4,y5,y6,y7,hh⟩:=h;have e1:∀ o,W'.cell? ⟨b,o,none⟩=W.cell? ⟨b,o,none⟩:=fun o=>hb.cell (p:=⟨b,o,none⟩) hh.out.2.1
 have e2:∀ o,W'.cell? ⟨w.heap.size,o,none⟩=W.cell? ⟨w.heap.size,o,none⟩:=fun o=>hb.cell (p:=⟨w.heap.size,o,none⟩) hh.out.2.2
 exact⟨(e1 _).trans y0,(e1 _).trans y1,(e1 _).trans y2,(e1 _).trans y3,(e2 _).trans y4,(e2 _).trans y5,(e2 _).trans y6,(e2 _).trans y7,⟨hh.out.1.trans (hb.mono hh.out.1.size),Zk_ hh.out.2.1 hb.size,Zk_ hh.out.2.2 hb.size⟩⟩
theorem ZiH (lo:Nat) (v:Value) (Xl:List Le) (t:Le) (w:World) (hv:ZbU lo w v Xl) (hn:Xl.length≤1048576) (hr:Zsf Zdh Xl t) :
 Calls prog 191 #[v,.agg #[.string t.tm,.string t.re,.int .i64 t.mo,.int .i64 t.fr],.func (.func 142) #[] #[]] w
  fun e w'=>(∃ p:Nat,Zs1 Zdh Xl t p∧e=.returned (.tuple #[.int .i64 p,.bool (ZqN Zdh Xl t p)]))∧Zw_ w w':=by
 have HV:=Zab hv;have HR:=Zab hr;obtain⟨a,cap,rfl⟩:=hv.form;clear hv hr;go_enter func191,ntmps191;go_wp2_with fail;generalize hWa:w.alloc _=Wa;have HB:Hid (Zw_ w Wa):=by rw [← hWa];exact Zac w _
 have HX:Hid (Box Wa w.heap.size #[.string t.tm,.string t.re,.int .i64 t.mo,.int .i64 t.fr]):=by rw [← hWa];exact Box.new _ _ _ _ rfl
 clear hWa
 go_loopw [9,10] (fun i j wr=>∃ p q:Nat,i=.int .i64 p∧j=.int .i64 q∧p≤q∧q≤Xl.length∧(∀ k (h:k < Xl.length),k < p→Zdh Xl[k] t < 0)∧(∀ k (h:k < Xl.length),q≤k→0≤Zdh Xl[k] t)∧Zw_ w wr∧Box wr w.heap.size #[.string t.tm,.string t.re,.int .i64 t.mo,.int .i64 t.fr])
  (fun i j _=>(intOf j).toNat - (intOf i).toNat)
 case atStart=>exact⟨0,Xl.length,rfl,rfl,Nat.zero_le _,Nat.le_refl _,fun k _ h=>by omega,fun k h h'=>by omega,HB.out,HX.out⟩
 case round=>
  obtain⟨p,q,rfl,rfl,hpq,hq,h1,h2,hb,hx⟩:=hrel;have HL1:=Zab h1;have HL2:=Zab h2;have HBr:=Zab hb;have HXr:=Zab hx;clear h1 h2 hb hx
  by_cases hlt:p < q
  · obtain⟨hm1,hm2⟩:=Zrm hlt
    have hml:(p+q) / 2 < Xl.length:=by omega
    obtain⟨m,em⟩:∃ m:Nat,(p+q) / 2=m:=⟨_,rfl⟩
    rw [em] at hm1 hm2 hml;have em':((p:Int)+(q:Int)) / 2=(m:Int):=by omega
    obtain⟨b,off,rfl,hbw,-,hc⟩:=HV.out.full' (by omega);obtain⟨hs,hcell⟩:=hc m hml;obtain⟨c0,c1,c2,c3⟩:=hcell.below HBr.out hbw;have x:=HXr.out.cell;have x0:=x 0;have x1:=x 1;have x2:=x 2;have x3:=x 3;simp at x0 x1 x2 x3;have EM:=Zab em;clear hc hcell hs x em;go_wp2
    go_region_with (go_at_call 142;refine (Zfu Xl[m] t _).mono ?_;rintro e w1 ⟨rfl,hb1⟩;have hB:Hid (Zw_ w w1):=(HBr.out.drew).trans (hb1.mono HBr.out.size);have hX:Hid (Box w1 w.heap.size #[.string t.tm,.string t.re,.int .i64 t.mo,.int .i64 t.fr]):=(HXr.out.drew).on hb1;clear hb1)
    all_goals by_cases hq:ZeK Xl[m].tm Xl[m].re t.tm t.re < 0
    all_goals first
     | (have HT:Hid (Zdh Xl[m] t < 0):=hq
        go_wp2;go_roundw
        case rel=>exact⟨m+1,q,by go_num,rfl,by omega,by omega,fun k hk hkm=>by
                   by_cases e:k=m
                   · subst e;exact HT.out
                   · exact HR.out k m hk hml (by omega) HT.out,HL2.out,hB.out,hX.out⟩
        case measure=>simp [intOf];omega)
     | (have HT:Hid (0≤Zdh Xl[m] t):=by unfold Hid Zdh;omega
        go_wp2;go_roundw
        case rel=>exact⟨p,m,rfl,rfl,by omega,by omega,HL1.out,fun k hk hkm=>by
                   by_cases e:k=m
                   · subst e;exact HT.out
                   · refine Int.not_lt.1 (fun hn'=>?_)
                     have:=HR.out m k hml hk (by omega) hn';have:=HT.out
                     omega,hB.out,hX.out⟩
        case measure=>simp [intOf];omega)
  · have hpq':p=q:=by omega
    subst hpq';have HSP:Hid (Zs1 Zdh Xl t p):=⟨hq,HL1.out,HL2.out⟩
    by_cases hlt2:p < Xl.length
    · obtain⟨b,off,rfl,hbw,-,hc⟩:=HV.out.full' (by omega)
      obtain⟨hs,hcell⟩:=hc p hlt2;obtain⟨c0,c1,c2,c3⟩:=hcell.below HBr.out hbw;have x:=HXr.out.cell;have x0:=x 0;have x1:=x 1;have x2:=x 2;have x3:=x 3;simp at x0 x1 x2 x3;have HI:Hid (ZqN Zdh Xl t p=decide (ZeK Xl[p].tm Xl[p].re t.tm t.re=0)):=by unfold Hid ZqN;rw [List.getElem?_eq_getElem hlt2];rfl
      have hd:decide ((p:Int) < (Xl.length:Int))=true:=by simp;omega
      clear hc hcell hs x;go_wp2;have HBD:Hid (Zw_ w wr.drew):=HBr.out.drew;have hbl:b < wr.heap.size:=Zk_ hbw HBr.out.size
      have hxl:=HXr.out.lt
      go_region_held3 (Zge w b (off+p*4) Xl[p] t)
       (first
         | (exact⟨c0,c1,c2,c3,x0,x1,x2,x3,⟨HBD.out,hbl,hxl⟩⟩)
         | (with_reducible exact Zge.on (by assumption) (by assumption)))
       (first
         | (go_at_call 142
            refine (Zfu Xl[p] t _).mono ?_;rintro e w1 ⟨rfl,hb1⟩;have hB:Hid (Zw_ w w1):=HBD.out.trans (hb1.mono HBD.out.size)))
      all_goals go_wp2
      all_goals go_ret2
      all_goals exact⟨⟨p,HSP.out,by rw [HI.out];first | rfl | simp⟩,hB.out⟩
    · have HI:Hid (ZqN Zdh Xl t p=false):=by unfold Hid ZqN;rw [List.getElem?_eq_none (by omega)]
      have hd:decide ((p:Int) < (Xl.length:Int))=false:=by simp;omega
      go_wp2
      go_quiet (fail)
      go_wp2
      go_ret2
      exact⟨⟨p,HSP.out,by rw [HI.out];rfl⟩,below_drewN HBr.out _⟩
theorem Zhv {a b c:Zy_} (h:Zcj a b < 0) (h':Zcj b c < 0):Zcj a c < 0:=Zfc.2 (Zma (Zfc.1 h) (Zfc.1 h'))
theorem ZrO {a b:Int}:orI a b < 0↔a < 0∨(a=0∧b < 0):=by unfold orI;split <;> omega
theorem Zpx {a b c d:Zy_}:ZeK a b c d < 0↔Zcj a c < 0∨(a=c∧Zcj b d < 0):=by
 unfold ZeK;rw [ZrO,Zd7]
theorem ZiZ {a b c d:Zy_}:ZeK a b c d=0↔a=c∧b=d:=by
 unfold ZeK;rw [ZpT,Zd7,Zd7]
theorem ZlD {a b c d e f:Zy_} (h:ZeK a b c d < 0) (h':ZeK c d e f < 0):ZeK a b e f < 0:=by
 rw [Zpx] at*
 rcases h with h | ⟨rfl,h⟩
 · rcases h' with h' | ⟨rfl,h'⟩
   · exact Or.inl (Zhv h h')
   · exact Or.inl h
 · rcases h' with h' | ⟨rfl,h'⟩
   · exact Or.inl h'
   · exact Or.inr ⟨rfl,Zhv h h'⟩
theorem Zht (x y z:Le) (h:Zdh x y < 0) (h':Zdh y z < 0):Zdh x z < 0:=ZlD h h'
theorem Zlk {X:Type} {c:X→X→Int} {L:List X} (h:Zcz c L=true) {j:Nat} (hj:j+1 < L.length):c L[j] L[j+1] < 0:=by
 have:=ZiD hj h;rw [Zdb hj] at this;exact of_decide_eq_true this
theorem ZqU {X:Type} {c:X→X→Int} {L:List X} (tr:∀ x y z,c x y < 0→c y z < 0→c x z < 0) (h:Zcz c L=true) (i:Nat):∀ (d:Nat) (hj:i+d+1 < L.length),c (L[i]'(by omega)) L[i+d+1] < 0
 | 0,hj=>Zlk h hj
 | d+1,hj=>tr _ _ _ (ZqU tr h i d (by omega)) (Zlk (j:=i+d+1) h hj)
theorem Zlj {X:Type} {c:X→X→Int} {L:List X} (tr:∀ x y z,c x y < 0→c y z < 0→c x z < 0) (h:Zcz c L=true) {i j:Nat} (hi:i < L.length) (hj:j < L.length) (hij:i < j):c L[i] L[j] < 0:=by
 obtain⟨d,rfl⟩:∃ d,j=i+d+1:=⟨j - i - 1,by omega⟩
 exact ZqU tr h i d hj
theorem Zn4 {X:Type} {c:X→X→Int} {L:List X} (tr:∀ x y z,c x y < 0→c y z < 0→c x z < 0) (h:Zcz c L=true) (t:X):Zsf c L t:=
 fun _ _ hi hj hij h'=>tr _ _ _ (Zlj tr h hi hj hij) h'
theorem Zql {X:Type} {c:X→X→Int} {L:List X} {t:X} {p:Nat} (tr:∀ x y z,c x y < 0→c y z < 0→c x z < 0) (sub:∀ x y,c x y < 0→c y t=0→c x t < 0) (h:Zcz c L=true) (hp:Zs1 c L t p) :
 ZqN c L t p=L.any fun x=>decide (c x t=0):=by
 unfold ZqN
 cases hx:L[p]? with
 | some x=>
  obtain⟨hl,rfl⟩:=List.getElem?_eq_some_iff.1 hx
  show decide (c L[p] t=0)=_
  by_cases h0:c L[p] t=0
  · rw [decide_eq_true h0]
    exact (List.any_eq_true.2 ⟨L[p],List.getElem_mem hl,decide_eq_true h0⟩).symm
  · rw [decide_eq_false h0]
    refine (List.any_eq_false.2 fun y hy hc=>?_).symm;obtain⟨i,hi,rfl⟩:=List.getElem_of_mem hy;have hc':=of_decide_eq_true hc
    by_cases e:i < p
    · have:=hp.less i hi e
      omega
    · by_cases e2:i=p
      · subst e2;exact h0 hc'
      · have h1:=sub _ _ (Zlj tr h hl hi (by omega)) hc'
        have h2:=hp.more p hl Zl_
        omega
 | none=>
  have hl:L.length≤p:=List.getElem?_eq_none_iff.1 hx;refine (List.any_eq_false.2 fun y hy hc=>?_).symm;obtain⟨i,hi,rfl⟩:=List.getElem_of_mem hy;have:=hp.less i hi (by omega);have:=of_decide_eq_true hc
  omega
theorem Zrz (Ls:List Le) (t r:Zy_):(Ls.any fun x=>decide (Zdh x ⟨t,r,0,0⟩=0))=Ls.any (Zdt t r):=by
 congr 1
 funext x
 unfold Zdt Zdh;rw [Bool.eq_iff_iff,Bool.and_eq_true,ZaY,ZaY,decide_eq_true_iff,ZiZ]
theorem ZgH (lo:Nat) (v:Value) (Ls:List Le) (t r:Zy_) (w:World) (hv:ZbU lo w v Ls) (hn:Ls.length≤1048576) (hr:Zcz Zdh Ls=true) :
 Calls prog 145 #[v,.string t,.string r] w
  fun e w'=>(∃ p:Nat,Zs1 Zdh Ls ⟨t,r,0,0⟩ p∧e=.returned (.tuple #[.int .i64 p,.bool (Ls.any (Zdt t r))]))∧Zw_ w w':=by
 have HV:=Zab hv;have HR:=Zab hr;obtain⟨a,cap,rfl⟩:=hv.form;clear hv hr;go_enter func145,ntmps145;go_wp2_with fail;refine (ZiH lo _ Ls ⟨t,r,0,0⟩ _ HV.out hn (Zn4 Zht HR.out _)).mono ?_;rintro e w1 ⟨⟨p,hp,rfl⟩,hb⟩;have HP:=Zab hp;have HB:=Zab hb
 have HE:Hid (ZqN Zdh Ls ⟨t,r,0,0⟩ p=Ls.any (Zdt t r)):=(Zql Zht (fun x y h h0=>by
  obtain⟨e1,e2⟩:=ZiZ.1 h0;unfold Zdh at h ⊢;simp only at e1 e2 ⊢;rw [← e1,← e2];exact h) HR.out hp).trans (Zrz Ls t r)
 clear hp hb;go_wp2
 go_ret2
 exact⟨⟨p,HP.out,by rw [HE.out];rfl⟩,HB.out⟩
end Go.Proofs.YtcfjmagkinpaeaaGreat
