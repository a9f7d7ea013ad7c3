import Derived.Test.YtfohnageehneoaaGreatVHA
import Derived.Test.YtfohnageehneoaaGreatVGG
set_option maxHeartbeats 16000000
set_option maxRecDepth 100000
open Go.Proofs.Tryz
namespace Go.Proofs.YtfohnageehneoaaGreat
open Go.RowKit Go.Deep
def Zb8 (t r:Zy_) (x:Le):Bool:=x.tm.toList == t.toList&&x.re.toList == r.toList
def ZhK (Ls:List Le) (t r:Zy_):Nat:=Ls.findIdx (Zb8 t r)
def ZiH (Ls:List Le) (t r:Zy_):Int:=if ZhK Ls t r < Ls.length then (ZhK Ls t r:Int) else -1
theorem ZlM {Ls:List Le} {t r:Zy_} {k:Nat} (hk:k < Ls.length) (h:Zb8 t r Ls[k]=true) (hall:∀ i (h:i < Ls.length),i < k→Zb8 t r Ls[i]=false):ZiH Ls t r=k:=by
 have e:ZhK Ls t r=k:=by
  unfold ZhK;rw [List.findIdx_eq hk];exact⟨h,fun j hj=>hall j (by omega) hj⟩
 unfold ZiH;rw [e,if_pos hk]
theorem ZrH {Ls:List Le} {t r:Zy_} (hall:∀ i (h:i < Ls.length),Zb8 t r Ls[i]=false):ZiH Ls t r= -1:=by
 have e:ZhK Ls t r=Ls.length:=by
  unfold ZhK;rw [List.findIdx_eq_length];intro x hx;obtain⟨i,hi,rfl⟩:=List.getElem_of_mem hx;exact hall i hi
 unfold ZiH;rw [e,if_neg (Nat.lt_irrefl _)]
theorem ZlS (Ls:List Le) (t r:Zy_):decide (ZiH Ls t r < 0)=!Ls.any (Zb8 t r):=by
 unfold ZiH ZhK
 cases h:Ls.any (Zb8 t r) with
 | true=>
  obtain⟨x,hx,hp⟩:=List.any_eq_true.1 h;rw [if_pos (List.findIdx_lt_length_of_exists ⟨x,hx,hp⟩)];simp
 | false=>
  have e:Ls.findIdx (Zb8 t r)=Ls.length:=List.findIdx_eq_length.2 (fun x hx=>by
   have:=List.any_eq_false.1 h x hx
   simpa using this)
  rw [e,if_neg (Nat.lt_irrefl _)]
  rfl
def Zmf (t r:Zy_) (p:Pu):Int:=if (p.tm.toList == t.toList&&p.re.toList == r.toList)=true then p.am else 0
def Zfd (Ps:List Pu) (t r:Zy_):Int:=(Ps.map (Zmf t r)).sum
theorem Zpu (A:List Pu) (p:Pu) (t r:Zy_):Zfd (A ++ [p]) t r=Zfd A t r+Zmf t r p:=by simp [Zfd]
def Zdw (B:Bk):Bool:=inB 0 1000000 B.now&&inB 0 1000000 B.tick&&inB 0 B.now B.given
section
variable (lo:Nat) (ov gv lv pv:Value) (B:Bk) (t r:Zy_) (w:World)
theorem ZaV (h:ZaW lo w ov gv lv pv B) :
 Calls prog 36 #[.agg #[.int .i64 B.now,.int .i64 B.tick,.int .i64 B.given,ov,gv,lv,pv],.string t,.string r] w fun e w'=>e=.returned (.int .i64 (ZiH B.ls t r))∧Zw_ w w':=by
 have HL:=Zab h.les;have hm:=h.les.max;unfold maxLen at hm;obtain⟨a0,k0,rfl⟩:=h.obs.form;obtain⟨a1,k1,rfl⟩:=h.grs.form;obtain⟨a2,k2,rfl⟩:=h.les.form;obtain⟨a3,k3,rfl⟩:=h.pus.form;clear h;go_enter func36,ntmps36;go_wp2_with fail;generalize hWa:w.alloc _=Wa;have HB:Hid (Zw_ w Wa):=by rw [← hWa];exact Zac w _
 have HX:Hid (Box Wa w.heap.size #[.int .i64 B.now,.int .i64 B.tick,.int .i64 B.given,.slice a0 B.os.length k0,.slice a1 B.gs.length k1,.slice a2 B.ls.length k2,.slice a3 B.ps.length k3]):=by rw [← hWa];exact Box.new _ _ _ _ rfl
 clear hWa;have x5:=HX.out.cell 5;simp at x5
 go_loop [7] (fun i=>∃ k:Nat,i=.int .i64 k∧k≤B.ls.length∧∀ j (h:j < B.ls.length),j < k→Zb8 t r B.ls[j]=false) (fun i=>B.ls.length - (intOf i).toNat)
 case atStart=>exact⟨0,rfl,Nat.zero_le _,fun j _ h=>by omega⟩
 case round=>
  obtain⟨k,rfl,hk,hall⟩:=hrel;have HA:=Zab hall;clear hall
  by_cases hlt:k < B.ls.length
  · obtain⟨b,off,rfl,hbw,-,hc⟩:=HL.out.full' (by omega)
    obtain⟨hs,hcell⟩:=hc k hlt;obtain⟨c0,c1,c2,c3⟩:=hcell.below HB.out hbw;have HI:Hid (Zb8 t r B.ls[k]=(B.ls[k].tm.toList == t.toList&&B.ls[k].re.toList == r.toList)):=rfl;clear hc hcell hs
    cases h1:(B.ls[k].tm.toList == t.toList) with
    | false=>
     have HE:Hid (Zb8 t r B.ls[k]=false):=by unfold Hid;rw [HI.out,h1];rfl
     go_wp2
     go_round
     case rel=>exact⟨k+1,by go_num,by omega,fun j hj hjk=>by
                by_cases e:j=k
                · subst e;exact HE.out
                · exact HA.out j hj (by omega)⟩
     case measure=>simp [intOf];omega
    | true=>
     cases h2:(B.ls[k].re.toList == r.toList) with
     | false=>
      have HE:Hid (Zb8 t r B.ls[k]=false):=by unfold Hid;rw [HI.out,h1,h2];rfl
      go_wp2
      go_round
      case rel=>exact⟨k+1,by go_num,by omega,fun j hj hjk=>by
                 by_cases e:j=k
                 · subst e;exact HE.out
                 · exact HA.out j hj (by omega)⟩
      case measure=>simp [intOf];omega
     | true=>
      have HE:Hid (ZiH B.ls t r=k):=ZlM hlt (by rw [HI.out,h1,h2];rfl) HA.out;go_wp2;go_ret;exact⟨ZaG HE.out.symm,HB.out⟩
  · have HE:Hid (ZiH B.ls t r= -1):=ZrH (fun i hi=>HA.out i hi (by omega))
    go_wp2;go_ret;exact⟨ZaG HE.out.symm,HB.out⟩
theorem Zj4 (h:ZaW lo w ov gv lv pv B) :
 Calls prog 159 #[.agg #[.int .i64 B.now,.int .i64 B.tick,.int .i64 B.given,ov,gv,lv,pv],.string t,.string r] w fun e w'=>e=.returned (.int .i64 (wrap64 (Zfd B.ps t r)))∧Zw_ w w':=by
 have HL:=Zab h.pus;have hm:=h.pus.max;unfold maxLen at hm;obtain⟨a0,k0,rfl⟩:=h.obs.form;obtain⟨a1,k1,rfl⟩:=h.grs.form;obtain⟨a2,k2,rfl⟩:=h.les.form;obtain⟨a3,k3,rfl⟩:=h.pus.form;clear h;go_enter func159,ntmps159;go_wp2_with fail;generalize hWa:w.alloc _=Wa;have HB:Hid (Zw_ w Wa):=by rw [← hWa];exact Zac w _
 have HX:Hid (Box Wa w.heap.size #[.int .i64 B.now,.int .i64 B.tick,.int .i64 B.given,.slice a0 B.os.length k0,.slice a1 B.gs.length k1,.slice a2 B.ls.length k2,.slice a3 B.ps.length k3]):=by rw [← hWa];exact Box.new _ _ _ _ rfl
 clear hWa;have x5:=HX.out.cell 6;simp at x5
 go_loop [7,8] (fun n i=>∃ k:Nat,n=.int .i64 (wrap64 (Zfd (B.ps.take k) t r))∧i=.int .i64 k∧k≤B.ps.length) (fun _ i=>B.ps.length - (intOf i).toNat)
 case atStart=>exact⟨0,by simp [Zfd,wrap64],rfl,Nat.zero_le _⟩
 case round=>
  obtain⟨k,rfl,rfl,hk⟩:=hrel
  by_cases hlt:k < B.ps.length
  · obtain⟨b,off,rfl,hbw,-,hc⟩:=HL.out.full' (by omega)
    obtain⟨hs,hcell⟩:=hc k hlt;obtain⟨c0,c1,c2,c3,c4⟩:=hcell.below HB.out hbw;have HI:Hid (Zmf t r B.ps[k]=if (B.ps[k].tm.toList == t.toList&&B.ps[k].re.toList == r.toList)=true then B.ps[k].am else 0):=rfl;have HU:=Zab (Zpu (B.ps.take k) B.ps[k] t r);have HT:=Zab (List.take_succ_eq_append_getElem hlt);clear hc hcell hs
    cases h1:(B.ps[k].tm.toList == t.toList) with
    | false=>
     have HE:Hid (Zfd (B.ps.take (k+1)) t r=Zfd (B.ps.take k) t r):=by unfold Hid;rw [HT.out,HU.out,HI.out,h1];simp
     go_wp2
     go_round
     case rel=>exact⟨k+1,by rw [HE.out],by go_num,by omega⟩
     case measure=>simp [intOf];omega
    | true=>
     cases h2:(B.ps[k].re.toList == r.toList) with
     | false=>
      have HE:Hid (Zfd (B.ps.take (k+1)) t r=Zfd (B.ps.take k) t r):=by unfold Hid;rw [HT.out,HU.out,HI.out,h1,h2];simp
      go_wp2
      go_round
      case rel=>exact⟨k+1,by rw [HE.out],by go_num,by omega⟩
      case measure=>simp [intOf];omega
     | true=>
      have HE:Hid (Zfd (B.ps.take (k+1)) t r=Zfd (B.ps.take k) t r+B.ps[k].am):=by unfold Hid;rw [HT.out,HU.out,HI.out,h1,h2];simp
      go_wp2
      go_round
      case rel=>exact⟨k+1,by rw [HE.out,Zfl],by go_num,by omega⟩
      case measure=>simp [intOf];omega
  · have he:k=B.ps.length:=by omega
    subst he;have HE:Hid (Zfd (B.ps.take B.ps.length) t r=Zfd B.ps t r):=by unfold Hid;rw [List.take_length]
    go_wp2;go_ret;exact⟨ZaG (by first | rw [HE.out] | rfl),HB.out⟩
theorem Zld (h:ZaW lo w ov gv lv pv B) :
 Calls prog 203 #[.agg #[.int .i64 B.now,.int .i64 B.tick,.int .i64 B.given,ov,gv,lv,pv]] w fun e w'=>e=.returned (.bool (Zdw B))∧Zw_ w w':=by
 obtain⟨a0,k0,rfl⟩:=h.obs.form;obtain⟨a1,k1,rfl⟩:=h.grs.form;obtain⟨a2,k2,rfl⟩:=h.les.form;obtain⟨a3,k3,rfl⟩:=h.pus.form;clear h;have HI:Hid (Zdw B=(inB 0 1000000 B.now&&inB 0 1000000 B.tick&&inB 0 B.now B.given)):=rfl
 cases h1:inB 0 1000000 B.now with
 | false=>
  have HE:Hid (Zdw B=false):=by unfold Hid;rw [HI.out,h1];rfl
  go_enter func203,ntmps203;go_wp2_with (go_at_call 111;refine (ZaU _ _ _ _).mono ?_;rintro e w' ⟨rfl,rfl⟩);go_ret;exact⟨Zaa HE.out.symm,Zac _ _⟩
 | true=>
  cases h2:inB 0 1000000 B.tick with
  | false=>
   have HE:Hid (Zdw B=false):=by unfold Hid;rw [HI.out,h1,h2];rfl
   go_enter func203,ntmps203;go_wp2_with (go_at_call 111;refine (ZaU _ _ _ _).mono ?_;rintro e w' ⟨rfl,rfl⟩);go_ret;exact⟨Zaa HE.out.symm,Zac _ _⟩
  | true=>
   have HE:Hid (Zdw B=inB 0 B.now B.given):=by unfold Hid;rw [HI.out,h1,h2];rfl
   go_enter func203,ntmps203;go_wp2_with (go_at_call 111;refine (ZaU _ _ _ _).mono ?_;rintro e w' ⟨rfl,rfl⟩);go_ret;exact⟨Zaa HE.out.symm,Zac _ _⟩
end
structure Zsn {X:Type} (c:X→X→Int) (L:List X) (t:X) (p:Nat):Prop where
 le:p≤L.length
 less:∀ i (h:i < L.length),i < p→c L[i] t < 0
 more:∀ i (h:i < L.length),p≤i→0≤c L[i] t
def Zp5 {X:Type} (c:X→X→Int) (L:List X) (t:X) (p:Nat):Bool:=match L[p]? with
 | some x=>decide (c x t=0)
 | none=>false
def ZsL {X:Type} (c:X→X→Int) (L:List X) (t:X):Prop:=∀ i j (hi:i < L.length) (hj:j < L.length),i < j→c L[j] t < 0→c L[i] t < 0
theorem ZrY {i j:Nat} (h:i < j):i≤(i+j) / 2∧(i+j) / 2 < j:=by omega
abbrev Zg8 (w:World) (b o:Nat) (x t:Le) (W:World):Prop:=
 W.cell? ⟨b,o,none⟩=some (.string x.tm)∧W.cell? ⟨b,o+1,none⟩=some (.string x.re)∧W.cell? ⟨b,o+2,none⟩=some (.int .i64 x.mo)∧W.cell? ⟨b,o+3,none⟩=some (.int .i64 x.fr)∧W.cell? ⟨w.heap.size,0,none⟩=some (.string t.tm)∧W.cell? ⟨w.heap.size,1,none⟩=some (.string t.re)∧W.cell? ⟨w.heap.size,2,none⟩=some (.int .i64 t.mo)∧W.cell? ⟨w.heap.size,3,none⟩=some (.int .i64 t.fr)∧Hid (Zw_ w W∧b < W.heap.size∧w.heap.size < W.heap.size)
theorem Zg8.on {w:World} {b o:Nat} {x t:Le} {W W':World} (h:Zg8 w b o x t W) (hb:Below W.heap.size W W'):Zg8 w b o x t W':=by
 obtain⟨y0,y1,y2,y3,y4,y5,y6,y7,hh⟩:=h;have e1:∀ o,W'.cell? ⟨b,o,none⟩=W.cell? ⟨b,o,none⟩:=fun o=>hb.cell (p:=⟨b,o,none⟩) hh.out.2.1
 have e2:∀ o,W'.cell? ⟨w.heap.size,o,none⟩=W.cell? ⟨w.heap.size,o,none⟩:=fun o=>hb.cell (p:=⟨w.heap.size,o,none⟩) hh.out.2.2
 exact⟨(e1 _).trans y0,(e1 _).trans y1,(e1 _).trans y2,(e1 _).trans y3,(e2 _).trans y4,(e2 _).trans y5,(e2 _).trans y6,(e2 _).trans y7,⟨hh.out.1.trans (hb.mono hh.out.1.size),Zk_ hh.out.2.1 hb.size,Zk_ hh.out.2.2 hb.size⟩⟩
theorem ZiP (lo:Nat) (v:Value) (Xl:List Le) (t:Le) (w:World) (hv:ZbB lo w v Xl) (hn:Xl.length≤1048576) (hr:ZsL Zcn Xl t) :
 Calls prog 168 #[v,.agg #[.string t.tm,.string t.re,.int .i64 t.mo,.int .i64 t.fr],.func (.func 169) #[] #[]] w
  fun e w'=>(∃ p:Nat,Zsn Zcn Xl t p∧e=.returned (.tuple #[.int .i64 p,.bool (Zp5 Zcn Xl t p)]))∧Zw_ w w':=by
 have HV:=Zab hv;have HR:=Zab hr;obtain⟨a,cap,rfl⟩:=hv.form;clear hv hr;go_enter func168,ntmps168;go_wp2_with fail;generalize hWa:w.alloc _=Wa;have HB:Hid (Zw_ w Wa):=by rw [← hWa];exact Zac w _
 have HX:Hid (Box Wa w.heap.size #[.string t.tm,.string t.re,.int .i64 t.mo,.int .i64 t.fr]):=by rw [← hWa];exact Box.new _ _ _ _ rfl
 clear hWa
 go_loopw [9,10] (fun i j wr=>∃ p q:Nat,i=.int .i64 p∧j=.int .i64 q∧p≤q∧q≤Xl.length∧(∀ k (h:k < Xl.length),k < p→Zcn Xl[k] t < 0)∧(∀ k (h:k < Xl.length),q≤k→0≤Zcn Xl[k] t)∧Zw_ w wr∧Box wr w.heap.size #[.string t.tm,.string t.re,.int .i64 t.mo,.int .i64 t.fr])
  (fun i j _=>(intOf j).toNat - (intOf i).toNat)
 case atStart=>exact⟨0,Xl.length,rfl,rfl,Nat.zero_le _,Nat.le_refl _,fun k _ h=>by omega,fun k h h'=>by omega,HB.out,HX.out⟩
 case round=>
  obtain⟨p,q,rfl,rfl,hpq,hq,h1,h2,hb,hx⟩:=hrel;have HL1:=Zab h1;have HL2:=Zab h2;have HBr:=Zab hb;have HXr:=Zab hx;clear h1 h2 hb hx
  by_cases hlt:p < q
  · obtain⟨hm1,hm2⟩:=ZrY hlt
    have hml:(p+q) / 2 < Xl.length:=by omega
    obtain⟨m,em⟩:∃ m:Nat,(p+q) / 2=m:=⟨_,rfl⟩
    rw [em] at hm1 hm2 hml;have em':((p:Int)+(q:Int)) / 2=(m:Int):=by omega
    obtain⟨b,off,rfl,hbw,-,hc⟩:=HV.out.full' (by omega);obtain⟨hs,hcell⟩:=hc m hml;obtain⟨c0,c1,c2,c3⟩:=hcell.below HBr.out hbw;have x:=HXr.out.cell;have x0:=x 0;have x1:=x 1;have x2:=x 2;have x3:=x 3;simp at x0 x1 x2 x3;have EM:=Zab em;clear hc hcell hs x em;go_wp2
    go_region_with (go_at_call 169;refine (ZfY Xl[m] t _).mono ?_;rintro e w1 ⟨rfl,hb1⟩;have hB:Hid (Zw_ w w1):=(HBr.out.drew).trans (hb1.mono HBr.out.size);have hX:Hid (Box w1 w.heap.size #[.string t.tm,.string t.re,.int .i64 t.mo,.int .i64 t.fr]):=(HXr.out.drew).on hb1;clear hb1)
    all_goals by_cases hq:ZeQ Xl[m].tm Xl[m].re t.tm t.re < 0
    all_goals first
     | (have HT:Hid (Zcn Xl[m] t < 0):=hq
        go_wp2;go_roundw
        case rel=>exact⟨m+1,q,by go_num,rfl,by omega,by omega,fun k hk hkm=>by
                   by_cases e:k=m
                   · subst e;exact HT.out
                   · exact HR.out k m hk hml (by omega) HT.out,HL2.out,hB.out,hX.out⟩
        case measure=>simp [intOf];omega)
     | (have HT:Hid (0≤Zcn Xl[m] t):=by unfold Hid Zcn;omega
        go_wp2;go_roundw
        case rel=>exact⟨p,m,rfl,rfl,by omega,by omega,HL1.out,fun k hk hkm=>by
                   by_cases e:k=m
                   · subst e;exact HT.out
                   · refine Int.not_lt.1 (fun hn'=>?_)
                     have:=HR.out m k hml hk (by omega) hn';have:=HT.out
                     omega,hB.out,hX.out⟩
        case measure=>simp [intOf];omega)
  · have hpq':p=q:=by omega
    subst hpq';have HSP:Hid (Zsn Zcn Xl t p):=⟨hq,HL1.out,HL2.out⟩
    by_cases hlt2:p < Xl.length
    · obtain⟨b,off,rfl,hbw,-,hc⟩:=HV.out.full' (by omega)
      obtain⟨hs,hcell⟩:=hc p hlt2;obtain⟨c0,c1,c2,c3⟩:=hcell.below HBr.out hbw;have x:=HXr.out.cell;have x0:=x 0;have x1:=x 1;have x2:=x 2;have x3:=x 3;simp at x0 x1 x2 x3;have HI:Hid (Zp5 Zcn Xl t p=decide (ZeQ Xl[p].tm Xl[p].re t.tm t.re=0)):=by unfold Hid Zp5;rw [List.getElem?_eq_getElem hlt2];rfl
      have hd:decide ((p:Int) < (Xl.length:Int))=true:=by simp;omega
      clear hc hcell hs x;go_wp2;have HBD:Hid (Zw_ w wr.drew):=HBr.out.drew;have hbl:b < wr.heap.size:=Zk_ hbw HBr.out.size
      have hxl:=HXr.out.lt
      go_region_held3 (Zg8 w b (off+p*4) Xl[p] t)
       (first
         | (exact⟨c0,c1,c2,c3,x0,x1,x2,x3,⟨HBD.out,hbl,hxl⟩⟩)
         | (with_reducible exact Zg8.on (by assumption) (by assumption)))
       (first
         | (go_at_call 169
            refine (ZfY Xl[p] t _).mono ?_;rintro e w1 ⟨rfl,hb1⟩;have hB:Hid (Zw_ w w1):=HBD.out.trans (hb1.mono HBD.out.size)))
      all_goals go_wp2
      all_goals go_ret2
      all_goals exact⟨⟨p,HSP.out,by rw [HI.out];first | rfl | simp⟩,hB.out⟩
    · have HI:Hid (Zp5 Zcn Xl t p=false):=by unfold Hid Zp5;rw [List.getElem?_eq_none (by omega)]
      have hd:decide ((p:Int) < (Xl.length:Int))=false:=by simp;omega
      go_wp2
      go_quiet (fail)
      go_wp2
      go_ret2
      exact⟨⟨p,HSP.out,by rw [HI.out];rfl⟩,below_drewN HBr.out _⟩
theorem ZfZ {a b c:Zy_} (h:ZcE a b < 0) (h':ZcE b c < 0):ZcE a c < 0:=Ziq.2 (ZnP (Ziq.1 h) (Ziq.1 h'))
theorem ZoG {a b:Int}:orI a b < 0↔a < 0∨(a=0∧b < 0):=by unfold orI;split <;> omega
theorem Zqn {a b c d:Zy_}:ZeQ a b c d < 0↔ZcE a c < 0∨(a=c∧ZcE b d < 0):=by
 unfold ZeQ;rw [ZoG,ZdG]
theorem ZdS {a b c d:Zy_}:ZeQ a b c d=0↔a=c∧b=d:=by
 unfold ZeQ;rw [ZpZ,ZdG,ZdG]
theorem Zii {a b c d e f:Zy_} (h:ZeQ a b c d < 0) (h':ZeQ c d e f < 0):ZeQ a b e f < 0:=by
 rw [Zqn] at*
 rcases h with h | ⟨rfl,h⟩
 · rcases h' with h' | ⟨rfl,h'⟩
   · exact Or.inl (ZfZ h h')
   · exact Or.inl h
 · rcases h' with h' | ⟨rfl,h'⟩
   · exact Or.inl h'
   · exact Or.inr ⟨rfl,ZfZ h h'⟩
theorem Zp4 {a b c d e f:Zy_}:Zjf a b c d e f < 0↔ZcE a d < 0∨(a=d∧ZeQ b c e f < 0):=by
 unfold Zjf;rw [ZoG,ZdG]
 rfl
theorem Zmu {a b c d e f g h i:Zy_} (h1:Zjf a b c d e f < 0) (h2:Zjf d e f g h i < 0):Zjf a b c g h i < 0:=by
 rw [Zp4] at*
 rcases h1 with h1 | ⟨rfl,h1⟩
 · rcases h2 with h2 | ⟨rfl,h2⟩
   · exact Or.inl (ZfZ h1 h2)
   · exact Or.inl h1
 · rcases h2 with h2 | ⟨rfl,h2⟩
   · exact Or.inl h2
   · exact Or.inr ⟨rfl,Zii h1 h2⟩
theorem Zez (x y z:Le) (h:Zcn x y < 0) (h':Zcn y z < 0):Zcn x z < 0:=Zii h h'
theorem Zf0 (x y z:Pu) (h:ZfA x y < 0) (h':ZfA y z < 0):ZfA x z < 0:=Zmu h h'
theorem Zi8 {X:Type} {c:X→X→Int} {L:List X} (h:ZcO c L=true) {j:Nat} (hj:j+1 < L.length):c L[j] L[j+1] < 0:=by
 have:=ZqI hj h;rw [ZdA hj] at this;exact of_decide_eq_true this
theorem ZqV {X:Type} {c:X→X→Int} {L:List X} (tr:∀ x y z,c x y < 0→c y z < 0→c x z < 0) (h:ZcO c L=true) (i:Nat):∀ (d:Nat) (hj:i+d+1 < L.length),c (L[i]'(by omega)) L[i+d+1] < 0
 | 0,hj=>Zi8 h hj
 | d+1,hj=>tr _ _ _ (ZqV tr h i d (by omega)) (Zi8 (j:=i+d+1) h hj)
theorem ZeF {X:Type} {c:X→X→Int} {L:List X} (tr:∀ x y z,c x y < 0→c y z < 0→c x z < 0) (h:ZcO c L=true) {i j:Nat} (hi:i < L.length) (hj:j < L.length) (hij:i < j):c L[i] L[j] < 0:=by
 obtain⟨d,rfl⟩:∃ d,j=i+d+1:=⟨j - i - 1,by omega⟩
 exact ZqV tr h i d hj
theorem Zod {X:Type} {c:X→X→Int} {L:List X} (tr:∀ x y z,c x y < 0→c y z < 0→c x z < 0) (h:ZcO c L=true) (t:X):ZsL c L t:=
 fun _ _ hi hj hij h'=>tr _ _ _ (ZeF tr h hi hj hij) h'
theorem Zmc {X:Type} {c:X→X→Int} {L:List X} {t:X} {p:Nat} (tr:∀ x y z,c x y < 0→c y z < 0→c x z < 0) (sub:∀ x y,c x y < 0→c y t=0→c x t < 0) (h:ZcO c L=true) (hp:Zsn c L t p) :
 Zp5 c L t p=L.any fun x=>decide (c x t=0):=by
 unfold Zp5
 cases hx:L[p]? with
 | some x=>
  obtain⟨hl,rfl⟩:=List.getElem?_eq_some_iff.1 hx
  show decide (c L[p] t=0)=_
  by_cases h0:c L[p] t=0
  · rw [decide_eq_true h0]
    exact (List.any_eq_true.2 ⟨L[p],List.getElem_mem hl,decide_eq_true h0⟩).symm
  · rw [decide_eq_false h0]
    refine (List.any_eq_false.2 fun y hy hc=>?_).symm;obtain⟨i,hi,rfl⟩:=List.getElem_of_mem hy;have hc':=of_decide_eq_true hc
    by_cases e:i < p
    · have:=hp.less i hi e
      omega
    · by_cases e2:i=p
      · subst e2;exact h0 hc'
      · have h1:=sub _ _ (ZeF tr h hl hi (by omega)) hc'
        have h2:=hp.more p hl Zl_
        omega
 | none=>
  have hl:L.length≤p:=List.getElem?_eq_none_iff.1 hx;refine (List.any_eq_false.2 fun y hy hc=>?_).symm;obtain⟨i,hi,rfl⟩:=List.getElem_of_mem hy;have:=hp.less i hi (by omega);have:=of_decide_eq_true hc
  omega
theorem Zn4 (Ls:List Le) (t r:Zy_):(Ls.any fun x=>decide (Zcn x ⟨t,r,0,0⟩=0))=Ls.any (Zb8 t r):=by
 congr 1
 funext x
 unfold Zb8 Zcn;rw [Bool.eq_iff_iff,Bool.and_eq_true,ZaR,ZaR,decide_eq_true_iff,ZdS]
theorem Zek (lo:Nat) (v:Value) (Ls:List Le) (t r:Zy_) (w:World) (hv:ZbB lo w v Ls) (hn:Ls.length≤1048576) (hr:ZcO Zcn Ls=true) :
 Calls prog 109 #[v,.string t,.string r] w
  fun e w'=>(∃ p:Nat,Zsn Zcn Ls ⟨t,r,0,0⟩ p∧e=.returned (.tuple #[.int .i64 p,.bool (Ls.any (Zb8 t r))]))∧Zw_ w w':=by
 have HV:=Zab hv;have HR:=Zab hr;obtain⟨a,cap,rfl⟩:=hv.form;clear hv hr;go_enter func109,ntmps109;go_wp2_with fail;refine (ZiP lo _ Ls ⟨t,r,0,0⟩ _ HV.out hn (Zod Zez HR.out _)).mono ?_;rintro e w1 ⟨⟨p,hp,rfl⟩,hb⟩;have HP:=Zab hp;have HB:=Zab hb
 have HE:Hid (Zp5 Zcn Ls ⟨t,r,0,0⟩ p=Ls.any (Zb8 t r)):=(Zmc Zez (fun x y h h0=>by
  obtain⟨e1,e2⟩:=ZdS.1 h0;unfold Zcn at h ⊢;simp only at e1 e2 ⊢;rw [← e1,← e2];exact h) HR.out hp).trans (Zn4 Ls t r)
 clear hp hb;go_wp2
 go_ret2
 exact⟨⟨p,HP.out,by rw [HE.out];rfl⟩,HB.out⟩
end Go.Proofs.YtfohnageehneoaaGreat
