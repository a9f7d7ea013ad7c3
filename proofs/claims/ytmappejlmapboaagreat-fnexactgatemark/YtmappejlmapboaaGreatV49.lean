import Derived.Test.YtmappejlmapboaaGreatV44
import Derived.Test.YtmappejlmapboaaGreatV48
set_option maxHeartbeats 16000000
set_option maxRecDepth 100000
open Go.Proofs.Tryz
namespace Go.Proofs.YtmappejlmapboaaGreat
section
open Go.RowKit Go.Deep Go.Shelf Go.Maps
theorem Zk9 {w W0 W:World} {mb b off i:Nat} {x:Ob} {vv0 vv1:Value} (h:Zcb w b (off+i*7) x vv0 vv1) (hbw:b < w.heap.size) (h0:Zw_ w W0) (hg:W0.grownBy W (some mb)) (hm:w.heap.size<=mb):Zcb W b (off+i*7) x vv0 vv1:=by
 have e:W.heap[b]?=w.heap[b]?:=(hg.block b (by have:=h0.size;omega) (fun e=>by injection e with e;omega)).trans (h0.block b hbw);have c:∀ o,W.cell? ⟨b,o,none⟩=w.cell? ⟨b,o,none⟩:=fun o=>World.cell?_of_block (a:=⟨b,o,none⟩) e
 exact⟨by rw [c];exact h.c0,by rw [c];exact h.c1,by rw [c];exact h.c2,by rw [c];exact h.c3,by rw [c];exact h.c4,by rw [c];exact h.c5,by rw [c];exact h.c6⟩
theorem Zhe {w W0 W:World} {mb:Nat} (h0:Zw_ w W0) (hg:W0.grownBy W (some mb)) (hm:w.heap.size<=mb):Zw_ w W:=
 h0.trans ⟨hg.os,hg.tape,hg.output,hg.size,fun k hk=>hg.block k (by have:=h0.size;omega) (fun e=>by injection e with e;omega)⟩
theorem Zb3 {W W':World} (hb:Below W.heap.size W W') (row:Option Nat):W.grownBy W' row:=⟨hb.os,hb.tape,hb.output,hb.size,fun k hk _=>hb.block k hk⟩
section
variable (lo:Nat) (sv ov:Value) (Ss:List Sh) (Os:List Ob) (w:World)
theorem Zmc (hS:ZaH lo w sv Ss) (hO:Zbg lo w ov Os) (hn:Zbv Os) (hsp:ZiZ Ss Os) (hd:ZoT Os) :
 Calls prog 44 #[sv,ov] w
  fun e w'=>∃ mb Nn,∃ D:DataW Value,e=.returned (.map (some mb))/\Zw_ w w'/\w.heap.size<=mb/\w'.ownsMap prog 153 Zg8 mb Nn D/\ZiY Os D (Zee Ss Os):=by
 have HS:=Zab hS;have HO:=Zab hO;have HSP:=Zab hsp;have HD:=Zab hd;obtain⟨a,cap,rfl⟩:=hS.form;obtain⟨oa,ocap,rfl⟩:=hO.form;have hm:=HO.o.max;unfold maxLen at hm;clear hS hO hsp hd;go_enter func44,ntmps44;go_wp2_with fail;refine (ZkC lo _ _ Ss Os w HS.o HO.o hn HSP.o).mono ?_;rintro e w1 ⟨rfl,hb1,D1,ho1,hg1⟩;have hmm:=@run_makeMap prog;have HB1:=Zab hb1;have HO1:=Zab ho1;have HG1:=Zab hg1;clear hb1 ho1 hg1;have hlt1:w.heap.size < w1.heap.size:=HO1.o.lt
 go_wp2;clear hmm;generalize hW0:w1.alloc (.map #[] 0)=W0;have HW0:Hd (Zw_ w W0):=by unfold Hd;rw [<- hW0];exact bt HB1.o (Zac _ _)
 have HO0:Hd (W0.ownsMap prog 153 Zg8 w.heap.size (Os.length*1048577) D1):=by unfold Hd;rw [<- hW0];exact HO1.o.alloc _
 have HG0:Hd (Grp W0 (w.heap.size+2) D1 (ZeB Ss Os Os.length)):=by unfold Hd;rw [<- hW0];exact HG1.o.keep' (World.grownBy_alloc w1 _ none) (fun r e=>by cases e)
 have HGL:Hd (∀ a b:Zy_,a.size<=maxLen->b.size<=maxLen->∀ v g,D1.atKey (ZbY a b) (.held (.slice none 0 0))=.held v->v.ownBlock=some g->g≠w1.heap.size):=fun a b ha hb v g h1 h2=>by
  have:=(HG1.o.lt ha hb h1 h2).2.1
  omega
 have HM0:Hd (W0.ownsMap prog 153 Zg8 w1.heap.size 0 (.map [])):=by unfold Hd;rw [<- hW0];exact World.ownsMap_made _ _ _ _
 clear hW0 HO1 HG1 HB1;generalize hmb:w1.heap.size=mb at*;clear hmb;obtain⟨C,hC⟩:∃ C:Nat,C=1099511627776:=⟨_,rfl⟩
 have HCC:=Zab hC;clear hC
 go_loopw [17] (fun q wr=>∃ m:Nat,q=.int .i64 m/\m<=Os.length/\W0.grownBy wr (some mb)/\∃ Nn,∃ D:DataW Value,Nn<=m*C/\wr.ownsMap prog 153 Zg8 mb Nn D/\ZiY Os D (Zfh Ss Os m)) (fun q _=>Os.length - (intOf q).toNat)
 case atStart=>exact⟨0,rfl,Nat.zero_le _,(Zb3 Zb_ _),0,.map [],by simp,HM0.o,(ZiY.start Os).congr fun i _=>(Zma Ss Os i).symm⟩
 case round=>
  obtain⟨m,rfl,hmm,hg,Nn,D,hnn,ho,hsd⟩:=hrel;have HGr:=Zab hg;have HOr:=Zab ho;have HSD:=Zab hsd;clear hg ho hsd HM0
  by_cases hlt:m < Os.length
  . obtain⟨b,off,rfl,hbw,-,hc⟩:=HO.o.full' (by omega)
    have HC:=Zab hc;obtain⟨hs,vv0,vv1,hcell,hv0,hv1⟩:=hc m hlt;obtain⟨c0,c1,c2,c3,c4,c5,c6⟩:=Zk9 hcell hbw HW0.o HGr.o (by omega);obtain⟨va,vc,rfl⟩:=hv0.at.form';obtain⟨ha,hc',rfl⟩:=hv1.at.form';have HZ:=Zab hs;clear hc hcell hs hv0 hv1
    cases hen:Os[m].en with
    | false=>
     rw [hen] at c4;go_wp2;go_roundw
     case measure=>simp [intOf];omega
     case rel=>exact⟨m+1,by go_num,by omega,HGr.o.trans (Zb3 (Zac _ _) _),Nn,D,Nat.le_trans hnn (Nat.mul_le_mul_right _ (Nat.le_succ m)),HOr.o.alloc _,HSD.o.congr fun i _=>(Zl9 hlt hen i).symm⟩
    | true=>
     rw [hen] at c4;go_wp2_with fail;have hk:=ZgQ Os[m] va Os[m].vs.length vc ha Os[m].hs.length hc';rw [hen] at hk;refine (hk _).mono ?_;rintro e w2 ⟨rfl,hb2⟩;clear hk;have hgw:W0.grownBy w2 (some mb):=HGr.o.trans ((Zb3 (Zac _ _) _).trans (Zb3 hb2 _));have HG2:=Zab hgw;have HO2:Hd (w2.ownsMap prog 153 Zg8 mb Nn D):=(HOr.o.alloc _).kept (Zb3 hb2 none) (fun e=>by cases e);have hmap:w2.ownsMap prog 153 Zg8 w.heap.size (Os.length*1048577) D1:=HO0.o.kept hgw (fun e=>by injection e with e;omega);obtain⟨v,ps,hlook,hv⟩:=hmap.lookup Zeo underlying150 (z:=.slice none 0 0) (by rfl) (zd:=.held (.slice none 0 0)) (zp:=[]) rfl (Zff.mk' HZ.o.s0 HZ.o.s1)
     have hat:D1.atKey (ZbY Os[m].kd Os[m].nm) (.held (.slice none 0 0))=.held v:=by
      have h1:some (DataW.held v,([]:List MemPlace))=some (D1.atKey (ZbY Os[m].kd Os[m].nm) (.held (.slice none 0 0)),ps):=hv;injection h1 with h1
      injection h1 with h1 _
      exact h1.symm
     obtain⟨v',h1,hrow⟩:=HG0.o.at' Os[m].kd Os[m].nm HZ.o.s0 HZ.o.s1;rw [hat] at h1;injection h1 with h1
     subst h1;have hnb:=HGL.o Os[m].kd Os[m].nm HZ.o.s0 HZ.o.s1 v;have HROW:Hd (∀ W,W0.grownBy W (some mb)->W.ownsRow (w.heap.size+2) 3 1 v (ZeB Ss Os Os.length Os[m].kd Os[m].nm).length ((ZeB Ss Os Os.length Os[m].kd Os[m].nm).map (Value.int .i64))):=fun W hW=>Zfn hrow hW (fun g e e'=>by injection e' with e';exact hnb g hat e e')
     obtain⟨ga,gcap,hvf⟩:=(Zer (HROW.o _ hgw)).form;subst hvf
     have HMEM:Hd (∀ j (hj:j < (ZeB Ss Os Os.length Os[m].kd Os[m].nm).length),∃ q,∃ hq:q < Os.length,(ZeB Ss Os Os.length Os[m].kd Os[m].nm)[j]=(q:Int)):=fun j hj=>by
      obtain⟨q,hq,e,-⟩:=Zk6.1 (List.getElem_mem hj);exact⟨q,hq,e⟩
     have HDONE:Hd (∀ i,i < Os.length->Zgh Ss Os m (ZeB Ss Os Os.length Os[m].kd Os[m].nm) (ZeB Ss Os Os.length Os[m].kd Os[m].nm).length i=Zfh Ss Os (m+1) i):=fun i hi=>Zl8 hlt hen hi
     have hos:Os.length<=1048576:=hn.1
     have HLEN:Hd ((ZeB Ss Os Os.length Os[m].kd Os[m].nm).length<=C):=by
      have h1:=ZiA (Ss:=Ss) (Os:=Os) (m:=1048576) (fun o ho=>by
       obtain⟨i,hi,rfl⟩:=List.getElem_of_mem ho;obtain⟨z,hz,hzl⟩:=HSP.o i hi;unfold Zgc;rw [hz];have h1:=Zgr z.fields Os[i].vs z.fields.length;have h2:=(hn.2 i hi).1;dsimp only
       omega) Os[m].kd Os[m].nm Os.length
      have h3:Os.length*1048576<=1048576*1048576:=Nat.mul_le_mul_right _ hos;have h4:=HCC.o;unfold Hd
      omega
     clear hb2 hgw hmap hv hat hrow hnb;generalize ZeB Ss Os Os.length Os[m].kd Os[m].nm=G at*;have hgl:=HLEN.o;rw [HCC.o] at hgl;go_wp2
     go_loopw [29] (fun q wr=>∃ j:Nat,q=.int .i64 j/\j<=G.length/\W0.grownBy wr (some mb)/\∃ Nn,∃ D:DataW Value,Nn<=m*C+j/\wr.ownsMap prog 153 Zg8 mb Nn D/\ZiY Os D (Zgh Ss Os m G j)) (fun q _=>G.length - (intOf q).toNat)
     case atStart=>exact⟨0,rfl,Nat.zero_le _,HG2.o,Nn,D,Nat.le_trans hnn (Nat.le_add_right _ _),HO2.o,HSD.o.congr fun i _=>(Zl6 Ss Os m G i).symm⟩
     case round=>
      obtain⟨j,rfl,hj,hg,Nn,D,hnn,ho,hsd⟩:=hrel;have HGj:=Zab hg;have HOj:=Zab ho;have HSj:=Zab hsd;clear hg ho hsd HO2 HSD HOr
      by_cases hjl:j < G.length
      . obtain⟨q,hq,hGq⟩:=HMEM.o j hjl
        rcases Zer (HROW.o _ HGj.o) with ⟨_,_,_,h0⟩ | ⟨rb,roff,rcap,hv,_,_,hrb,hcells,_⟩
        case inl=>rw [h0] at hjl;exact absurd hjl (Nat.not_lt_zero _)
        injection hv with hv1 _ hv3
        subst hv1 hv3;have hcj:=hcells j hjl;rw [hGq] at hcj;obtain⟨hsq,qv0,qv1,hqc,hqv0,hqv1⟩:=HC.o q hq;obtain⟨d0,d1,d2,d3,d4,d5,d6⟩:=Zk9 hqc hbw HW0.o HGj.o (by omega);obtain⟨qa,qc,rfl⟩:=hqv0.at.form';obtain⟨qa',qc',rfl⟩:=hqv1.at.form';have HZQ:=Zab hsq;have q0:(0:Int)<=(q:Int):=by omega
        have q1:(q:Int) < (Os.length:Int):=by omega
        clear hcells hsq hqc hqv0 hqv1 hrb
        cases hqe:Os[q].en with
        | true=>
         rw [hqe] at d4;go_wp2;go_roundw
         case measure=>simp [intOf];omega
         case rel=>exact⟨j+1,by go_num,by omega,HGj.o,Nn,D,by omega,HOj.o,HSj.o.congr fun i _=>(Zph hjl hGq hq hqe i).symm⟩
        | false=>
         rw [hqe] at d4;go_wp2_with fail;have hk:=ZgQ Os[q] qa Os[q].vs.length qc qa' Os[q].hs.length qc';rw [hqe] at hk;refine (hk _).mono ?_;rintro e w3 ⟨rfl,hb3⟩;clear hk;have HG3:Hd (W0.grownBy w3 (some mb)):=HGj.o.trans (Zb3 hb3 _);have ho3:w3.ownsMap prog 153 Zg8 mb Nn D:=HOj.o.kept (Zb3 hb3 none) (fun e=>by cases e)
         have hbig:Nn < maxLen:=by
          have h1:m*C<=1048576*1099511627776:=Nat.mul_le_mul (by omega) (by have:=HCC.o;omega);have h2:=HLEN.o;have h3:=HCC.o;unfold maxLen
          omega
         clear hb3 d0 d1 d2 d3 d4 d5 d6 hcj;go_wp2_with (at_mapUpdate;refine wpList_mapUpdate_own _ rfl _ _ _ 147 rfl 153 3 Zeo underlying147 Zg8 mb Nn D rfl ho3 hbig _ _ _ rfl rfl (Zff.mk' HZQ.o.s0 HZQ.o.s1) (.held (.int .i64 (q:Int))) [] rfl ?_;intro w4 ho4 hg4;have HO4:=Zab ho4;have HG4:=Zab hg4;clear ho4 hg4);go_roundw
         . 
          exact⟨j+1,by go_num,by omega,HG3.o.trans HG4.o,Nn+1,_,by omega,HO4.o,(HSj.o.step HD.o hq HZQ.o.s0 HZQ.o.s1).congr fun i _=>(ZnO hjl hGq hq hqe i).symm⟩
         . simp [intOf];omega
      . have hje:j=G.length:=by omega
        have HE:=Zab (HSj.o.congr (P':=Zfh Ss Os (m+1)) fun i hi=>by rw [hje];exact HDONE.o i hi)
        have hnn2:Nn<=(m+1)*C:=by
         have h2:=HLEN.o;rw [Nat.succ_mul]
         omega
        go_wp2;go_roundw
        case measure=>simp [intOf];omega
        case rel=>exact⟨m+1,by go_num,by omega,HGj.o,Nn,D,hnn2,HOj.o,HE.o⟩
  . have hme:m=Os.length:=by omega
    have HE:=Zab (HSD.o.congr (P':=Zee Ss Os) fun i _=>by rw [hme];exact ZnP Ss Os i);go_wp2;go_ret;exact⟨mb,Nn,D,rfl,Zhe HW0.o HGr.o (by omega),by omega,HOr.o,HE.o⟩
end
end
section
open Go.RowKit Go.Deep
variable {wr w1:World} {B k:Nat} {Xl:List Ob}
def Za3 (wr:World) (B:Nat) (Xl:List Ob) (k:Nat) (c:Nat->Nat):Prop:=
 B < c 0/\(∀ i,i < k->c i<=c (i+1))/\c k<=wr.heap.size/\∃ f,wr.rowIs B 128 (Xl.length*7) f/\∀ i (h:i < Xl.length),i < k->ZcO Xl[i]/\∃ (vv0 vv1:Value) (m1:Nat),(c i)<=m1/\m1<=(c (i+1))/\f (i*7)=.string Xl[i].kd/\f (i*7+1)=.string Xl[i].nm/\f (i*7+2)=.string Xl[i].tm/\f (i*7+3)=vv0/\f (i*7+4)=.bool Xl[i].en/\f (i*7+5)=vv1/\f (i*7+6)=.int .i64 Xl[i].ver/\Zad (c i) m1 wr vv0 Xl[i].vs/\Zad m1 (c (i+1)) wr vv1 Xl[i].hs
theorem Za3.le {c:Nat->Nat} (h:Za3 wr B Xl k c) {i:Nat}:∀ {j:Nat},i<=j->j<=k->c i<=c j:=by
 intro j
 induction j with
 | zero=>intro hij _;have:i=0:=by omega
         subst this;exact Nat.le_refl _
 | succ j ih=>
  intro hij hjn
  by_cases e:i=j+1
  . subst e;exact Nat.le_refl _
  . exact Nat.le_trans (ih (by omega) (by omega)) (h.2.1 j (by omega))
theorem Za3.below {c:Nat->Nat} (h:Za3 wr B Xl k c) (hb:Below wr.heap.size wr w1):Za3 w1 B Xl k c:=by
 obtain⟨g1,g2,g3,f,hr,hall⟩:=h;refine⟨g1,g2,Nat.le_trans g3 hb.size,f,hr.of_block (hb.block B hr.lt),fun i hi hik=>?_⟩;obtain⟨hz,vv0,vv1,m1,q0,q1,h0,h1,h2,h3,h4,h5,h6,l0,l1⟩:=hall i hi hik;exact⟨hz,vv0,vv1,m1,q0,q1,h0,h1,h2,h3,h4,h5,h6,l0.below hb,l1.below hb⟩
theorem Za3.free {c:Nat->Nat} (h:Za3 wr B Xl k c) (i:Nat):wr.frozen? ⟨B,i,none⟩=false:=by
 obtain⟨_,_,_,f,hr,_⟩:=h;exact hr.frozen i
theorem Za3.there {c:Nat->Nat} (h:Za3 wr B Xl k c) (i:Nat) (hi:i < Xl.length*7):∃ v,wr.cell? ⟨B,i,none⟩=some v:=by
 obtain⟨_,_,_,f,hr,_⟩:=h;exact⟨_,hr.cell hi⟩
theorem Za3.step {c:Nat->Nat}{vv0 vv1:Value}{m1:Nat} (h:Za3 w1 B Xl k c) (hk:k < Xl.length) (hz:ZcO Xl[k]) (d:Nat) (hd0:c k<=d) (hd:d<=w1.heap.size) (r0:(c k)<=m1) (r1:m1<=d) (e0:Zad (c k) m1 w1 vv0 Xl[k].vs) (e1:Zad m1 d w1 vv1 Xl[k].hs) :
 Za3 (((((((w1.setCell ⟨B,k*7,none⟩ (.string Xl[k].kd)).setCell ⟨B,k*7+1,none⟩ (.string Xl[k].nm)).setCell ⟨B,k*7+2,none⟩ (.string Xl[k].tm)).setCell ⟨B,k*7+3,none⟩ (vv0)).setCell ⟨B,k*7+4,none⟩ (.bool Xl[k].en)).setCell ⟨B,k*7+5,none⟩ (vv1)).setCell ⟨B,k*7+6,none⟩ (.int .i64 Xl[k].ver)) B Xl (k+1) (fun j=>if j<=k then c j else d):=by
 have hle:=fun i (hi:i<=k)=>h.le (i:=0) (j:=i) Zz_ hi
 have hle2:=fun i (hi:i < k)=>h.le (i:=i+1) (j:=k) (by omega) Zl_
 obtain⟨g1,g2,g3,f,hr,hall⟩:=h;have hts:Zag B (B+1) w1 (((((((w1.setCell ⟨B,k*7,none⟩ (.string Xl[k].kd)).setCell ⟨B,k*7+1,none⟩ (.string Xl[k].nm)).setCell ⟨B,k*7+2,none⟩ (.string Xl[k].tm)).setCell ⟨B,k*7+3,none⟩ (vv0)).setCell ⟨B,k*7+4,none⟩ (.bool Xl[k].en)).setCell ⟨B,k*7+5,none⟩ (vv1)).setCell ⟨B,k*7+6,none⟩ (.int .i64 Xl[k].ver)):=((((((Zag.setB B _ _ _).trans (Zag.setB B _ _ _)).trans (Zag.setB B _ _ _)).trans (Zag.setB B _ _ _)).trans (Zag.setB B _ _ _)).trans (Zag.setB B _ _ _)).trans (Zag.setB B _ _ _);refine⟨by simpa using g1,fun i hi=>?_,?_,_,(((((((hr.set _ _).set _ _).set _ _).set _ _).set _ _).set _ _).set _ _),fun i hi hik=>?_⟩
 . dsimp only
   by_cases e:i=k
   . subst e;rw [if_pos Zl_,if_neg (by omega)];exact hd0
   . rw [if_pos (by omega),if_pos (by omega)];exact g2 i (by omega)
 . dsimp only;rw [if_neg (by omega)];exact Nat.le_trans hd hts.size
 by_cases e:i=k
 . subst e
   dsimp only;rw [if_pos Zl_,if_neg (by omega)];have hb0:=hle i Zl_;exact⟨hz,vv0,vv1,m1,r0,r1,by simp,by simp,by simp,by simp,by simp,by simp,by simp,e0.touch hts (by omega),e1.touch hts (by omega)⟩
 . dsimp only
   rw [if_pos (by omega),if_pos (by omega)];have hb0:=hle i (by omega);obtain⟨hz,vv0,vv1,m1,q0,q1,h0,h1,h2,h3,h4,h5,h6,l0,l1⟩:=hall i hi (by omega);refine⟨hz,vv0,vv1,m1,q0,q1,?_,?_,?_,?_,?_,?_,?_,l0.touch hts (by omega),l1.touch hts (by omega)⟩
   . rw [if_neg (by omega),if_neg (by omega),if_neg (by omega),if_neg (by omega),if_neg (by omega),if_neg (by omega),if_neg (by omega)];exact h0
   . rw [if_neg (by omega),if_neg (by omega),if_neg (by omega),if_neg (by omega),if_neg (by omega),if_neg (by omega),if_neg (by omega)];exact h1
   . rw [if_neg (by omega),if_neg (by omega),if_neg (by omega),if_neg (by omega),if_neg (by omega),if_neg (by omega),if_neg (by omega)];exact h2
   . rw [if_neg (by omega),if_neg (by omega),if_neg (by omega),if_neg (by omega),if_neg (by omega),if_neg (by omega),if_neg (by omega)];exact h3
   . rw [if_neg (by omega),if_neg (by omega),if_neg (by omega),if_neg (by omega),if_neg (by omega),if_neg (by omega),if_neg (by omega)];exact h4
   . rw [if_neg (by omega),if_neg (by omega),if_neg (by omega),if_neg (by omega),if_neg (by omega),if_neg (by omega),if_neg (by omega)];exact h5
   . rw [if_neg (by omega),if_neg (by omega),if_neg (by omega),if_neg (by omega),if_neg (by omega),if_neg (by omega),if_neg (by omega)];exact h6
theorem Za3.own {c:Nat->Nat} (h:Za3 wr B Xl k c) (hk:k=Xl.length) (hne:Xl≠[]) (hm:Xl.length<=maxLen):ZbJ B wr.heap.size wr (.slice (some ⟨B,0,none⟩) Xl.length Xl.length) Xl:=by
 subst hk;have hle:=fun i (hi:i<=Xl.length)=>h.le (i:=0) (j:=i) Zz_ hi
 have hle2:=fun i (hi:i < Xl.length)=>h.le (i:=i+1) (j:=Xl.length) (by omega) Zl_
 have hle3:=fun i j (hi:i < j) (hj:j < Xl.length)=>h.le (i:=i+1) (j:=j) (by omega) (by omega)
 obtain⟨g1,g2,g3,f,hr,hall⟩:=h;have h0:0 < Xl.length:=List.length_pos_iff.2 hne
 refine Or.inr ⟨B,0,Xl.length,fun i=>(c i,c (i+1)),fun i=>if h:i < Xl.length then Xl[i] else Xl[0],rfl,hne,hm,Nat.le_refl _,fun i hi=>by simp [hi],hr.lt,Nat.le_refl _,hr.lt,fun i hi=>⟨by have:=hle i (by omega);simp only [];omega,by have:=hle2 i hi;simp only [];omega,Or.inl (by have:=hle i (by omega);simp only [];omega)⟩,hle3,fun i=>hr.frozen i,fun i hi=>?_⟩;obtain⟨hz,vv0,vv1,m1,q0,q1,h0,h1,h2,h3,h4,h5,h6,l0,l1⟩:=hall i hi hi;simp only [hi,dif_pos];rw [Nat.zero_add];exact⟨hz,vv0,vv1,m1,q0,q1,⟨by rw [hr.cell (by omega),h0],by rw [hr.cell (by omega),h1],by rw [hr.cell (by omega),h2],by rw [hr.cell (by omega),h3],by rw [hr.cell (by omega),h4],by rw [hr.cell (by omega),h5],by rw [hr.cell (by omega),h6]⟩,l0,l1⟩
theorem Za3.new (w:World) (Xl:List Ob) (z:Array Value):Za3 (w.alloc (.cells (madeCells z (Xl.length*7)) 128)) w.heap.size Xl 0 (fun _=>w.heap.size+1):=by
 refine⟨Nat.lt_succ_self _,fun i hi=>by omega,by simp,fun i=>(madeCells z (Xl.length*7)).getD i default,?_,fun i _ h=>by omega⟩;have:=World.rowIs_alloc w (madeCells z (Xl.length*7)) 128 (fun i=>(madeCells z (Xl.length*7)).getD i default) (fun i hi=>by simp [Array.getD,hi])
 rwa [size_madeCells] at this
theorem ZmR (lo:Nat) (v:Value) (Xl:List Ob) (w:World) (hv:Zbg lo w v Xl) (hn:Zbv Xl) :
 Calls prog 39 #[v] w fun e w'=>∃ v',e=.returned v'/\Zw_ w w'/\ZbJ w.heap.size w'.heap.size w' v' Xl:=by
 obtain⟨i0,hi,hz0,hz1,hz2⟩:=info_parts Tryz.info128;have HSM:=Zab hn.2;have hn1:=hn.1;clear hn
 by_cases hL:Xl=[]
 . subst hL
   obtain⟨a,cap,rfl⟩:=hv.form;clear hv
   have hmk:∀ u:World,(Instr.makeSlice 43 (.int .i64 0) (.int .i64 0)).run prog u=.ok (.slice (some ⟨u.heap.size,0,none⟩) 0 0) (u.alloc (.cells (madeCells (Value.cells (.agg #[.string ⟨#[]⟩,.string ⟨#[]⟩,.string ⟨#[]⟩,.slice none 0 0,.bool false,.slice none 0 0,.int .i64 0])) 0) 128)):=fun u=>by
    have h:=run_make (P:=prog) u 43 128 i0 _ underlying43 hi hz0 .i64 .i64 0 0 (by omega) (by omega) (by omega) (by omega)
    simpa [hz1] using h
   go_enter func39,ntmps39;go_wp2
   go_loop [4] (fun i=>i=.int .i64 0) (fun _=>0)
   case atStart=>rfl
   case round=>
    subst hrel;go_wp2;go_ret;exact⟨_,rfl,Zb_.alloc Zl_ _,Or.inl ⟨_,_,rfl,rfl⟩⟩
 . obtain⟨b,off,cap,rfl,hm,hbw,_,hc⟩:=hv.full hL
   clear hv;have HM:Hd (Xl.length<=maxLen):=hm;unfold maxLen at hm
   have hmk:∀ u:World,(Instr.makeSlice 43 (.int .i64 (Xl.length:Int)) (.int .i64 (Xl.length:Int))).run prog u=.ok (.slice (some ⟨u.heap.size,0,none⟩) Xl.length Xl.length) (u.alloc (.cells (madeCells (Value.cells (.agg #[.string ⟨#[]⟩,.string ⟨#[]⟩,.string ⟨#[]⟩,.slice none 0 0,.bool false,.slice none 0 0,.int .i64 0])) (Xl.length*7)) 128)):=fun u=>by
    have h:=run_make (P:=prog) u 43 128 i0 _ underlying43 hi hz0 .i64 .i64 Xl.length Xl.length (by omega) (by omega) (by rw [hz2];omega) (by omega);rw [hz1] at h
    simpa using h
   clear hi hz0 hz1 hz2;go_enter func39,ntmps39;go_wp2;clear hmk
   go_loopw [4] (fun i wr=>∃ (k:Nat) (c:Nat->Nat),i=.int .i64 k/\k<=Xl.length/\Zw_ w wr/\Za3 wr w.heap.size Xl k c) (fun i _=>Xl.length - (intOf i).toNat)
   case atStart=>exact⟨0,_,rfl,by omega,Zb_.alloc Zl_ _,Za3.new w Xl _⟩
   case round=>
    obtain⟨k,c,rfl,hk,hb,hf⟩:=hrel
    by_cases hlt:k < Xl.length
    . obtain⟨hs,vv0,vv1,hc,hv0,hv1⟩:=hc k hlt
      have HB:=Zab hb;have HF:=Zab hf;have HSZ:=Zab hs;obtain⟨x0,y0,rfl⟩:=hv0.at.form';obtain⟨x1,y1,rfl⟩:=hv1.at.form';obtain⟨c0,c1,c2,c3,c4,c5,c6⟩:=hc.below hb hbw;have HV0:=Zab (hv0.below hb);clear hv0;have HV1:=Zab (hv1.below hb);clear hv1;clear hc hb hf hs;go_wp2_with fail;refine (ZmQ _ _ _ _ _ _ _ Xl[k].vs Xl[k].hs _ HV0.o.at HV1.o.at (HSM.o k hlt).1 (HSM.o k hlt).2).mono ?_;rintro e w1 ⟨z0,z1,rfl,hb1,mid,hmid,hmw,hO0,hO1⟩;obtain⟨s0,t0,rfl⟩:=hO0.at.form';obtain⟨s1,t1,rfl⟩:=hO1.at.form';have hf1:=HF.o.below hb1;have hB:Hd (Zw_ w w1):=HB.o.trans (hb1.mono HB.o.size);have HST:=Zab (hf1.step hlt HSZ.o w1.heap.size (Nat.le_trans HF.o.2.2.1 hb1.size) Zl_ (Nat.le_trans HF.o.2.2.1 hmid) hmw (hO0.wide HF.o.2.2.1 Zl_) hO1);have hfr:=hf1.free;obtain⟨o0,ho0⟩:=hf1.there (k*7) (by omega)
      obtain⟨o1,ho1⟩:=hf1.there (k*7+1) (by omega);obtain⟨o2,ho2⟩:=hf1.there (k*7+2) (by omega);obtain⟨o3,ho3⟩:=hf1.there (k*7+3) (by omega);obtain⟨o4,ho4⟩:=hf1.there (k*7+4) (by omega);obtain⟨o5,ho5⟩:=hf1.there (k*7+5) (by omega);obtain⟨o6,ho6⟩:=hf1.there (k*7+6) (by omega);clear hf1 hb1 HF HB c0 c1 c2 c3 c4 c5 c6;go_wp2;go_roundw
      . 
       exact⟨k+1,_,by go_num,by omega,(((((((hB.o.setCell Zl_ _).setCell Zl_ _).setCell Zl_ _).setCell Zl_ _).setCell Zl_ _).setCell Zl_ _).setCell Zl_ _),HST.o⟩
      . simp [intOf];omega
    . have e:k=Xl.length:=by omega
      go_wp2;go_ret;exact⟨_,rfl,hb,hf.own e hL HM.o⟩
end
section
open Go.RowKit Go.Deep
variable {hi:Nat} {v:Value}
theorem ZbJ.setLow {lo:Nat}{w:World}{Xl:List Ob} (h:ZbJ lo hi w v Xl) {p:Addr} (hp:p.block < lo) (u:Value):ZbJ lo hi (w.setCell p u) v Xl:=h.touch (Zag.setCell p.block (p.block+1) w p u ⟨Nat.le_refl _,Nat.lt_succ_self _⟩) (Or.inr hp)
theorem ZbU.setLow {lo:Nat}{w:World}{Xl:List Gr} (h:ZbU lo hi w v Xl) {p:Addr} (hp:p.block < lo) (u:Value):ZbU lo hi (w.setCell p u) v Xl:=h.touch (Zag.setCell p.block (p.block+1) w p u ⟨Nat.le_refl _,Nat.lt_succ_self _⟩) (Or.inr hp)
theorem Zb5.setLow {lo:Nat}{w:World}{Xl:List Le} (h:Zb5 lo hi w v Xl) {p:Addr} (hp:p.block < lo) (u:Value):Zb5 lo hi (w.setCell p u) v Xl:=h.touch (Zag.setCell p.block (p.block+1) w p u ⟨Nat.le_refl _,Nat.lt_succ_self _⟩) (Or.inr hp)
theorem Zcc.setLow {lo:Nat}{w:World}{Xl:List Pu} (h:Zcc lo hi w v Xl) {p:Addr} (hp:p.block < lo) (u:Value):Zcc lo hi (w.setCell p u) v Xl:=h.touch (Zag.setCell p.block (p.block+1) w p u ⟨Nat.le_refl _,Nat.lt_succ_self _⟩) (Or.inr hp)
section
variable (lo:Nat) (ov gv lv pv:Value) (B:Bk) (w:World)
theorem ZkP (h:ZaX lo w ov gv lv pv B) (hn:Zbj B) :
 Calls prog 11 #[.agg #[.int .i64 B.now,.int .i64 B.tick,.int .i64 B.given,ov,gv,lv,pv]] w
  fun e w'=>∃ b0 m0 b1 m1 b2 m2 b3 m3,e=.returned (.agg #[.int .i64 B.now,.int .i64 B.tick,.int .i64 B.given,.slice b0 B.os.length m0,.slice b1 B.gs.length m1,.slice b2 B.ls.length m2,.slice b3 B.ps.length m3])/\Zw_ w w'/\
   ZcM w.heap.size w'.heap.size w' (.slice b0 B.os.length m0) (.slice b1 B.gs.length m1) (.slice b2 B.ls.length m2) (.slice b3 B.ps.length m3) B:=by
 have HL:=Zab h;obtain⟨a0,k0,rfl⟩:=h.obs.form;obtain⟨a1,k1,rfl⟩:=h.grs.form;obtain⟨a2,k2,rfl⟩:=h.les.form;obtain⟨a3,k3,rfl⟩:=h.pus.form;obtain⟨hn0,hn1,hn2,hn3⟩:=hn;clear h;go_enter func11,ntmps11;go_wp2_with fail
 obtain⟨wz,hwz,HX0,HR0,HO0,HB0⟩:∃ wz,wz=((w.alloc (.cells #[.int .i64 B.now,.int .i64 B.tick,.int .i64 B.given,.slice a0 B.os.length k0,.slice a1 B.gs.length k1,.slice a2 B.ls.length k2,.slice a3 B.ps.length k3] 32)).alloc (.cells #[.int .i64 0,.int .i64 0,.int .i64 0,.slice none 0 0,.slice none 0 0,.slice none 0 0,.slice none 0 0] 48)).alloc (.cells #[.int .i64 B.now,.int .i64 B.tick,.int .i64 B.given,.slice none 0 0,.slice none 0 0,.slice none 0 0,.slice none 0 0] 48)/\
  Hd (Box wz w.heap.size #[.int .i64 B.now,.int .i64 B.tick,.int .i64 B.given,.slice a0 B.os.length k0,.slice a1 B.gs.length k1,.slice a2 B.ls.length k2,.slice a3 B.ps.length k3])/\Hd (Box wz (w.heap.size+1) #[.int .i64 0,.int .i64 0,.int .i64 0,.slice none 0 0,.slice none 0 0,.slice none 0 0,.slice none 0 0])/\Hd (Box wz (w.heap.size+1+1) #[.int .i64 B.now,.int .i64 B.tick,.int .i64 B.given,.slice none 0 0,.slice none 0 0,.slice none 0 0,.slice none 0 0])/\Hd (Zw_ w wz):=
  ⟨_,rfl,((Box.new w _ _ _ rfl).on (Zac _ _)).on (Zac _ _),(Box.new _ _ _ _ (by simp)).on (Zac _ _),Box.new _ _ _ _ (by simp),((Zac _ _).trans ((Zac _ _).mono (by simp))).trans ((Zac _ _).mono (by simp;omega))⟩
 rw [<- hwz];clear hwz;generalize wz=v0 at*;have hz0:w.heap.size+3<=v0.heap.size:=by have:=HO0.o.lt;omega
 refine (ZmR lo _ B.os _ (HL.o.below HB0.o).obs hn0).mono ?_;rintro e w0 ⟨u0,rfl,hb0,hs0⟩;obtain⟨b0,m0,rfl⟩:=hs0.form;have GX:=Zab (HX0.o.on hb0);have GR:=Zab (HR0.o.on hb0);have GO:=Zab (HO0.o.on hb0);have GB:=Zab (HB0.o.trans (hb0.mono HB0.o.size));have GN:=Zab hs0;have hsz0:=hb0.size;clear hb0 hs0 HX0 HR0 HO0 HB0;have o0:=GO.o.cell 3;have f0:=GO.o.free 3;have x1:=GX.o.cell 4;simp at o0 f0 x1;go_wp2_with fail;clear o0 f0 x1
 obtain⟨v1,hwq,HX1,HR1,HO1,HB1,hq1,HS0⟩:∃ wq,wq=w0.setCell ⟨w.heap.size+1+1,3,none⟩ (.slice b0 B.os.length m0)/\
  Hd (Box wq w.heap.size #[.int .i64 B.now,.int .i64 B.tick,.int .i64 B.given,.slice a0 B.os.length k0,.slice a1 B.gs.length k1,.slice a2 B.ls.length k2,.slice a3 B.ps.length k3])/\Hd (Box wq (w.heap.size+1) #[.int .i64 0,.int .i64 0,.int .i64 0,.slice none 0 0,.slice none 0 0,.slice none 0 0,.slice none 0 0])/\Hd (Box wq (w.heap.size+1+1) #[.int .i64 B.now,.int .i64 B.tick,.int .i64 B.given,.slice b0 B.os.length m0,.slice none 0 0,.slice none 0 0,.slice none 0 0])/\Hd (Zw_ w wq)/\wq.heap.size=w0.heap.size/\Hd (ZbJ v0.heap.size w0.heap.size wq (.slice b0 B.os.length m0) B.os):=
  ⟨_,rfl,GX.o.setFar (by simp only [];omega) _,GR.o.setFar (by simp only [];omega) _,GO.o.set (k:=3) (.slice b0 B.os.length m0) (by simp),GB.o.setCell (by simp only [];omega) _,by simp [World.setCell],GN.o.setLow (by simp only [];omega) _⟩
 rw [<- hwq];clear hwq GX GR GO GB GN;have hz1:w.heap.size+3<=v1.heap.size:=by omega
 refine (ZmL lo _ B.gs _ (HL.o.below HB1.o).grs hn1).mono ?_;rintro e w1 ⟨u1,rfl,hb1,hs1⟩;obtain⟨b1,m1,rfl⟩:=hs1.form;have GX:=Zab (HX1.o.on hb1);have GR:=Zab (HR1.o.on hb1);have GO:=Zab (HO1.o.on hb1);have GB:=Zab (HB1.o.trans (hb1.mono HB1.o.size));have GN:=Zab hs1;have hsz1:=hb1.size;have G0:=Zab (HS0.o.below hb1);clear hb1 hs1 HX1 HR1 HO1 HB1 HS0;have o0:=GO.o.cell 4;have f0:=GO.o.free 4;have x1:=GX.o.cell 5;simp at o0 f0 x1;go_wp2_with fail;clear o0 f0 x1
 obtain⟨v2,hwq,HX2,HR2,HO2,HB2,hq2,HS1,HS0⟩:∃ wq,wq=w1.setCell ⟨w.heap.size+1+1,4,none⟩ (.slice b1 B.gs.length m1)/\
  Hd (Box wq w.heap.size #[.int .i64 B.now,.int .i64 B.tick,.int .i64 B.given,.slice a0 B.os.length k0,.slice a1 B.gs.length k1,.slice a2 B.ls.length k2,.slice a3 B.ps.length k3])/\Hd (Box wq (w.heap.size+1) #[.int .i64 0,.int .i64 0,.int .i64 0,.slice none 0 0,.slice none 0 0,.slice none 0 0,.slice none 0 0])/\Hd (Box wq (w.heap.size+1+1) #[.int .i64 B.now,.int .i64 B.tick,.int .i64 B.given,.slice b0 B.os.length m0,.slice b1 B.gs.length m1,.slice none 0 0,.slice none 0 0])/\Hd (Zw_ w wq)/\wq.heap.size=w1.heap.size/\Hd (ZbU v1.heap.size w1.heap.size wq (.slice b1 B.gs.length m1) B.gs)/\Hd (ZbJ v0.heap.size w0.heap.size wq (.slice b0 B.os.length m0) B.os):=
  ⟨_,rfl,GX.o.setFar (by simp only [];omega) _,GR.o.setFar (by simp only [];omega) _,GO.o.set (k:=4) (.slice b1 B.gs.length m1) (by simp),GB.o.setCell (by simp only [];omega) _,by simp [World.setCell],GN.o.setLow (by simp only [];omega) _,G0.o.setLow (by simp only [];omega) _⟩
 rw [<- hwq];clear hwq GX GR GO GB GN G0;have hz2:w.heap.size+3<=v2.heap.size:=by omega
 refine (ZmO lo _ B.ls _ (HL.o.below HB2.o).les hn2).mono ?_;rintro e w2 ⟨u2,rfl,hb2,hs2⟩;obtain⟨b2,m2,rfl⟩:=hs2.form;have GX:=Zab (HX2.o.on hb2);have GR:=Zab (HR2.o.on hb2);have GO:=Zab (HO2.o.on hb2);have GB:=Zab (HB2.o.trans (hb2.mono HB2.o.size));have GN:=Zab hs2;have hsz2:=hb2.size;have G0:=Zab (HS0.o.below hb2);have G1:=Zab (HS1.o.below hb2);clear hb2 hs2 HX2 HR2 HO2 HB2 HS0 HS1;have o0:=GO.o.cell 5;have f0:=GO.o.free 5;have x1:=GX.o.cell 6;simp at o0 f0 x1;go_wp2_with fail;clear o0 f0 x1
 obtain⟨v3,hwq,HX3,HR3,HO3,HB3,hq3,HS2,HS0,HS1⟩:∃ wq,wq=w2.setCell ⟨w.heap.size+1+1,5,none⟩ (.slice b2 B.ls.length m2)/\
  Hd (Box wq w.heap.size #[.int .i64 B.now,.int .i64 B.tick,.int .i64 B.given,.slice a0 B.os.length k0,.slice a1 B.gs.length k1,.slice a2 B.ls.length k2,.slice a3 B.ps.length k3])/\Hd (Box wq (w.heap.size+1) #[.int .i64 0,.int .i64 0,.int .i64 0,.slice none 0 0,.slice none 0 0,.slice none 0 0,.slice none 0 0])/\Hd (Box wq (w.heap.size+1+1) #[.int .i64 B.now,.int .i64 B.tick,.int .i64 B.given,.slice b0 B.os.length m0,.slice b1 B.gs.length m1,.slice b2 B.ls.length m2,.slice none 0 0])/\Hd (Zw_ w wq)/\wq.heap.size=w2.heap.size/\Hd (Zb5 v2.heap.size w2.heap.size wq (.slice b2 B.ls.length m2) B.ls)/\Hd (ZbJ v0.heap.size w0.heap.size wq (.slice b0 B.os.length m0) B.os)/\Hd (ZbU v1.heap.size w1.heap.size wq (.slice b1 B.gs.length m1) B.gs):=
  ⟨_,rfl,GX.o.setFar (by simp only [];omega) _,GR.o.setFar (by simp only [];omega) _,GO.o.set (k:=5) (.slice b2 B.ls.length m2) (by simp),GB.o.setCell (by simp only [];omega) _,by simp [World.setCell],GN.o.setLow (by simp only [];omega) _,G0.o.setLow (by simp only [];omega) _,G1.o.setLow (by simp only [];omega) _⟩
 rw [<- hwq];clear hwq GX GR GO GB GN G0 G1;have hz3:w.heap.size+3<=v3.heap.size:=by omega
 refine (ZmS lo _ B.ps _ (HL.o.below HB3.o).pus hn3).mono ?_;rintro e w3 ⟨u3,rfl,hb3,hs3⟩;obtain⟨b3,m3,rfl⟩:=hs3.form;have GX:=Zab (HX3.o.on hb3);have GR:=Zab (HR3.o.on hb3);have GO:=Zab (HO3.o.on hb3);have GB:=Zab (HB3.o.trans (hb3.mono HB3.o.size));have GN:=Zab hs3;have hsz3:=hb3.size;have G0:=Zab (HS0.o.below hb3);have G1:=Zab (HS1.o.below hb3);have G2:=Zab (HS2.o.below hb3);clear hb3 hs3 HX3 HR3 HO3 HB3 HS0 HS1 HS2;have o0:=GO.o.cell 0;have o1:=GO.o.cell 1;have o2:=GO.o.cell 2;have o3:=GO.o.cell 3;have o4:=GO.o.cell 4;have o5:=GO.o.cell 5;have o6:=GO.o.cell 6;have f6:=GO.o.free 6;have r0:=GR.o.cell 0;have g0:=GR.o.free 0;have r1:=GR.o.cell 1;have g1:=GR.o.free 1;have r2:=GR.o.cell 2;have g2:=GR.o.free 2;have r3:=GR.o.cell 3;have g3:=GR.o.free 3;have r4:=GR.o.cell 4;have g4:=GR.o.free 4;have r5:=GR.o.cell 5
 have g5:=GR.o.free 5;have r6:=GR.o.cell 6;have g6:=GR.o.free 6;simp at o0 r0 o1 r1 o2 r2 o3 r3 o4 r4 o5 r5 o6 r6;go_wp2;refine bodyPost_ret (v:=.agg #[.int .i64 B.now,.int .i64 B.tick,.int .i64 B.given,.slice b0 B.os.length m0,.slice b1 B.gs.length m1,.slice b2 B.ls.length m2,.slice b3 B.ps.length m3]) (by simp [results,results11,go_sem,r0,r1,r2,r3,r4,r5,r6]) rfl ⟨_,_,_,_,_,_,_,_,rfl,?_,v0.heap.size,w0.heap.size,v1.heap.size,w1.heap.size,v2.heap.size,w2.heap.size,v3.heap.size,w3.heap.size,⟨?_,?_,?_,?_,by omega,by omega,by omega,by omega,by omega,by omega⟩,?_,?_,?_,?_⟩
 . repeat (refine Below.setCell ?_ (by simp only [];omega) _)
   exact GB.o
 . simp [World.setCell];omega
 . simp [World.setCell];omega
 . simp [World.setCell];omega
 . simp [World.setCell];omega
 . repeat (refine ZbJ.setLow ?_ (by simp only [];omega) _)
   exact G0.o
 . repeat (refine ZbU.setLow ?_ (by simp only [];omega) _)
   exact G1.o
 . repeat (refine Zb5.setLow ?_ (by simp only [];omega) _)
   exact G2.o
 . repeat (refine Zcc.setLow ?_ (by simp only [];omega) _)
   exact GN.o
end
end
section
open Go.RowKit Go.Deep
variable {w':World} {v:Value}
theorem ZbF.set' (lo hi:Nat) (w:World) (p:Addr) (u:Value) (h:lo<=p.block/\p.block < hi):ZbF lo hi w (w.setCell p u):=by
 by_cases hc:(w.cell? p).isSome=true
 . exact ZbF.setCell lo hi w p u h hc
 . refine⟨Zag.setCell lo hi w p u h,fun q _ hq=>?_,fun q _=>by rw [World.frozen?_setCell]⟩
   have hne:q≠p:=fun e=>hc (e ▸ hq)
   rw [show (w.setCell p u).cell? q=w.cell? q from by apply World.cell?_setCell_other;first | exact hne | exact hne.symm];exact hq
theorem ZoV.far {lo hi lo' hi':Nat}{w:World}{n:Nat} (h:ZoV lo hi w v n) (k:ZbF lo' hi' w w') (ho:hi'<=lo\/hi<=lo'):ZoV lo hi w' v n:=by
 rcases h with h | ⟨b,off,cap,m,h1,h2,h3,h4,h5,h6,h7,h8,h9⟩
 . exact Or.inl h
 . refine Or.inr ⟨b,off,cap,m,h1,h2,h3,h4,h5,h6,h7,h8,fun i hi hj=>?_⟩
   obtain⟨fv,nf,hs,hf,hn⟩:=h9 i hi hj;have g1:=h7 0 i Zz_;have g2:=h7 (i+1) n (by omega);refine⟨fv,nf,⟨Zk_ hs.lt k.touch.size,k.there _ hs.lt hs.c0,(k.touch.cell (p:=⟨b,off+i*2+1,none⟩) hs.lt (by simp only [];omega)).trans hs.one,fun i=>(k.frz _ hs.lt).trans (hs.fr i)⟩,hf.kept k (by omega),hn⟩
def Zlv (lo hi:Nat) (w:World) (v:Value) (Ss:List Sh):Prop:=ZaH lo w v Ss/\ZoV lo hi w v Ss.length
def Zm6 (lo hi:Nat) (w:World) (v:Value) (Ms:List Md):Prop:=Za7 lo w v Ms/\ZoU lo hi w v Ms.length
theorem Zlv.below {lo hi:Nat}{w:World}{Ss:List Sh} (h:Zlv lo hi w v Ss) (hb:Zw_ w w'):Zlv lo hi w' v Ss:=⟨h.1.below hb,h.2.below hb⟩
theorem Zm6.below {lo hi:Nat}{w:World}{Ms:List Md} (h:Zm6 lo hi w v Ms) (hb:Zw_ w w'):Zm6 lo hi w' v Ms:=⟨h.1.below hb,h.2.below hb⟩
theorem Zlv.setLow {lo hi:Nat}{w:World}{Ss:List Sh} (h:Zlv lo hi w v Ss) {p:Addr} (hp:p.block < lo) (u:Value):Zlv lo hi (w.setCell p u) v Ss:=⟨h.1.set' hp u,h.2.far (ZbF.set' p.block (p.block+1) w p u ⟨Nat.le_refl _,Nat.lt_succ_self _⟩) (Or.inl hp)⟩
theorem Zm6.setLow {lo hi:Nat}{w:World}{Ms:List Md} (h:Zm6 lo hi w v Ms) {p:Addr} (hp:p.block < lo) (u:Value):Zm6 lo hi (w.setCell p u) v Ms:=⟨h.1.setCell hp u,h.2.kept (ZbF.set' p.block (p.block+1) w p u ⟨Nat.le_refl _,Nat.lt_succ_self _⟩)⟩
theorem Zlv.form {lo hi:Nat}{w:World}{Ss:List Sh} (h:Zlv lo hi w v Ss):∃ a cap,v=.slice a Ss.length cap:=h.1.form
theorem Zm6.form {lo hi:Nat}{w:World}{Ms:List Md} (h:Zm6 lo hi w v Ms):∃ a cap,v=.slice a Ms.length cap:=h.1.form
theorem Zb6.setLow {lo hi:Nat}{w:World}{Xl:List Tm} (h:Zb6 lo hi w v Xl) {p:Addr} (hp:p.block < lo) (u:Value):Zb6 lo hi (w.setCell p u) v Xl:=h.touch (Zag.setCell p.block (p.block+1) w p u ⟨Nat.le_refl _,Nat.lt_succ_self _⟩) (Or.inr hp)
def Zgt (lo hi:Nat) (w:World) (sv mv tv:Value) (Ss:List Sh) (Ms:List Md) (Ts:List Tm):Prop:=
 ∃ s0 s1 m0 m1 t0 t1:Nat,(lo<=s0/\s1<=hi)/\(lo<=m0/\m1<=hi)/\(lo<=t0/\t1<=hi)/\s1<=t0/\m1<=t0/\Zlv s0 s1 w sv Ss/\Zm6 m0 m1 w mv Ms/\Zb6 t0 t1 w tv Ts
theorem Zgt.at {lo hi:Nat}{w:World}{sv mv tv:Value}{Ss:List Sh}{Ms:List Md}{Ts:List Tm} (h:Zgt lo hi w sv mv tv Ss Ms Ts):Zbw lo w sv mv tv Ss Ms Ts:=by
 obtain⟨s0,s1,m0,m1,t0,t1,g1,g2,g3,-,-,h1,h2,h3⟩:=h;exact⟨h1.1.mono g1.1,h2.1.mono g2.1,h3.at.mono g3.1⟩
theorem Zgt.below {lo hi:Nat}{w:World}{sv mv tv:Value}{Ss:List Sh}{Ms:List Md}{Ts:List Tm} (h:Zgt lo hi w sv mv tv Ss Ms Ts) (hb:Zw_ w w'):Zgt lo hi w' sv mv tv Ss Ms Ts:=by
 obtain⟨s0,s1,m0,m1,t0,t1,g1,g2,g3,g4,g5,h1,h2,h3⟩:=h;exact⟨s0,s1,m0,m1,t0,t1,g1,g2,g3,g4,g5,h1.below hb,h2.below hb,h3.below hb⟩
section
variable (lo hi:Nat) (sv mv tv:Value) (Ss:List Sh) (Ms:List Md) (Ts:List Tm) (w:World)
theorem ZmN (h:Zbw lo w sv mv tv Ss Ms Ts) (hn:Ze3 Ss Ms Ts) :
 Calls prog 10 #[.agg #[sv,mv,tv]] w
  fun e w'=>∃ b0 m0 b1 m1 b2 m2,e=.returned (.agg #[.slice b0 Ss.length m0,.slice b1 Ms.length m1,.slice b2 Ts.length m2])/\Zw_ w w'/\
   Zgt w.heap.size w'.heap.size w' (.slice b0 Ss.length m0) (.slice b1 Ms.length m1) (.slice b2 Ts.length m2) Ss Ms Ts:=by
 have HL:=Zab h;obtain⟨a0,k0,rfl⟩:=h.shs.form;obtain⟨a1,k1,rfl⟩:=h.mds.form;obtain⟨a2,k2,rfl⟩:=h.tms.form;clear h;go_enter func10,ntmps10;go_wp2_with fail
 obtain⟨wz,hwz,HX0,HR0,HO0,HB0⟩:∃ wz,wz=((w.alloc (.cells #[.slice a0 Ss.length k0,.slice a1 Ms.length k1,.slice a2 Ts.length k2] 26)).alloc (.cells #[.slice none 0 0,.slice none 0 0,.slice none 0 0] 41)).alloc (.cells #[.slice none 0 0,.slice none 0 0,.slice none 0 0] 41)/\
  Hd (Box wz w.heap.size #[.slice a0 Ss.length k0,.slice a1 Ms.length k1,.slice a2 Ts.length k2])/\Hd (Box wz (w.heap.size+1) #[.slice none 0 0,.slice none 0 0,.slice none 0 0])/\Hd (Box wz (w.heap.size+1+1) #[.slice none 0 0,.slice none 0 0,.slice none 0 0])/\Hd (Zw_ w wz):=
  ⟨_,rfl,((Box.new w _ _ _ rfl).on (Zac _ _)).on (Zac _ _),(Box.new _ _ _ _ (by simp)).on (Zac _ _),Box.new _ _ _ _ (by simp),((Zac _ _).trans ((Zac _ _).mono (by simp))).trans ((Zac _ _).mono (by simp;omega))⟩
 rw [<- hwz];clear hwz;generalize wz=v0 at*;have hz0:w.heap.size+3<=v0.heap.size:=by have:=HO0.o.lt;omega
 refine (ZmU lo _ Ss _ (HL.o.below HB0.o).shs hn.1).mono ?_;rintro e w0 ⟨u0,rfl,hb0,hs0a,hs0b⟩;have hs0:Zlv v0.heap.size w0.heap.size w0 u0 Ss:=⟨hs0a,hs0b⟩;obtain⟨b0,m0,rfl⟩:=hs0.form;have GX:=Zab (HX0.o.on hb0);have GR:=Zab (HR0.o.on hb0);have GO:=Zab (HO0.o.on hb0);have GB:=Zab (HB0.o.trans (hb0.mono HB0.o.size));have GN:=Zab hs0;have hsz0:=hb0.size;clear hb0 hs0 HX0 HR0 HO0 HB0 hs0a hs0b;have o0:=GO.o.cell 0;have f0:=GO.o.free 0;have x1:=GX.o.cell 1;simp at o0 f0 x1;go_wp2_with fail;clear o0 f0 x1
 obtain⟨v1,hwq,HX1,HR1,HO1,HB1,hq1,HS0⟩:∃ wq,wq=w0.setCell ⟨w.heap.size+1+1,0,none⟩ (.slice b0 Ss.length m0)/\
  Hd (Box wq w.heap.size #[.slice a0 Ss.length k0,.slice a1 Ms.length k1,.slice a2 Ts.length k2])/\Hd (Box wq (w.heap.size+1) #[.slice none 0 0,.slice none 0 0,.slice none 0 0])/\Hd (Box wq (w.heap.size+1+1) #[.slice b0 Ss.length m0,.slice none 0 0,.slice none 0 0])/\Hd (Zw_ w wq)/\wq.heap.size=w0.heap.size/\Hd (Zlv v0.heap.size w0.heap.size wq (.slice b0 Ss.length m0) Ss):=
  ⟨_,rfl,GX.o.setFar (by simp only [];omega) _,GR.o.setFar (by simp only [];omega) _,GO.o.set (k:=0) (.slice b0 Ss.length m0) (by simp),GB.o.setCell (by simp only [];omega) _,by simp [World.setCell],GN.o.setLow (by simp only [];omega) _⟩
 rw [<- hwq];clear hwq GX GR GO GB GN;have hz1:w.heap.size+3<=v1.heap.size:=by omega
 refine (Zh2 lo _ Ms _ (HL.o.below HB1.o).mds hn.2.1).mono ?_;rintro e w1 ⟨u1,rfl,hb1,hs1a,hs1b⟩;have hs1:Zm6 v1.heap.size w1.heap.size w1 u1 Ms:=⟨hs1a,hs1b⟩;obtain⟨b1,m1,rfl⟩:=hs1.form;have GX:=Zab (HX1.o.on hb1);have GR:=Zab (HR1.o.on hb1);have GO:=Zab (HO1.o.on hb1);have GB:=Zab (HB1.o.trans (hb1.mono HB1.o.size));have GN:=Zab hs1;have hsz1:=hb1.size;have G0:=Zab (HS0.o.below hb1);clear hb1 hs1 HX1 HR1 HO1 HB1 HS0 hs1a hs1b;have o0:=GO.o.cell 1;have f0:=GO.o.free 1;have x1:=GX.o.cell 2;simp at o0 f0 x1;go_wp2_with fail;clear o0 f0 x1
 obtain⟨v2,hwq,HX2,HR2,HO2,HB2,hq2,HS1,HS0⟩:∃ wq,wq=w1.setCell ⟨w.heap.size+1+1,1,none⟩ (.slice b1 Ms.length m1)/\
  Hd (Box wq w.heap.size #[.slice a0 Ss.length k0,.slice a1 Ms.length k1,.slice a2 Ts.length k2])/\Hd (Box wq (w.heap.size+1) #[.slice none 0 0,.slice none 0 0,.slice none 0 0])/\Hd (Box wq (w.heap.size+1+1) #[.slice b0 Ss.length m0,.slice b1 Ms.length m1,.slice none 0 0])/\Hd (Zw_ w wq)/\wq.heap.size=w1.heap.size/\Hd (Zm6 v1.heap.size w1.heap.size wq (.slice b1 Ms.length m1) Ms)/\Hd (Zlv v0.heap.size w0.heap.size wq (.slice b0 Ss.length m0) Ss):=
  ⟨_,rfl,GX.o.setFar (by simp only [];omega) _,GR.o.setFar (by simp only [];omega) _,GO.o.set (k:=1) (.slice b1 Ms.length m1) (by simp),GB.o.setCell (by simp only [];omega) _,by simp [World.setCell],GN.o.setLow (by simp only [];omega) _,G0.o.setLow (by simp only [];omega) _⟩
 rw [<- hwq];clear hwq GX GR GO GB GN G0;have hz2:w.heap.size+3<=v2.heap.size:=by omega
 refine (ZmV lo _ Ts _ (HL.o.below HB2.o).tms (Zc4.of hn.2.2)).mono ?_;rintro e w2 ⟨u2,rfl,hb2,hs2⟩;have hs2:Zb6 v2.heap.size w2.heap.size w2 u2 Ts:=hs2;obtain⟨b2,m2,rfl⟩:=hs2.form;have GX:=Zab (HX2.o.on hb2);have GR:=Zab (HR2.o.on hb2);have GO:=Zab (HO2.o.on hb2);have GB:=Zab (HB2.o.trans (hb2.mono HB2.o.size));have GN:=Zab hs2;have hsz2:=hb2.size;have G0:=Zab (HS0.o.below hb2);have G1:=Zab (HS1.o.below hb2);clear hb2 hs2 HX2 HR2 HO2 HB2 HS0 HS1;have o0:=GO.o.cell 0;have o1:=GO.o.cell 1;have o2:=GO.o.cell 2;have f2:=GO.o.free 2;have r0:=GR.o.cell 0;have g0:=GR.o.free 0;have r1:=GR.o.cell 1;have g1:=GR.o.free 1;have r2:=GR.o.cell 2;have g2:=GR.o.free 2;simp at o0 o1 o2 r0 r1 r2;go_wp2
 refine bodyPost_ret (v:=.agg #[.slice b0 Ss.length m0,.slice b1 Ms.length m1,.slice b2 Ts.length m2]) (by simp [results,results10,go_sem,r0,r1,r2]) rfl ⟨_,_,_,_,_,_,rfl,?_,v0.heap.size,w0.heap.size,v1.heap.size,w1.heap.size,v2.heap.size,w2.heap.size,?_,?_,?_,by omega,by omega,?_,?_,?_⟩
 . repeat (refine Below.setCell ?_ (by simp only [];omega) _)
   exact GB.o
 . simp [World.setCell];omega
 . simp [World.setCell];omega
 . simp [World.setCell];omega
 . repeat (refine Zlv.setLow ?_ (by simp only [];omega) _)
   exact G0.o
 . repeat (refine Zm6.setLow ?_ (by simp only [];omega) _)
   exact G1.o
 . repeat (refine Zb6.setLow ?_ (by simp only [];omega) _)
   exact GN.o
theorem Zkp (h:Zgt lo hi w sv mv tv Ss Ms Ts) (hn:Ze3 Ss Ms Ts) (hhi:hi<=w.heap.size) :
 Calls prog 16 #[.agg #[sv,mv,tv],.int .i64 1] w fun e w'=>∃ r:Int,e=.returned (.int .i64 r)/\1<=r/\r<=1700000000000000000/\Zag lo hi w w':=by
 obtain⟨s0,s1,m0,m1,t0,t1,⟨y1,y2⟩,⟨y3,y4⟩,⟨y5,y6⟩,y7,y8,h1,h2,h3⟩:=h;have hn1:=hn.1.1;have hn2:=hn.2.1;have hn3:=hn.2.2;have HT3:Hd (Zc4 Ts):=Zc4.of hn3;have zt:=Zlh HT3.o (i:=Ts.length) Zl_;have H1:=Zab h1.2;have H2:=Zab h2.2;have H3:=Zab h3;obtain⟨a0,k0,rfl⟩:=h1.form;obtain⟨a1,k1,rfl⟩:=h2.form;obtain⟨a2,k2,rfl⟩:=h3.form;clear h1 h2 h3 hn;go_enter func16,ntmps16;go_wp2_with fail;generalize hWa:w.alloc _=Wa;have hb:Zw_ w Wa:=by rw [<- hWa];exact Zac w _
 have HX0:Hd (Box Wa w.heap.size #[.slice a0 Ss.length k0,.slice a1 Ms.length k1,.slice a2 Ts.length k2]):=by rw [<- hWa];exact Box.new _ _ _ _ rfl
 have HT0:Hd (Zag lo hi w Wa):=Zag.below hb;replace H1:=Zab (H1.o.below hb);replace H2:=Zab (H2.o.below hb);replace H3:=Zab (H3.o.below hb);clear hWa hb;refine (Zku s0 s1 _ Ss.length _ _ H1.o (by omega) hn1 (by omega)).mono ?_;rintro e w1 ⟨r1,rfl,p1,p2,ht1⟩;have HX1:=Zab (HX0.o.touch ht1.touch (by omega));have HT1:Hd (Zag lo hi w w1):=HT0.o.trans (ht1.touch.wide (by omega) (by omega));replace H2:=Zab (H2.o.kept ht1);replace H3:=Zab (H3.o.touch ht1.touch (by omega));clear ht1 HX0 HT0 H1;have c1:=HX1.o.cell 1;simp at c1;go_wp2_with fail;clear c1;refine (Zkr m0 m1 _ Ms.length _ _ H2.o (by omega) hn2 (by omega)).mono ?_;rintro e w2 ⟨r2,rfl,p3,p4,ht2⟩;have HX2:=Zab (HX1.o.touch ht2.touch (by omega));have HT2:Hd (Zag lo hi w w2):=HT1.o.trans (ht2.touch.wide (by omega) (by omega));replace H3:=Zab (H3.o.touch ht2.touch (by omega))
 clear ht2 HX1 HT1 H2;have c2:=HX2.o.cell 2;simp at c2;go_wp2_with fail;clear c2;refine (Zkv t0 t1 _ Ts _ _ H3.o HT3.o (by omega) (by omega)).mono ?_;rintro e w3 ⟨rfl,ht3,-⟩;have HT4:Hd (Zag lo hi w w3):=HT2.o.trans (ht3.wide (by omega) (by omega));clear ht3 HX2 HT2 H3;go_wp2;go_ret;exact⟨_,rfl,by omega,by omega,HT4.o⟩
end
end
open Go.ChangeShapes Go.WideShapes Go.ChangeAt Go.RowKit Go.Deep
variable {l cs:List Value} {fuel:Nat} {c:Value}
theorem Zsi (h:l.length=7):∃ c0 c1 c2 c3 c4 c5 c6,l=[c0,c1,c2,c3,c4,c5,c6]:=by
 match l,h with
 | [c0,c1,c2,c3,c4,c5,c6],_=>exact⟨c0,c1,c2,c3,c4,c5,c6,rfl⟩
section
variable {H:Type} {enc:TypeId×Value->H} {W:World}
theorem Zq4 {x:DataW H×List MemPlace} (h:DataW.trod enc prog W 0 (fun _=>true) true fuel 113 cs=some x) :
 ∃ (x:Ob) (vv0:Value) (vv1:Value),cs=[.string x.kd,.string x.nm,.string x.tm,vv0,.bool x.en,vv1,.int .i64 x.ver]/\Zaq 0 W vv0 x.vs/\Zaq 0 W vv1 x.hs/\ZcO x:=by
 obtain⟨xs,n,_,_,hl,hlen,hfld⟩:=DataW.trod_struct underlying113 h;obtain⟨c0,c1,c2,c3,c4,c5,c6,rfl⟩:=Zsi (hl.trans Tryz.cells113);simp only [Array.size,List.length_cons,List.length_nil] at hlen;have g0:DataW.trod enc prog W 0 (fun _=>true) true n 9 ((([c0,c1,c2,c3,c4,c5,c6]:List Value).drop 0).take (prog.cellsOf 9))=xs[0]?:=hfld 0 _ rfl;have g1:DataW.trod enc prog W 0 (fun _=>true) true n 9 ((([c0,c1,c2,c3,c4,c5,c6]:List Value).drop 1).take (prog.cellsOf 9))=xs[1]?:=hfld 1 _ rfl;have g2:DataW.trod enc prog W 0 (fun _=>true) true n 9 ((([c0,c1,c2,c3,c4,c5,c6]:List Value).drop 2).take (prog.cellsOf 9))=xs[2]?:=hfld 2 _ rfl;have g3:DataW.trod enc prog W 0 (fun _=>true) true n 111 ((([c0,c1,c2,c3,c4,c5,c6]:List Value).drop 3).take (prog.cellsOf 111))=xs[3]?:=hfld 3 _ rfl
 have g4:DataW.trod enc prog W 0 (fun _=>true) true n 4 ((([c0,c1,c2,c3,c4,c5,c6]:List Value).drop 4).take (prog.cellsOf 4))=xs[4]?:=hfld 4 _ rfl;have g5:DataW.trod enc prog W 0 (fun _=>true) true n 111 ((([c0,c1,c2,c3,c4,c5,c6]:List Value).drop 5).take (prog.cellsOf 111))=xs[5]?:=hfld 5 _ rfl;have g6:DataW.trod enc prog W 0 (fun _=>true) true n 3 ((([c0,c1,c2,c3,c4,c5,c6]:List Value).drop 6).take (prog.cellsOf 3))=xs[6]?:=hfld 6 _ rfl;simp only [Tryz.cells4,Tryz.cells3,Tryz.cells9,Tryz.cells111,List.drop_succ_cons,List.drop_zero,List.take_succ_cons,List.take_zero] at g0 g1 g2 g3 g4 g5 g6;rw [List.getElem?_eq_getElem (by omega)] at g0 g1 g2 g3 g4 g5 g6;obtain⟨q0,e0,_,s0⟩:=DataW.trod_string underlying9 g0;obtain⟨q1,e1,_,s1⟩:=DataW.trod_string underlying9 g1;obtain⟨q2,e2,_,s2⟩:=DataW.trod_string underlying9 g2;obtain⟨q3,hq3⟩:=ZfL g3
 obtain⟨q4,e4,_⟩:=DataW.trod_bool underlying4 g4;obtain⟨q5,hq5⟩:=ZfL g5;obtain⟨q6,e6,_,_⟩:=DataW.trod_int underlying3 g6;simp only [List.cons.injEq,and_true] at e0 e1 e2 e4 e6;subst e0 e1 e2 e4 e6;exact⟨⟨q0,q1,q2,q3,q4,q5,q6⟩,c3,c5,rfl,hq3.in0,hq5.in0,⟨s0,s1,s2⟩⟩
theorem ZpH {x:DataW H×List MemPlace} (h:DataW.trod enc prog W 0 (fun _=>true) true fuel 27 [c]=some x):∃ Xl,Zbg 0 W c Xl:=by
 rcases open_slice underlying27 h with ⟨hcs,_⟩ | ⟨a,len,cap,m,n,D,Pl,hcs,_,hl,hm,hmm,_,hx⟩
 . simp only [List.cons.injEq,and_true] at hcs
   exact⟨[],Or.inl ⟨_,_,hcs,rfl⟩⟩
 . simp only [List.cons.injEq,and_true] at hcs
   simp only [if_true] at hmm;subst hmm;rw [Tryz.cells113] at hx
   by_cases h0:len=0
   . subst h0
     exact⟨[],Or.inl ⟨_,_,hcs,rfl⟩⟩
   . obtain⟨Xl,hF,hall⟩:=Zby (p:=fun i (x:Ob)=>ZcO x/\∃ vv0 vv1,Zaq 0 W vv0 x.vs/\Zaq 0 W vv1 x.hs/\W.cells? 0 (a.add (i*7)) 7=some [.string x.kd,.string x.nm,.string x.tm,vv0,.bool x.en,vv1,.int .i64 x.ver]) len (fun i hi=>by
      obtain⟨cs',h1,h2⟩:=hx i (by omega);obtain⟨md,vv0,vv1,e,hw0,hw1,hz⟩:=Zq4 h2;rw [e] at h1;exact⟨md,hz,vv0,vv1,hw0,hw1,h1⟩)
     obtain⟨b,off,spot⟩:=a
     have hspot:spot=none:=by
      obtain⟨_,vv0,vv1,_,_,h1⟩:=hall 0 (by omega);have:=(World.cells?_some h1).2.2 0 (by omega);rw [Nat.zero_mul] at this;have e0:((⟨b,off,spot⟩:Addr).add 0).add 0=⟨b,off,spot⟩:=by simp [Addr.add]
      rw [e0] at this
      simpa using World.cell?_spot (by simpa using this)
     subst hspot
     have hcell:∀ i (hi:i < Xl.length) vv0 vv1,W.cells? 0 ((⟨b,off,none⟩:Addr).add (i*7)) 7=some [.string Xl[i].kd,.string Xl[i].nm,.string Xl[i].tm,vv0,.bool Xl[i].en,vv1,.int .i64 Xl[i].ver]->Zcb W b (off+i*7) Xl[i] vv0 vv1:=fun i hi vv0 vv1 h1=>by
      obtain⟨_,_,hc⟩:=World.cells?_some h1;rw [add_plain] at hc;have q:=fun j (hj:j < 7)=>(add_plain b (off+i*7) j) ▸ hc j hj
      exact⟨by simpa using q 0 (by omega),by simpa using q 1 (by omega),by simpa using q 2 (by omega),by simpa using q 3 (by omega),by simpa using q 4 (by omega),by simpa using q 5 (by omega),by simpa using q 6 (by omega)⟩
     have hbw:b < W.heap.size:=by
      obtain⟨_,vv0,vv1,_,_,h1⟩:=hall 0 (by omega);exact World.block_lt_of_cell? W _ (hcell 0 (by omega) vv0 vv1 h1).c0
     refine⟨Xl,Or.inr ⟨b,off,m,by rw [hcs,hF],?_,by omega,hbw,Nat.zero_le _,by omega,fun i hi=>?_⟩⟩
     . intro e;rw [e] at hF;simp at hF;omega
     . obtain⟨hz,vv0,vv1,hw0,hw1,h1⟩:=hall i hi
       exact⟨hz,vv0,vv1,hcell i hi vv0 vv1 h1,hw0,hw1⟩
end
theorem Tryz.cells118:prog.cellsOf 118=7:=by kernel_rfl
theorem Zsg (h:l.length=7):∃ c0 c1 c2 c3 c4 c5 c6,l=[c0,c1,c2,c3,c4,c5,c6]:=by
 match l,h with
 | [c0,c1,c2,c3,c4,c5,c6],_=>exact⟨c0,c1,c2,c3,c4,c5,c6,rfl⟩
section
variable {H:Type} {enc:TypeId×Value->H} {W:World}
theorem Zq2 {x:DataW H×List MemPlace} (h:DataW.trod enc prog W 0 (fun _=>true) true fuel 118 cs=some x) :
 ∃ (x:Gr) (vv0:Value),cs=[.int .i64 x.nu,.string x.tw,.string x.gb,vv0,.string x.kd,.string x.tm,.string x.pf]/\Zat 0 W vv0 x.vb/\ZdS x:=by
 obtain⟨xs,n,_,_,hl,hlen,hfld⟩:=DataW.trod_struct underlying118 h;obtain⟨c0,c1,c2,c3,c4,c5,c6,rfl⟩:=Zsg (hl.trans Tryz.cells118);simp only [Array.size,List.length_cons,List.length_nil] at hlen;have g0:DataW.trod enc prog W 0 (fun _=>true) true n 3 ((([c0,c1,c2,c3,c4,c5,c6]:List Value).drop 0).take (prog.cellsOf 3))=xs[0]?:=hfld 0 _ rfl;have g1:DataW.trod enc prog W 0 (fun _=>true) true n 9 ((([c0,c1,c2,c3,c4,c5,c6]:List Value).drop 1).take (prog.cellsOf 9))=xs[1]?:=hfld 1 _ rfl;have g2:DataW.trod enc prog W 0 (fun _=>true) true n 9 ((([c0,c1,c2,c3,c4,c5,c6]:List Value).drop 2).take (prog.cellsOf 9))=xs[2]?:=hfld 2 _ rfl;have g3:DataW.trod enc prog W 0 (fun _=>true) true n 116 ((([c0,c1,c2,c3,c4,c5,c6]:List Value).drop 3).take (prog.cellsOf 116))=xs[3]?:=hfld 3 _ rfl
 simp only [Tryz.cells3,Tryz.cells116,Tryz.cells9,List.drop_succ_cons,List.drop_zero,List.take_succ_cons,List.take_zero] at g0 g1 g2 g3;rw [List.getElem?_eq_getElem (by omega)] at g0 g1 g2 g3;obtain⟨q0,e0,_,_⟩:=DataW.trod_int underlying3 g0;obtain⟨q1,e1,_,s1⟩:=DataW.trod_string underlying9 g1;obtain⟨q2,e2,_,s2⟩:=DataW.trod_string underlying9 g2;obtain⟨q3,v3,e3,hq3,z3⟩:=ZpM g3;simp only [List.cons.injEq,and_true] at e0 e1 e2 e3;obtain⟨r0,r1,r2,r3⟩:=e3;subst e0 e1 e2 r0 r1 r2 r3;exact⟨⟨q0,q1,q2,q3.vb,q3.kd,q3.tm,q3.pf⟩,_,rfl,hq3,⟨s1,s2,z3.s1,z3.s2,z3.s3⟩⟩
theorem ZpF {x:DataW H×List MemPlace} (h:DataW.trod enc prog W 0 (fun _=>true) true fuel 28 [c]=some x):∃ Xl,ZbK 0 W c Xl:=by
 rcases open_slice underlying28 h with ⟨hcs,_⟩ | ⟨a,len,cap,m,n,D,Pl,hcs,_,hl,hm,hmm,_,hx⟩
 . simp only [List.cons.injEq,and_true] at hcs
   exact⟨[],Or.inl ⟨_,_,hcs,rfl⟩⟩
 . simp only [List.cons.injEq,and_true] at hcs
   simp only [if_true] at hmm;subst hmm;rw [Tryz.cells118] at hx
   by_cases h0:len=0
   . subst h0
     exact⟨[],Or.inl ⟨_,_,hcs,rfl⟩⟩
   . obtain⟨Xl,hF,hall⟩:=Zby (p:=fun i (x:Gr)=>ZdS x/\∃ vv0,Zat 0 W vv0 x.vb/\W.cells? 0 (a.add (i*7)) 7=some [.int .i64 x.nu,.string x.tw,.string x.gb,vv0,.string x.kd,.string x.tm,.string x.pf]) len (fun i hi=>by
      obtain⟨cs',h1,h2⟩:=hx i (by omega);obtain⟨md,vv0,e,hw0,hz⟩:=Zq2 h2;rw [e] at h1;exact⟨md,hz,vv0,hw0,h1⟩)
     obtain⟨b,off,spot⟩:=a
     have hspot:spot=none:=by
      obtain⟨_,vv0,_,h1⟩:=hall 0 (by omega);have:=(World.cells?_some h1).2.2 0 (by omega);rw [Nat.zero_mul] at this;have e0:((⟨b,off,spot⟩:Addr).add 0).add 0=⟨b,off,spot⟩:=by simp [Addr.add]
      rw [e0] at this
      simpa using World.cell?_spot (by simpa using this)
     subst hspot
     have hcell:∀ i (hi:i < Xl.length) vv0,W.cells? 0 ((⟨b,off,none⟩:Addr).add (i*7)) 7=some [.int .i64 Xl[i].nu,.string Xl[i].tw,.string Xl[i].gb,vv0,.string Xl[i].kd,.string Xl[i].tm,.string Xl[i].pf]->Zcx W b (off+i*7) Xl[i] vv0:=fun i hi vv0 h1=>by
      obtain⟨_,_,hc⟩:=World.cells?_some h1;rw [add_plain] at hc;have q:=fun j (hj:j < 7)=>(add_plain b (off+i*7) j) ▸ hc j hj
      exact⟨by simpa using q 0 (by omega),by simpa using q 1 (by omega),by simpa using q 2 (by omega),by simpa using q 3 (by omega),by simpa using q 4 (by omega),by simpa using q 5 (by omega),by simpa using q 6 (by omega)⟩
     have hbw:b < W.heap.size:=by
      obtain⟨_,vv0,_,h1⟩:=hall 0 (by omega);exact World.block_lt_of_cell? W _ (hcell 0 (by omega) vv0 h1).c0
     refine⟨Xl,Or.inr ⟨b,off,m,by rw [hcs,hF],?_,by omega,hbw,Nat.zero_le _,by omega,fun i hi=>?_⟩⟩
     . intro e;rw [e] at hF;simp at hF;omega
     . obtain⟨hz,vv0,hw0,h1⟩:=hall i hi
       exact⟨hz,vv0,hcell i hi vv0 h1,hw0⟩
end
theorem Tryz.cells121:prog.cellsOf 121=4:=by kernel_rfl
theorem Zsh (h:l.length=4):∃ c0 c1 c2 c3,l=[c0,c1,c2,c3]:=by
 match l,h with
 | [c0,c1,c2,c3],_=>exact⟨c0,c1,c2,c3,rfl⟩
section
variable {H:Type} {enc:TypeId×Value->H} {W:World}
theorem Zq3 {x:DataW H×List MemPlace} (h:DataW.trod enc prog W 0 (fun _=>true) true fuel 121 cs=some x) :
 ∃ (x:Le),cs=[.string x.tm,.string x.re,.int .i64 x.mo,.int .i64 x.fr]/\ZdU x:=by
 obtain⟨xs,n,_,_,hl,hlen,hfld⟩:=DataW.trod_struct underlying121 h;obtain⟨c0,c1,c2,c3,rfl⟩:=Zsh (hl.trans Tryz.cells121);simp only [Array.size,List.length_cons,List.length_nil] at hlen;have g0:DataW.trod enc prog W 0 (fun _=>true) true n 9 ((([c0,c1,c2,c3]:List Value).drop 0).take (prog.cellsOf 9))=xs[0]?:=hfld 0 _ rfl;have g1:DataW.trod enc prog W 0 (fun _=>true) true n 9 ((([c0,c1,c2,c3]:List Value).drop 1).take (prog.cellsOf 9))=xs[1]?:=hfld 1 _ rfl;have g2:DataW.trod enc prog W 0 (fun _=>true) true n 3 ((([c0,c1,c2,c3]:List Value).drop 2).take (prog.cellsOf 3))=xs[2]?:=hfld 2 _ rfl;have g3:DataW.trod enc prog W 0 (fun _=>true) true n 3 ((([c0,c1,c2,c3]:List Value).drop 3).take (prog.cellsOf 3))=xs[3]?:=hfld 3 _ rfl;simp only [Tryz.cells3,Tryz.cells9,List.drop_succ_cons,List.drop_zero,List.take_succ_cons,List.take_zero] at g0 g1 g2 g3
 rw [List.getElem?_eq_getElem (by omega)] at g0 g1 g2 g3;obtain⟨q0,e0,_,s0⟩:=DataW.trod_string underlying9 g0;obtain⟨q1,e1,_,s1⟩:=DataW.trod_string underlying9 g1;obtain⟨q2,e2,_,_⟩:=DataW.trod_int underlying3 g2;obtain⟨q3,e3,_,_⟩:=DataW.trod_int underlying3 g3;simp only [List.cons.injEq,and_true] at e0 e1 e2 e3;subst e0 e1 e2 e3;exact⟨⟨q0,q1,q2,q3⟩,rfl,⟨s0,s1⟩⟩
theorem ZpG {x:DataW H×List MemPlace} (h:DataW.trod enc prog W 0 (fun _=>true) true fuel 29 [c]=some x):∃ Xl,Zbx 0 W c Xl:=by
 rcases open_slice underlying29 h with ⟨hcs,_⟩ | ⟨a,len,cap,m,n,D,Pl,hcs,_,hl,hm,hmm,_,hx⟩
 . simp only [List.cons.injEq,and_true] at hcs
   exact⟨[],Or.inl ⟨_,_,hcs,rfl⟩⟩
 . simp only [List.cons.injEq,and_true] at hcs
   simp only [if_true] at hmm;subst hmm;rw [Tryz.cells121] at hx
   by_cases h0:len=0
   . subst h0
     exact⟨[],Or.inl ⟨_,_,hcs,rfl⟩⟩
   . obtain⟨Xl,hF,hall⟩:=Zby (p:=fun i (x:Le)=>ZdU x/\W.cells? 0 (a.add (i*4)) 4=some [.string x.tm,.string x.re,.int .i64 x.mo,.int .i64 x.fr]) len (fun i hi=>by
      obtain⟨cs',h1,h2⟩:=hx i (by omega);obtain⟨md,e,hz⟩:=Zq3 h2;rw [e] at h1;exact⟨md,hz,h1⟩)
     obtain⟨b,off,spot⟩:=a
     have hspot:spot=none:=by
      obtain⟨_,h1⟩:=hall 0 (by omega);have:=(World.cells?_some h1).2.2 0 (by omega);rw [Nat.zero_mul] at this;have e0:((⟨b,off,spot⟩:Addr).add 0).add 0=⟨b,off,spot⟩:=by simp [Addr.add]
      rw [e0] at this
      simpa using World.cell?_spot (by simpa using this)
     subst hspot
     have hcell:∀ i (hi:i < Xl.length),W.cells? 0 ((⟨b,off,none⟩:Addr).add (i*4)) 4=some [.string Xl[i].tm,.string Xl[i].re,.int .i64 Xl[i].mo,.int .i64 Xl[i].fr]->Zcy W b (off+i*4) Xl[i]:=fun i hi h1=>by
      obtain⟨_,_,hc⟩:=World.cells?_some h1;rw [add_plain] at hc;have q:=fun j (hj:j < 4)=>(add_plain b (off+i*4) j) ▸ hc j hj
      exact⟨by simpa using q 0 (by omega),by simpa using q 1 (by omega),by simpa using q 2 (by omega),by simpa using q 3 (by omega)⟩
     have hbw:b < W.heap.size:=by
      obtain⟨_,h1⟩:=hall 0 (by omega);exact World.block_lt_of_cell? W _ (hcell 0 (by omega) h1).c0
     refine⟨Xl,Or.inr ⟨b,off,m,by rw [hcs,hF],?_,by omega,hbw,Nat.zero_le _,by omega,fun i hi=>?_⟩⟩
     . intro e;rw [e] at hF;simp at hF;omega
     . obtain⟨hz,h1⟩:=hall i hi
       exact⟨hz,hcell i hi h1⟩
end
theorem Tryz.cells124:prog.cellsOf 124=5:=by kernel_rfl
theorem Zsj (h:l.length=5):∃ c0 c1 c2 c3 c4,l=[c0,c1,c2,c3,c4]:=by
 match l,h with
 | [c0,c1,c2,c3,c4],_=>exact⟨c0,c1,c2,c3,c4,rfl⟩
section
variable {H:Type} {enc:TypeId×Value->H} {W:World}
theorem Zq5 {x:DataW H×List MemPlace} (h:DataW.trod enc prog W 0 (fun _=>true) true fuel 124 cs=some x) :
 ∃ (x:Pu),cs=[.string x.dr,.string x.tm,.string x.re,.int .i64 x.am,.int .i64 x.un]/\ZdX x:=by
 obtain⟨xs,n,_,_,hl,hlen,hfld⟩:=DataW.trod_struct underlying124 h;obtain⟨c0,c1,c2,c3,c4,rfl⟩:=Zsj (hl.trans Tryz.cells124);simp only [Array.size,List.length_cons,List.length_nil] at hlen;have g0:DataW.trod enc prog W 0 (fun _=>true) true n 9 ((([c0,c1,c2,c3,c4]:List Value).drop 0).take (prog.cellsOf 9))=xs[0]?:=hfld 0 _ rfl;have g1:DataW.trod enc prog W 0 (fun _=>true) true n 9 ((([c0,c1,c2,c3,c4]:List Value).drop 1).take (prog.cellsOf 9))=xs[1]?:=hfld 1 _ rfl;have g2:DataW.trod enc prog W 0 (fun _=>true) true n 9 ((([c0,c1,c2,c3,c4]:List Value).drop 2).take (prog.cellsOf 9))=xs[2]?:=hfld 2 _ rfl;have g3:DataW.trod enc prog W 0 (fun _=>true) true n 3 ((([c0,c1,c2,c3,c4]:List Value).drop 3).take (prog.cellsOf 3))=xs[3]?:=hfld 3 _ rfl
 have g4:DataW.trod enc prog W 0 (fun _=>true) true n 3 ((([c0,c1,c2,c3,c4]:List Value).drop 4).take (prog.cellsOf 3))=xs[4]?:=hfld 4 _ rfl;simp only [Tryz.cells3,Tryz.cells9,List.drop_succ_cons,List.drop_zero,List.take_succ_cons,List.take_zero] at g0 g1 g2 g3 g4;rw [List.getElem?_eq_getElem (by omega)] at g0 g1 g2 g3 g4;obtain⟨q0,e0,_,s0⟩:=DataW.trod_string underlying9 g0;obtain⟨q1,e1,_,s1⟩:=DataW.trod_string underlying9 g1;obtain⟨q2,e2,_,s2⟩:=DataW.trod_string underlying9 g2;obtain⟨q3,e3,_,_⟩:=DataW.trod_int underlying3 g3;obtain⟨q4,e4,_,_⟩:=DataW.trod_int underlying3 g4;simp only [List.cons.injEq,and_true] at e0 e1 e2 e3 e4;subst e0 e1 e2 e3 e4;exact⟨⟨q0,q1,q2,q3,q4⟩,rfl,⟨s0,s1,s2⟩⟩
theorem ZpI {x:DataW H×List MemPlace} (h:DataW.trod enc prog W 0 (fun _=>true) true fuel 30 [c]=some x):∃ Xl,ZbV 0 W c Xl:=by
 rcases open_slice underlying30 h with ⟨hcs,_⟩ | ⟨a,len,cap,m,n,D,Pl,hcs,_,hl,hm,hmm,_,hx⟩
 . simp only [List.cons.injEq,and_true] at hcs
   exact⟨[],Or.inl ⟨_,_,hcs,rfl⟩⟩
 . simp only [List.cons.injEq,and_true] at hcs
   simp only [if_true] at hmm;subst hmm;rw [Tryz.cells124] at hx
   by_cases h0:len=0
   . subst h0
     exact⟨[],Or.inl ⟨_,_,hcs,rfl⟩⟩
   . obtain⟨Xl,hF,hall⟩:=Zby (p:=fun i (x:Pu)=>ZdX x/\W.cells? 0 (a.add (i*5)) 5=some [.string x.dr,.string x.tm,.string x.re,.int .i64 x.am,.int .i64 x.un]) len (fun i hi=>by
      obtain⟨cs',h1,h2⟩:=hx i (by omega);obtain⟨md,e,hz⟩:=Zq5 h2;rw [e] at h1;exact⟨md,hz,h1⟩)
     obtain⟨b,off,spot⟩:=a
     have hspot:spot=none:=by
      obtain⟨_,h1⟩:=hall 0 (by omega);have:=(World.cells?_some h1).2.2 0 (by omega);rw [Nat.zero_mul] at this;have e0:((⟨b,off,spot⟩:Addr).add 0).add 0=⟨b,off,spot⟩:=by simp [Addr.add]
      rw [e0] at this
      simpa using World.cell?_spot (by simpa using this)
     subst hspot
     have hcell:∀ i (hi:i < Xl.length),W.cells? 0 ((⟨b,off,none⟩:Addr).add (i*5)) 5=some [.string Xl[i].dr,.string Xl[i].tm,.string Xl[i].re,.int .i64 Xl[i].am,.int .i64 Xl[i].un]->Zcz W b (off+i*5) Xl[i]:=fun i hi h1=>by
      obtain⟨_,_,hc⟩:=World.cells?_some h1;rw [add_plain] at hc;have q:=fun j (hj:j < 5)=>(add_plain b (off+i*5) j) ▸ hc j hj
      exact⟨by simpa using q 0 (by omega),by simpa using q 1 (by omega),by simpa using q 2 (by omega),by simpa using q 3 (by omega),by simpa using q 4 (by omega)⟩
     have hbw:b < W.heap.size:=by
      obtain⟨_,h1⟩:=hall 0 (by omega);exact World.block_lt_of_cell? W _ (hcell 0 (by omega) h1).c0
     refine⟨Xl,Or.inr ⟨b,off,m,by rw [hcs,hF],?_,by omega,hbw,Nat.zero_le _,by omega,fun i hi=>?_⟩⟩
     . intro e;rw [e] at hF;simp at hF;omega
     . obtain⟨hz,h1⟩:=hall i hi
       exact⟨hz,hcell i hi h1⟩
end
theorem Tryz.cells32:prog.cellsOf 32=7:=by kernel_rfl
theorem Tryz.cells27:prog.cellsOf 27=1:=by kernel_rfl
theorem Tryz.cells28:prog.cellsOf 28=1:=by kernel_rfl
theorem Tryz.cells29:prog.cellsOf 29=1:=by kernel_rfl
theorem Tryz.cells30:prog.cellsOf 30=1:=by kernel_rfl
section
variable {H:Type} {enc:TypeId×Value->H} {W:World}
theorem Zn4 {r:Reach}{b0:Nat}{v:Value}{d:DataW H}{p:List MemPlace} (hv:Value.okWide prog W r b0 32 v) (h:DataW.Trod enc prog W 0 (fun _=>true) true 32 v d p) :
 ∃ (ov gv lv pv:Value) (B:Bk),v=.agg #[.int .i64 B.now,.int .i64 B.tick,.int .i64 B.given,ov,gv,lv,pv]/\ZaX 0 W ov gv lv pv B:=by
 obtain⟨cs,rfl,hsz⟩:=okWide_struct underlying32 hv;obtain⟨c0,c1,c2,c3,c4,c5,c6,rfl⟩:=ZrB (hsz.trans Tryz.cells32);obtain⟨fuel,hf⟩:=h;obtain⟨xs,n,_,_,_,hlen,hfld⟩:=DataW.trod_struct underlying32 hf;simp only [Array.size,List.length_cons,List.length_nil] at hlen;have g0:DataW.trod enc prog W 0 (fun _=>true) true n 3 ((([c0,c1,c2,c3,c4,c5,c6]:List Value).drop 0).take (prog.cellsOf 3))=xs[0]?:=hfld 0 _ rfl;have g1:DataW.trod enc prog W 0 (fun _=>true) true n 3 ((([c0,c1,c2,c3,c4,c5,c6]:List Value).drop 1).take (prog.cellsOf 3))=xs[1]?:=hfld 1 _ rfl;have g2:DataW.trod enc prog W 0 (fun _=>true) true n 3 ((([c0,c1,c2,c3,c4,c5,c6]:List Value).drop 2).take (prog.cellsOf 3))=xs[2]?:=hfld 2 _ rfl;have g3:DataW.trod enc prog W 0 (fun _=>true) true n 27 ((([c0,c1,c2,c3,c4,c5,c6]:List Value).drop 3).take (prog.cellsOf 27))=xs[3]?:=hfld 3 _ rfl
 have g4:DataW.trod enc prog W 0 (fun _=>true) true n 28 ((([c0,c1,c2,c3,c4,c5,c6]:List Value).drop 4).take (prog.cellsOf 28))=xs[4]?:=hfld 4 _ rfl;have g5:DataW.trod enc prog W 0 (fun _=>true) true n 29 ((([c0,c1,c2,c3,c4,c5,c6]:List Value).drop 5).take (prog.cellsOf 29))=xs[5]?:=hfld 5 _ rfl;have g6:DataW.trod enc prog W 0 (fun _=>true) true n 30 ((([c0,c1,c2,c3,c4,c5,c6]:List Value).drop 6).take (prog.cellsOf 30))=xs[6]?:=hfld 6 _ rfl;simp only [Tryz.cells3,Tryz.cells27,Tryz.cells28,Tryz.cells29,Tryz.cells30,List.drop_succ_cons,List.drop_zero,List.take_succ_cons,List.take_zero] at g0 g1 g2 g3 g4 g5 g6;rw [List.getElem?_eq_getElem (by omega)] at g0 g1 g2 g3 g4 g5 g6;obtain⟨q0,e0,_,_⟩:=DataW.trod_int underlying3 g0;obtain⟨q1,e1,_,_⟩:=DataW.trod_int underlying3 g1;obtain⟨q2,e2,_,_⟩:=DataW.trod_int underlying3 g2
 simp only [List.cons.injEq,and_true] at e0 e1 e2;subst e0 e1 e2;obtain⟨Os,hO⟩:=ZpH g3;obtain⟨Gs,hG⟩:=ZpF g4;obtain⟨Ls,hL⟩:=ZpG g5;obtain⟨Ps,hP⟩:=ZpI g6;exact⟨c3,c4,c5,c6,⟨q0,q1,q2,Os,Gs,Ls,Ps⟩,rfl,hO,hG,hL,hP⟩
end
end Go.Proofs.YtmappejlmapboaaGreat
