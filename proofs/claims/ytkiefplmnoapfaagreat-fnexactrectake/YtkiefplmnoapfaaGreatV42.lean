import Derived.Test.YtkiefplmnoapfaaGreatV30
set_option maxHeartbeats 16000000
set_option maxRecDepth 100000
open Go.Proofs.Tryz
namespace Go.Proofs.YtkiefplmnoapfaaGreat
open Go.RowKit Go.Deep
def stx (L:List Rs) (k:Nat):Zy_:=match L[k]? with | some s=>s.tx | none=>⟨#[]⟩
theorem ZjY {L:List Rs}{k:Nat} (h:k < L.length):stx L k=L[k].tx:=by unfold stx;rw [List.getElem?_eq_getElem h]
def ZiG (U:Rr) (M:Rm) (i:Nat):Rm:=⟨6,0,M.fr,U.ba,M.ix+i,0,stx U.dk.sl ((M.ix+i - 1).toNat),[]⟩
def Zfo (U:Rr) (M:Rm):Nat->Rr
 | 0=>U
 | i+1=>Zav (Zfo U M i) (ZiG U M i)
def Zjb (U:Rr) (M:Rm):Nat:=if U.ld=true/\0 < M.ix then (min 5 (U.dk.kn - M.ix+1)).toNat else 0
def Zdi (U:Rr) (M:Rm):Rr:=Zfo U M (Zjb U M)
theorem ZhW (U:Rr) (M:Rm):(Zav U M).dk=U.dk/\(Zav U M).ld=U.ld/\(Zav U M).ba=U.ba:=by unfold Zav;split <;> exact⟨rfl,rfl,rfl⟩
theorem Zdw (U:Rr) (M:Rm):∀ i,(Zfo U M i).dk=U.dk/\(Zfo U M i).ld=U.ld/\(Zfo U M i).ba=U.ba
 | 0=>⟨rfl,rfl,rfl⟩
 | i+1=>by
  have h1:=ZhW (Zfo U M i) (ZiG U M i);have h2:=Zdw U M i;exact⟨h1.1.trans h2.1,h1.2.1.trans h2.2.1,h1.2.2.trans h2.2.2⟩
theorem ZeY {U:Rr}{M:Rm}{i:Nat}:i < Zjb U M↔U.ld=true/\0 < M.ix/\i < 5/\M.ix+i<=U.dk.kn:=by
 unfold Zjb
 split
 . rename_i h;constructor
   . intro h';exact⟨h.1,h.2,by omega,by omega⟩
   . intro h';omega
 . rename_i h;constructor
   . intro h';omega
   . intro h';exact absurd ⟨h'.1,h'.2.1⟩ h
theorem ZiS (K:Nat->Prop) (lo:Nat) (w:World) (U:Rr) (b:Nat->Option Addr) (m:Nat->Nat) (S:Nat->Nat->Prop) (M:Rm) (a0:Option Addr) (k0:Nat) (h:Cz K lo w b m S U) (hM:M.kd=7) (hx0:0<=M.ix) (hx2:M.ix<=1000) (_hk0:0<=U.dk.kn) (hk1:U.dk.kn<=(U.dk.sl.length:Int)) (hl:U.dk.sl.length<=1000) :
 Calls prog 30 #[.agg (rrF U b m).toArray,.agg (rmL M a0 k0).toArray] w fun e w'=>∃ b' m' S',e=.returned (.agg (rrF (Zdi U M) b' m').toArray)/\Zag K w w'/\Cz K lo w' b' m' S' (Zdi U M):=by
 have HC:=Zaa h;have HM:=Zaa hM;clear hM;have HKw:Hd (∀ k,K k->k < w.heap.size):=fun k hk=>(h.prot k hk).1
 obtain⟨cs,hcs⟩:∃ cs,cs=rrF U b m:=⟨_,rfl⟩
 rw [<- hcs];have HCS:=Zaa hcs;clear hcs h
 show Calls prog 30 #[.agg cs.toArray,.agg #[.int .i64 M.kd,.int .i64 M.fr,.int .i64 M.tt,.int .i64 M.ba,.int .i64 M.ix,.int .i64 M.kn,.string M.tx,.slice a0 M.sl.length k0]] w _
 go_enter func30,ntmps30
 go_upto_region 1 with fail
 obtain⟨wz,hwz,FB,MB,RB,HB⟩:∃ wz,wz=((w.alloc (.cells cs.toArray 41)).alloc (.cells #[.int .i64 M.kd,.int .i64 M.fr,.int .i64 M.tt,.int .i64 M.ba,.int .i64 M.ix,.int .i64 M.kn,.string M.tx,.slice a0 M.sl.length k0] 45)).alloc (.cells zR 41)/\Hd (Box wz w.heap.size (rrF U b m).toArray)/\Hd (Box wz (w.heap.size+1) #[.int .i64 M.kd,.int .i64 M.fr,.int .i64 M.tt,.int .i64 M.ba,.int .i64 M.ix,.int .i64 M.kn,.string M.tx,.slice a0 M.sl.length k0])/\Hd (Box wz (w.heap.size+2) zR)/\Hd (Zw_ w wz):=⟨_,rfl,by unfold Hd;rw [<- HCS.o];exact (((Box.new w _ _ _ rfl).on (Zab _ _)).on (Zab _ _)),((Box.new _ _ _ _ (by simp)).on (Zab _ _)),Box.new _ _ _ _ (by simp),(bt (bt (Zab _ _) (Zab _ _)) (Zab _ _))⟩
 rw [<- hwz];clear hwz;have hwn:w.heap.size+3<=wz.heap.size:=by have:=RB.o.lt;omega
 have HR:Hd (Rz (fun k=>K k\/(w.heap.size+1<=k/\k < w.heap.size+3)) lo wz w.heap.size b m S U):=HC.o.rz HB.o FB.o Zl_ (fun k hk=>hk.imp (fun h=>h) (fun h=>⟨by omega,by omega,by omega⟩));have HKP:Hd (Zag K w wz):=Zag.below HB.o HKw.o;clear FB HB;have y0:wz.cell? ⟨w.heap.size+1,0,none⟩=some (.int .i64 7):=by rw [<- HM.o];exact MB.o.cell 0
 go_upto_region 31 with fail
 clear y0;have y4:wz.cell? ⟨w.heap.size+1,4,none⟩=some (.int .i64 M.ix):=MB.o.cell 4
 go_upto_region 32 with fail
 clear y4;obtain⟨cn,hcn⟩:∃ cn,cn=Zjb U M:=⟨_,rfl⟩
 have HCN:=Zaa hcn;have hc5:cn<=5:=by rw [hcn];unfold Zjb;split <;> omega
 have HE:Hd (Zdi U M=Zfo U M cn):=by unfold Hd Zdi;rw [hcn]
 clear hcn
 go_loopw [5] (fun iv wq=>∃ (i:Nat) (b':Nat->Option Addr) (m':Nat->Nat) (S':Nat->Nat->Prop),iv=.int .i64 (M.ix+i)/\i<=cn/\Rz (fun k=>K k\/(w.heap.size+1<=k/\k < w.heap.size+3)) lo wq w.heap.size b' m' S' (Zfo U M i)/\Zag K w wq/\w.heap.size+3<=wq.heap.size/\Box wq (w.heap.size+1) #[.int .i64 M.kd,.int .i64 M.fr,.int .i64 M.tt,.int .i64 M.ba,.int .i64 M.ix,.int .i64 M.kn,.string M.tx,.slice a0 M.sl.length k0]/\Box wq (w.heap.size+2) zR) (fun iv _=>(M.ix+5 - intOf iv).toNat)
 case atStart=>exact⟨0,_,_,_,by simp,by omega,HR.o,HKP.o,hwn,MB.o,RB.o⟩
 case round=>
  obtain⟨i,b6,m6,S6,rfl,hi,hr,hkp,hsz2,hmb,hrb⟩:=hrel;clear HR HKP RB MB;have HR:=Zaa hr;have HKP:=Zaa hkp;have MB:=Zaa hmb;have RB:=Zaa hrb;clear hr hkp hmb hrb
  rename World=>wq
  obtain⟨hs1,hs2,hs3⟩:=Zdw U M i;have x7:wq.cell? ⟨w.heap.size,7,none⟩=some (.int .i64 U.dk.kn):=by rw [HR.o.box.cell 7,<- hs1];rfl
  have x8:wq.cell? ⟨w.heap.size,8,none⟩=some (.slice (b6 1) U.dk.sl.length (m6 1)):=by rw [HR.o.box.cell 8,<- hs1];rfl
  have x11:wq.cell? ⟨w.heap.size,11,none⟩=some (.bool U.ld):=by rw [HR.o.box.cell 11,<- hs2];rfl
  have x13:wq.cell? ⟨w.heap.size,13,none⟩=some (.int .i64 U.ba):=by rw [HR.o.box.cell 13,<- hs3];rfl
  have y1:wq.cell? ⟨w.heap.size+1,1,none⟩=some (.int .i64 M.fr):=MB.o.cell 1;have y4:wq.cell? ⟨w.heap.size+1,4,none⟩=some (.int .i64 M.ix):=MB.o.cell 4;obtain⟨N1,hN1⟩:∃ N1,N1=Zfo U M i:=⟨_,rfl⟩
  obtain⟨ki,hki⟩:∃ ki:Int,ki=M.ix+i:=⟨_,rfl⟩
  rw [<- hki]
  by_cases hlt:i < cn
  . have hq:U.ld=true/\0 < M.ix/\i < 5/\M.ix+i<=U.dk.kn:=ZeY.1 (by rw [<- HCN.o];exact hlt)
    have q1:U.ld=true:=hq.1;rw [q1] at x11;have d2:decide (0 < ki)=true:=decide_eq_true (by omega);have d3:decide (ki < M.ix+5)=true:=decide_eq_true (by omega);have d4:decide (ki<=U.dk.kn)=true:=decide_eq_true (by omega);have hj:(ki - 1).toNat < U.dk.sl.length:=by omega
    have ho1:=HR.o.cp.o1;rw [hs1] at ho1
    rcases ho1 with ⟨-,hnil⟩ | ⟨g1,hSg1,g1',cap1,hv,hfr1⟩
    . rw [hnil] at hj;simp at hj
    injection hv with hv1 hv2 hv3
    rw [hv1] at x8;obtain⟨j,hjj⟩:∃ j:Nat,j=(ki - 1).toNat:=⟨_,rfl⟩
    rw [<- hjj] at hj;have hkj:ki=(j:Int)+1:=by omega
    obtain⟨tx,htx⟩:∃ x,x=U.dk.sl[j].tx:=⟨_,rfl⟩
    have z1:wq.cell? ⟨g1',j*2+1,none⟩=some (.string tx):=by rw [htx];exact hfr1.get ZaI hj (t:=1) (by omega) (v:=.string U.dk.sl[j].tx) rfl
    have HNX:Hd (Zfo U M (i+1)=Zav N1 (ZiG U M i)):=by unfold Hd;rw [hN1];rfl
    have HSM:Hd (ZiG U M i=⟨6,0,M.fr,U.ba,ki,0,tx,[]⟩):=by unfold Hd ZiG;rw [htx,<- hki,<- hjj,ZjY hj]
    rw [<- hN1] at HR;have HKI:=Zaa hki;have i0:(0:Int)<=(j:Int):=by omega
    have i1:(j:Int) < (U.dk.sl.length:Int):=by omega
    have s1:ki - 1=(j:Int):=by omega
    have ub:ki<=1000:=by omega
    have HKJ:=Zaa hkj;clear hfr1 hv1 hv2 hv3 htx hN1 hki hq q1 hs1 hs2 hs3 hjj hkj;have HRA:Hd (World.rangeAt wq w.heap.size 0 (rrF N1 b6 m6)):=HR.o.box.range rfl;have HSy:Hd ((prog.info? 41).map (·.size)=some (rrF N1 b6 m6).length):=by unfold Hd;exact Zar
    go_upto_region 34 with fail
    clear d2 d3 d4 x7 x11 y4;refine Code.wp_mono NoPanic.imp ?_;refine Zao (S:=fun W=>W.rangeAt w.heap.size 0 (rrF N1 b6 m6)/\W.cell? ⟨w.heap.size,8,none⟩=some (.slice (some ⟨g1',0,none⟩) U.dk.sl.length (m6 1))/\W.cell? ⟨w.heap.size,13,none⟩=some (.int .i64 U.ba)/\W.cell? ⟨w.heap.size+1,1,none⟩=some (.int .i64 M.fr)/\W.cell? ⟨g1',j*2+1,none⟩=some (.string tx)) [15,16] (by kernel_rfl) ⟨HRA.o,x8,x13,y1,z1⟩ (fun hHeld=>?_);refine tB 0 _ [15,16] rfl hHeld ?_ (hy:=yieldsIf_load_mid (by rfl) 41 (.tmp 2) rfl w.heap.size 0 rfl (rrF N1 b6 m6) _ (fun _ h=>h.1) underlying41 rfl HSy.o)
    try simp only [Act.put,sLs]
    refine tB 1 (.pointer (some ⟨w.heap.size+1,1,none⟩)) [2,14,15,16] rfl hHeld ?_
    try simp only [Act.put,sLs]
    refine tB 2 (.int .i64 M.fr) [14,15,16] rfl hHeld ?_
    try simp only [Act.put,sLs]
    refine tB 3 (.pointer (some ⟨w.heap.size,13,none⟩)) [4,14,15,16] rfl hHeld ?_
    try simp only [Act.put,sLs]
    refine tB 4 (.int .i64 U.ba) [14,15,16] rfl hHeld ?_
    try simp only [Act.put,sLs]
    refine tB 5 (.int .i64 ki) [14,15,16] rfl hHeld ?_
    try simp only [Act.put,sLs]
    refine tB 6 (.pointer (some ⟨w.heap.size,6,none⟩)) [7,8,11,12,13,14,15,16] rfl hHeld ?_
    try simp only [Act.put,sLs]
    refine tB 7 (.pointer (some ⟨w.heap.size,8,none⟩)) [8,11,12,13,14,15,16] rfl hHeld ?_
    try simp only [Act.put,sLs]
    refine tB 8 (.slice (some ⟨g1',0,none⟩) U.dk.sl.length (m6 1)) [11,12,13,14,15,16] rfl hHeld ?_
    try simp only [Act.put,sLs]
    refine tB 9 (.int .i64 ki) [10,11,12,13,14,15,16] rfl hHeld ?_
    try simp only [Act.put,sLs]
    refine Zbh [11,12,13,14,15,16] (i:=10) (v:=.int .i64 (j:Int)) rfl (by kernel_rfl) (by kernel_rfl) (by kernel_rfl) (by kernel_rfl) (fun _ _ _ h=>h) (Or.inl ⟨by rfl,fun W hW=>by obtain⟨h1_,h2_,h3_,h4_,h5_⟩:=hW;go_simp;rw [IntKind.wrap_i64];omega⟩) hHeld ?_
    try simp only [Act.put,sLs]
    refine tB 11 (.pointer (some ⟨g1',j*2,none⟩)) [12,13,14,15,16] rfl hHeld ?_
    try simp only [Act.put,sLs]
    refine tB 12 (.pointer (some ⟨g1',j*2+1,none⟩)) [13,14,15,16] rfl hHeld ?_
    try simp only [Act.put,sLs]
    refine tB 13 (.string tx) [14,15,16] rfl hHeld ?_
    try simp only [Act.put,sLs]
    refine tB 14 (.agg #[.int .i64 6,.int .i64 0,.int .i64 M.fr,.int .i64 U.ba,.int .i64 ki,.int .i64 0,.string tx,.slice none 0 0]) [15,16] rfl hHeld ?_
    try simp only [Act.put,sLs]
    refine oB 15 rfl (fun KC hK=>?_)
    go_simp
    refine (ZbE (fun k=>(fun k=>K k\/(w.heap.size+1<=k/\k < w.heap.size+3)) k\/k=w.heap.size) lo _ N1 b6 m6 S6 ⟨6,0,M.fr,U.ba,ki,0,tx,[]⟩ none 0 0 0 (HR.o.on (Zb_.drew)).czg Zl_ (ZaE.nil _ _ _ _ _) (fun k _ h=>absurd h (Nat.not_lt_zero _))).mono ?_;rw [<- HSM.o];rintro e wc ⟨b7,m7,S7,rfl,hk,hc⟩;have HCc:=Zaa hc;have hk0:Zag (fun k=>(fun k=>K k\/(w.heap.size+1<=k/\k < w.heap.size+3)) k\/k=w.heap.size) wq wc:=(Zag.below (Zb_.drew) (fun k h=>by rcases h with h | h;exact (HR.o.prot k h).1;rw [h];exact HR.o.box.lt)).trans hk;have HBX:Hd (Box wc w.heap.size (rrF N1 b6 m6).toArray):=HR.o.box.kept hk0 (Or.inr rfl);replace RB:=Zaa (RB.o.kept hk0 (Or.inl (Or.inr (by omega))));replace MB:=Zaa (MB.o.kept hk0 (Or.inl (Or.inr (by omega))));replace HKP:Hd (Zag K w wc):=HKP.o.trans (hk0.less fun k h=>Or.inl (Or.inl h))
    have hswc:w.heap.size+3<=wc.heap.size:=Nat.le_trans (by omega) hk0.size;have HKne:Hd (∀ k,(fun k=>K k\/(w.heap.size+1<=k/\k < w.heap.size+3)) k->k≠w.heap.size):=fun k h=>(HR.o.prot k h).2.1
    clear hk hc hk0 HR hHeld x8 x13 y1 z1 HRA;have HTH:Hd (World.there wc w.heap.size 0 (rrF (Zav N1 (ZiG U M i)) b7 m7).toArray.size):=HBX.o.there rfl;have HON:Hd ((rrF (Zav N1 (ZiG U M i)) b7 m7).toArray.all (·.oneCell')=true):=Zbq _ _ _;refine hK.out _ _ (fun h=>absurd (by decide) h) (fun _=>?_);clear hK
    try simp only [Act.put,sLs]
    refine oB 16 rfl (fun KC hK=>?_);refine Zaz rfl 41 (.tmp 2) (.tmp 233) rfl w.heap.size 0 (rrF (Zav N1 (ZiG U M i)) b7 m7).toArray rfl rfl HTH.o (szN (Zbp _ _ _)) HON.o ?_;refine hK.out _ _ (fun h=>absurd (by decide) h) (fun _=>?_);clear hK
    try simp only [Act.put,sLs]
    refine Zak (by kernel_rfl) ?_ _;refine NoPanic.normal ?_;generalize hW9:World.setCells _ _ _ _=wd;obtain⟨hr,ht⟩:=HCc.o.put HBX.o rfl HKne.o hW9.symm;have HRn:=Zaa hr;have HTT:=Zaa ht;clear hr ht hW9;go_wp2;go_roundw
    . 
     have ht:=HTT.o;exact⟨i+1,b7,m7,S7,by have:=HKI.o;go_num,by omega,by rw [HNX.o];exact HRn.o,HKP.o.trans (Zag.box ht (fun k h=>⟨by have:=HKw.o k h;omega,by have:=HKw.o k h;omega⟩)),Nat.le_trans hswc ht.size,MB.o.tch2 ht (Or.inr (by omega)),RB.o.tch2 ht (Or.inr (by omega))⟩
    . have:=HKI.o;simp [intOf];omega
  . have HE2:Hd (Zdi U M=N1):=by unfold Hd;rw [HE.o,hN1,show i=cn by omega]
    rw [<- hN1] at HR;have hno:¬ (U.ld=true/\0 < M.ix/\i < 5/\M.ix+i<=U.dk.kn):=fun h=>hlt (by rw [HCN.o];exact ZeY.2 h)
    have ub:ki<=1005:=by omega
    have h00:i=0\/0 < M.ix:=by
     rcases Nat.eq_zero_or_pos i with h | h
     . exact Or.inl h
     . exact Or.inr (ZeY.1 (show 0 < Zjb U M by rw [<- HCN.o];omega)).2.1
    have fin:U.ld=false\/(U.ld=true/\(decide (0 < ki)=false\/(decide (0 < ki)=true/\(decide (ki < M.ix+5)=false\/(decide (ki < M.ix+5)=true/\decide (ki<=U.dk.kn)=false))))):=by
     cases e:U.ld with
     | false=>exact Or.inl rfl
     | true=>
      refine Or.inr ⟨rfl,?_⟩
      by_cases p:0 < ki
      . refine Or.inr ⟨decide_eq_true p,?_⟩
        by_cases p2:ki < M.ix+5
        . exact Or.inr ⟨decide_eq_true p2,decide_eq_false (fun p3=>hno ⟨e,by omega,by omega,by omega⟩)⟩
        . exact Or.inl (decide_eq_false p2)
      . exact Or.inl (decide_eq_false p)
    clear hno h00 hN1 hki hs1 hs2 hs3
    rcases fin with q | ⟨q,q2 | ⟨q2,q3 | ⟨q3,q4⟩⟩⟩
    . rw [q] at x11
      go_upto_region 42 with fail
      clear x7 x8 x11 x13 y1 y4;obtain⟨b9,m9,S9,yl,HRx,HYL,HRA,HTH,HON,HSy,hy18⟩:=exA (U:=N1) HR.o RB.o rfl;clear HR
      go_wp2_with (first
       | (with_reducible refine ldR (.tmp 2) w.heap.size 0 yl HRA.o HSy.o ?_)
       | (with_reducible refine stR (.tmp 4) (.tmp 267) (w.heap.size+2) 0 yl.toArray HTH.o (szN hy18) HON.o ?_;refine Hd.o ?_))
      generalize hW9:World.setCells _ _ _ _=W9;obtain⟨FR9,HKn,HRn⟩:=exB hW9 RB.o hy18 HRx.o (Or.inr (by omega)) HKP.o HKw.o (by omega);clear hW9;refine Zaa ?_;go_wp2;exact bodyPost_ret (v:=.agg yl.toArray) (Zb6 (p:=4) results30 FR9.o HSy.o rfl) rfl ⟨b9,m9,S9,by rw [HYL.o,HE2.o],HKn.o,by rw [HE2.o];exact HRn.o⟩
    . rw [q] at x11
      go_upto_region 42 with fail
      clear x7 x8 x11 x13 y1 y4;obtain⟨b9,m9,S9,yl,HRx,HYL,HRA,HTH,HON,HSy,hy18⟩:=exA (U:=N1) HR.o RB.o rfl;clear HR
      go_wp2_with (first
       | (with_reducible refine ldR (.tmp 2) w.heap.size 0 yl HRA.o HSy.o ?_)
       | (with_reducible refine stR (.tmp 4) (.tmp 267) (w.heap.size+2) 0 yl.toArray HTH.o (szN hy18) HON.o ?_;refine Hd.o ?_))
      generalize hW9:World.setCells _ _ _ _=W9;obtain⟨FR9,HKn,HRn⟩:=exB hW9 RB.o hy18 HRx.o (Or.inr (by omega)) HKP.o HKw.o (by omega);clear hW9;refine Zaa ?_;go_wp2;exact bodyPost_ret (v:=.agg yl.toArray) (Zb6 (p:=4) results30 FR9.o HSy.o rfl) rfl ⟨b9,m9,S9,by rw [HYL.o,HE2.o],HKn.o,by rw [HE2.o];exact HRn.o⟩
    . rw [q] at x11
      go_upto_region 42 with fail
      clear x7 x8 x11 x13 y1 y4;obtain⟨b9,m9,S9,yl,HRx,HYL,HRA,HTH,HON,HSy,hy18⟩:=exA (U:=N1) HR.o RB.o rfl;clear HR
      go_wp2_with (first
       | (with_reducible refine ldR (.tmp 2) w.heap.size 0 yl HRA.o HSy.o ?_)
       | (with_reducible refine stR (.tmp 4) (.tmp 267) (w.heap.size+2) 0 yl.toArray HTH.o (szN hy18) HON.o ?_;refine Hd.o ?_))
      generalize hW9:World.setCells _ _ _ _=W9;obtain⟨FR9,HKn,HRn⟩:=exB hW9 RB.o hy18 HRx.o (Or.inr (by omega)) HKP.o HKw.o (by omega);clear hW9;refine Zaa ?_;go_wp2;exact bodyPost_ret (v:=.agg yl.toArray) (Zb6 (p:=4) results30 FR9.o HSy.o rfl) rfl ⟨b9,m9,S9,by rw [HYL.o,HE2.o],HKn.o,by rw [HE2.o];exact HRn.o⟩
    . rw [q] at x11
      go_upto_region 42 with fail
      clear x7 x8 x11 x13 y1 y4;obtain⟨b9,m9,S9,yl,HRx,HYL,HRA,HTH,HON,HSy,hy18⟩:=exA (U:=N1) HR.o RB.o rfl;clear HR
      go_wp2_with (first
       | (with_reducible refine ldR (.tmp 2) w.heap.size 0 yl HRA.o HSy.o ?_)
       | (with_reducible refine stR (.tmp 4) (.tmp 267) (w.heap.size+2) 0 yl.toArray HTH.o (szN hy18) HON.o ?_;refine Hd.o ?_))
      generalize hW9:World.setCells _ _ _ _=W9;obtain⟨FR9,HKn,HRn⟩:=exB hW9 RB.o hy18 HRx.o (Or.inr (by omega)) HKP.o HKw.o (by omega);clear hW9;refine Zaa ?_;go_wp2;exact bodyPost_ret (v:=.agg yl.toArray) (Zb6 (p:=4) results30 FR9.o HSy.o rfl) rfl ⟨b9,m9,S9,by rw [HYL.o,HE2.o],HKn.o,by rw [HE2.o];exact HRn.o⟩
def Zcl (U:Rr) (M:Rm):Rr:=if U.ba < M.ba/\(U.ld=true\/U.ty=true) then prU (ZaB U) M.ba else U
theorem ZiU (K:Nat->Prop) (lo:Nat) (w:World) (U:Rr) (b:Nat->Option Addr) (m:Nat->Nat) (S:Nat->Nat->Prop) (M:Rm) (a0:Option Addr) (k0:Nat) (h:Cz K lo w b m S U) (hM:M.kd=9) :
 Calls prog 30 #[.agg (rrF U b m).toArray,.agg (rmL M a0 k0).toArray] w fun e w'=>∃ b' m' S',e=.returned (.agg (rrF (Zcl U M) b' m').toArray)/\Zag K w w'/\Cz K lo w' b' m' S' (Zcl U M):=by
 have HC:=Zaa h;have HM:=Zaa hM;clear hM;have HKw:Hd (∀ k,K k->k < w.heap.size):=fun k hk=>(h.prot k hk).1
 obtain⟨cs,hcs⟩:∃ cs,cs=rrF U b m:=⟨_,rfl⟩
 rw [<- hcs];have HCS:=Zaa hcs;clear hcs h
 show Calls prog 30 #[.agg cs.toArray,.agg #[.int .i64 M.kd,.int .i64 M.fr,.int .i64 M.tt,.int .i64 M.ba,.int .i64 M.ix,.int .i64 M.kn,.string M.tx,.slice a0 M.sl.length k0]] w _
 go_enter func30,ntmps30
 go_upto_region 1 with fail
 obtain⟨wz,hwz,FB,MB,RB,HB⟩:∃ wz,wz=((w.alloc (.cells cs.toArray 41)).alloc (.cells #[.int .i64 M.kd,.int .i64 M.fr,.int .i64 M.tt,.int .i64 M.ba,.int .i64 M.ix,.int .i64 M.kn,.string M.tx,.slice a0 M.sl.length k0] 45)).alloc (.cells zR 41)/\Hd (Box wz w.heap.size (rrF U b m).toArray)/\Hd (Box wz (w.heap.size+1) #[.int .i64 M.kd,.int .i64 M.fr,.int .i64 M.tt,.int .i64 M.ba,.int .i64 M.ix,.int .i64 M.kn,.string M.tx,.slice a0 M.sl.length k0])/\Hd (Box wz (w.heap.size+2) zR)/\Hd (Zw_ w wz):=⟨_,rfl,by unfold Hd;rw [<- HCS.o];exact (((Box.new w _ _ _ rfl).on (Zab _ _)).on (Zab _ _)),((Box.new _ _ _ _ (by simp)).on (Zab _ _)),Box.new _ _ _ _ (by simp),(bt (bt (Zab _ _) (Zab _ _)) (Zab _ _))⟩
 rw [<- hwz];clear hwz;have hwn:w.heap.size+3<=wz.heap.size:=by have:=RB.o.lt;omega
 have HR:Hd (Rz (fun k=>K k\/(w.heap.size+1<=k/\k < w.heap.size+3)) lo wz w.heap.size b m S U):=HC.o.rz HB.o FB.o Zl_ (fun k hk=>hk.imp (fun h=>h) (fun h=>⟨by omega,by omega,by omega⟩));have HKP:Hd (Zag K w wz):=Zag.below HB.o HKw.o;clear FB HB;have y0:wz.cell? ⟨w.heap.size+1,0,none⟩=some (.int .i64 9):=by rw [<- HM.o];exact MB.o.cell 0
 have y3:wz.cell? ⟨w.heap.size+1,3,none⟩=some (.int .i64 M.ba):=MB.o.cell 3;have x13:wz.cell? ⟨w.heap.size,13,none⟩=some (.int .i64 U.ba):=HR.o.box.cell 13;have x11:wz.cell? ⟨w.heap.size,11,none⟩=some (.bool U.ld):=HR.o.box.cell 11;have x12:wz.cell? ⟨w.heap.size,12,none⟩=some (.bool U.ty):=HR.o.box.cell 12
 by_cases hp:U.ba < M.ba
 case neg=>
  have d1:decide (U.ba < M.ba)=false:=decide_eq_false hp;have HE:Hd (Zcl U M=U):=by unfold Hd Zcl;rw [if_neg (fun h=>hp h.1)]
  go_upto_region 42 with fail
  clear y0 y3 x11 x12 x13;obtain⟨b9,m9,S9,yl,HRx,HYL,HRA,HTH,HON,HSy,hy18⟩:=exA (U:=U) HR.o RB.o rfl;clear HR
  go_wp2_with (first
   | (with_reducible refine ldR (.tmp 2) w.heap.size 0 yl HRA.o HSy.o ?_)
   | (with_reducible refine stR (.tmp 4) (.tmp 267) (w.heap.size+2) 0 yl.toArray HTH.o (szN hy18) HON.o ?_;refine Hd.o ?_))
  generalize hW9:World.setCells _ _ _ _=W9;obtain⟨FR9,HKn,HRn⟩:=exB hW9 RB.o hy18 HRx.o (Or.inr (by omega)) HKP.o HKw.o (by omega);clear hW9;refine Zaa ?_;go_wp2;exact bodyPost_ret (v:=.agg yl.toArray) (Zb6 (p:=4) results30 FR9.o HSy.o rfl) rfl ⟨b9,m9,S9,by rw [HYL.o,HE.o],HKn.o,by rw [HE.o];exact HRn.o⟩
 have d1:decide (U.ba < M.ba)=true:=decide_eq_true hp
 cases q:(U.ld || U.ty) with
 | false=>
  have q1:U.ld=false:=by cases e:U.ld;rfl;rw [e] at q;simp at q
  have q2:U.ty=false:=by cases e:U.ty;rfl;rw [e] at q;simp at q
  rw [q1] at x11;rw [q2] at x12;have HE:Hd (Zcl U M=U):=by unfold Hd Zcl;rw [if_neg (fun h=>by rw [q1,q2] at h;exact absurd h.2 (by decide))]
  go_upto_region 42 with fail
  clear y0 y3 x11 x12 x13;obtain⟨b9,m9,S9,yl,HRx,HYL,HRA,HTH,HON,HSy,hy18⟩:=exA (U:=U) HR.o RB.o rfl;clear HR
  go_wp2_with (first
   | (with_reducible refine ldR (.tmp 2) w.heap.size 0 yl HRA.o HSy.o ?_)
   | (with_reducible refine stR (.tmp 4) (.tmp 267) (w.heap.size+2) 0 yl.toArray HTH.o (szN hy18) HON.o ?_;refine Hd.o ?_))
  generalize hW9:World.setCells _ _ _ _=W9;obtain⟨FR9,HKn,HRn⟩:=exB hW9 RB.o hy18 HRx.o (Or.inr (by omega)) HKP.o HKw.o (by omega);clear hW9;refine Zaa ?_;go_wp2;exact bodyPost_ret (v:=.agg yl.toArray) (Zb6 (p:=4) results30 FR9.o HSy.o rfl) rfl ⟨b9,m9,S9,by rw [HYL.o,HE.o],HKn.o,by rw [HE.o];exact HRn.o⟩
 | true=>
 have HE0:Hd (Zcl U M=prU (ZaB U) M.ba):=by unfold Hd Zcl;rw [if_pos ⟨hp,by cases e:U.ld;rw [e] at q;exact Or.inr (by simpa using q);exact Or.inl rfl⟩]
 obtain⟨l1,t1,e1,e2⟩:∃ l1 t1,l1=U.ld/\t1=U.ty:=⟨_,_,rfl,rfl⟩
 rw [<- e1] at x11 q;rw [<- e2] at x12 q;clear e1 e2;have step:l1=true\/(l1=false/\t1=true):=by cases l1;exact Or.inr ⟨rfl,by simpa using q⟩;exact Or.inl rfl
 clear q
 rcases step with rfl | ⟨rfl,rfl⟩
 . go_upto_region 39 with fail
   clear y0 x11 x12 x13 d1;obtain⟨b8,m8,S8,HRx⟩:∃ b' m' S',Hd (Rz (fun k=>K k\/(w.heap.size+1<=k/\k < w.heap.size+3)) lo wz w.heap.size b' m' S' (U)):=⟨_,_,_,HR⟩
   clear HR;have HRA:Hd (World.rangeAt wz w.heap.size 0 (rrF (U) b8 m8)):=HRx.o.box.range rfl;have HSy:Hd ((prog.info? 41).map (·.size)=some (rrF (U) b8 m8).length):=by unfold Hd;exact Zar
   go_wp2_with (first
    | (with_reducible refine ldR (.tmp 2) w.heap.size 0 (rrF (U) b8 m8) HRA.o HSy.o ?_))
   clear HRA HSy;refine (Zdp (fun k=>(fun k=>K k\/(w.heap.size+1<=k/\k < w.heap.size+3)) k\/k=w.heap.size) lo _ U b8 m8 S8 HRx.o.czg).mono ?_;rintro e w1a ⟨b7,m7,S7,rfl,hk,hc⟩;have HKc:=Zaa hk;have HCc:=Zaa hc;have HBX:Hd (Box w1a w.heap.size (rrF (U) b8 m8).toArray):=HRx.o.box.kept hk (Or.inr rfl);replace RB:=Zaa (RB.o.kept hk (Or.inl (Or.inr (by omega))));replace MB:=Zaa (MB.o.kept hk (Or.inl (Or.inr (by omega))));replace HKP:Hd (Zag K w w1a):=HKP.o.trans (hk.less fun k h=>Or.inl (Or.inl h));have hsw1a:w.heap.size+3<=w1a.heap.size:=Nat.le_trans (by omega) hk.size;have HKne:Hd (∀ k,(fun k=>K k\/(w.heap.size+1<=k/\k < w.heap.size+3)) k->k≠w.heap.size):=fun k h=>(HRx.o.prot k h).2.1
   clear hk hc HRx;have HTH:Hd (World.there w1a w.heap.size 0 (rrF (ZaB U) b7 m7).toArray.size):=HBX.o.there rfl;have HON:Hd ((rrF (ZaB U) b7 m7).toArray.all (·.oneCell')=true):=Zbq _ _ _;go_wp2_with (with_reducible refine stR (.tmp 2) (.tmp 256) w.heap.size 0 (rrF (ZaB U) b7 m7).toArray HTH.o (szN (Zbp _ _ _)) HON.o ?_;refine Hd.o ?_);generalize hW9:World.setCells _ _ _ _=w1;obtain⟨hr,ht⟩:=HCc.o.put HBX.o rfl HKne.o hW9.symm;have HR:=Zaa hr;replace RB:=Zaa (RB.o.tch2 ht (Or.inr (by omega)));replace MB:=Zaa (MB.o.tch2 ht (Or.inr (by omega)));replace HKP:Hd (Zag K w w1):=HKP.o.trans (Zag.box ht (fun k h=>⟨by have:=HKw.o k h;omega,by have:=HKw.o k h;omega⟩));have hsw1:w.heap.size+3<=w1.heap.size:=Nat.le_trans hsw1a ht.size;clear hr ht hW9 HBX HKc HCc HTH HON HKne;refine Zaa ?_;clear y3
   have x6:w1.cell? ⟨w.heap.size,6,none⟩=some (.int .i64 U.dk.pr):=HR.o.box.cell 6;have y3:w1.cell? ⟨w.heap.size+1,3,none⟩=some (.int .i64 M.ba):=MB.o.cell 3
   by_cases h3:U.dk.pr < M.ba
   case neg=>
    have d3:decide (U.dk.pr < M.ba)=false:=decide_eq_false h3;have HE:Hd (Zcl U M=ZaB U):=by unfold Hd;rw [HE0.o];unfold prU;show ({ ZaB U with dk:={ U.dk with pr:=if U.dk.pr < M.ba then M.ba else U.dk.pr } }:Rr)=_;rw [if_neg h3];rfl
    go_upto_region 42 with fail
    clear x6 y3 d3;obtain⟨b9,m9,S9,yl,HRx,HYL,HRA,HTH,HON,HSy,hy18⟩:=exA (U:=ZaB U) HR.o RB.o rfl;clear HR
    go_wp2_with (first
     | (with_reducible refine ldR (.tmp 2) w.heap.size 0 yl HRA.o HSy.o ?_)
     | (with_reducible refine stR (.tmp 4) (.tmp 267) (w.heap.size+2) 0 yl.toArray HTH.o (szN hy18) HON.o ?_;refine Hd.o ?_))
    generalize hW9:World.setCells _ _ _ _=W9;obtain⟨FR9,HKn,HRn⟩:=exB hW9 RB.o hy18 HRx.o (Or.inr (by omega)) HKP.o HKw.o (by omega);clear hW9;refine Zaa ?_;go_wp2;exact bodyPost_ret (v:=.agg yl.toArray) (Zb6 (p:=4) results30 FR9.o HSy.o rfl) rfl ⟨b9,m9,S9,by rw [HYL.o,HE.o],HKn.o,by rw [HE.o];exact HRn.o⟩
   have d3:decide (U.dk.pr < M.ba)=true:=decide_eq_true h3;have HE:Hd (Zcl U M={ ZaB U with dk:={ U.dk with pr:=M.ba } }):=by unfold Hd;rw [HE0.o];unfold prU;show ({ ZaB U with dk:={ U.dk with pr:=if U.dk.pr < M.ba then M.ba else U.dk.pr } }:Rr)=_;rw [if_pos h3]
   go_upto_region 41 with fail
   clear x6 d3;have xc:w1.cell? ⟨w.heap.size,6,none⟩=some (.int .i64 U.dk.pr):=HR.o.box.cell 6;have gf:=HR.o.box.free
   go_upto_region 42 with fail
   clear xc gf;obtain⟨w2,hwn'⟩:∃ wx_,wx_=w1.setCell ⟨w.heap.size,6,none⟩ (.int .i64 M.ba):=⟨_,rfl⟩
   rw [<- hwn'];have hp:=HR.o.scal (U':={ ZaB U with dk:={ U.dk with pr:=M.ba } }) (j:=6) (v:=.int .i64 M.ba) (by show 6 < 18;omega) rfl (fun _ h=>⟨h.seg,h.ap,h.o0,h.o1,h.o2,h.o3,h.o4,h.o5,h.o6⟩);rw [<- hwn'] at hp;have hss:w1.heap.size=w2.heap.size:=by rw [hwn'];simp [World.setCell]
   have RBn:Hd (Box w2 (w.heap.size+2) zR):=by unfold Hd;rw [hwn'];exact RB.o.setFar (by simp only [];omega) _
   have hsw2:w.heap.size+3<=w2.heap.size:=by omega
   clear hwn' RB HR hss;have RB:=RBn;have HR:=Zaa hp.1;replace HKP:Hd (Zag K w w2):=HKP.o.trans (hp.2.less fun k hk=>Or.inl hk);clear hp RBn;clear y3;obtain⟨b9,m9,S9,yl,HRx,HYL,HRA,HTH,HON,HSy,hy18⟩:=exA (U:={ ZaB U with dk:={ U.dk with pr:=M.ba } }) HR.o RB.o rfl;clear HR
   go_wp2_with (first
    | (with_reducible refine ldR (.tmp 2) w.heap.size 0 yl HRA.o HSy.o ?_)
    | (with_reducible refine stR (.tmp 4) (.tmp 267) (w.heap.size+2) 0 yl.toArray HTH.o (szN hy18) HON.o ?_;refine Hd.o ?_))
   generalize hW9:World.setCells _ _ _ _=W9;obtain⟨FR9,HKn,HRn⟩:=exB hW9 RB.o hy18 HRx.o (Or.inr (by omega)) HKP.o HKw.o (by omega);clear hW9;refine Zaa ?_;go_wp2;exact bodyPost_ret (v:=.agg yl.toArray) (Zb6 (p:=4) results30 FR9.o HSy.o rfl) rfl ⟨b9,m9,S9,by rw [HYL.o,HE.o],HKn.o,by rw [HE.o];exact HRn.o⟩
 . go_upto_region 39 with fail
   clear y0 x11 x12 x13 d1;obtain⟨b8,m8,S8,HRx⟩:∃ b' m' S',Hd (Rz (fun k=>K k\/(w.heap.size+1<=k/\k < w.heap.size+3)) lo wz w.heap.size b' m' S' (U)):=⟨_,_,_,HR⟩
   clear HR;have HRA:Hd (World.rangeAt wz w.heap.size 0 (rrF (U) b8 m8)):=HRx.o.box.range rfl;have HSy:Hd ((prog.info? 41).map (·.size)=some (rrF (U) b8 m8).length):=by unfold Hd;exact Zar
   go_wp2_with (first
    | (with_reducible refine ldR (.tmp 2) w.heap.size 0 (rrF (U) b8 m8) HRA.o HSy.o ?_))
   clear HRA HSy;refine (Zdp (fun k=>(fun k=>K k\/(w.heap.size+1<=k/\k < w.heap.size+3)) k\/k=w.heap.size) lo _ U b8 m8 S8 HRx.o.czg).mono ?_;rintro e w1a ⟨b7,m7,S7,rfl,hk,hc⟩;have HKc:=Zaa hk;have HCc:=Zaa hc;have HBX:Hd (Box w1a w.heap.size (rrF (U) b8 m8).toArray):=HRx.o.box.kept hk (Or.inr rfl);replace RB:=Zaa (RB.o.kept hk (Or.inl (Or.inr (by omega))));replace MB:=Zaa (MB.o.kept hk (Or.inl (Or.inr (by omega))));replace HKP:Hd (Zag K w w1a):=HKP.o.trans (hk.less fun k h=>Or.inl (Or.inl h));have hsw1a:w.heap.size+3<=w1a.heap.size:=Nat.le_trans (by omega) hk.size;have HKne:Hd (∀ k,(fun k=>K k\/(w.heap.size+1<=k/\k < w.heap.size+3)) k->k≠w.heap.size):=fun k h=>(HRx.o.prot k h).2.1
   clear hk hc HRx;have HTH:Hd (World.there w1a w.heap.size 0 (rrF (ZaB U) b7 m7).toArray.size):=HBX.o.there rfl;have HON:Hd ((rrF (ZaB U) b7 m7).toArray.all (·.oneCell')=true):=Zbq _ _ _;go_wp2_with (with_reducible refine stR (.tmp 2) (.tmp 256) w.heap.size 0 (rrF (ZaB U) b7 m7).toArray HTH.o (szN (Zbp _ _ _)) HON.o ?_;refine Hd.o ?_);generalize hW9:World.setCells _ _ _ _=w1;obtain⟨hr,ht⟩:=HCc.o.put HBX.o rfl HKne.o hW9.symm;have HR:=Zaa hr;replace RB:=Zaa (RB.o.tch2 ht (Or.inr (by omega)));replace MB:=Zaa (MB.o.tch2 ht (Or.inr (by omega)));replace HKP:Hd (Zag K w w1):=HKP.o.trans (Zag.box ht (fun k h=>⟨by have:=HKw.o k h;omega,by have:=HKw.o k h;omega⟩));have hsw1:w.heap.size+3<=w1.heap.size:=Nat.le_trans hsw1a ht.size;clear hr ht hW9 HBX HKc HCc HTH HON HKne;refine Zaa ?_;clear y3
   have x6:w1.cell? ⟨w.heap.size,6,none⟩=some (.int .i64 U.dk.pr):=HR.o.box.cell 6;have y3:w1.cell? ⟨w.heap.size+1,3,none⟩=some (.int .i64 M.ba):=MB.o.cell 3
   by_cases h3:U.dk.pr < M.ba
   case neg=>
    have d3:decide (U.dk.pr < M.ba)=false:=decide_eq_false h3;have HE:Hd (Zcl U M=ZaB U):=by unfold Hd;rw [HE0.o];unfold prU;show ({ ZaB U with dk:={ U.dk with pr:=if U.dk.pr < M.ba then M.ba else U.dk.pr } }:Rr)=_;rw [if_neg h3];rfl
    go_upto_region 42 with fail
    clear x6 y3 d3;obtain⟨b9,m9,S9,yl,HRx,HYL,HRA,HTH,HON,HSy,hy18⟩:=exA (U:=ZaB U) HR.o RB.o rfl;clear HR
    go_wp2_with (first
     | (with_reducible refine ldR (.tmp 2) w.heap.size 0 yl HRA.o HSy.o ?_)
     | (with_reducible refine stR (.tmp 4) (.tmp 267) (w.heap.size+2) 0 yl.toArray HTH.o (szN hy18) HON.o ?_;refine Hd.o ?_))
    generalize hW9:World.setCells _ _ _ _=W9;obtain⟨FR9,HKn,HRn⟩:=exB hW9 RB.o hy18 HRx.o (Or.inr (by omega)) HKP.o HKw.o (by omega);clear hW9;refine Zaa ?_;go_wp2;exact bodyPost_ret (v:=.agg yl.toArray) (Zb6 (p:=4) results30 FR9.o HSy.o rfl) rfl ⟨b9,m9,S9,by rw [HYL.o,HE.o],HKn.o,by rw [HE.o];exact HRn.o⟩
   have d3:decide (U.dk.pr < M.ba)=true:=decide_eq_true h3;have HE:Hd (Zcl U M={ ZaB U with dk:={ U.dk with pr:=M.ba } }):=by unfold Hd;rw [HE0.o];unfold prU;show ({ ZaB U with dk:={ U.dk with pr:=if U.dk.pr < M.ba then M.ba else U.dk.pr } }:Rr)=_;rw [if_pos h3]
   go_upto_region 41 with fail
   clear x6 d3;have xc:w1.cell? ⟨w.heap.size,6,none⟩=some (.int .i64 U.dk.pr):=HR.o.box.cell 6;have gf:=HR.o.box.free
   go_upto_region 42 with fail
   clear xc gf;obtain⟨w2,hwn'⟩:∃ wx_,wx_=w1.setCell ⟨w.heap.size,6,none⟩ (.int .i64 M.ba):=⟨_,rfl⟩
   rw [<- hwn'];have hp:=HR.o.scal (U':={ ZaB U with dk:={ U.dk with pr:=M.ba } }) (j:=6) (v:=.int .i64 M.ba) (by show 6 < 18;omega) rfl (fun _ h=>⟨h.seg,h.ap,h.o0,h.o1,h.o2,h.o3,h.o4,h.o5,h.o6⟩);rw [<- hwn'] at hp;have hss:w1.heap.size=w2.heap.size:=by rw [hwn'];simp [World.setCell]
   have RBn:Hd (Box w2 (w.heap.size+2) zR):=by unfold Hd;rw [hwn'];exact RB.o.setFar (by simp only [];omega) _
   have hsw2:w.heap.size+3<=w2.heap.size:=by omega
   clear hwn' RB HR hss;have RB:=RBn;have HR:=Zaa hp.1;replace HKP:Hd (Zag K w w2):=HKP.o.trans (hp.2.less fun k hk=>Or.inl hk);clear hp RBn;clear y3;obtain⟨b9,m9,S9,yl,HRx,HYL,HRA,HTH,HON,HSy,hy18⟩:=exA (U:={ ZaB U with dk:={ U.dk with pr:=M.ba } }) HR.o RB.o rfl;clear HR
   go_wp2_with (first
    | (with_reducible refine ldR (.tmp 2) w.heap.size 0 yl HRA.o HSy.o ?_)
    | (with_reducible refine stR (.tmp 4) (.tmp 267) (w.heap.size+2) 0 yl.toArray HTH.o (szN hy18) HON.o ?_;refine Hd.o ?_))
   generalize hW9:World.setCells _ _ _ _=W9;obtain⟨FR9,HKn,HRn⟩:=exB hW9 RB.o hy18 HRx.o (Or.inr (by omega)) HKP.o HKw.o (by omega);clear hW9;refine Zaa ?_;go_wp2;exact bodyPost_ret (v:=.agg yl.toArray) (Zb6 (p:=4) results30 FR9.o HSy.o rfl) rfl ⟨b9,m9,S9,by rw [HYL.o,HE.o],HKn.o,by rw [HE.o];exact HRn.o⟩
end Go.Proofs.YtkiefplmnoapfaaGreat
