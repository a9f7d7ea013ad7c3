import Derived.Test.YtkiefplmnoapfaaGreatV31
set_option maxHeartbeats 16000000
set_option maxRecDepth 100000
open Go.Proofs.Tryz
namespace Go.Proofs.YtkiefplmnoapfaaGreat
open Go.RowKit Go.Deep
def ZhD (M:Rm):Rm:=⟨4,0,M.fr,M.ba,M.ix,0,⟨#[]⟩,[]⟩
def Zkv (U:Rr) (M:Rm):Rr:=if (Zam U M.ba).dk.kn < M.ix then ZdM (Zam U M.ba) M.ix.toNat ⟨M.ba,M.tx⟩ else Zam U M.ba
def Zb1 (U:Rr) (M:Rm):Rr:=if M.ba < U.dk.pr then Zav U (Zfc U M) else if M.ix < 1\/M.ba < 1\/M.fr=U.nu then U else Zav (Zkv U M) (ZhD M)
theorem ZiO (K:Nat->Prop) (lo:Nat) (w:World) (U:Rr) (b:Nat->Option Addr) (m:Nat->Nat) (S:Nat->Nat->Prop) (M:Rm) (a0:Option Addr) (k0:Nat) (h:Cz K lo w b m S U) (hM:M.kd=3) (hx2:M.ix<=1000) (hl:U.dk.sl.length<=1000) :
 Calls prog 30 #[.agg (rrF U b m).toArray,.agg (rmL M a0 k0).toArray] w fun e w'=>∃ b' m' S',e=.returned (.agg (rrF (Zb1 U M) b' m').toArray)/\Zag K w w'/\Cz K lo w' b' m' S' (Zb1 U M):=by
 have HC:=Zaa h;have HM:=Zaa hM;clear hM;have HKw:Hd (∀ k,K k->k < w.heap.size):=fun k hk=>(h.prot k hk).1
 obtain⟨cs,hcs⟩:∃ cs,cs=rrF U b m:=⟨_,rfl⟩
 rw [<- hcs];have HCS:=Zaa hcs;clear hcs h
 show Calls prog 30 #[.agg cs.toArray,.agg #[.int .i64 M.kd,.int .i64 M.fr,.int .i64 M.tt,.int .i64 M.ba,.int .i64 M.ix,.int .i64 M.kn,.string M.tx,.slice a0 M.sl.length k0]] w _
 go_enter func30,ntmps30
 go_upto_region 1 with fail
 obtain⟨wz,hwz,FB,MB,RB,HB⟩:∃ wz,wz=((w.alloc (.cells cs.toArray 41)).alloc (.cells #[.int .i64 M.kd,.int .i64 M.fr,.int .i64 M.tt,.int .i64 M.ba,.int .i64 M.ix,.int .i64 M.kn,.string M.tx,.slice a0 M.sl.length k0] 45)).alloc (.cells zR 41)/\Hd (Box wz w.heap.size (rrF U b m).toArray)/\Hd (Box wz (w.heap.size+1) #[.int .i64 M.kd,.int .i64 M.fr,.int .i64 M.tt,.int .i64 M.ba,.int .i64 M.ix,.int .i64 M.kn,.string M.tx,.slice a0 M.sl.length k0])/\Hd (Box wz (w.heap.size+2) zR)/\Hd (Zw_ w wz):=⟨_,rfl,by unfold Hd;rw [<- HCS.o];exact (((Box.new w _ _ _ rfl).on (Zab _ _)).on (Zab _ _)),((Box.new _ _ _ _ (by simp)).on (Zab _ _)),Box.new _ _ _ _ (by simp),(bt (bt (Zab _ _) (Zab _ _)) (Zab _ _))⟩
 rw [<- hwz];clear hwz;have hwn:w.heap.size+3<=wz.heap.size:=by have:=RB.o.lt;omega
 have HR:Hd (Rz (fun k=>K k\/(w.heap.size+1<=k/\k < w.heap.size+3)) lo wz w.heap.size b m S U):=HC.o.rz HB.o FB.o Zl_ (fun k hk=>hk.imp (fun h=>h) (fun h=>⟨by omega,by omega,by omega⟩));have HKP:Hd (Zag K w wz):=Zag.below HB.o HKw.o;clear FB HB;have y0:wz.cell? ⟨w.heap.size+1,0,none⟩=some (.int .i64 3):=by rw [<- HM.o];exact MB.o.cell 0
 have y3:wz.cell? ⟨w.heap.size+1,3,none⟩=some (.int .i64 M.ba):=MB.o.cell 3;have y1:wz.cell? ⟨w.heap.size+1,1,none⟩=some (.int .i64 M.fr):=MB.o.cell 1;have y4:wz.cell? ⟨w.heap.size+1,4,none⟩=some (.int .i64 M.ix):=MB.o.cell 4;have x6:wz.cell? ⟨w.heap.size,6,none⟩=some (.int .i64 U.dk.pr):=HR.o.box.cell 6;have x0:wz.cell? ⟨w.heap.size,0,none⟩=some (.int .i64 U.nu):=HR.o.box.cell 0
 by_cases hp:M.ba < U.dk.pr
 case pos=>
  have d1:decide (M.ba < U.dk.pr)=true:=decide_eq_true hp;have HE:Hd (Zb1 U M=Zav U (Zfc U M)):=by unfold Hd Zb1;rw [if_pos hp]
  go_upto_region 12 with fail
  clear y0 y3 y4 d1 x0;obtain⟨b8,m8,S8,HRx⟩:∃ b' m' S',Hd (Rz (fun k=>K k\/(w.heap.size+1<=k/\k < w.heap.size+3)) lo wz w.heap.size b' m' S' (U)):=⟨_,_,_,HR⟩
  clear HR;have HRA:Hd (World.rangeAt wz w.heap.size 0 (rrF (U) b8 m8)):=HRx.o.box.range rfl;have HSy:Hd ((prog.info? 41).map (·.size)=some (rrF (U) b8 m8).length):=by unfold Hd;exact Zar
  go_wp2_with (first
   | (with_reducible refine ldR (.tmp 2) w.heap.size 0 (rrF (U) b8 m8) HRA.o HSy.o ?_))
  clear HRA HSy;refine (ZbE (fun k=>(fun k=>K k\/(w.heap.size+1<=k/\k < w.heap.size+3)) k\/k=w.heap.size) lo _ U b8 m8 S8 (Zfc U M) none 0 0 0 HRx.o.czg Zl_ (ZaE.nil _ _ _ _ _) (fun k _ h=>absurd h (Nat.not_lt_zero _))).mono ?_;rintro e wa ⟨b7,m7,S7,rfl,hk7,hc7⟩;obtain⟨yl,HYL,HTH,HON,HSz,hy18,HEX⟩:=exC RB.o rfl hk7 hc7 HKP.o HKw.o (Or.inl (Or.inr ⟨by omega,by omega⟩)) (fun k h=>Or.inl (Or.inl h)) (by omega);rw [<- HYL.o];clear hk7 hc7 HRx RB HKP;go_wp2_with (with_reducible refine stR (.tmp 4) (.tmp 71) (w.heap.size+2) 0 yl.toArray HTH.o (szN hy18) HON.o ?_;refine Hd.o ?_);generalize hW9:World.setCells _ _ _ _=W9;obtain⟨FR9,HKn,HCn⟩:=HEX.o _ hW9;clear hW9;refine Zaa ?_;go_wp2;exact bodyPost_ret (v:=.agg yl.toArray) (Zb6 (p:=4) results30 FR9.o HSz.o rfl) rfl ⟨b7,m7,S7,by rw [HYL.o,HE.o],HKn.o,by rw [HE.o];exact HCn.o⟩
 have d1:decide (M.ba < U.dk.pr)=false:=decide_eq_false hp
 by_cases h2:M.ix < 1
 case pos=>
  have d2:decide (M.ix < 1)=true:=decide_eq_true h2;have HE:Hd (Zb1 U M=U):=by unfold Hd Zb1;rw [if_neg hp,if_pos (Or.inl h2)]
  go_upto_region 14 with fail
  clear y0 y1 y3 y4 x0 x6;obtain⟨b9,m9,S9,yl,HRx,HYL,HRA,HTH,HON,HSy,hy18⟩:=exA (U:=U) HR.o RB.o rfl;clear HR
  go_wp2_with (first
   | (with_reducible refine ldR (.tmp 2) w.heap.size 0 yl HRA.o HSy.o ?_)
   | (with_reducible refine stR (.tmp 4) (.tmp 87) (w.heap.size+2) 0 yl.toArray HTH.o (szN hy18) HON.o ?_;refine Hd.o ?_))
  generalize hW9:World.setCells _ _ _ _=W9;obtain⟨FR9,HKn,HRn⟩:=exB hW9 RB.o hy18 HRx.o (Or.inr (by omega)) HKP.o HKw.o (by omega);clear hW9;refine Zaa ?_;go_wp2;exact bodyPost_ret (v:=.agg yl.toArray) (Zb6 (p:=4) results30 FR9.o HSy.o rfl) rfl ⟨b9,m9,S9,by rw [HYL.o,HE.o],HKn.o,by rw [HE.o];exact HRn.o⟩
 have d2:decide (M.ix < 1)=false:=decide_eq_false h2
 by_cases h3:M.ba < 1
 case pos=>
  have d3:decide (M.ba < 1)=true:=decide_eq_true h3;have HE:Hd (Zb1 U M=U):=by unfold Hd Zb1;rw [if_neg hp,if_pos (Or.inr (Or.inl h3))]
  go_upto_region 14 with fail
  clear y0 y1 y3 y4 x0 x6;obtain⟨b9,m9,S9,yl,HRx,HYL,HRA,HTH,HON,HSy,hy18⟩:=exA (U:=U) HR.o RB.o rfl;clear HR
  go_wp2_with (first
   | (with_reducible refine ldR (.tmp 2) w.heap.size 0 yl HRA.o HSy.o ?_)
   | (with_reducible refine stR (.tmp 4) (.tmp 87) (w.heap.size+2) 0 yl.toArray HTH.o (szN hy18) HON.o ?_;refine Hd.o ?_))
  generalize hW9:World.setCells _ _ _ _=W9;obtain⟨FR9,HKn,HRn⟩:=exB hW9 RB.o hy18 HRx.o (Or.inr (by omega)) HKP.o HKw.o (by omega);clear hW9;refine Zaa ?_;go_wp2;exact bodyPost_ret (v:=.agg yl.toArray) (Zb6 (p:=4) results30 FR9.o HSy.o rfl) rfl ⟨b9,m9,S9,by rw [HYL.o,HE.o],HKn.o,by rw [HE.o];exact HRn.o⟩
 have d3:decide (M.ba < 1)=false:=decide_eq_false h3
 cases q4:(M.fr == U.nu) with
 | true=>
  have HE:Hd (Zb1 U M=U):=by unfold Hd Zb1;rw [if_neg hp,if_pos (Or.inr (Or.inr (eq_of_beq q4)))]
  go_upto_region 14 with fail
  clear y0 y1 y3 y4 x0 x6;obtain⟨b9,m9,S9,yl,HRx,HYL,HRA,HTH,HON,HSy,hy18⟩:=exA (U:=U) HR.o RB.o rfl;clear HR
  go_wp2_with (first
   | (with_reducible refine ldR (.tmp 2) w.heap.size 0 yl HRA.o HSy.o ?_)
   | (with_reducible refine stR (.tmp 4) (.tmp 87) (w.heap.size+2) 0 yl.toArray HTH.o (szN hy18) HON.o ?_;refine Hd.o ?_))
  generalize hW9:World.setCells _ _ _ _=W9;obtain⟨FR9,HKn,HRn⟩:=exB hW9 RB.o hy18 HRx.o (Or.inr (by omega)) HKP.o HKw.o (by omega);clear hW9;refine Zaa ?_;go_wp2;exact bodyPost_ret (v:=.agg yl.toArray) (Zb6 (p:=4) results30 FR9.o HSy.o rfl) rfl ⟨b9,m9,S9,by rw [HYL.o,HE.o],HKn.o,by rw [HE.o];exact HRn.o⟩
 | false=>
 have HE0:Hd (Zb1 U M=Zav (Zkv U M) (ZhD M)):=by unfold Hd Zb1;rw [if_neg hp,if_neg (fun h=>h.elim h2 (fun h=>h.elim h3 (fun h=>by rw [h] at q4;simp at q4)))]
 go_upto_region 15 with fail
 clear y0 y1 y4 x0 x6 d1 d2 d3 q4;obtain⟨b8,m8,S8,HRx⟩:∃ b' m' S',Hd (Rz (fun k=>K k\/(w.heap.size+1<=k/\k < w.heap.size+3)) lo wz w.heap.size b' m' S' (U)):=⟨_,_,_,HR⟩
 clear HR;have HRA:Hd (World.rangeAt wz w.heap.size 0 (rrF (U) b8 m8)):=HRx.o.box.range rfl;have HSy:Hd ((prog.info? 41).map (·.size)=some (rrF (U) b8 m8).length):=by unfold Hd;exact Zar
 go_wp2_with (first
  | (with_reducible refine ldR (.tmp 2) w.heap.size 0 (rrF (U) b8 m8) HRA.o HSy.o ?_))
 clear HRA HSy;refine (Zdb (fun k=>(fun k=>K k\/(w.heap.size+1<=k/\k < w.heap.size+3)) k\/k=w.heap.size) lo _ U b8 m8 S8 M.ba HRx.o.czg).mono ?_;rintro e w1a ⟨b7,m7,S7,rfl,hk,hc⟩;have HKc:=Zaa hk;have HCc:=Zaa hc;have HBX:Hd (Box w1a w.heap.size (rrF (U) b8 m8).toArray):=HRx.o.box.kept hk (Or.inr rfl);replace RB:=Zaa (RB.o.kept hk (Or.inl (Or.inr (by omega))));replace MB:=Zaa (MB.o.kept hk (Or.inl (Or.inr (by omega))));replace HKP:Hd (Zag K w w1a):=HKP.o.trans (hk.less fun k h=>Or.inl (Or.inl h));have hsw1a:w.heap.size+3<=w1a.heap.size:=Nat.le_trans (by omega) hk.size;have HKne:Hd (∀ k,(fun k=>K k\/(w.heap.size+1<=k/\k < w.heap.size+3)) k->k≠w.heap.size):=fun k h=>(HRx.o.prot k h).2.1
 clear hk hc HRx;have HTH:Hd (World.there w1a w.heap.size 0 (rrF (Zam U M.ba) b7 m7).toArray.size):=HBX.o.there rfl;have HON:Hd ((rrF (Zam U M.ba) b7 m7).toArray.all (·.oneCell')=true):=Zbq _ _ _;go_wp2_with (with_reducible refine stR (.tmp 2) (.tmp 91) w.heap.size 0 (rrF (Zam U M.ba) b7 m7).toArray HTH.o (szN (Zbp _ _ _)) HON.o ?_;refine Hd.o ?_);generalize hW9:World.setCells _ _ _ _=w1;obtain⟨hr,ht⟩:=HCc.o.put HBX.o rfl HKne.o hW9.symm;have HR:=Zaa hr;replace RB:=Zaa (RB.o.tch2 ht (Or.inr (by omega)));replace MB:=Zaa (MB.o.tch2 ht (Or.inr (by omega)));replace HKP:Hd (Zag K w w1):=HKP.o.trans (Zag.box ht (fun k h=>⟨by have:=HKw.o k h;omega,by have:=HKw.o k h;omega⟩));have hsw1:w.heap.size+3<=w1.heap.size:=Nat.le_trans hsw1a ht.size;clear hr ht hW9 HBX HKc HCc HTH HON HKne;refine Zaa ?_;clear y3
 obtain⟨F,hF⟩:∃ F,F=Zam U M.ba:=⟨_,rfl⟩
 have f1:F.dk.sl.length<=1000:=by rw [hF,Zb4];exact hl
 have HA:Hd (Zkv U M=if F.dk.kn < M.ix then ZdM F M.ix.toNat ⟨M.ba,M.tx⟩ else F):=by unfold Hd Zkv;rw [hF]
 rw [<- hF] at HR;clear hF;have y4:w1.cell? ⟨w.heap.size+1,4,none⟩=some (.int .i64 M.ix):=MB.o.cell 4;have x7:w1.cell? ⟨w.heap.size,7,none⟩=some (.int .i64 F.dk.kn):=HR.o.box.cell 7
 by_cases h5:F.dk.kn < M.ix
 case neg=>
  have d5:decide (F.dk.kn < M.ix)=false:=decide_eq_false h5;have HE:Hd (Zb1 U M=Zav F (ZhD M)):=by unfold Hd;rw [HE0.o,HA.o,if_neg h5]
  go_upto_region 18 with fail
  clear y4 x7 d5;have y1:w1.cell? ⟨w.heap.size+1,1,none⟩=some (.int .i64 M.fr):=MB.o.cell 1;have y3:w1.cell? ⟨w.heap.size+1,3,none⟩=some (.int .i64 M.ba):=MB.o.cell 3;have y4:w1.cell? ⟨w.heap.size+1,4,none⟩=some (.int .i64 M.ix):=MB.o.cell 4;obtain⟨b8,m8,S8,HRx⟩:∃ b' m' S',Hd (Rz (fun k=>K k\/(w.heap.size+1<=k/\k < w.heap.size+3)) lo w1 w.heap.size b' m' S' (F)):=⟨_,_,_,HR⟩
  clear HR;have HRA:Hd (World.rangeAt w1 w.heap.size 0 (rrF (F) b8 m8)):=HRx.o.box.range rfl;have HSy:Hd ((prog.info? 41).map (·.size)=some (rrF (F) b8 m8).length):=by unfold Hd;exact Zar
  go_wp2_with (first
   | (with_reducible refine ldR (.tmp 2) w.heap.size 0 (rrF (F) b8 m8) HRA.o HSy.o ?_))
  clear HRA HSy;refine (ZbE (fun k=>(fun k=>K k\/(w.heap.size+1<=k/\k < w.heap.size+3)) k\/k=w.heap.size) lo _ (F) b8 m8 S8 (ZhD M) none 0 0 0 HRx.o.czg Zl_ (ZaE.nil _ _ _ _ _) (fun k _ h=>absurd h (Nat.not_lt_zero _))).mono ?_;rintro e wa ⟨b7,m7,S7,rfl,hk7,hc7⟩;obtain⟨yl,HYL,HTH,HON,HSz,hy18,HEX⟩:=exC RB.o rfl hk7 hc7 HKP.o HKw.o (Or.inl (Or.inr ⟨by omega,by omega⟩)) (fun k h=>Or.inl (Or.inl h)) (by omega);rw [<- HYL.o];clear hk7 hc7 HRx RB HKP;go_wp2_with (with_reducible refine stR (.tmp 4) (.tmp 115) (w.heap.size+2) 0 yl.toArray HTH.o (szN hy18) HON.o ?_;refine Hd.o ?_);generalize hW9:World.setCells _ _ _ _=W9;obtain⟨FR9,HKn,HCn⟩:=HEX.o _ hW9;clear hW9;refine Zaa ?_;go_wp2;exact bodyPost_ret (v:=.agg yl.toArray) (Zb6 (p:=4) results30 FR9.o HSz.o rfl) rfl ⟨b7,m7,S7,by rw [HYL.o,HE.o],HKn.o,by rw [HE.o];exact HCn.o⟩
 have d5:decide (F.dk.kn < M.ix)=true:=decide_eq_true h5;obtain⟨V,hV⟩:∃ V,V=ZdM F M.ix.toNat ⟨M.ba,M.tx⟩:=⟨_,rfl⟩
 have HE:Hd (Zb1 U M=Zav V (ZhD M)):=by unfold Hd;rw [HE0.o,HA.o,if_pos h5,hV]
 have HV:=Zaa hV;have hn:((M.ix.toNat:Nat):Int)=M.ix:=by omega
 have hn1:1<=M.ix.toNat:=by omega
 have hn2:M.ix.toNat<=1000:=by omega
 have HN:=Zaa hn;clear hn hV;have y6:w1.cell? ⟨w.heap.size+1,6,none⟩=some (.string M.tx):=MB.o.cell 6;have y3:w1.cell? ⟨w.heap.size+1,3,none⟩=some (.int .i64 M.ba):=MB.o.cell 3
 go_upto_region 17 with fail
 clear d5 x7;obtain⟨b8,m8,S8,HRx⟩:∃ b' m' S',Hd (Rz (fun k=>K k\/(w.heap.size+1<=k/\k < w.heap.size+3)) lo w1 w.heap.size b' m' S' (F)):=⟨_,_,_,HR⟩
 clear HR;have HRA:Hd (World.rangeAt w1 w.heap.size 0 (rrF (F) b8 m8)):=HRx.o.box.range rfl;have HSy:Hd ((prog.info? 41).map (·.size)=some (rrF (F) b8 m8).length):=by unfold Hd;exact Zar
 go_wp2_with (first
  | (with_reducible refine ldR (.tmp 2) w.heap.size 0 (rrF (F) b8 m8) HRA.o HSy.o ?_))
 clear HRA HSy;refine ((by rw [HV.o];rw [<- HN.o];exact Zff (fun k=>(fun k=>K k\/(w.heap.size+1<=k/\k < w.heap.size+3)) k\/k=w.heap.size) lo _ F b8 m8 S8 M.ix.toNat ⟨M.ba,M.tx⟩ HRx.o.czg hn1 hn2 f1:Calls prog 79 #[.agg (rrF F b8 m8).toArray,.int .i64 M.ix,.agg #[.int .i64 M.ba,.string M.tx]] w1 fun e w'=>∃ b' m' S',e=.returned (.agg (rrF V b' m').toArray)/\Zag (fun k=>(fun k=>K k\/(w.heap.size+1<=k/\k < w.heap.size+3)) k\/k=w.heap.size) w1 w'/\Cz (fun k=>(fun k=>K k\/(w.heap.size+1<=k/\k < w.heap.size+3)) k\/k=w.heap.size) lo w' b' m' S' V)).mono ?_;rintro e w2a ⟨b7,m7,S7,rfl,hk,hc⟩;have HKc:=Zaa hk;have HCc:=Zaa hc;have HBX:Hd (Box w2a w.heap.size (rrF (F) b8 m8).toArray):=HRx.o.box.kept hk (Or.inr rfl);replace RB:=Zaa (RB.o.kept hk (Or.inl (Or.inr (by omega))));replace MB:=Zaa (MB.o.kept hk (Or.inl (Or.inr (by omega))))
 replace HKP:Hd (Zag K w w2a):=HKP.o.trans (hk.less fun k h=>Or.inl (Or.inl h));have hsw2a:w.heap.size+3<=w2a.heap.size:=Nat.le_trans (by omega) hk.size;have HKne:Hd (∀ k,(fun k=>K k\/(w.heap.size+1<=k/\k < w.heap.size+3)) k->k≠w.heap.size):=fun k h=>(HRx.o.prot k h).2.1
 clear hk hc HRx;have HTH:Hd (World.there w2a w.heap.size 0 (rrF (V) b7 m7).toArray.size):=HBX.o.there rfl;have HON:Hd ((rrF (V) b7 m7).toArray.all (·.oneCell')=true):=Zbq _ _ _;go_wp2_with (with_reducible refine stR (.tmp 2) (.tmp 106) w.heap.size 0 (rrF (V) b7 m7).toArray HTH.o (szN (Zbp _ _ _)) HON.o ?_;refine Hd.o ?_);generalize hW9:World.setCells _ _ _ _=w2;obtain⟨hr,ht⟩:=HCc.o.put HBX.o rfl HKne.o hW9.symm;have HR:=Zaa hr;replace RB:=Zaa (RB.o.tch2 ht (Or.inr (by omega)));replace MB:=Zaa (MB.o.tch2 ht (Or.inr (by omega)));replace HKP:Hd (Zag K w w2):=HKP.o.trans (Zag.box ht (fun k h=>⟨by have:=HKw.o k h;omega,by have:=HKw.o k h;omega⟩));have hsw2:w.heap.size+3<=w2.heap.size:=Nat.le_trans hsw2a ht.size;clear hr ht hW9 HBX HKc HCc HTH HON HKne;refine Zaa ?_;clear y3 y4 y6
 go_upto_region 18 with fail
 have y1:w2.cell? ⟨w.heap.size+1,1,none⟩=some (.int .i64 M.fr):=MB.o.cell 1;have y3:w2.cell? ⟨w.heap.size+1,3,none⟩=some (.int .i64 M.ba):=MB.o.cell 3;have y4:w2.cell? ⟨w.heap.size+1,4,none⟩=some (.int .i64 M.ix):=MB.o.cell 4;obtain⟨b8,m8,S8,HRx⟩:∃ b' m' S',Hd (Rz (fun k=>K k\/(w.heap.size+1<=k/\k < w.heap.size+3)) lo w2 w.heap.size b' m' S' (V)):=⟨_,_,_,HR⟩
 clear HR;have HRA:Hd (World.rangeAt w2 w.heap.size 0 (rrF (V) b8 m8)):=HRx.o.box.range rfl;have HSy:Hd ((prog.info? 41).map (·.size)=some (rrF (V) b8 m8).length):=by unfold Hd;exact Zar
 go_wp2_with (first
  | (with_reducible refine ldR (.tmp 2) w.heap.size 0 (rrF (V) b8 m8) HRA.o HSy.o ?_))
 clear HRA HSy;refine (ZbE (fun k=>(fun k=>K k\/(w.heap.size+1<=k/\k < w.heap.size+3)) k\/k=w.heap.size) lo _ (V) b8 m8 S8 (ZhD M) none 0 0 0 HRx.o.czg Zl_ (ZaE.nil _ _ _ _ _) (fun k _ h=>absurd h (Nat.not_lt_zero _))).mono ?_;rintro e wa ⟨b7,m7,S7,rfl,hk7,hc7⟩;obtain⟨yl,HYL,HTH,HON,HSz,hy18,HEX⟩:=exC RB.o rfl hk7 hc7 HKP.o HKw.o (Or.inl (Or.inr ⟨by omega,by omega⟩)) (fun k h=>Or.inl (Or.inl h)) (by omega);rw [<- HYL.o];clear hk7 hc7 HRx RB HKP;go_wp2_with (with_reducible refine stR (.tmp 4) (.tmp 115) (w.heap.size+2) 0 yl.toArray HTH.o (szN hy18) HON.o ?_;refine Hd.o ?_);generalize hW9:World.setCells _ _ _ _=W9;obtain⟨FR9,HKn,HCn⟩:=HEX.o _ hW9;clear hW9;refine Zaa ?_;go_wp2;exact bodyPost_ret (v:=.agg yl.toArray) (Zb6 (p:=4) results30 FR9.o HSz.o rfl) rfl ⟨b7,m7,S7,by rw [HYL.o,HE.o],HKn.o,by rw [HE.o];exact HCn.o⟩
end Go.Proofs.YtkiefplmnoapfaaGreat
