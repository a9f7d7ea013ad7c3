import Derived.Test.YtkiefplmnoapfaaGreatV31
set_option maxHeartbeats 16000000
set_option maxRecDepth 100000
open Go.Proofs.Tryz
namespace Go.Proofs.YtkiefplmnoapfaaGreat
open Go.RowKit Go.Deep
def ZgN (F:Rr) (M:Rm):Rm:=⟨2,0,M.fr,M.ba,0,0,⟨#[]⟩,F.dk.sl⟩
def Zdh (U:Rr) (M:Rm):Rr:=if M.ba<=U.dk.pr then Zav U (Zfc U M) else Zav (Zam U M.ba) (ZgN (Zam U M.ba) M)
theorem ZiM (K:Nat->Prop) (lo:Nat) (w:World) (U:Rr) (b:Nat->Option Addr) (m:Nat->Nat) (S:Nat->Nat->Prop) (M:Rm) (a0:Option Addr) (k0:Nat) (h:Cz K lo w b m S U) (hM:M.kd=1) (hz:RrZ U) (hl:U.dk.sl.length<=1000) :
 Calls prog 30 #[.agg (rrF U b m).toArray,.agg (rmL M a0 k0).toArray] w fun e w'=>∃ b' m' S',e=.returned (.agg (rrF (Zdh U M) b' m').toArray)/\Zag K w w'/\Cz K lo w' b' m' S' (Zdh U M):=by
 have HC:=Zaa h;have HM:=Zaa hM;clear hM;have HKw:Hd (∀ k,K k->k < w.heap.size):=fun k hk=>(h.prot k hk).1
 obtain⟨cs,hcs⟩:∃ cs,cs=rrF U b m:=⟨_,rfl⟩
 rw [<- hcs];have HCS:=Zaa hcs;clear hcs h
 show Calls prog 30 #[.agg cs.toArray,.agg #[.int .i64 M.kd,.int .i64 M.fr,.int .i64 M.tt,.int .i64 M.ba,.int .i64 M.ix,.int .i64 M.kn,.string M.tx,.slice a0 M.sl.length k0]] w _
 go_enter func30,ntmps30
 go_upto_region 1 with fail
 obtain⟨wz,hwz,FB,MB,RB,HB⟩:∃ wz,wz=((w.alloc (.cells cs.toArray 41)).alloc (.cells #[.int .i64 M.kd,.int .i64 M.fr,.int .i64 M.tt,.int .i64 M.ba,.int .i64 M.ix,.int .i64 M.kn,.string M.tx,.slice a0 M.sl.length k0] 45)).alloc (.cells zR 41)/\Hd (Box wz w.heap.size (rrF U b m).toArray)/\Hd (Box wz (w.heap.size+1) #[.int .i64 M.kd,.int .i64 M.fr,.int .i64 M.tt,.int .i64 M.ba,.int .i64 M.ix,.int .i64 M.kn,.string M.tx,.slice a0 M.sl.length k0])/\Hd (Box wz (w.heap.size+2) zR)/\Hd (Zw_ w wz):=⟨_,rfl,by unfold Hd;rw [<- HCS.o];exact (((Box.new w _ _ _ rfl).on (Zab _ _)).on (Zab _ _)),((Box.new _ _ _ _ (by simp)).on (Zab _ _)),Box.new _ _ _ _ (by simp),(bt (bt (Zab _ _) (Zab _ _)) (Zab _ _))⟩
 rw [<- hwz];clear hwz;have hwn:w.heap.size+3<=wz.heap.size:=by have:=RB.o.lt;omega
 have HR:Hd (Rz (fun k=>K k\/(w.heap.size+1<=k/\k < w.heap.size+3)) lo wz w.heap.size b m S U):=HC.o.rz HB.o FB.o Zl_ (fun k hk=>hk.imp (fun h=>h) (fun h=>⟨by omega,by omega,by omega⟩));have HKP:Hd (Zag K w wz):=Zag.below HB.o HKw.o;clear FB HB;have y0:wz.cell? ⟨w.heap.size+1,0,none⟩=some (.int .i64 1):=by rw [<- HM.o];exact MB.o.cell 0
 have HZ:=Zaa hz;clear hz;have y3:wz.cell? ⟨w.heap.size+1,3,none⟩=some (.int .i64 M.ba):=MB.o.cell 3;have y1:wz.cell? ⟨w.heap.size+1,1,none⟩=some (.int .i64 M.fr):=MB.o.cell 1;have x6:wz.cell? ⟨w.heap.size,6,none⟩=some (.int .i64 U.dk.pr):=HR.o.box.cell 6
 by_cases hp:M.ba<=U.dk.pr
 case pos=>
  have d1:decide (M.ba<=U.dk.pr)=true:=decide_eq_true hp;have HE:Hd (Zdh U M=Zav U (Zfc U M)):=by unfold Hd Zdh;rw [if_pos hp]
  go_upto_region 4 with fail
  clear y0 y3 d1;obtain⟨b8,m8,S8,HRx⟩:∃ b' m' S',Hd (Rz (fun k=>K k\/(w.heap.size+1<=k/\k < w.heap.size+3)) lo wz w.heap.size b' m' S' (U)):=⟨_,_,_,HR⟩
  clear HR;have HRA:Hd (World.rangeAt wz w.heap.size 0 (rrF (U) b8 m8)):=HRx.o.box.range rfl;have HSy:Hd ((prog.info? 41).map (·.size)=some (rrF (U) b8 m8).length):=by unfold Hd;exact Zar
  go_wp2_with (first
   | (with_reducible refine ldR (.tmp 2) w.heap.size 0 (rrF (U) b8 m8) HRA.o HSy.o ?_))
  clear HRA HSy;refine (ZbE (fun k=>(fun k=>K k\/(w.heap.size+1<=k/\k < w.heap.size+3)) k\/k=w.heap.size) lo _ U b8 m8 S8 (Zfc U M) none 0 0 0 HRx.o.czg Zl_ (ZaE.nil _ _ _ _ _) (fun k _ h=>absurd h (Nat.not_lt_zero _))).mono ?_;rintro e wa ⟨b7,m7,S7,rfl,hk7,hc7⟩;obtain⟨yl,HYL,HTH,HON,HSz,hy18,HEX⟩:=exC RB.o rfl hk7 hc7 HKP.o HKw.o (Or.inl (Or.inr ⟨by omega,by omega⟩)) (fun k h=>Or.inl (Or.inl h)) (by omega);rw [<- HYL.o];clear hk7 hc7 HRx RB HKP;go_wp2_with (with_reducible refine stR (.tmp 4) (.tmp 23) (w.heap.size+2) 0 yl.toArray HTH.o (szN hy18) HON.o ?_;refine Hd.o ?_);generalize hW9:World.setCells _ _ _ _=W9;obtain⟨FR9,HKn,HCn⟩:=HEX.o _ hW9;clear hW9;refine Zaa ?_;go_wp2;exact bodyPost_ret (v:=.agg yl.toArray) (Zb6 (p:=4) results30 FR9.o HSz.o rfl) rfl ⟨b7,m7,S7,by rw [HYL.o,HE.o],HKn.o,by rw [HE.o];exact HCn.o⟩
 have d1:decide (M.ba<=U.dk.pr)=false:=decide_eq_false hp;have HE0:Hd (Zdh U M=Zav (Zam U M.ba) (ZgN (Zam U M.ba) M)):=by unfold Hd Zdh;rw [if_neg hp]
 go_upto_region 5 with fail
 clear y0 y1 x6 d1;obtain⟨b8,m8,S8,HRx⟩:∃ b' m' S',Hd (Rz (fun k=>K k\/(w.heap.size+1<=k/\k < w.heap.size+3)) lo wz w.heap.size b' m' S' (U)):=⟨_,_,_,HR⟩
 clear HR;have HRA:Hd (World.rangeAt wz w.heap.size 0 (rrF (U) b8 m8)):=HRx.o.box.range rfl;have HSy:Hd ((prog.info? 41).map (·.size)=some (rrF (U) b8 m8).length):=by unfold Hd;exact Zar
 go_wp2_with (first
  | (with_reducible refine ldR (.tmp 2) w.heap.size 0 (rrF (U) b8 m8) HRA.o HSy.o ?_))
 clear HRA HSy;refine (Zdb (fun k=>(fun k=>K k\/(w.heap.size+1<=k/\k < w.heap.size+3)) k\/k=w.heap.size) lo _ U b8 m8 S8 M.ba HRx.o.czg).mono ?_;rintro e w1a ⟨b7,m7,S7,rfl,hk,hc⟩;have HKc:=Zaa hk;have HCc:=Zaa hc;have HBX:Hd (Box w1a w.heap.size (rrF (U) b8 m8).toArray):=HRx.o.box.kept hk (Or.inr rfl);replace RB:=Zaa (RB.o.kept hk (Or.inl (Or.inr (by omega))));replace MB:=Zaa (MB.o.kept hk (Or.inl (Or.inr (by omega))));replace HKP:Hd (Zag K w w1a):=HKP.o.trans (hk.less fun k h=>Or.inl (Or.inl h));have hsw1a:w.heap.size+3<=w1a.heap.size:=Nat.le_trans (by omega) hk.size;have HKne:Hd (∀ k,(fun k=>K k\/(w.heap.size+1<=k/\k < w.heap.size+3)) k->k≠w.heap.size):=fun k h=>(HRx.o.prot k h).2.1
 clear hk hc HRx;have HTH:Hd (World.there w1a w.heap.size 0 (rrF (Zam U M.ba) b7 m7).toArray.size):=HBX.o.there rfl;have HON:Hd ((rrF (Zam U M.ba) b7 m7).toArray.all (·.oneCell')=true):=Zbq _ _ _;go_wp2_with (with_reducible refine stR (.tmp 2) (.tmp 27) w.heap.size 0 (rrF (Zam U M.ba) b7 m7).toArray HTH.o (szN (Zbp _ _ _)) HON.o ?_;refine Hd.o ?_);generalize hW9:World.setCells _ _ _ _=w1;obtain⟨hr,ht⟩:=HCc.o.put HBX.o rfl HKne.o hW9.symm;have HR:=Zaa hr;replace RB:=Zaa (RB.o.tch2 ht (Or.inr (by omega)));replace MB:=Zaa (MB.o.tch2 ht (Or.inr (by omega)));replace HKP:Hd (Zag K w w1):=HKP.o.trans (Zag.box ht (fun k h=>⟨by have:=HKw.o k h;omega,by have:=HKw.o k h;omega⟩));have hsw1:w.heap.size+3<=w1.heap.size:=Nat.le_trans hsw1a ht.size;clear hr ht hW9 HBX HKc HCc HTH HON HKne;refine Zaa ?_;clear y3
 obtain⟨F,hF⟩:∃ F,F=Zam U M.ba:=⟨_,rfl⟩
 have f1:F.dk.sl.length<=1000:=by rw [hF,Zb4];exact hl
 have HZF:Hd (∀ i (h:i < F.dk.sl.length),ZaV F.dk.sl[i]):=by unfold Hd;rw [hF,Zb4];exact HZ.o.z1
 rw [<- hF] at HR HE0;clear hF;obtain⟨b5,m5,S5,HRx⟩:∃ b' m' S',Hd (Rz (fun k=>K k\/(w.heap.size+1<=k/\k < w.heap.size+3)) lo w1 w.heap.size b' m' S' F):=⟨_,_,_,HR⟩
 clear HR;have HR:=HRx;clear HRx;have HRA:Hd (World.rangeAt w1 w.heap.size 0 (rrF F b5 m5)):=HR.o.box.range rfl;have HSy:Hd ((prog.info? 41).map (·.size)=some (rrF F b5 m5).length):=by unfold Hd;exact Zar
 have x8:w1.cell? ⟨w.heap.size,8,none⟩=some (.slice (b5 1) F.dk.sl.length (m5 1)):=HR.o.box.cell 8;have HV8:Hd (Zaq 0 w1 (.slice (b5 1) F.dk.sl.length (m5 1)) F.dk.sl):=(HR.o.cp.o1.rss HZF.o).at (fun k _=>Nat.zero_le _);have hγW:w.heap.size < w1.heap.size:=HR.o.box.lt
 have y1:w1.cell? ⟨w.heap.size+1,1,none⟩=some (.int .i64 M.fr):=MB.o.cell 1;have y3:w1.cell? ⟨w.heap.size+1,3,none⟩=some (.int .i64 M.ba):=MB.o.cell 3
 go_upto_region 6 with fail
 refine Code.wp_mono NoPanic.imp ?_;refine Zao (S:=fun W=>W.rangeAt w.heap.size 0 (rrF F b5 m5)/\W.cell? ⟨w.heap.size,8,none⟩=some (.slice (b5 1) F.dk.sl.length (m5 1))/\W.cell? ⟨w.heap.size+1,1,none⟩=some (.int .i64 M.fr)/\W.cell? ⟨w.heap.size+1,3,none⟩=some (.int .i64 M.ba)) [10,11] (by kernel_rfl) ⟨HRA.o,x8,y1,y3⟩ (fun hHeld=>?_);refine tB 0 _ [10,11] rfl hHeld ?_ (hy:=yieldsIf_load_mid (by rfl) 41 (.tmp 2) rfl w.heap.size 0 rfl (rrF F b5 m5) _ (fun _ h=>h.1) underlying41 rfl HSy.o)
 try simp only [Act.put,sLs]
 refine tB 1 (.pointer (some ⟨w.heap.size+1,1,none⟩)) [2,9,10,11] rfl hHeld ?_
 try simp only [Act.put,sLs]
 refine tB 2 (.int .i64 M.fr) [9,10,11] rfl hHeld ?_
 try simp only [Act.put,sLs]
 refine tB 3 (.pointer (some ⟨w.heap.size+1,3,none⟩)) [4,9,10,11] rfl hHeld ?_
 try simp only [Act.put,sLs]
 refine tB 4 (.int .i64 M.ba) [9,10,11] rfl hHeld ?_
 try simp only [Act.put,sLs]
 refine tB 5 (.pointer (some ⟨w.heap.size,6,none⟩)) [6,7,8,9,10,11] rfl hHeld ?_
 try simp only [Act.put,sLs]
 refine tB 6 (.pointer (some ⟨w.heap.size,8,none⟩)) [7,8,9,10,11] rfl hHeld ?_
 try simp only [Act.put,sLs]
 refine tB 7 (.slice (b5 1) F.dk.sl.length (m5 1)) [8,9,10,11] rfl hHeld ?_
 try simp only [Act.put,sLs]
 refine oB 8 rfl (fun KC hK=>?_)
 go_simp
 refine (Zc2 _ _ _ _ (HV8.o.below (Zb_.drew)) (by omega)).mono ?_;rintro e w2 ⟨v2,rfl,hb2,hrow⟩;have hb0:Below w1.heap.size w1 w2:=(Zb_.drew).trans hb2;obtain⟨g2,c2,rfl,hf2⟩:=hrow;have hs2:=hb0.size;have HF2:Hd (FR rsL 2 w2 w1.heap.size w2.heap.size g2 c2 F.dk.sl):=hf2;have HR2:Hd (Rz (fun k=>K k\/(w.heap.size+1<=k/\k < w.heap.size+3)) lo w2 w.heap.size b5 m5 S5 F):=HR.o.on hb0;have HSG:Hd (∀ i,i < 7->∀ k,S5 i k->k < w1.heap.size):=fun i hi k hS=>(HR.o.cp.seg i hi k hS).2
 have HPG:Hd (∀ k,(fun k=>K k\/(w.heap.size+1<=k/\k < w.heap.size+3)) k->k < w1.heap.size):=fun k hk=>(HR.o.prot k hk).1
 have hlo1:=HR.o.low;replace RB:=Zaa (RB.o.on hb0);replace MB:=Zaa (MB.o.on hb0);replace HKP:Hd (Zag K w w2):=HKP.o.trans (Zag.below hb0 (fun k hk=>HPG.o k (Or.inl hk)));have x8':w2.cell? ⟨w.heap.size,8,none⟩=some (.slice (b5 1) F.dk.sl.length (m5 1)):=HR2.o.box.cell 8;have y1':w2.cell? ⟨w.heap.size+1,1,none⟩=some (.int .i64 M.fr):=MB.o.cell 1;have y3':w2.cell? ⟨w.heap.size+1,3,none⟩=some (.int .i64 M.ba):=MB.o.cell 3;have HRA2:Hd (World.rangeAt w2 w.heap.size 0 (rrF F b5 m5)):=HR2.o.box.range rfl;clear hb2 hf2 hb0 hHeld;refine hK.out _ _ (fun _=>⟨HRA2.o,x8',y1',y3'⟩) (fun hHeld=>?_);replace hHeld:=hHeld (by decide);clear hK x8 y1 y3 HRA HR HV8
 try simp only [Act.put,sLs]
 refine tB 9 (.agg #[.int .i64 2,.int .i64 0,.int .i64 M.fr,.int .i64 M.ba,.int .i64 0,.int .i64 0,.string ⟨#[]⟩,.slice (some ⟨g2,0,none⟩) F.dk.sl.length c2]) [10,11] rfl hHeld ?_
 try simp only [Act.put,sLs]
 refine oB 10 rfl (fun KC hK=>?_)
 go_simp
 refine (ZbE (fun k=>(fun k=>K k\/(w.heap.size+1<=k/\k < w.heap.size+3)) k\/k=w.heap.size) lo _ F b5 m5 S5 (ZgN F M) (some ⟨g2,0,none⟩) c2 g2 (g2+1) HR2.o.czg (by omega) (Or.inr ⟨g2,c2,rfl,HF2.o.own'⟩) (fun k p q=>?_)).mono ?_
 . have e1:=HF2.o.bs
   have e2:=HF2.o.lt;refine⟨by omega,by omega,fun h=>?_,fun i hi hS=>?_⟩
   . rcases h with h | h
     . have:=HPG.o k h;omega
     . omega
   . have:=HSG.o i hi k hS;omega
 rintro e wa ⟨b7,m7,S7,rfl,hk7,hc7⟩;replace RB:=Zaa (RB.o.kept hk7 (Or.inl (Or.inr ⟨by omega,by omega⟩)));replace HKP:Hd (Zag K w wa):=HKP.o.trans (hk7.less fun k h=>Or.inl (Or.inl h));have HCc:=Zaa hc7;have hsa:w.heap.size+3<=wa.heap.size:=Nat.le_trans (by omega) hk7.size;clear hk7 hc7 HR2 HF2 HSG HPG x8' y1' y3' HRA2 hHeld;have HTH:Hd (World.there wa (w.heap.size+2) 0 (rrF (Zav F (ZgN F M)) b7 m7).toArray.size):=RB.o.there rfl;have HON:Hd ((rrF (Zav F (ZgN F M)) b7 m7).toArray.all (·.oneCell')=true):=Zbq _ _ _;refine hK.out _ _ (fun h=>absurd (by decide) h) (fun _=>?_);clear hK
 try simp only [Act.put,sLs]
 refine oB 11 rfl (fun KC hK=>?_);refine Zaz rfl 41 (.tmp 4) (.tmp 38) rfl (w.heap.size+2) 0 (rrF (Zav F (ZgN F M)) b7 m7).toArray rfl rfl HTH.o (szN (Zbp _ _ _)) HON.o ?_;refine hK.out _ _ (fun h=>absurd (by decide) h) (fun _=>?_);clear hK
 try simp only [Act.put,sLs]
 refine Zak (by kernel_rfl) ?_ _;refine NoPanic.normal ?_;generalize hW9:World.setCells _ _ _ _=W9;have HSz:Hd ((prog.info? 41).map (·.size)=some (rrF (Zav F (ZgN F M)) b7 m7).length):=by unfold Hd;exact Zar
 have FR9:Hd (Box W9 (w.heap.size+2) (rrF (Zav F (ZgN F M)) b7 m7).toArray):=by unfold Hd;rw [<- hW9];exact RB.o.full rfl
 have TT:Hd (Zad (w.heap.size+2) ((w.heap.size+2)+1) wa W9):=by unfold Hd;rw [<- hW9];exact Zad.sets ⟨by omega,by omega⟩ _ _ _
 clear hW9;have HCn:=Zaa (HCc.o.other (β:=(w.heap.size+2)) (Or.inl (Or.inr ⟨by omega,by omega⟩)) TT.o);have HKn:Hd (Zag K w W9):=HKP.o.trans (Zag.touch TT.o (fun k hk=>⟨by have:=HKw.o k hk;omega,Or.inl (by have:=HKw.o k hk;omega)⟩));go_wp2;exact bodyPost_ret (v:=.agg (rrF (Zav F (ZgN F M)) b7 m7).toArray) (ZbL (p:=4) (ty:=41) results30 _ _ (w.heap.size+2) 0 (rrF (Zav F (ZgN F M)) b7 m7) _ rfl (FR9.o.range rfl) underlying41 rfl HSz.o) rfl ⟨b7,m7,by rw [HE0.o],HKn.o,S7,by rw [HE0.o];exact HCn.o.less (fun k hk=>Or.inl (Or.inl hk))⟩
def Zco (U:Rr) (M:Rm):Rr:=if M.ix=U.dk.kn+1/\0 < M.ba/\M.ba<=U.dk.pr then { ZdM U M.ix.toNat ⟨M.ba,M.tx⟩ with dk:={ (ZdM U M.ix.toNat ⟨M.ba,M.tx⟩).dk with kn:=M.ix } } else U
theorem ZiR (K:Nat->Prop) (lo:Nat) (w:World) (U:Rr) (b:Nat->Option Addr) (m:Nat->Nat) (S:Nat->Nat->Prop) (M:Rm) (a0:Option Addr) (k0:Nat) (h:Cz K lo w b m S U) (hM:M.kd=6) (h0:0<=U.dk.kn) (h1:U.dk.kn < 1000) (hl:U.dk.sl.length<=1000) :
 Calls prog 30 #[.agg (rrF U b m).toArray,.agg (rmL M a0 k0).toArray] w fun e w'=>∃ b' m' S',e=.returned (.agg (rrF (Zco U M) b' m').toArray)/\Zag K w w'/\Cz K lo w' b' m' S' (Zco U M):=by
 have HC:=Zaa h;have HM:=Zaa hM;clear hM;have HKw:Hd (∀ k,K k->k < w.heap.size):=fun k hk=>(h.prot k hk).1
 obtain⟨cs,hcs⟩:∃ cs,cs=rrF U b m:=⟨_,rfl⟩
 rw [<- hcs];have HCS:=Zaa hcs;clear hcs h
 show Calls prog 30 #[.agg cs.toArray,.agg #[.int .i64 M.kd,.int .i64 M.fr,.int .i64 M.tt,.int .i64 M.ba,.int .i64 M.ix,.int .i64 M.kn,.string M.tx,.slice a0 M.sl.length k0]] w _
 go_enter func30,ntmps30
 go_upto_region 1 with fail
 obtain⟨wz,hwz,FB,MB,RB,HB⟩:∃ wz,wz=((w.alloc (.cells cs.toArray 41)).alloc (.cells #[.int .i64 M.kd,.int .i64 M.fr,.int .i64 M.tt,.int .i64 M.ba,.int .i64 M.ix,.int .i64 M.kn,.string M.tx,.slice a0 M.sl.length k0] 45)).alloc (.cells zR 41)/\Hd (Box wz w.heap.size (rrF U b m).toArray)/\Hd (Box wz (w.heap.size+1) #[.int .i64 M.kd,.int .i64 M.fr,.int .i64 M.tt,.int .i64 M.ba,.int .i64 M.ix,.int .i64 M.kn,.string M.tx,.slice a0 M.sl.length k0])/\Hd (Box wz (w.heap.size+2) zR)/\Hd (Zw_ w wz):=⟨_,rfl,by unfold Hd;rw [<- HCS.o];exact (((Box.new w _ _ _ rfl).on (Zab _ _)).on (Zab _ _)),((Box.new _ _ _ _ (by simp)).on (Zab _ _)),Box.new _ _ _ _ (by simp),(bt (bt (Zab _ _) (Zab _ _)) (Zab _ _))⟩
 rw [<- hwz];clear hwz;have hwn:w.heap.size+3<=wz.heap.size:=by have:=RB.o.lt;omega
 have HR:Hd (Rz (fun k=>K k\/(w.heap.size+1<=k/\k < w.heap.size+3)) lo wz w.heap.size b m S U):=HC.o.rz HB.o FB.o Zl_ (fun k hk=>hk.imp (fun h=>h) (fun h=>⟨by omega,by omega,by omega⟩));have HKP:Hd (Zag K w wz):=Zag.below HB.o HKw.o;clear FB HB;have y0:wz.cell? ⟨w.heap.size+1,0,none⟩=some (.int .i64 6):=by rw [<- HM.o];exact MB.o.cell 0
 have y3:wz.cell? ⟨w.heap.size+1,3,none⟩=some (.int .i64 M.ba):=MB.o.cell 3;have y4:wz.cell? ⟨w.heap.size+1,4,none⟩=some (.int .i64 M.ix):=MB.o.cell 4;have x7:wz.cell? ⟨w.heap.size,7,none⟩=some (.int .i64 U.dk.kn):=HR.o.box.cell 7;have x6:wz.cell? ⟨w.heap.size,6,none⟩=some (.int .i64 U.dk.pr):=HR.o.box.cell 6;have y6:wz.cell? ⟨w.heap.size+1,6,none⟩=some (.string M.tx):=MB.o.cell 6
 cases q1:(M.ix == U.dk.kn+1) with
 | false=>
  have HE:Hd (Zco U M=U):=by unfold Hd Zco;rw [if_neg (fun h=>by rw [h.1] at q1;simp at q1)]
  go_upto_region 42 with fail
  clear y0 y3 y4 y6 x6 x7;obtain⟨b9,m9,S9,yl,HRx,HYL,HRA,HTH,HON,HSy,hy18⟩:=exA (U:=U) HR.o RB.o rfl;clear HR
  go_wp2_with (first
   | (with_reducible refine ldR (.tmp 2) w.heap.size 0 yl HRA.o HSy.o ?_)
   | (with_reducible refine stR (.tmp 4) (.tmp 267) (w.heap.size+2) 0 yl.toArray HTH.o (szN hy18) HON.o ?_;refine Hd.o ?_))
  generalize hW9:World.setCells _ _ _ _=W9;obtain⟨FR9,HKn,HRn⟩:=exB hW9 RB.o hy18 HRx.o (Or.inr (by omega)) HKP.o HKw.o (by omega);clear hW9;refine Zaa ?_;go_wp2;exact bodyPost_ret (v:=.agg yl.toArray) (Zb6 (p:=4) results30 FR9.o HSy.o rfl) rfl ⟨b9,m9,S9,by rw [HYL.o,HE.o],HKn.o,by rw [HE.o];exact HRn.o⟩
 | true=>
 by_cases h2:0 < M.ba
 case neg=>
  have d2:decide (0 < M.ba)=false:=decide_eq_false h2;have HE:Hd (Zco U M=U):=by unfold Hd Zco;rw [if_neg (fun h=>h2 h.2.1)]
  go_upto_region 42 with fail
  clear y0 y3 y4 y6 x6 x7;obtain⟨b9,m9,S9,yl,HRx,HYL,HRA,HTH,HON,HSy,hy18⟩:=exA (U:=U) HR.o RB.o rfl;clear HR
  go_wp2_with (first
   | (with_reducible refine ldR (.tmp 2) w.heap.size 0 yl HRA.o HSy.o ?_)
   | (with_reducible refine stR (.tmp 4) (.tmp 267) (w.heap.size+2) 0 yl.toArray HTH.o (szN hy18) HON.o ?_;refine Hd.o ?_))
  generalize hW9:World.setCells _ _ _ _=W9;obtain⟨FR9,HKn,HRn⟩:=exB hW9 RB.o hy18 HRx.o (Or.inr (by omega)) HKP.o HKw.o (by omega);clear hW9;refine Zaa ?_;go_wp2;exact bodyPost_ret (v:=.agg yl.toArray) (Zb6 (p:=4) results30 FR9.o HSy.o rfl) rfl ⟨b9,m9,S9,by rw [HYL.o,HE.o],HKn.o,by rw [HE.o];exact HRn.o⟩
 have d2:decide (0 < M.ba)=true:=decide_eq_true h2
 by_cases h3:M.ba<=U.dk.pr
 case neg=>
  have d3:decide (M.ba<=U.dk.pr)=false:=decide_eq_false h3;have HE:Hd (Zco U M=U):=by unfold Hd Zco;rw [if_neg (fun h=>h3 h.2.2)]
  go_upto_region 42 with fail
  clear y0 y3 y4 y6 x6 x7;obtain⟨b9,m9,S9,yl,HRx,HYL,HRA,HTH,HON,HSy,hy18⟩:=exA (U:=U) HR.o RB.o rfl;clear HR
  go_wp2_with (first
   | (with_reducible refine ldR (.tmp 2) w.heap.size 0 yl HRA.o HSy.o ?_)
   | (with_reducible refine stR (.tmp 4) (.tmp 267) (w.heap.size+2) 0 yl.toArray HTH.o (szN hy18) HON.o ?_;refine Hd.o ?_))
  generalize hW9:World.setCells _ _ _ _=W9;obtain⟨FR9,HKn,HRn⟩:=exB hW9 RB.o hy18 HRx.o (Or.inr (by omega)) HKP.o HKw.o (by omega);clear hW9;refine Zaa ?_;go_wp2;exact bodyPost_ret (v:=.agg yl.toArray) (Zb6 (p:=4) results30 FR9.o HSy.o rfl) rfl ⟨b9,m9,S9,by rw [HYL.o,HE.o],HKn.o,by rw [HE.o];exact HRn.o⟩
 have d3:decide (M.ba<=U.dk.pr)=true:=decide_eq_true h3;have hix:M.ix=U.dk.kn+1:=eq_of_beq q1;obtain⟨V,hV⟩:∃ V,V=ZdM U M.ix.toNat ⟨M.ba,M.tx⟩:=⟨_,rfl⟩
 have HE:Hd (Zco U M={ V with dk:={ V.dk with kn:=M.ix } }):=by unfold Hd Zco;rw [if_pos ⟨hix,h2,h3⟩,hV]
 have hkn:V.dk.kn=U.dk.kn:=by rw [hV];rfl
 have HV:=Zaa hV;have hn:((M.ix.toNat:Nat):Int)=M.ix:=by omega
 have hn1:1<=M.ix.toNat:=by omega
 have hn2:M.ix.toNat<=1000:=by omega
 have HN:=Zaa hn;have HKN:=Zaa hkn;clear hn hV hix hkn
 go_upto_region 28 with fail
 clear y0 d2 d3 q1 x6 x7;obtain⟨b8,m8,S8,HRx⟩:∃ b' m' S',Hd (Rz (fun k=>K k\/(w.heap.size+1<=k/\k < w.heap.size+3)) lo wz w.heap.size b' m' S' (U)):=⟨_,_,_,HR⟩
 clear HR;have HRA:Hd (World.rangeAt wz w.heap.size 0 (rrF (U) b8 m8)):=HRx.o.box.range rfl;have HSy:Hd ((prog.info? 41).map (·.size)=some (rrF (U) b8 m8).length):=by unfold Hd;exact Zar
 go_wp2_with (first
  | (with_reducible refine ldR (.tmp 2) w.heap.size 0 (rrF (U) b8 m8) HRA.o HSy.o ?_))
 clear HRA HSy;refine ((by rw [HV.o];rw [<- HN.o];exact Zff (fun k=>(fun k=>K k\/(w.heap.size+1<=k/\k < w.heap.size+3)) k\/k=w.heap.size) lo _ U b8 m8 S8 M.ix.toNat ⟨M.ba,M.tx⟩ HRx.o.czg hn1 hn2 hl:Calls prog 79 #[.agg (rrF U b8 m8).toArray,.int .i64 M.ix,.agg #[.int .i64 M.ba,.string M.tx]] wz fun e w'=>∃ b' m' S',e=.returned (.agg (rrF V b' m').toArray)/\Zag (fun k=>(fun k=>K k\/(w.heap.size+1<=k/\k < w.heap.size+3)) k\/k=w.heap.size) wz w'/\Cz (fun k=>(fun k=>K k\/(w.heap.size+1<=k/\k < w.heap.size+3)) k\/k=w.heap.size) lo w' b' m' S' V)).mono ?_;rintro e w1a ⟨b7,m7,S7,rfl,hk,hc⟩;have HKc:=Zaa hk;have HCc:=Zaa hc;have HBX:Hd (Box w1a w.heap.size (rrF (U) b8 m8).toArray):=HRx.o.box.kept hk (Or.inr rfl);replace RB:=Zaa (RB.o.kept hk (Or.inl (Or.inr (by omega))));replace MB:=Zaa (MB.o.kept hk (Or.inl (Or.inr (by omega))))
 replace HKP:Hd (Zag K w w1a):=HKP.o.trans (hk.less fun k h=>Or.inl (Or.inl h));have hsw1a:w.heap.size+3<=w1a.heap.size:=Nat.le_trans (by omega) hk.size;have HKne:Hd (∀ k,(fun k=>K k\/(w.heap.size+1<=k/\k < w.heap.size+3)) k->k≠w.heap.size):=fun k h=>(HRx.o.prot k h).2.1
 clear hk hc HRx;have HTH:Hd (World.there w1a w.heap.size 0 (rrF (V) b7 m7).toArray.size):=HBX.o.there rfl;have HON:Hd ((rrF (V) b7 m7).toArray.all (·.oneCell')=true):=Zbq _ _ _;go_wp2_with (with_reducible refine stR (.tmp 2) (.tmp 187) w.heap.size 0 (rrF (V) b7 m7).toArray HTH.o (szN (Zbp _ _ _)) HON.o ?_;refine Hd.o ?_);generalize hW9:World.setCells _ _ _ _=w1;obtain⟨hr,ht⟩:=HCc.o.put HBX.o rfl HKne.o hW9.symm;have HR:=Zaa hr;replace RB:=Zaa (RB.o.tch2 ht (Or.inr (by omega)));replace MB:=Zaa (MB.o.tch2 ht (Or.inr (by omega)));replace HKP:Hd (Zag K w w1):=HKP.o.trans (Zag.box ht (fun k h=>⟨by have:=HKw.o k h;omega,by have:=HKw.o k h;omega⟩));have hsw1:w.heap.size+3<=w1.heap.size:=Nat.le_trans hsw1a ht.size;clear hr ht hW9 HBX HKc HCc HTH HON HKne;refine Zaa ?_;clear y3 y4 y6
 have y4:w1.cell? ⟨w.heap.size+1,4,none⟩=some (.int .i64 M.ix):=MB.o.cell 4;have xc:w1.cell? ⟨w.heap.size,7,none⟩=some (.int .i64 V.dk.kn):=HR.o.box.cell 7;have gf:=HR.o.box.free
 go_upto_region 42 with fail
 clear xc gf;obtain⟨w2,hwn'⟩:∃ wx_,wx_=w1.setCell ⟨w.heap.size,7,none⟩ (.int .i64 M.ix):=⟨_,rfl⟩
 rw [<- hwn'];have hp:=HR.o.scal (U':={ V with dk:={ V.dk with kn:=M.ix } }) (j:=7) (v:=.int .i64 M.ix) (by show 7 < 18;omega) rfl (fun _ h=>⟨h.seg,h.ap,h.o0,h.o1,h.o2,h.o3,h.o4,h.o5,h.o6⟩);rw [<- hwn'] at hp;have hss:w1.heap.size=w2.heap.size:=by rw [hwn'];simp [World.setCell]
 have RBn:Hd (Box w2 (w.heap.size+2) zR):=by unfold Hd;rw [hwn'];exact RB.o.setFar (by simp only [];omega) _
 have hsw2:w.heap.size+3<=w2.heap.size:=by omega
 clear hwn' RB HR hss;have RB:=RBn;have HR:=Zaa hp.1;replace HKP:Hd (Zag K w w2):=HKP.o.trans (hp.2.less fun k hk=>Or.inl hk);clear hp RBn;clear y4;obtain⟨b9,m9,S9,yl,HRx,HYL,HRA,HTH,HON,HSy,hy18⟩:=exA (U:={ V with dk:={ V.dk with kn:=M.ix } }) HR.o RB.o rfl;clear HR
 go_wp2_with (first
  | (with_reducible refine ldR (.tmp 2) w.heap.size 0 yl HRA.o HSy.o ?_)
  | (with_reducible refine stR (.tmp 4) (.tmp 267) (w.heap.size+2) 0 yl.toArray HTH.o (szN hy18) HON.o ?_;refine Hd.o ?_))
 generalize hW9:World.setCells _ _ _ _=W9;obtain⟨FR9,HKn,HRn⟩:=exB hW9 RB.o hy18 HRx.o (Or.inr (by omega)) HKP.o HKw.o (by omega);clear hW9;refine Zaa ?_;go_wp2;exact bodyPost_ret (v:=.agg yl.toArray) (Zb6 (p:=4) results30 FR9.o HSy.o rfl) rfl ⟨b9,m9,S9,by rw [HYL.o,HE.o],HKn.o,by rw [HE.o];exact HRn.o⟩
end Go.Proofs.YtkiefplmnoapfaaGreat
