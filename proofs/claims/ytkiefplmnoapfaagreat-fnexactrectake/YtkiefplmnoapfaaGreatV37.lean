import Derived.Test.YtkiefplmnoapfaaGreatV30
import Derived.Test.YtkiefplmnoapfaaGreatV34
import Derived.Test.YtkiefplmnoapfaaGreatV35
import Derived.Test.YtkiefplmnoapfaaGreatV36
set_option maxHeartbeats 16000000
set_option maxRecDepth 100000
open Go.Proofs.Tryz
namespace Go.Proofs.YtkiefplmnoapfaaGreat
open Go.RowKit Go.Deep
theorem Zi5 (K:Nat->Prop) (lo:Nat) (w:World) (U:Rr) (b:Nat->Option Addr) (m:Nat->Nat) (S:Nat->Nat->Prop) (tx:Zy_) (h:Cz K lo w b m S U) (hz:RrZ U) (hk0:0<=U.dk.kn) (hk1:U.dk.kn<=(U.dk.sl.length:Int)) (_htx:tx.size<=1048576) (hn:U.wi.length<=1048576) :
 Calls prog 82 #[.agg (rrF U b m).toArray,.string tx] w fun e w'=>∃ b' m' S',e=.returned (.agg (rrF (Zcp U tx) b' m').toArray)/\Zag K w w'/\Cz K lo w' b' m' S' (Zcp U tx):=by
 have HC:=Zaa h;have HKw:Hd (∀ k,K k->k < w.heap.size):=fun k hk=>(h.prot k hk).1
 obtain⟨cs,hcs⟩:∃ cs,cs=rrF U b m:=⟨_,rfl⟩
 rw [<- hcs];have HCS:=Zaa hcs;clear hcs h;go_enter func82,ntmps82
 go_upto_region 1 with fail
 obtain⟨wz,hwz,FB,RB,HB⟩:∃ wz,wz=(w.alloc (.cells cs.toArray 41)).alloc (.cells zR 41)/\Hd (Box wz w.heap.size (rrF U b m).toArray)/\Hd (Box wz (w.heap.size+1) zR)/\Hd (Zw_ w wz):=⟨_,rfl,by unfold Hd;rw [<- HCS.o];exact ((Box.new w _ _ _ rfl).on (Zab _ _)),Box.new _ _ _ _ (by simp),(bt (Zab _ _) (Zab _ _))⟩
 rw [<- hwz];clear hwz;have hwn:w.heap.size+2<=wz.heap.size:=by have:=RB.o.lt;omega
 have HR:Hd (Rz (fun k=>K k\/(w.heap.size+1<=k/\k < w.heap.size+2)) lo wz w.heap.size b m S U):=HC.o.rz HB.o FB.o Zl_ (fun k hk=>hk.imp (fun h=>h) (fun h=>⟨by omega,by omega,by omega⟩));have HKP:Hd (Zag K w wz):=Zag.below HB.o HKw.o;clear FB HB;have HZ:=Zaa hz;clear hz;have HD:Hd (Zaq lo wz (.slice (b 1) U.dk.sl.length (m 1)) U.dk.sl):=(HR.o.cp.o1.rss HZ.o.z1).at (fun k hk=>(HR.o.cp.seg 1 (by decide) k hk).1)
 have hcap:U.dk.sl.length<=m 1:=by
  rcases HD.o with ⟨_,_,h1,h2⟩ | ⟨_,_,_,h1,_,_,_,_,h6,_⟩
  . rw [h2];simp
  . injection h1 with e1 e2 e3
    omega
 have r2:U.dk.kn<=(m 1:Int):=by omega
 have HDT:Hd (Zaq lo wz (.slice (b 1) U.dk.kn.toNat (m 1)) (U.dk.sl.take U.dk.kn.toNat)):=HD.o.takeR _ rfl (by omega);have HEW:Hd (Zfn U tx=(!decide ((tx.size:Int) < 1)&&(!decide (160 < (tx.size:Int))&&(!decide (20<=(U.wi.length:Int))&&(!Zev (U.dk.sl.take U.dk.kn.toNat) tx&&!(U.wi.any (fun s=>s.toList == tx.toList))))))):=rfl;have x7:wz.cell? ⟨w.heap.size,7,none⟩=some (.int .i64 U.dk.kn):=HR.o.box.cell 7;have x8:wz.cell? ⟨w.heap.size,8,none⟩=some (.slice (b 1) U.dk.sl.length (m 1)):=HR.o.box.cell 8;have x10:wz.cell? ⟨w.heap.size,10,none⟩=some (.slice (b 3) U.wi.length (m 3)):=HR.o.box.cell 10
 cases q0:decide ((tx.size:Int) < 1) with
 | true=>
  have HE:Hd (Zcp U tx=U):=by unfold Hd Zcp;rw [HEW.o,q0];rfl
  go_upto_region 2 with fail
  clear x7 x8 x10;obtain⟨b9,m9,S9,yl,HRx,HYL,HRA,HTH,HON,HSy,hy18⟩:=exA (U:=U) HR.o RB.o rfl;clear HR
  go_wp2_with (first
   | (with_reducible refine ldR (.tmp 2) w.heap.size 0 yl HRA.o HSy.o ?_)
   | (with_reducible refine stR (.tmp 4) (.tmp 31) (w.heap.size+1) 0 yl.toArray HTH.o (szN hy18) HON.o ?_;refine Hd.o ?_))
  generalize hW9:World.setCells _ _ _ _=W9;obtain⟨FR9,HKn,HRn⟩:=exB hW9 RB.o hy18 HRx.o (Or.inr (by omega)) HKP.o HKw.o (by omega);clear hW9;refine Zaa ?_;go_wp2;exact bodyPost_ret (v:=.agg yl.toArray) (Zb6 (p:=4) results82 FR9.o HSy.o rfl) rfl ⟨b9,m9,S9,by rw [HYL.o,HE.o],HKn.o,by rw [HE.o];exact HRn.o⟩
 | false=>
 cases q1:decide (160 < (tx.size:Int)) with
 | true=>
  have HE:Hd (Zcp U tx=U):=by unfold Hd Zcp;rw [HEW.o,q0,q1];rfl
  go_upto_region 2 with fail
  clear x7 x8 x10;obtain⟨b9,m9,S9,yl,HRx,HYL,HRA,HTH,HON,HSy,hy18⟩:=exA (U:=U) HR.o RB.o rfl;clear HR
  go_wp2_with (first
   | (with_reducible refine ldR (.tmp 2) w.heap.size 0 yl HRA.o HSy.o ?_)
   | (with_reducible refine stR (.tmp 4) (.tmp 31) (w.heap.size+1) 0 yl.toArray HTH.o (szN hy18) HON.o ?_;refine Hd.o ?_))
  generalize hW9:World.setCells _ _ _ _=W9;obtain⟨FR9,HKn,HRn⟩:=exB hW9 RB.o hy18 HRx.o (Or.inr (by omega)) HKP.o HKw.o (by omega);clear hW9;refine Zaa ?_;go_wp2;exact bodyPost_ret (v:=.agg yl.toArray) (Zb6 (p:=4) results82 FR9.o HSy.o rfl) rfl ⟨b9,m9,S9,by rw [HYL.o,HE.o],HKn.o,by rw [HE.o];exact HRn.o⟩
 | false=>
 cases q2:decide (20<=(U.wi.length:Int)) with
 | true=>
  have HE:Hd (Zcp U tx=U):=by unfold Hd Zcp;rw [HEW.o,q0,q1,q2];rfl
  go_upto_region 2 with fail
  clear x7 x8 x10;obtain⟨b9,m9,S9,yl,HRx,HYL,HRA,HTH,HON,HSy,hy18⟩:=exA (U:=U) HR.o RB.o rfl;clear HR
  go_wp2_with (first
   | (with_reducible refine ldR (.tmp 2) w.heap.size 0 yl HRA.o HSy.o ?_)
   | (with_reducible refine stR (.tmp 4) (.tmp 31) (w.heap.size+1) 0 yl.toArray HTH.o (szN hy18) HON.o ?_;refine Hd.o ?_))
  generalize hW9:World.setCells _ _ _ _=W9;obtain⟨FR9,HKn,HRn⟩:=exB hW9 RB.o hy18 HRx.o (Or.inr (by omega)) HKP.o HKw.o (by omega);clear hW9;refine Zaa ?_;go_wp2;exact bodyPost_ret (v:=.agg yl.toArray) (Zb6 (p:=4) results82 FR9.o HSy.o rfl) rfl ⟨b9,m9,S9,by rw [HYL.o,HE.o],HKn.o,by rw [HE.o];exact HRn.o⟩
 | false=>
 cases q3:Zev (U.dk.sl.take U.dk.kn.toNat) tx with
 | true=>
  have HE:Hd (Zcp U tx=U):=by unfold Hd Zcp;rw [HEW.o,q0,q1,q2,q3];rfl
  go_upto_region 2 with (go_at_call 58;refine (ZgE lo _ (U.dk.sl.take U.dk.kn.toNat) tx _ HDT.o).mono ?_;rw [q3];rintro e wq ⟨rfl,hq⟩;rw [hq];clear hq)
  clear x7 x8 x10;obtain⟨b9,m9,S9,yl,HRx,HYL,HRA,HTH,HON,HSy,hy18⟩:=exA (U:=U) HR.o RB.o rfl;clear HR
  go_wp2_with (first
   | (with_reducible refine ldR (.tmp 2) w.heap.size 0 yl HRA.o HSy.o ?_)
   | (with_reducible refine stR (.tmp 4) (.tmp 31) (w.heap.size+1) 0 yl.toArray HTH.o (szN hy18) HON.o ?_;refine Hd.o ?_))
  generalize hW9:World.setCells _ _ _ _=W9;obtain⟨FR9,HKn,HRn⟩:=exB hW9 RB.o hy18 HRx.o (Or.inr (by omega)) HKP.o HKw.o (by omega);clear hW9;refine Zaa ?_;go_wp2;exact bodyPost_ret (v:=.agg yl.toArray) (Zb6 (p:=4) results82 FR9.o HSy.o rfl) rfl ⟨b9,m9,S9,by rw [HYL.o,HE.o],HKn.o,by rw [HE.o];exact HRn.o⟩
 | false=>
 go_upto_region 3 with (go_at_call 58;refine (ZgE lo _ (U.dk.sl.take U.dk.kn.toNat) tx _ HDT.o).mono ?_;rw [q3];rintro e wq ⟨rfl,hq⟩;rw [hq];clear hq)
 clear x7 x8;have HT3:Hd (Za2 lo wz (.slice (b 3) U.wi.length (m 3)) U.wi):=(HR.o.cp.o3.rts HZ.o.z3).at (fun k hk=>(HR.o.cp.seg 3 (by decide) k hk).1);go_wp2
 go_loop [5] (fun i=>∃ k:Nat,i=.int .i64 k/\k<=U.wi.length/\∀ j (hj:j < U.wi.length),j < k->(U.wi[j].toList == tx.toList)=false) (fun i=>U.wi.length - (intOf i).toNat)
 case atStart=>exact⟨0,rfl,by omega,fun j _ h=>by omega⟩
 case round=>
  obtain⟨k,rfl,hk,hall⟩:=hrel;have HAL:=Zaa hall;clear hall
  by_cases hlt:k < U.wi.length
  . obtain⟨bw,off,hab,hbw,-,hc⟩:=HT3.o.full' (by omega)
    rw [hab] at x10;obtain⟨x,hx⟩:∃ x,x=U.wi[k]:=⟨_,rfl⟩
    have e0:wz.cell? ⟨bw,off+k,none⟩=some (.string x):=by rw [hx];exact (hc k hlt).2
    have HX:=Zaa hx;have i0:(0:Int)<=(k:Int):=by omega
    have i1:(k:Int) < (U.wi.length:Int):=by omega
    clear hc hx hab
    cases q4:(x.toList == tx.toList) with
    | true=>
     have HE:Hd (Zcp U tx=U):=by unfold Hd Zcp;rw [HEW.o,Zf1 (L:=U.wi) (f:=fun s=>s.toList == tx.toList) hlt (by rw [<- HX.o,q4])];simp
     go_upto_region 7 with fail
     clear x10 e0 i0 i1 q4;obtain⟨b9,m9,S9,yl,HRx,HYL,HRA,HTH,HON,HSy,hy18⟩:=exA (U:=U) HR.o RB.o rfl;clear HR
     go_wp2_with (first
      | (with_reducible refine ldR (.tmp 2) w.heap.size 0 yl HRA.o HSy.o ?_)
      | (with_reducible refine stR (.tmp 4) (.tmp 46) (w.heap.size+1) 0 yl.toArray HTH.o (szN hy18) HON.o ?_;refine Hd.o ?_))
     generalize hW9:World.setCells _ _ _ _=W9;obtain⟨FR9,HKn,HRn⟩:=exB hW9 RB.o hy18 HRx.o (Or.inr (by omega)) HKP.o HKw.o (by omega);clear hW9;refine Zaa ?_;go_wp2;exact bodyPost_ret (v:=.agg yl.toArray) (Zb6 (p:=4) results82 FR9.o HSy.o rfl) rfl ⟨b9,m9,S9,by rw [HYL.o,HE.o],HKn.o,by rw [HE.o];exact HRn.o⟩
    | false=>
     have HQ:=Zaa q4;go_wp2
     go_round
     case rel=>exact⟨k+1,by go_num,by omega,fun j hj hjk=>by
                by_cases e:j=k
                . subst e;rw [<- HX.o];exact HQ.o
                . exact HAL.o j hj (by omega)⟩
     . simp [intOf];omega
  . have HE:Hd (Zcp U tx={ U with wi:=U.wi ++ [tx] }):=by unfold Hd Zcp;rw [HEW.o,q0,q1,q2,q3,ZhG (L:=U.wi) (f:=fun s=>s.toList == tx.toList) (fun i hi=>HAL.o i hi (by omega))];rfl
    have d5:decide ((k:Int) < (U.wi.length:Int))=false:=by simp;omega
    clear q0 q1 q2 q3;go_wp2_with (at_builtin;refine Hd.o ?_);clear x10 d5;obtain⟨w2,hw2,SB,HB2⟩:∃ w2,w2=wz.alloc (.cells #[.string tx] 9)/\Hd (Box w2 wz.heap.size #[.string tx])/\Hd (Below wz.heap.size wz w2):=⟨_,rfl,Box.new _ _ _ _ rfl,Zab _ _⟩
    rw [<- hw2];clear hw2;have hs2:=HB2.o.size;replace HR:=Zaa (HR.o.on HB2.o);replace RB:=Zaa (RB.o.on HB2.o);replace HKP:Hd (Zag K w w2):=HKP.o.trans (Zag.below HB2.o (fun k hk=>by have:=HKw.o k hk;omega));clear HB2
    obtain⟨v',w3,hrun,ht,hrow⟩:=ZaO Zcb (by decide) underlying26 ZgF rfl (L:=U.wi) (M:=[tx]) 26 HR.o.cp.o3 (some ⟨wz.heap.size,0,none⟩) 1 1 rfl (fun e=>by cases e) (fun ad e j u hu=>by
     injection e with e
     subst e;rw [Addr.add_lit,Nat.zero_add,SB.o.cell j]
     simpa [Zai,tyL] using hu) (Zfj _) (by simp;omega) (by decide)
    obtain⟨a',m',rfl⟩:=hrow.form;have HP:=Zaa (HR.o.part3 (L':=U.wi ++ [tx]) ht hrow);obtain⟨nl,hnl⟩:∃ nl,nl=(U.wi ++ [tx]).length:=⟨_,rfl⟩
    rw [<- hnl] at HP hrun;have hkp:Zag (fun k=>k < w2.heap.size/\¬ S 3 k) w2 w3:=Zag.touchS ht fun _ h=>h
    have BG:=Zaa (HR.o.box.kept hkp ⟨HR.o.box.lt,HR.o.far 3 (by decide)⟩);have RB3:=Zaa (RB.o.kept hkp ⟨RB.o.lt,(HR.o.prot _ (Or.inr (by omega))).2.2 3 (by decide)⟩);have x10:w3.cell? ⟨w.heap.size,10,none⟩=some (.slice (b 3) U.wi.length (m 3)):=BG.o.cell 10;have gf:=BG.o.free;have hs3:=ht.size;clear hnl hrow ht hkp SB;refine Zaa ?_;refine wpList_append_run rfl (.tmp 48) (.tmp 50) _ rfl rfl rfl hrun ?_;clear hrun
    go_upto_region 9 with fail
    clear x10 gf;obtain⟨w4,hw4⟩:∃ w4,w4=w3.setCell ⟨w.heap.size,10,none⟩ (.slice a' nl m'):=⟨_,rfl⟩
    rw [<- hw4] at HP |-;have RB4:Hd (Box w4 (w.heap.size+1) zR):=by unfold Hd;rw [hw4];exact RB3.o.setFar (by simp only [];omega) _
    have hs4:w3.heap.size=w4.heap.size:=by rw [hw4];simp [World.setCell]
    clear hw4 RB3 BG RB HR;have RB:=RB4;have HR:=Zaa HP.o.1;replace HKP:Hd (Zag K w w4):=HKP.o.trans (HP.o.2.less fun k hk=>Or.inl hk);clear HP RB4;obtain⟨b9,m9,S9,yl,HRx,HYL,HRA,HTH,HON,HSy,hy18⟩:=exA (U:={ U with wi:=U.wi ++ [tx] }) HR.o RB.o rfl;clear HR
    go_wp2_with (first
     | (with_reducible refine ldR (.tmp 2) w.heap.size 0 yl HRA.o HSy.o ?_)
     | (with_reducible refine stR (.tmp 4) (.tmp 53) (w.heap.size+1) 0 yl.toArray HTH.o (szN hy18) HON.o ?_;refine Hd.o ?_))
    generalize hW9:World.setCells _ _ _ _=W9;obtain⟨FR9,HKn,HRn⟩:=exB hW9 RB.o hy18 HRx.o (Or.inr (by omega)) HKP.o HKw.o (by omega);clear hW9;refine Zaa ?_;go_wp2;exact bodyPost_ret (v:=.agg yl.toArray) (Zb6 (p:=4) results82 FR9.o HSy.o rfl) rfl ⟨b9,m9,S9,by rw [HYL.o,HE.o],HKn.o,by rw [HE.o];exact HRn.o⟩
def Zfh (U:Rr) (M:Rm):Rr:=Zcp U M.tx
theorem ZiT (K:Nat->Prop) (lo:Nat) (w:World) (U:Rr) (b:Nat->Option Addr) (m:Nat->Nat) (S:Nat->Nat->Prop) (M:Rm) (a0:Option Addr) (k0:Nat) (h:Cz K lo w b m S U) (hM:M.kd=8) (hz:RrZ U) (hk0:0<=U.dk.kn) (hk1:U.dk.kn<=(U.dk.sl.length:Int)) (htx:M.tx.size<=1048576) (hn:U.wi.length<=1048576) :
 Calls prog 30 #[.agg (rrF U b m).toArray,.agg (rmL M a0 k0).toArray] w fun e w'=>∃ b' m' S',e=.returned (.agg (rrF (Zfh U M) b' m').toArray)/\Zag K w w'/\Cz K lo w' b' m' S' (Zfh U M):=by
 have HC:=Zaa h;have HM:=Zaa hM;clear hM;have HKw:Hd (∀ k,K k->k < w.heap.size):=fun k hk=>(h.prot k hk).1
 obtain⟨cs,hcs⟩:∃ cs,cs=rrF U b m:=⟨_,rfl⟩
 rw [<- hcs];have HCS:=Zaa hcs;clear hcs h
 show Calls prog 30 #[.agg cs.toArray,.agg #[.int .i64 M.kd,.int .i64 M.fr,.int .i64 M.tt,.int .i64 M.ba,.int .i64 M.ix,.int .i64 M.kn,.string M.tx,.slice a0 M.sl.length k0]] w _
 go_enter func30,ntmps30
 go_upto_region 1 with fail
 obtain⟨wz,hwz,FB,MB,RB,HB⟩:∃ wz,wz=((w.alloc (.cells cs.toArray 41)).alloc (.cells #[.int .i64 M.kd,.int .i64 M.fr,.int .i64 M.tt,.int .i64 M.ba,.int .i64 M.ix,.int .i64 M.kn,.string M.tx,.slice a0 M.sl.length k0] 45)).alloc (.cells zR 41)/\Hd (Box wz w.heap.size (rrF U b m).toArray)/\Hd (Box wz (w.heap.size+1) #[.int .i64 M.kd,.int .i64 M.fr,.int .i64 M.tt,.int .i64 M.ba,.int .i64 M.ix,.int .i64 M.kn,.string M.tx,.slice a0 M.sl.length k0])/\Hd (Box wz (w.heap.size+2) zR)/\Hd (Zw_ w wz):=⟨_,rfl,by unfold Hd;rw [<- HCS.o];exact (((Box.new w _ _ _ rfl).on (Zab _ _)).on (Zab _ _)),((Box.new _ _ _ _ (by simp)).on (Zab _ _)),Box.new _ _ _ _ (by simp),(bt (bt (Zab _ _) (Zab _ _)) (Zab _ _))⟩
 rw [<- hwz];clear hwz;have hwn:w.heap.size+3<=wz.heap.size:=by have:=RB.o.lt;omega
 have HR:Hd (Rz (fun k=>K k\/(w.heap.size+1<=k/\k < w.heap.size+3)) lo wz w.heap.size b m S U):=HC.o.rz HB.o FB.o Zl_ (fun k hk=>hk.imp (fun h=>h) (fun h=>⟨by omega,by omega,by omega⟩));have HKP:Hd (Zag K w wz):=Zag.below HB.o HKw.o;clear FB HB;have y0:wz.cell? ⟨w.heap.size+1,0,none⟩=some (.int .i64 8):=by rw [<- HM.o];exact MB.o.cell 0
 have HZ:=Zaa hz;clear hz;have y6:wz.cell? ⟨w.heap.size+1,6,none⟩=some (.string M.tx):=MB.o.cell 6;have HE:Hd (Zfh U M=Zcp U M.tx):=rfl
 go_upto_region 36 with fail
 clear y0;obtain⟨b8,m8,S8,HRx⟩:∃ b' m' S',Hd (Rz (fun k=>K k\/(w.heap.size+1<=k/\k < w.heap.size+3)) lo wz w.heap.size b' m' S' (U)):=⟨_,_,_,HR⟩
 clear HR;have HRA:Hd (World.rangeAt wz w.heap.size 0 (rrF (U) b8 m8)):=HRx.o.box.range rfl;have HSy:Hd ((prog.info? 41).map (·.size)=some (rrF (U) b8 m8).length):=by unfold Hd;exact Zar
 go_wp2_with (first
  | (with_reducible refine ldR (.tmp 2) w.heap.size 0 (rrF (U) b8 m8) HRA.o HSy.o ?_))
 clear HRA HSy;refine (Zi5 (fun k=>(fun k=>K k\/(w.heap.size+1<=k/\k < w.heap.size+3)) k\/k=w.heap.size) lo _ U b8 m8 S8 M.tx HRx.o.czg HZ.o hk0 hk1 htx hn).mono ?_;rintro e wa ⟨b7,m7,S7,rfl,hk7,hc7⟩;obtain⟨yl,HYL,HTH,HON,HSz,hy18,HEX⟩:=exC RB.o rfl hk7 hc7 HKP.o HKw.o (Or.inl (Or.inr ⟨by omega,by omega⟩)) (fun k h=>Or.inl (Or.inl h)) (by omega);rw [<- HYL.o];clear hk7 hc7 HRx RB HKP;go_wp2_with (with_reducible refine stR (.tmp 4) (.tmp 239) (w.heap.size+2) 0 yl.toArray HTH.o (szN hy18) HON.o ?_;refine Hd.o ?_);generalize hW9:World.setCells _ _ _ _=W9;obtain⟨FR9,HKn,HCn⟩:=HEX.o _ hW9;clear hW9;refine Zaa ?_;go_wp2;exact bodyPost_ret (v:=.agg yl.toArray) (Zb6 (p:=4) results30 FR9.o HSz.o rfl) rfl ⟨b7,m7,S7,by rw [HYL.o,HE.o],HKn.o,by rw [HE.o];exact HCn.o⟩
theorem Zk5 (n:Nat):zB n=decide (n=0):=by
 unfold zB;rw [Bool.eq_iff_iff];simp
theorem Zkm (n:Nat):decide (0 < n)=!decide (n=0):=by
 rw [Bool.eq_iff_iff];simp;omega
theorem Zkn (a b:Nat):decide (0 < a+b)=!(decide (a=0)&&decide (b=0)):=by
 rw [Bool.eq_iff_iff];simp only [decide_eq_true_eq,Bool.not_eq_true',Bool.and_eq_false_iff,decide_eq_false_iff_not];omega
theorem ZiI (a b c:Nat):decide (a+b+c=0)=(decide (a=0)&&(decide (b=0)&&decide (c=0))):=by
 rw [Bool.eq_iff_iff];simp only [decide_eq_true_eq,Bool.and_eq_true];omega
theorem ZiH (a b:Nat) (d:Int) (h:0<=d):(((a+b:Nat):Int)+d == 0)=(decide (a=0)&&(decide (b=0)&&d == 0)):=by
 rw [Bool.eq_iff_iff];simp only [beq_iff_eq,decide_eq_true_eq,Bool.and_eq_true];omega
theorem Zhy (U:Rr):ZaW U=ZcX U:=by
 cases h6:inB 0 1000000 U.hd with
 | false=>
  unfold ZaW ZcX Zfd;rw [h6];simp
 | true=>
  have hd0:0<=U.hd:=by unfold inB at h6;simp at h6;omega
  unfold ZaW ZcX Zfd Zhd ZcH Zhe Zkz ZeL ZdO Zcu;rw [ZiH _ _ _ hd0,Zkm,Zkn,ZiI];simp only [Zk5];generalize inB 1 5 U.of=b1;generalize inB 1 U.of U.nu=b2;generalize Za4 U.sf=b3;generalize Za4 U.dk=b4;generalize decide (U.he.length<=400)=b5;generalize (List.range U.he.length).all (ZbZ U)=b6;generalize ZbP U.wi=b7;rw [h6];generalize Zbt U.of U.ye=b8;generalize ZaT U.be=b9;generalize ZbN U.of U.ac=b10;generalize inB 1 U.dk.pr U.ba=b11;generalize decide (U.ac.length=0)=b12;generalize decide (U.ye.length=0)=b13;generalize decide (U.be.length=0)=b14;generalize decide (U.he.length=0)=b15;generalize decide (U.wi.length=0)=b16;generalize (U.ba == 0)=b17;generalize (U.hd == 0)=b18;generalize U.up=b19;generalize U.ld=b20;generalize U.ty=b21
  cases b1 <;> (try rfl)
  cases b2 <;> (try rfl)
  cases b3 <;> (try rfl)
  cases b4 <;> (try rfl)
  cases b5 <;> (try rfl)
  cases b7 <;> (try (cases b6 <;> rfl))
  cases b6 <;> (try rfl)
  cases b8 <;> (try rfl)
  cases b9 <;> (try rfl)
  cases b10 <;> (try rfl)
  cases b20 <;> cases b21 <;> cases b19 <;> cases b11 <;> cases b12 <;> cases b13 <;> cases b14 <;> (try rfl) <;> cases b17 <;> (try rfl) <;> cases b15 <;> (try rfl) <;> cases b16 <;> (try rfl) <;> cases b18 <;> rfl
theorem Zex (lo:Nat) (cs:List Value) (U:Rr) (w:World) (h:RrC lo w cs U) :
 Calls prog 38 #[.agg cs.toArray] w fun e w'=>e=.returned (.bool (ZaW U))/\Zw_ w w':=by
 rw [Zhy]
 cases ha:(Zgz U).all id with
 | false=>exact Zgr lo cs U w h ha
 | true=>
  unfold Zgz at ha;simp only [List.all_cons,List.all_nil,Bool.and_true,id,Bool.and_eq_true] at ha;obtain⟨⟨h1,h1'⟩,h2,h3,⟨h4,h4'⟩,h5,h6,h7,h8,h9⟩:=ha;have e1:(inB 1 5 U.of&&inB 1 U.of U.nu)=true:=by rw [h1,h1'];rfl
  have e4:(decide (U.he.length<=400)&&(List.range U.he.length).all (ZbZ U))=true:=by rw [h4,h4'];rfl
  cases ql:U.ld with
  | true=>exact Zhx lo cs U w h e1 h2 h3 e4 h5 h6 h7 h8 h9 ql
  | false=>
   cases qt:U.ty with
   | true=>exact Zi3 lo cs U w h e1 h2 h3 e4 h5 h6 h7 h8 h9 ql qt
   | false=>exact Zgs lo cs U w h e1 h2 h3 e4 h5 h6 h7 h8 h9 ql qt
theorem Zk4:(prog.info? 165).map (fun i=>match i.zero with | some (.agg Z)=>Z.size | _=>0)=some 240:=by kernel_rfl
theorem Zii:∃ Z:Array Value,Z.size=240/\∀ u,Sem.run prog (zeroValue 165) u=.ok (.agg Z) u:=by
 have h:=Zk4
 cases hi:prog.info? 165 with
 | none=>rw [hi] at h;simp at h
 | some i=>
  rw [hi] at h;simp only [Option.map_some,Option.some.injEq] at h
  split at h
  . rename_i Z hz
    exact⟨Z,h,fun u=>by simp [zeroValue,typeInfo,hi,hz]⟩
  . omega
theorem Zew (lo:Nat) (va vb:Value) (A B:List Rs) (w:World) (ha:Zaq lo w va A) (hb:Zaq lo w vb B) (hna:A.length<=1048576) (hnb:B.length<=1048576) :
 Calls prog 153 #[va,vb] w fun e w'=>∃ v',e=.returned v'/\Zw_ w w'/\(∃ n,w.heap.size<=n/\ZaE rsL 2 w' n w'.heap.size v' (Zax A B))/\∀ i (h:i < (Zax A B).length),ZaV (Zax A B)[i]:=by
 have HVA:=Zaa ha;have HVB:=Zaa hb;obtain⟨aa,ca,rfl⟩:=ha.form;obtain⟨ab,cb,rfl⟩:=hb.form;clear ha hb;obtain⟨Z,hZs,hZ⟩:=Zii;have HZS:=Zaa hZs;clear hZs;go_enter func153,ntmps153;go_wp2_with fail;refine (ZgV lo w _ _ _ A B _ HVA.o HVB.o hna hnb (Zab _ _) ⟨w.heap.size,120,rfl,ZjX w Z _ 120 HZS.o (by unfold maxLen;omega)⟩).mono ?_;rintro e w1 ⟨v1,rfl,hb1,hl1⟩;have HB1:=Zaa hb1;have HL1:=Zaa hl1
 have hsz:∀ i (h:i < (Zax A B).length),ZaV (Zax A B)[i]:=by
  obtain⟨g,cap,-,hr⟩:=hl1;exact hr.sz
 have HSZ:=Zaa hsz;obtain⟨g,cap,rfl,hr⟩:=hl1;clear hb1 hr hZ hsz;have HRl:Hd ((Zax A B).length<=1048576):=by unfold Hd;rw [ZbK];omega
 go_wp2_with fail;refine (Zcr w.heap.size _ (Zax A B) _ HL1.o.at HRl.o).mono ?_;rintro e w2 ⟨v2,rfl,hb2,hl2⟩;have HB2:Hd (Zw_ w w2):=bt HB1.o hb2;have HN2:=Zaa hl2;clear hb2 hl2;go_wp2;go_ret;exact⟨v2,rfl,HB2.o,⟨_,HB1.o.size,HN2.o⟩,HSZ.o⟩
end Go.Proofs.YtkiefplmnoapfaaGreat
