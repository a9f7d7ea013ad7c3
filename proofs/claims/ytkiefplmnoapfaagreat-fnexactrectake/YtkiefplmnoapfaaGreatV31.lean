import Derived.Test.YtkiefplmnoapfaaGreatV30
set_option maxHeartbeats 16000000
set_option maxRecDepth 100000
open Go.Proofs.Tryz
namespace Go.Proofs.YtkiefplmnoapfaaGreat
open Go.RowKit Go.Deep
def Zfc (U:Rr) (M:Rm):Rm:=⟨9,0,M.fr,U.dk.pr,0,0,⟨#[]⟩,[]⟩
def ZcW (U:Rr) (M:Rm):Rr:=if M.ba < U.dk.pr then Zav U (Zfc U M) else Zcq U M
theorem ZiQ (K:Nat->Prop) (lo:Nat) (w:World) (U:Rr) (b:Nat->Option Addr) (m:Nat->Nat) (S:Nat->Nat->Prop) (M:Rm) (a0:Option Addr) (k0:Nat) (h:Cz K lo w b m S U) (hM:M.kd=5) (h0:0<=U.dk.kn) (h1:U.dk.kn<=(U.dk.sl.length:Int)) (hl:U.dk.sl.length<=1000) (hmk:M.kn<=1000) (hwl:U.wi.length<=1000) :
 Calls prog 30 #[.agg (rrF U b m).toArray,.agg (rmL M a0 k0).toArray] w fun e w'=>∃ b' m' S',e=.returned (.agg (rrF (ZcW U M) b' m').toArray)/\Zag K w w'/\Cz K lo w' b' m' S' (ZcW U M):=by
 have HC:=Zaa h;have HM:=Zaa hM;clear hM;have HKw:Hd (∀ k,K k->k < w.heap.size):=fun k hk=>(h.prot k hk).1
 obtain⟨cs,hcs⟩:∃ cs,cs=rrF U b m:=⟨_,rfl⟩
 rw [<- hcs];have HCS:=Zaa hcs;clear hcs h
 show Calls prog 30 #[.agg cs.toArray,.agg #[.int .i64 M.kd,.int .i64 M.fr,.int .i64 M.tt,.int .i64 M.ba,.int .i64 M.ix,.int .i64 M.kn,.string M.tx,.slice a0 M.sl.length k0]] w _
 go_enter func30,ntmps30
 go_upto_region 1 with fail
 obtain⟨wz,hwz,FB,MB,RB,HB⟩:∃ wz,wz=((w.alloc (.cells cs.toArray 41)).alloc (.cells #[.int .i64 M.kd,.int .i64 M.fr,.int .i64 M.tt,.int .i64 M.ba,.int .i64 M.ix,.int .i64 M.kn,.string M.tx,.slice a0 M.sl.length k0] 45)).alloc (.cells zR 41)/\Hd (Box wz w.heap.size (rrF U b m).toArray)/\Hd (Box wz (w.heap.size+1) #[.int .i64 M.kd,.int .i64 M.fr,.int .i64 M.tt,.int .i64 M.ba,.int .i64 M.ix,.int .i64 M.kn,.string M.tx,.slice a0 M.sl.length k0])/\Hd (Box wz (w.heap.size+2) zR)/\Hd (Zw_ w wz):=⟨_,rfl,by unfold Hd;rw [<- HCS.o];exact (((Box.new w _ _ _ rfl).on (Zab _ _)).on (Zab _ _)),((Box.new _ _ _ _ (by simp)).on (Zab _ _)),Box.new _ _ _ _ (by simp),(bt (bt (Zab _ _) (Zab _ _)) (Zab _ _))⟩
 rw [<- hwz];clear hwz;have hwn:w.heap.size+3<=wz.heap.size:=by have:=RB.o.lt;omega
 have HR:Hd (Rz (fun k=>K k\/(w.heap.size+1<=k/\k < w.heap.size+3)) lo wz w.heap.size b m S U):=HC.o.rz HB.o FB.o Zl_ (fun k hk=>hk.imp (fun h=>h) (fun h=>⟨by omega,by omega,by omega⟩));have HKP:Hd (Zag K w wz):=Zag.below HB.o HKw.o;clear FB HB;have y0:wz.cell? ⟨w.heap.size+1,0,none⟩=some (.int .i64 5):=by rw [<- HM.o];exact MB.o.cell 0
 have y3:wz.cell? ⟨w.heap.size+1,3,none⟩=some (.int .i64 M.ba):=MB.o.cell 3;have y1:wz.cell? ⟨w.heap.size+1,1,none⟩=some (.int .i64 M.fr):=MB.o.cell 1;have x6:wz.cell? ⟨w.heap.size,6,none⟩=some (.int .i64 U.dk.pr):=HR.o.box.cell 6
 by_cases hp:M.ba < U.dk.pr
 case pos=>
  have d1:decide (M.ba < U.dk.pr)=true:=decide_eq_true hp;have HE:Hd (ZcW U M=Zav U (Zfc U M)):=by unfold Hd ZcW;rw [if_pos hp]
  go_upto_region 24 with fail
  clear y0 y3 d1;obtain⟨b8,m8,S8,HRx⟩:∃ b' m' S',Hd (Rz (fun k=>K k\/(w.heap.size+1<=k/\k < w.heap.size+3)) lo wz w.heap.size b' m' S' (U)):=⟨_,_,_,HR⟩
  clear HR;have HRA:Hd (World.rangeAt wz w.heap.size 0 (rrF (U) b8 m8)):=HRx.o.box.range rfl;have HSy:Hd ((prog.info? 41).map (·.size)=some (rrF (U) b8 m8).length):=by unfold Hd;exact Zar
  go_wp2_with (first
   | (with_reducible refine ldR (.tmp 2) w.heap.size 0 (rrF (U) b8 m8) HRA.o HSy.o ?_))
  clear HRA HSy;refine (ZbE (fun k=>(fun k=>K k\/(w.heap.size+1<=k/\k < w.heap.size+3)) k\/k=w.heap.size) lo _ U b8 m8 S8 (Zfc U M) none 0 0 0 HRx.o.czg Zl_ (ZaE.nil _ _ _ _ _) (fun k _ h=>absurd h (Nat.not_lt_zero _))).mono ?_;rintro e wa ⟨b7,m7,S7,rfl,hk7,hc7⟩;obtain⟨yl,HYL,HTH,HON,HSz,hy18,HEX⟩:=exC RB.o rfl hk7 hc7 HKP.o HKw.o (Or.inl (Or.inr ⟨by omega,by omega⟩)) (fun k h=>Or.inl (Or.inl h)) (by omega);rw [<- HYL.o];clear hk7 hc7 HRx RB HKP;go_wp2_with (with_reducible refine stR (.tmp 4) (.tmp 153) (w.heap.size+2) 0 yl.toArray HTH.o (szN hy18) HON.o ?_;refine Hd.o ?_);generalize hW9:World.setCells _ _ _ _=W9;obtain⟨FR9,HKn,HCn⟩:=HEX.o _ hW9;clear hW9;refine Zaa ?_;go_wp2;exact bodyPost_ret (v:=.agg yl.toArray) (Zb6 (p:=4) results30 FR9.o HSz.o rfl) rfl ⟨b7,m7,S7,by rw [HYL.o,HE.o],HKn.o,by rw [HE.o];exact HCn.o⟩
 have d1:decide (M.ba < U.dk.pr)=false:=decide_eq_false hp;have HE:Hd (ZcW U M=Zcq U M):=by unfold Hd ZcW;rw [if_neg hp]
 go_upto_region 25 with fail
 clear y0 y1 y3 d1 x6;have HRM:Hd (World.rangeAt wz (w.heap.size+1) 0 (rmL M a0 k0)):=MB.o.range rfl;have HSm:Hd ((prog.info? 45).map (·.size)=some (rmL M a0 k0).length):=by unfold Hd;show _=some 8;kernel_rfl
 obtain⟨b8,m8,S8,HRx⟩:∃ b' m' S',Hd (Rz (fun k=>K k\/(w.heap.size+1<=k/\k < w.heap.size+3)) lo wz w.heap.size b' m' S' (U)):=⟨_,_,_,HR⟩
 clear HR;have HRA:Hd (World.rangeAt wz w.heap.size 0 (rrF (U) b8 m8)):=HRx.o.box.range rfl;have HSy:Hd ((prog.info? 41).map (·.size)=some (rrF (U) b8 m8).length):=by unfold Hd;exact Zar
 go_wp2_with (first
  | (with_reducible refine ldR (.tmp 2) w.heap.size 0 (rrF (U) b8 m8) HRA.o HSy.o ?_)
  | (with_reducible refine wpList_load_mid (by with_reducible rfl) 45 (.tmp 3) (by with_reducible rfl) (w.heap.size+1) 0 (by with_unfolding_all rfl) (rmL M a0 k0) _ HRM.o underlying45 (by with_unfolding_all rfl) HSm.o ?_))
 clear HRA HSy;refine (ZhJ (fun k=>(fun k=>K k\/(w.heap.size+1<=k/\k < w.heap.size+3)) k\/k=w.heap.size) lo _ U b8 m8 S8 M a0 k0 HRx.o.czg h0 h1 hl hmk hwl).mono ?_;rintro e wa ⟨b7,m7,S7,rfl,hk7,hc7⟩;obtain⟨yl,HYL,HTH,HON,HSz,hy18,HEX⟩:=exC RB.o rfl hk7 hc7 HKP.o HKw.o (Or.inl (Or.inr ⟨by omega,by omega⟩)) (fun k h=>Or.inl (Or.inl h)) (by omega);rw [<- HYL.o];clear hk7 hc7 HRx RB HKP;go_wp2_with (with_reducible refine stR (.tmp 4) (.tmp 156) (w.heap.size+2) 0 yl.toArray HTH.o (szN hy18) HON.o ?_;refine Hd.o ?_);generalize hW9:World.setCells _ _ _ _=W9;obtain⟨FR9,HKn,HCn⟩:=HEX.o _ hW9;clear hW9;refine Zaa ?_;go_wp2;exact bodyPost_ret (v:=.agg yl.toArray) (Zb6 (p:=4) results30 FR9.o HSz.o rfl) rfl ⟨b7,m7,S7,by rw [HYL.o,HE.o],HKn.o,by rw [HE.o];exact HCn.o⟩
def ZcG (U:Rr) (M:Rm):Rr:=if U.ty=true/\M.ba=U.ba then ZcF U M.fr M.sl else U
theorem ZiN (K:Nat->Prop) (lo:Nat) (w:World) (U:Rr) (b:Nat->Option Addr) (m:Nat->Nat) (S:Nat->Nat->Prop) (M:Rm) (a0:Option Addr) (k0:Nat) (h:Cz K lo w b m S U) (hM:M.kd=2) (hvk:∀ W,Zag K w W->Zaq 0 W (.slice a0 M.sl.length k0) M.sl) (hz:RrZ U) (h0:0<=U.dk.kn) (h1:U.dk.kn<=(U.dk.sl.length:Int)) (hl:U.dk.sl.length<=1000) (hyl:U.ye.length<=1000) (hbl:U.be.length<=1000) (hll:M.sl.length<=1000) :
 Calls prog 30 #[.agg (rrF U b m).toArray,.agg (rmL M a0 k0).toArray] w fun e w'=>∃ b' m' S',e=.returned (.agg (rrF (ZcG U M) b' m').toArray)/\Zag K w w'/\Cz K lo w' b' m' S' (ZcG U M):=by
 have HC:=Zaa h;have HM:=Zaa hM;clear hM;have HKw:Hd (∀ k,K k->k < w.heap.size):=fun k hk=>(h.prot k hk).1
 obtain⟨cs,hcs⟩:∃ cs,cs=rrF U b m:=⟨_,rfl⟩
 rw [<- hcs];have HCS:=Zaa hcs;clear hcs h
 show Calls prog 30 #[.agg cs.toArray,.agg #[.int .i64 M.kd,.int .i64 M.fr,.int .i64 M.tt,.int .i64 M.ba,.int .i64 M.ix,.int .i64 M.kn,.string M.tx,.slice a0 M.sl.length k0]] w _
 go_enter func30,ntmps30
 go_upto_region 1 with fail
 obtain⟨wz,hwz,FB,MB,RB,HB⟩:∃ wz,wz=((w.alloc (.cells cs.toArray 41)).alloc (.cells #[.int .i64 M.kd,.int .i64 M.fr,.int .i64 M.tt,.int .i64 M.ba,.int .i64 M.ix,.int .i64 M.kn,.string M.tx,.slice a0 M.sl.length k0] 45)).alloc (.cells zR 41)/\Hd (Box wz w.heap.size (rrF U b m).toArray)/\Hd (Box wz (w.heap.size+1) #[.int .i64 M.kd,.int .i64 M.fr,.int .i64 M.tt,.int .i64 M.ba,.int .i64 M.ix,.int .i64 M.kn,.string M.tx,.slice a0 M.sl.length k0])/\Hd (Box wz (w.heap.size+2) zR)/\Hd (Zw_ w wz):=⟨_,rfl,by unfold Hd;rw [<- HCS.o];exact (((Box.new w _ _ _ rfl).on (Zab _ _)).on (Zab _ _)),((Box.new _ _ _ _ (by simp)).on (Zab _ _)),Box.new _ _ _ _ (by simp),(bt (bt (Zab _ _) (Zab _ _)) (Zab _ _))⟩
 rw [<- hwz];clear hwz;have hwn:w.heap.size+3<=wz.heap.size:=by have:=RB.o.lt;omega
 have HR:Hd (Rz (fun k=>K k\/(w.heap.size+1<=k/\k < w.heap.size+3)) lo wz w.heap.size b m S U):=HC.o.rz HB.o FB.o Zl_ (fun k hk=>hk.imp (fun h=>h) (fun h=>⟨by omega,by omega,by omega⟩));have HKP:Hd (Zag K w wz):=Zag.below HB.o HKw.o;clear FB HB;have y0:wz.cell? ⟨w.heap.size+1,0,none⟩=some (.int .i64 2):=by rw [<- HM.o];exact MB.o.cell 0
 have HVK:=Zaa hvk;have HZ:=Zaa hz;clear hvk hz;have y3:wz.cell? ⟨w.heap.size+1,3,none⟩=some (.int .i64 M.ba):=MB.o.cell 3;have y1:wz.cell? ⟨w.heap.size+1,1,none⟩=some (.int .i64 M.fr):=MB.o.cell 1;have x12:wz.cell? ⟨w.heap.size,12,none⟩=some (.bool U.ty):=HR.o.box.cell 12;have x13:wz.cell? ⟨w.heap.size,13,none⟩=some (.int .i64 U.ba):=HR.o.box.cell 13;have y7:wz.cell? ⟨w.heap.size+1,7,none⟩=some (.slice a0 M.sl.length k0):=MB.o.cell 7
 cases q1:U.ty with
 | false=>
  rw [q1] at x12;have HE:Hd (ZcG U M=U):=by unfold Hd ZcG;rw [if_neg (fun h=>by rw [q1] at h;exact absurd h.1 (by decide))]
  go_upto_region 42 with fail
  clear y0 y1 y3 y7 x12 x13;obtain⟨b9,m9,S9,yl,HRx,HYL,HRA,HTH,HON,HSy,hy18⟩:=exA (U:=U) HR.o RB.o rfl;clear HR
  go_wp2_with (first
   | (with_reducible refine ldR (.tmp 2) w.heap.size 0 yl HRA.o HSy.o ?_)
   | (with_reducible refine stR (.tmp 4) (.tmp 267) (w.heap.size+2) 0 yl.toArray HTH.o (szN hy18) HON.o ?_;refine Hd.o ?_))
  generalize hW9:World.setCells _ _ _ _=W9;obtain⟨FR9,HKn,HRn⟩:=exB hW9 RB.o hy18 HRx.o (Or.inr (by omega)) HKP.o HKw.o (by omega);clear hW9;refine Zaa ?_;go_wp2;exact bodyPost_ret (v:=.agg yl.toArray) (Zb6 (p:=4) results30 FR9.o HSy.o rfl) rfl ⟨b9,m9,S9,by rw [HYL.o,HE.o],HKn.o,by rw [HE.o];exact HRn.o⟩
 | true=>
 rw [q1] at x12
 cases q2:(M.ba == U.ba) with
 | false=>
  have HE:Hd (ZcG U M=U):=by unfold Hd ZcG;rw [if_neg (fun h=>by rw [h.2] at q2;simp at q2)]
  go_upto_region 42 with fail
  clear y0 y1 y3 y7 x12 x13;obtain⟨b9,m9,S9,yl,HRx,HYL,HRA,HTH,HON,HSy,hy18⟩:=exA (U:=U) HR.o RB.o rfl;clear HR
  go_wp2_with (first
   | (with_reducible refine ldR (.tmp 2) w.heap.size 0 yl HRA.o HSy.o ?_)
   | (with_reducible refine stR (.tmp 4) (.tmp 267) (w.heap.size+2) 0 yl.toArray HTH.o (szN hy18) HON.o ?_;refine Hd.o ?_))
  generalize hW9:World.setCells _ _ _ _=W9;obtain⟨FR9,HKn,HRn⟩:=exB hW9 RB.o hy18 HRx.o (Or.inr (by omega)) HKP.o HKw.o (by omega);clear hW9;refine Zaa ?_;go_wp2;exact bodyPost_ret (v:=.agg yl.toArray) (Zb6 (p:=4) results30 FR9.o HSy.o rfl) rfl ⟨b9,m9,S9,by rw [HYL.o,HE.o],HKn.o,by rw [HE.o];exact HRn.o⟩
 | true=>
 have HE:Hd (ZcG U M=ZcF U M.fr M.sl):=by unfold Hd ZcG;rw [if_pos ⟨q1,eq_of_beq q2⟩]
 go_upto_region 9 with fail
 clear y0 y3 x12 x13 q1 q2;obtain⟨b8,m8,S8,HRx⟩:∃ b' m' S',Hd (Rz (fun k=>K k\/(w.heap.size+1<=k/\k < w.heap.size+3)) lo wz w.heap.size b' m' S' (U)):=⟨_,_,_,HR⟩
 clear HR;have HRA:Hd (World.rangeAt wz w.heap.size 0 (rrF (U) b8 m8)):=HRx.o.box.range rfl;have HSy:Hd ((prog.info? 41).map (·.size)=some (rrF (U) b8 m8).length):=by unfold Hd;exact Zar
 go_wp2_with (first
  | (with_reducible refine ldR (.tmp 2) w.heap.size 0 (rrF (U) b8 m8) HRA.o HSy.o ?_))
 clear HRA HSy;refine (Zic (fun k=>(fun k=>K k\/(w.heap.size+1<=k/\k < w.heap.size+3)) k\/k=w.heap.size) lo _ U b8 m8 S8 M.fr a0 k0 M.sl HRx.o.czg (HVK.o _ HKP.o) (fun W hk=>HVK.o W (HKP.o.trans (hk.less fun k h=>Or.inl (Or.inl h)))) HZ.o h0 h1 hl hyl hbl hll).mono ?_;rintro e wa ⟨b7,m7,S7,rfl,hk7,hc7⟩;obtain⟨yl,HYL,HTH,HON,HSz,hy18,HEX⟩:=exC RB.o rfl hk7 hc7 HKP.o HKw.o (Or.inl (Or.inr ⟨by omega,by omega⟩)) (fun k h=>Or.inl (Or.inl h)) (by omega);rw [<- HYL.o];clear hk7 hc7 HRx RB HKP;go_wp2_with (with_reducible refine stR (.tmp 4) (.tmp 55) (w.heap.size+2) 0 yl.toArray HTH.o (szN hy18) HON.o ?_;refine Hd.o ?_);generalize hW9:World.setCells _ _ _ _=W9;obtain⟨FR9,HKn,HCn⟩:=HEX.o _ hW9;clear hW9;refine Zaa ?_;go_wp2
 exact bodyPost_ret (v:=.agg yl.toArray) (Zb6 (p:=4) results30 FR9.o HSz.o rfl) rfl ⟨b7,m7,S7,by rw [HYL.o,HE.o],HKn.o,by rw [HE.o];exact HCn.o⟩
theorem Zgq {L:List Zy_}{i:Nat} (h:i < L.length):txA L i=L[i]:=by unfold txA;simp [List.getD,List.getElem?_eq_getElem h]
theorem ZhU (L:List Zy_) (x:Zy_):Zg5 L L.length x=L.any (fun s=>s.toList == x.toList):=by
 unfold Zg5
 cases h:L.any (fun s=>s.toList == x.toList) with
 | true=>
  rw [List.any_eq_true] at h;obtain⟨s,hs,he⟩:=h;obtain⟨i,hi,rfl⟩:=List.mem_iff_getElem.1 hs;rw [ZaR hi (by rw [Zgq hi,he];rfl)]
  rfl
 | false=>
  rw [List.any_eq_false] at h;rw [Zbk (fun i hi=>by rw [Zgq hi];have:=h L[i] (List.getElem_mem hi);simpa using this)]
  rfl
def Zdz (U:Rr) (tx:Zy_):Bool:=inB 1 160 (tx.size:Int)&&(decide ((U.wi.length:Int) < 20)&&(!(U.wi.any (fun s=>s.toList == tx.toList))&&!ZgS (U.dk.sl.take U.dk.kn.toNat) tx))
def Zeq (U:Rr) (tx:Zy_):Rr:=if Zdz U tx then { U with wi:=U.wi ++ [tx] } else U
end Go.Proofs.YtkiefplmnoapfaaGreat
