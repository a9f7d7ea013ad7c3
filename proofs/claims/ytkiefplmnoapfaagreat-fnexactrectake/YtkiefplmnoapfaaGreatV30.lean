import Derived.Test.YtkiefplmnoapfaaGreatV27
import Derived.Test.YtkiefplmnoapfaaGreatV29
set_option maxHeartbeats 16000000
set_option maxRecDepth 100000
open Go.Proofs.Tryz
namespace Go.Proofs.YtkiefplmnoapfaaGreat
open Go.RowKit Go.Deep
def ZkR (U:Rr) (n:Int):Rr:={ U with ye:=Zcf U.ye n }
def Zcd (U:Rr) (n:Int) (L:List Rs):Rr:={ ZkR U n with be:=Zax U.be L }
def ZeI (U:Rr):Rr:={ ZaB U with ld:=true,ba:=U.ba }
def Zca (U:Rr) (B:List Rs) (k0:Nat):Nat->Rr
 | 0=>U
 | i+1=>match B[k0+i]? with
  | some s=>ZdM (Zca U B k0 i) (k0+i+1) ⟨U.ba,s.tx⟩
  | none=>Zca U B k0 i
def Ze3 (U:Rr) (B:List Rs):Rr:=Zca U B U.dk.kn.toNat (B.length - U.dk.kn.toNat)
def ZcF (U:Rr) (n:Int) (L:List Rs):Rr:=if 2*((Zcf U.ye n).length:Int)<=U.of then Zcd U n L else Ze3 (ZeI (Zcd U n L)) (Zax U.be L)
theorem Rz.guard {K:Nat->Prop}{lo g:Nat}{w:World}{γ:Nat}{b:Nat->Option Addr}{m:Nat->Nat}{S:Nat->Nat->Prop}{U:Rr}{R:Nat->Prop} (h:Rz (fun k=>K k\/R k) lo w γ b m S U) (h1:g < w.heap.size) (h2:g≠γ) (h3:∀ i,i < 7->¬ S i g):Rz (fun k=>K k\/(R k\/k=g)) lo w γ b m S U:=
 ⟨h.box,h.cp,h.low,h.far,fun k hk=>by
  rcases hk with hk | hk | rfl
  . exact h.prot k (Or.inl hk)
  . exact h.prot k (Or.inr hk)
  . exact⟨h1,h2,h3⟩⟩
theorem Zcm (L:List Int) (n:Int):(Zcf L n).length<=L.length+1:=by
 unfold Zcf
 split
 . omega
 . simp;have:=Zia L n;omega
theorem Zee (U:Rr) (B:List Rs) (k0:Nat) (hB:B.length<=1000) (hU:U.dk.sl.length<=1000):∀ i,(Zca U B k0 i).dk.sl.length<=1000
 | 0=>hU
 | i+1=>by
  unfold Zca;have ih:=Zee U B k0 hB hU i
  split
  . rename_i s hs
    have:=(List.getElem?_eq_some_iff.1 hs).1;simp only [ZdM,Zko,List.length_set,List.length_append,List.length_replicate]
    omega
  . exact ih
theorem Ze2 (U:Rr) (B:List Rs) (k0:Nat):∀ i,(Zca U B k0 i).ba=U.ba
 | 0=>rfl
 | i+1=>by unfold Zca;split <;> exact Ze2 U B k0 i
theorem Zic (K:Nat->Prop) (lo:Nat) (w:World) (U:Rr) (b:Nat->Option Addr) (m:Nat->Nat) (S:Nat->Nat->Prop) (n:Int) (va:Option Addr) (vc:Nat) (L:List Rs) (h:Cz K lo w b m S U) (_hv:Zaq 0 w (.slice va L.length vc) L) (hvk:∀ W,Zag K w W->Zaq 0 W (.slice va L.length vc) L) (hz:RrZ U) (h0:0<=U.dk.kn) (h1:U.dk.kn<=(U.dk.sl.length:Int)) (hl:U.dk.sl.length<=1000) (hyl:U.ye.length<=1000) (hbl:U.be.length<=1000) (hll:L.length<=1000) :
 Calls prog 59 #[.agg (rrF U b m).toArray,.int .i64 n,.slice va L.length vc] w fun e w'=>∃ b' m' S',e=.returned (.agg (rrF (ZcF U n L) b' m').toArray)/\Zag K w w'/\Cz K lo w' b' m' S' (ZcF U n L):=by
 have HC:=Zaa h;have HKw:Hd (∀ k,K k->k < w.heap.size):=fun k hk=>(h.prot k hk).1
 obtain⟨cs,hcs⟩:∃ cs,cs=rrF U b m:=⟨_,rfl⟩
 rw [<- hcs];have HCS:=Zaa hcs;clear hcs h;go_enter func59,ntmps59
 go_upto_region 1 with fail
 obtain⟨wz,hwz,FB,RB,HB⟩:∃ wz,wz=(w.alloc (.cells cs.toArray 41)).alloc (.cells zR 41)/\Hd (Box wz w.heap.size (rrF U b m).toArray)/\Hd (Box wz (w.heap.size+1) zR)/\Hd (Zw_ w wz):=⟨_,rfl,by unfold Hd;rw [<- HCS.o];exact ((Box.new w _ _ _ rfl).on (Zab _ _)),Box.new _ _ _ _ (by simp),(bt (Zab _ _) (Zab _ _))⟩
 rw [<- hwz];clear hwz;have hwn:w.heap.size+2<=wz.heap.size:=by have:=RB.o.lt;omega
 have HR:Hd (Rz (fun k=>K k\/(w.heap.size+1<=k/\k < w.heap.size+2)) lo wz w.heap.size b m S U):=HC.o.rz HB.o FB.o Zl_ (fun k hk=>hk.imp (fun h=>h) (fun h=>⟨by omega,by omega,by omega⟩));have HKP:Hd (Zag K w wz):=Zag.below HB.o HKw.o;have HKPz:=HKP;clear FB HB;have HVK:=Zaa hvk;have HZ:=Zaa hz;clear hvk hz _hv;have x14:wz.cell? ⟨w.heap.size,14,none⟩=some (.slice (b 4) U.ye.length (m 4)):=HR.o.box.cell 14;go_wp2_with fail;clear x14;refine (ZdV lo _ U.ye n _ ((HR.o.cp.o4.ris).at (fun k hk=>(HR.o.cp.seg 4 (by decide) k hk).1)) (by omega)).mono ?_;rintro e w1 ⟨v1,rfl,hb1,hrow⟩;have hs1:=hb1.size
 have hrow2:NRS inL 1 w1 (Gr (S 4) wz w1) v1 (Zcf U.ye n):=by
  rcases hrow with ⟨e1,e2⟩ | h
  . rw [e1,e2]
    exact (HR.o.cp.o4.kept (Zag.below hb1 fun _ h=>h) (fun k hk=>(HR.o.cp.seg 4 (by decide) k hk).2)).wide (fun k h=>Or.inl h)
  . exact ZaE.set1 (Or.inr h) (fun k p q=>Or.inr ⟨p,q⟩)
 obtain⟨a1,c1,rfl⟩:=hrow2.form;have HP:=Zaa (HR.o.part4 (Zal.below hb1) hrow2);have BG:=Zaa (HR.o.box.on hb1);have RB1:=Zaa (RB.o.on hb1);have HKP1:Hd (Zag K w w1):=HKP.o.trans (Zag.below hb1 (fun k hk=>by have:=HKw.o k hk;omega));have x14:w1.cell? ⟨w.heap.size,14,none⟩=some (.slice (b 4) U.ye.length (m 4)):=BG.o.cell 14;have gf:=BG.o.free;clear hrow hrow2 hb1
 go_upto_region 2 with fail
 clear x14 gf;obtain⟨w2,hw2⟩:∃ x,x=w1.setCell ⟨w.heap.size,14,none⟩ (.slice a1 (Zcf U.ye n).length c1):=⟨_,rfl⟩
 rw [<- hw2] at HP |-;have RB2:Hd (Box w2 (w.heap.size+1) zR):=by unfold Hd;rw [hw2];exact RB1.o.setFar (by simp only [];omega) _
 have hs2:w1.heap.size=w2.heap.size:=by rw [hw2];simp [World.setCell]
 clear hw2 RB RB1 HR BG;have RB:=RB2;obtain⟨b1,m1,S1,HR⟩:∃ b' m' S',Hd (Rz (fun k=>K k\/(w.heap.size+1<=k/\k < w.heap.size+2)) lo w2 w.heap.size b' m' S' (ZkR U n)):=⟨_,_,_,HP.o.1⟩
 have HKP2:Hd (Zag K w w2):=Zag.trans HKPz.o (HP.o.2.less fun k hk=>Or.inl hk);clear HP RB2 HKP HKP1;have HKP:=HKP2;clear HKP2;have hsz2:w.heap.size+2<=w2.heap.size:=by omega
 have x15:w2.cell? ⟨w.heap.size,15,none⟩=some (.slice (b1 5) U.be.length (m1 5)):=HR.o.box.cell 15;go_wp2_with fail;clear x15;refine (Zey 0 _ _ U.be L _ ((HR.o.cp.o5.rss HZ.o.z5).at (fun k hk=>Nat.zero_le _)) (HVK.o _ HKP.o) (by omega) (by omega)).mono ?_;rintro e w3 ⟨v3,rfl,hb3,hlr⟩;obtain⟨B,hB⟩:∃ B,B=Zax U.be L:=⟨_,rfl⟩
 rw [<- hB] at hlr;have hBl:B.length<=1000:=by rw [hB,ZbK];omega
 have HBE:Hd (Zcd U n L={ ZkR U n with be:=B }):=by unfold Hd Zcd;rw [hB]
 have HPU:Hd (ZcF U n L=if 2*((Zcf U.ye n).length:Int)<=U.of then Zcd U n L else Ze3 (ZeI (Zcd U n L)) B):=by unfold Hd ZcF;rw [hB]
 clear hB;obtain⟨g5,cap5,rfl,hf5⟩:=hlr.frow;have h5a:=hf5.bs;have h5b:=hf5.lt;have HBF0:Hd (FR rsL 2 w3 g5 (g5+1) g5 cap5 B):=hf5.own';have hrow5:NRS rsL 2 w3 (Gr (S1 5) w2 w3) (.slice (some ⟨g5,0,none⟩) B.length cap5) B:=Or.inr ⟨g5,Or.inr ⟨h5a,h5b⟩,g5,cap5,rfl,hf5.own'⟩;have hs3:=hb3.size;have HP:=Zaa (HR.o.part5 (Zal.below hb3) hrow5);have BG:=Zaa (HR.o.box.on hb3);have RB1:=Zaa (RB.o.on hb3);have x15:w3.cell? ⟨w.heap.size,15,none⟩=some (.slice (b1 5) U.be.length (m1 5)):=BG.o.cell 15;have gf:=BG.o.free;clear hrow5 hb3 hlr hf5
 go_upto_region 3 with fail
 clear x15 gf;obtain⟨w4,hw4⟩:∃ x,x=w3.setCell ⟨w.heap.size,15,none⟩ (.slice (some ⟨g5,0,none⟩) B.length cap5):=⟨_,rfl⟩
 rw [<- hw4] at HP |-;have RB2:Hd (Box w4 (w.heap.size+1) zR):=by unfold Hd;rw [hw4];exact RB1.o.setFar (by simp only [];omega) _
 have HBF:Hd (FR rsL 2 w4 g5 (g5+1) g5 cap5 B):=by unfold Hd;rw [hw4];exact HBF0.o.touch (Zad.setCell w.heap.size (w.heap.size+1) w3 _ _ ⟨Nat.le_refl _,Nat.lt_succ_self _⟩) (Or.inr (by omega))
 have hs4:w3.heap.size=w4.heap.size:=by rw [hw4];simp [World.setCell]
 clear hw4 RB RB1 HR BG HBF0;have RB:=RB2;have HR0:=Zaa HP.o.1;have HS5g:Hd (upd S1 5 (Gr (S1 5) w2 w3) 5 g5):=by unfold Hd;rw [ZaA];exact Or.inr ⟨h5a,h5b⟩
 rw [<- HBE.o] at HR0;replace HKP:Hd (Zag K w w4):=HKP.o.trans (HP.o.2.less fun k hk=>Or.inl hk);clear HP RB2;obtain⟨b2,m2,S2,HR,HG5⟩:∃ b' m' S',Hd (Rz (fun k=>K k\/(w.heap.size+1<=k/\k < w.heap.size+2)) lo w4 w.heap.size b' m' S' (Zcd U n L))/\Hd (b' 5=some ⟨g5,0,none⟩/\m' 5=cap5/\S' 5 g5):=⟨_,_,_,HR0,rfl,rfl,HS5g.o⟩
 clear HR0 HS5g;have hsz4:w.heap.size+2<=w4.heap.size:=by omega
 have hal:=Zcm U.ye n;have x14:w4.cell? ⟨w.heap.size,14,none⟩=some (.slice (b2 4) (Zcf U.ye n).length (m2 4)):=HR.o.box.cell 14;have x1:w4.cell? ⟨w.heap.size,1,none⟩=some (.int .i64 U.of):=HR.o.box.cell 1;have wf:IntKind.wrap .i64 (2*((Zcf U.ye n).length:Int))=2*((Zcf U.ye n).length:Int):=by rw [IntKind.wrap_i64];omega
 by_cases h3:2*((Zcf U.ye n).length:Int)<=U.of
 case pos=>
  have d3:decide (2*((Zcf U.ye n).length:Int)<=U.of)=true:=decide_eq_true h3;have HE:Hd (ZcF U n L=Zcd U n L):=by unfold Hd;rw [HPU.o,if_pos h3]
  go_upto_region 4 with fail
  clear x14 x1 wf d3;obtain⟨b9,m9,S9,yl,HRx,HYL,HRA,HTH,HON,HSy,hy18⟩:=exA (U:=Zcd U n L) HR.o RB.o rfl;clear HR
  go_wp2_with (first
   | (with_reducible refine ldR (.tmp 3) w.heap.size 0 yl HRA.o HSy.o ?_)
   | (with_reducible refine stR (.tmp 6) (.tmp 27) (w.heap.size+1) 0 yl.toArray HTH.o (szN hy18) HON.o ?_;refine Hd.o ?_))
  generalize hW9:World.setCells _ _ _ _=W9;obtain⟨FR9,HKn,HRn⟩:=exB hW9 RB.o hy18 HRx.o (Or.inr (by omega)) HKP.o HKw.o (by omega);clear hW9;refine Zaa ?_;go_wp2;exact bodyPost_ret (v:=.agg yl.toArray) (Zb6 (p:=6) results59 FR9.o HSy.o rfl) rfl ⟨b9,m9,S9,by rw [HYL.o,HE.o],HKn.o,by rw [HE.o];exact HRn.o⟩
 have d3:decide (2*((Zcf U.ye n).length:Int)<=U.of)=false:=decide_eq_false h3;have HE0:Hd (ZcF U n L=Ze3 (ZeI (Zcd U n L)) B):=by unfold Hd;rw [HPU.o,if_neg h3]
 have x13:w4.cell? ⟨w.heap.size,13,none⟩=some (.int .i64 U.ba):=HR.o.box.cell 13;have x15:w4.cell? ⟨w.heap.size,15,none⟩=some (.slice (some ⟨g5,0,none⟩) B.length cap5):=by rw [HR.o.box.cell 15,HBE.o,<- HG5.o.1,<- HG5.o.2.1];rfl
 go_upto_region 7 with fail
 clear x14 x1 wf d3 x13 x15;obtain⟨X,hX⟩:∃ X,X=Zcd U n L:=⟨_,rfl⟩
 have xba:X.ba=U.ba:=by rw [hX];rfl
 have xkn:X.dk.kn=U.dk.kn:=by rw [hX];rfl
 have xsl:X.dk.sl=U.dk.sl:=by rw [hX];rfl
 rw [<- hX] at HR HE0;clear hX HBE HPU
 have HPre:Hd (∀ (S':Nat->Nat->Prop),Cz (fun k=>(fun k=>K k\/(w.heap.size+1<=k/\k < w.heap.size+2)) k\/k=w.heap.size) lo w4 b2 m2 S2 X->(∀ k,S' 5 k->w4.heap.size<=k)->(∀ i,i < 7->∀ k,S' i k->k < w4.heap.size->S2 i k)->∀ i,i < 7->¬ S' i g5):=fun S' hc h5 hI i hi hS=>by
  by_cases e:i=5
  . subst e;have:=h5 g5 hS;omega
  . exact hc.cp.ap i 5 hi (by decide) e g5 (hI i hi g5 hS (by omega)) HG5.o.2.2
 obtain⟨b8,m8,S8,HRx,HPr⟩:∃ b' m' S',Hd (Rz (fun k=>K k\/(w.heap.size+1<=k/\k < w.heap.size+2)) lo w4 w.heap.size b' m' S' (X))/\Hd (∀ (T:Nat->Nat->Prop),(∀ k,T 5 k->w4.heap.size<=k)->(∀ i,i < 7->∀ k,T i k->k < w4.heap.size->S' i k)->∀ i,i < 7->¬ T i g5):=⟨_,_,_,HR,fun T=>HPre.o T HR.o.czg⟩
 clear HR HPre;have HRA:Hd (World.rangeAt w4 w.heap.size 0 (rrF (X) b8 m8)):=HRx.o.box.range rfl;have HSy:Hd ((prog.info? 41).map (·.size)=some (rrF (X) b8 m8).length):=by unfold Hd;exact Zar
 go_wp2_with (first
  | (with_reducible refine ldR (.tmp 3) w.heap.size 0 (rrF (X) b8 m8) HRA.o HSy.o ?_))
 clear HRA HSy;refine (ZhM (fun k=>(fun k=>K k\/(w.heap.size+1<=k/\k < w.heap.size+2)) k\/k=w.heap.size) lo _ X b8 m8 S8 HRx.o.czg).mono ?_;rintro e w5a ⟨b7,m7,S7,rfl,hk,hc,hbw,hs5,hsi⟩;have HNG:=Zaa (HPr.o S7 hs5 hsi);have HBF5:=Zaa (HBF.o.below (lo:=g5) (hi:=g5+1) hbw);have HKc:=Zaa hk;have HCc:=Zaa hc;have HBX:Hd (Box w5a w.heap.size (rrF (X) b8 m8).toArray):=HRx.o.box.kept hk (Or.inr rfl);replace RB:=Zaa (RB.o.kept hk (Or.inl (Or.inr (by omega))));replace HKP:Hd (Zag K w w5a):=HKP.o.trans (hk.less fun k h=>Or.inl (Or.inl h));have hsw5a:w.heap.size+2<=w5a.heap.size:=Nat.le_trans (by omega) hk.size;have HKne:Hd (∀ k,(fun k=>K k\/(w.heap.size+1<=k/\k < w.heap.size+2)) k->k≠w.heap.size):=fun k h=>(HRx.o.prot k h).2.1
 clear hk hc HRx;have HTH:Hd (World.there w5a w.heap.size 0 (rrF (ZaB X) b7 m7).toArray.size):=HBX.o.there rfl;have HON:Hd ((rrF (ZaB X) b7 m7).toArray.all (·.oneCell')=true):=Zbq _ _ _;go_wp2_with (with_reducible refine stR (.tmp 3) (.tmp 33) w.heap.size 0 (rrF (ZaB X) b7 m7).toArray HTH.o (szN (Zbp _ _ _)) HON.o ?_;refine Hd.o ?_);generalize hW9:World.setCells _ _ _ _=w5;obtain⟨hr,ht⟩:=HCc.o.put HBX.o rfl HKne.o hW9.symm;have HR:=Zaa hr;replace RB:=Zaa (RB.o.tch2 ht (Or.inr (by omega)));replace HBF5:=Zaa (HBF5.o.touch ht (Or.inr (by omega)));replace HKP:Hd (Zag K w w5):=HKP.o.trans (Zag.box ht (fun k h=>⟨by have:=HKw.o k h;omega,by have:=HKw.o k h;omega⟩));have hsw5:w.heap.size+2<=w5.heap.size:=Nat.le_trans hsw5a ht.size;clear hr ht hW9 HBX HKc HCc HTH HON HKne;refine Zaa ?_;clear HBF;have HBF:=HBF5;clear HBF5
 have hg5:g5 < w5.heap.size:=HBF.o.lt
 obtain⟨b3,m3,S3,HRg⟩:∃ b' m' S',Hd (Rz (fun k=>K k\/((w.heap.size+1<=k/\k < w.heap.size+2)\/k=g5)) lo w5 w.heap.size b' m' S' (ZaB X)):=⟨_,_,_,HR.o.guard hg5 (by omega) HNG.o⟩
 clear HR HNG HPr HG5;have HR:=HRg;clear HRg;have xc:w5.cell? ⟨w.heap.size,11,none⟩=some (.bool false):=HR.o.box.cell 11;have gf:=HR.o.box.free
 go_upto_region 9 with fail
 clear xc gf;obtain⟨w6,hwn'⟩:∃ wx_,wx_=w5.setCell ⟨w.heap.size,11,none⟩ (.bool true):=⟨_,rfl⟩
 rw [<- hwn'];have hp:=HR.o.scal (U':={ ZaB X with ld:=true }) (j:=11) (v:=.bool true) (by show 11 < 18;omega) rfl (fun _ h=>⟨h.seg,h.ap,h.o0,h.o1,h.o2,h.o3,h.o4,h.o5,h.o6⟩);rw [<- hwn'] at hp;have hss:w5.heap.size=w6.heap.size:=by rw [hwn'];simp [World.setCell]
 have RBn:Hd (Box w6 (w.heap.size+1) zR):=by unfold Hd;rw [hwn'];exact RB.o.setFar (by simp only [];omega) _
 have hsw6:w.heap.size+2<=w6.heap.size:=by omega
 clear hwn' RB HR hss;have RB:=RBn;have HR:=Zaa hp.1;replace HBF:=Zaa (HBF.o.kept hp.2 (Or.inr (Or.inr rfl)));replace HKP:Hd (Zag K w w6):=HKP.o.trans (hp.2.less fun k hk=>Or.inl hk);clear hp RBn;have xc:w6.cell? ⟨w.heap.size,13,none⟩=some (.int .i64 0):=HR.o.box.cell 13;have gf:=HR.o.box.free
 go_upto_region 10 with fail
 clear xc gf;obtain⟨w7,hwn'⟩:∃ wx_,wx_=w6.setCell ⟨w.heap.size,13,none⟩ (.int .i64 U.ba):=⟨_,rfl⟩
 rw [<- hwn'];have hp:=HR.o.scal (U':={ ZaB X with ld:=true,ba:=U.ba }) (j:=13) (v:=.int .i64 U.ba) (by show 13 < 18;omega) rfl (fun _ h=>⟨h.seg,h.ap,h.o0,h.o1,h.o2,h.o3,h.o4,h.o5,h.o6⟩);rw [<- hwn'] at hp;have hss:w6.heap.size=w7.heap.size:=by rw [hwn'];simp [World.setCell]
 have RBn:Hd (Box w7 (w.heap.size+1) zR):=by unfold Hd;rw [hwn'];exact RB.o.setFar (by simp only [];omega) _
 have hsw7:w.heap.size+2<=w7.heap.size:=by omega
 clear hwn' RB HR hss;have RB:=RBn;have HR:=Zaa hp.1;replace HBF:=Zaa (HBF.o.kept hp.2 (Or.inr (Or.inr rfl)));replace HKP:Hd (Zag K w w7):=HKP.o.trans (hp.2.less fun k hk=>Or.inl hk);clear hp RBn;have HLE:Hd (ZeI X={ ZaB X with ld:=true,ba:=U.ba }):=by unfold Hd ZeI;rw [xba]
 rw [<- HLE.o] at HR;obtain⟨Y,hY⟩:∃ Y,Y=ZeI X:=⟨_,rfl⟩
 have yba:Y.ba=U.ba:=by rw [hY];exact xba
 have ykn:Y.dk.kn=U.dk.kn:=by rw [hY];exact xkn
 have ysl:Y.dk.sl.length<=1000:=by rw [hY];show X.dk.sl.length<=1000;rw [xsl];exact hl
 rw [<- hY] at HR HE0;clear hY HLE;obtain⟨k0,hk0⟩:∃ k0:Nat,(k0:Int)=U.dk.kn:=⟨U.dk.kn.toNat,by omega⟩
 have HEL:Hd (ZcF U n L=Zca Y B k0 (B.length - k0)):=by unfold Hd;rw [HE0.o];unfold Ze3;rw [ykn,<- hk0];rfl
 have HLL:=Zaa (Zee Y B k0 hBl ysl);have HLB:=Zaa (Ze2 Y B k0);have x7:w7.cell? ⟨w.heap.size,7,none⟩=some (.int .i64 (k0:Int)):=by rw [HR.o.box.cell 7,hk0,<- ykn];rfl
 have hk0b:k0<=1000:=by omega
 have HK0:=Zaa hk0;clear hk0;go_wp2;clear x7
 go_loopw [9] (fun iv wr=>∃ (i j:Nat) (b':Nat->Option Addr) (m':Nat->Nat) (S':Nat->Nat->Prop),iv=.int .i64 (j:Int)/\j=k0+i/\i<=B.length - k0/\Rz (fun k=>K k\/((w.heap.size+1<=k/\k < w.heap.size+2)\/k=g5)) lo wr w.heap.size b' m' S' (Zca Y B k0 i)/\Zag K w wr/\w.heap.size+2<=wr.heap.size/\FR rsL 2 wr g5 (g5+1) g5 cap5 B/\Box wr (w.heap.size+1) zR) (fun iv _=>B.length - (intOf iv).toNat)
 case atStart=>exact⟨0,k0,_,_,_,rfl,rfl,by omega,HR.o,HKP.o,hsw7,HBF.o,RB.o⟩
 case round=>
  obtain⟨i,j,b5,m5,S5,rfl,hj,hi,hr,hkp,hsz,hbf,hrb⟩:=hrel;clear HR HKP RB HBF;have HR:=Zaa hr;have HKP:=Zaa hkp;have HBF:=Zaa hbf;have RB:=Zaa hrb;have HJ:=Zaa hj;clear hr hkp hbf hrb
  by_cases hlt:j < B.length
  . have j0:(0:Int)<=(j:Int):=by omega
    have j1:(j:Int) < (B.length:Int):=by omega
    have wj:IntKind.wrap .i64 ((j:Int)+1)=((j+1:Nat):Int):=by rw [IntKind.wrap_i64];omega
    obtain⟨sj,hsj⟩:∃ x,x=B[j]:=⟨_,rfl⟩
    have z1:wr.cell? ⟨g5,j*2+1,none⟩=some (.string sj.tx):=by rw [hsj];exact HBF.o.get ZaI hlt (t:=1) (by omega) rfl
    have HNX:Hd (Zca Y B k0 (i+1)=ZdM (Zca Y B k0 i) (j+1) ⟨U.ba,sj.tx⟩):=by
     unfold Hd
     conv=>lhs;unfold Zca
     rw [<- hj,List.getElem?_eq_getElem hlt,<- hsj,yba]
    have hln:=HLL.o i;have hg5r:g5 < wr.heap.size:=HBF.o.lt
    have hi2:i+1<=B.length - k0:=by omega
    obtain⟨N1,hN1⟩:∃ N1,N1=Zca Y B k0 i:=⟨_,rfl⟩
    rw [<- hN1] at HR HNX hln;clear hN1 hsj hj;have HRA:Hd (World.rangeAt wr w.heap.size 0 (rrF N1 b5 m5)):=HR.o.box.range rfl;have HSy:Hd ((prog.info? 41).map (·.size)=some (rrF N1 b5 m5).length):=by unfold Hd;exact Zar
    go_upto_region 13 with fail
    refine Code.wp_mono NoPanic.imp ?_;refine Zao (S:=fun W=>W.rangeAt w.heap.size 0 (rrF N1 b5 m5)/\W.cell? ⟨g5,j*2+1,none⟩=some (.string sj.tx)) [10,11] (by kernel_rfl) ⟨HRA.o,z1⟩ (fun hHeld=>?_);refine tB 0 _ [10,11] rfl hHeld ?_ (hy:=yieldsIf_load_mid (by rfl) 41 (.tmp 3) rfl w.heap.size 0 rfl (rrF N1 b5 m5) _ (fun _ h=>h.1) underlying41 rfl HSy.o)
    try simp only [Act.put,sLs]
    refine tB 1 (.int .i64 (j:Int)) [2,10,11] rfl hHeld ?_
    try simp only [Act.put,sLs]
    refine tB 2 (.int .i64 ((j+1:Nat):Int)) [10,11] rfl hHeld ?_
    try simp only [Act.put,sLs]
    refine tB 3 (.int .i64 U.ba) [9,10,11] rfl hHeld ?_
    try simp only [Act.put,sLs]
    refine tB 4 (.slice (some ⟨g5,0,none⟩) B.length cap5) [6,7,8,9,10,11] rfl hHeld ?_
    try simp only [Act.put,sLs]
    refine tB 5 (.int .i64 (j:Int)) [6,7,8,9,10,11] rfl hHeld ?_
    try simp only [Act.put,sLs]
    refine tB 6 (.pointer (some ⟨g5,j*2,none⟩)) [7,8,9,10,11] rfl hHeld ?_
    try simp only [Act.put,sLs]
    refine tB 7 (.pointer (some ⟨g5,j*2+1,none⟩)) [8,9,10,11] rfl hHeld ?_
    try simp only [Act.put,sLs]
    refine tB 8 (.string sj.tx) [9,10,11] rfl hHeld ?_
    try simp only [Act.put,sLs]
    refine tB 9 (.agg #[.int .i64 U.ba,.string sj.tx]) [10,11] rfl hHeld ?_
    try simp only [Act.put,sLs]
    refine oB 10 rfl (fun KC hK=>?_)
    go_simp
    refine (Zff (fun k=>(fun k=>K k\/((w.heap.size+1<=k/\k < w.heap.size+2)\/k=g5)) k\/k=w.heap.size) lo _ N1 b5 m5 S5 (j+1) ⟨U.ba,sj.tx⟩ (HR.o.on (Zb_.drew)).czg (by omega) (by omega) hln).mono ?_;rintro e wc ⟨b7,m7,S7,rfl,hk,hc⟩;have HCc:=Zaa hc;have hk0:Zag (fun k=>(fun k=>K k\/((w.heap.size+1<=k/\k < w.heap.size+2)\/k=g5)) k\/k=w.heap.size) wr wc:=(Zag.below (Zb_.drew) (fun k h=>by rcases h with h | h;exact (HR.o.prot k h).1;rw [h];exact HR.o.box.lt)).trans hk;have HBX:Hd (Box wc w.heap.size (rrF N1 b5 m5).toArray):=HR.o.box.kept hk0 (Or.inr rfl);replace RB:=Zaa (RB.o.kept hk0 (Or.inl (Or.inr (Or.inl (by omega)))));replace HBF:=Zaa (HBF.o.kept hk0 (Or.inl (Or.inr (Or.inr rfl))));replace HKP:Hd (Zag K w wc):=HKP.o.trans (hk0.less fun k h=>Or.inl (Or.inl h));have hswc:w.heap.size+2<=wc.heap.size:=Nat.le_trans (by omega) hk0.size
    have HKne:Hd (∀ k,(fun k=>K k\/((w.heap.size+1<=k/\k < w.heap.size+2)\/k=g5)) k->k≠w.heap.size):=fun k h=>(HR.o.prot k h).2.1
    clear hk hc hk0 HR hHeld z1 HRA;have HTH:Hd (World.there wc w.heap.size 0 (rrF (ZdM N1 (j+1) ⟨U.ba,sj.tx⟩) b7 m7).toArray.size):=HBX.o.there rfl;have HON:Hd ((rrF (ZdM N1 (j+1) ⟨U.ba,sj.tx⟩) b7 m7).toArray.all (·.oneCell')=true):=Zbq _ _ _;refine hK.out _ _ (fun h=>absurd (by decide) h) (fun _=>?_);clear hK
    try simp only [Act.put,sLs]
    refine oB 11 rfl (fun KC hK=>?_);refine Zaz rfl 41 (.tmp 3) (.tmp 56) rfl w.heap.size 0 (rrF (ZdM N1 (j+1) ⟨U.ba,sj.tx⟩) b7 m7).toArray rfl rfl HTH.o (szN (Zbp _ _ _)) HON.o ?_;refine hK.out _ _ (fun h=>absurd (by decide) h) (fun _=>?_);clear hK
    try simp only [Act.put,sLs]
    refine Zak (by kernel_rfl) ?_ _;refine NoPanic.normal ?_;generalize hW9:World.setCells _ _ _ _=wd;obtain⟨hr,ht⟩:=HCc.o.put HBX.o rfl HKne.o hW9.symm;have HRn:=Zaa hr;have HTT:=Zaa ht;clear hr ht hW9;go_wp2;go_roundw
    . 
     have ht:=HTT.o;have hjj:=HJ.o;exact⟨i+1,j+1,b7,m7,S7,by go_num,by omega,hi2,by rw [HNX.o];exact HRn.o,HKP.o.trans (Zag.box ht (fun k h=>⟨by have:=HKw.o k h;omega,by have:=HKw.o k h;omega⟩)),Nat.le_trans hswc ht.size,HBF.o.touch ht (Or.inr (by omega)),RB.o.tch2 ht (Or.inr (by omega))⟩
    . simp [intOf];omega
  . have hii:i=B.length - k0:=by omega
    have HE2:Hd (ZcF U n L=Zca Y B k0 i):=by unfold Hd;rw [HEL.o,hii]
    have dn:decide ((j:Int) < (B.length:Int))=false:=by simp;omega
    clear hii
    go_upto_region 14 with fail
    clear dn;obtain⟨b9,m9,S9,yl,HRx,HYL,HRA,HTH,HON,HSy,hy18⟩:=exA (U:=Zca Y B k0 i) HR.o RB.o rfl;clear HR
    go_wp2_with (first
     | (with_reducible refine ldR (.tmp 3) w.heap.size 0 yl HRA.o HSy.o ?_)
     | (with_reducible refine stR (.tmp 6) (.tmp 57) (w.heap.size+1) 0 yl.toArray HTH.o (szN hy18) HON.o ?_;refine Hd.o ?_))
    generalize hW9:World.setCells _ _ _ _=W9;obtain⟨FR9,HKn,HRn⟩:=exB hW9 RB.o hy18 HRx.o (Or.inr (by omega)) HKP.o HKw.o (by omega);clear hW9;refine Zaa ?_;go_wp2;exact bodyPost_ret (v:=.agg yl.toArray) (Zb6 (p:=6) results59 FR9.o HSy.o rfl) rfl ⟨b9,m9,S9,by rw [HYL.o,HE2.o],HKn.o,by rw [HE2.o];exact HRn.o⟩
section
variable {L:List AX} {w w':World} {g m n cap:Nat} {ao:Option Addr}
theorem Zkd {X:Type}{L:List X}{k:Nat}{x:X} (hk:k<=L.length) {i:Nat} (hi:i < (L.take k ++ [x] ++ L.drop k).length):(L.take k ++ [x] ++ L.drop k)[i]=if h:i < k then L[i]'(by omega) else if h':i=k then x else L[i - 1]'(by simp at hi;omega):=by
 have hl:(L.take k).length=k:=by simp;omega
 by_cases h:i < k
 . rw [dif_pos h,List.getElem_append_left (by simp;omega),List.getElem_append_left (by omega),List.getElem_take]
 . rw [dif_neg h]
   by_cases h':i=k
   . subst h'
     rw [dif_pos rfl,List.getElem_append_left (by simp;omega),List.getElem_append_right (by omega)];simp
   . rw [dif_neg h',List.getElem_append_right (by simp;omega),List.getElem_drop]
     congr 1
     simp
     omega
def Zj9 (c:Nat->Nat×Nat) (k:Nat):Nat->Nat×Nat:=fun i=>if i < k then c i else if i=k then (0,0) else c (i - 1)
theorem Zc6.ins {X:Type}{P:X->World->Nat->Nat->Prop}{S:Nat->Prop}{g':Nat}{L:List X}{c:Nat->Nat×Nat} (h:Zc6 P w S g L c) {k:Nat} (hk:k<=L.length) {x:X} (hx:P x w 0 0) (hg:∀ i,i < L.length->g' < (c i).1\/(c i).2<=g'):Zc6 P w S g' (L.take k ++ [x] ++ L.drop k) (Zj9 c k):=by
 have hl:(L.take k ++ [x] ++ L.drop k).length=L.length+1:=by simp;omega
 have e1:∀ i,i < k->Zj9 c k i=c i:=fun i hi=>by unfold Zj9;rw [if_pos hi]
 have e2:Zj9 c k k=(0,0):=by unfold Zj9;rw [if_neg (by omega),if_pos rfl]
 have e3:∀ i,k < i->Zj9 c k i=c (i - 1):=fun i hi=>by unfold Zj9;rw [if_neg (by omega),if_neg (by omega)]
 refine⟨fun i hi=>?_,fun i hi=>?_,fun i j hi hj hne=>?_,fun i hi=>?_⟩
 . rcases Nat.lt_trichotomy i k with q | q | q
   . rw [e1 i q];exact⟨(h.seg i (by omega)).1,(h.seg i (by omega)).2.1,hg i (by omega)⟩
   . subst q;rw [e2];exact⟨Nat.le_refl _,fun k _ h=>absurd h (Nat.not_lt_zero _),Or.inr Zz_⟩
   . rw [e3 i q];exact⟨(h.seg (i - 1) (by omega)).1,(h.seg (i - 1) (by omega)).2.1,hg (i - 1) (by omega)⟩
 . rcases Nat.lt_trichotomy i k with q | q | q
   . rw [e1 i q];exact h.one i (by omega)
   . subst q;rw [e2];exact Nat.zero_le _
   . rw [e3 i q];exact h.one (i - 1) (by omega)
 . rcases Nat.lt_trichotomy i k with q | q | q
   . rw [e1 i q]
     rcases Nat.lt_trichotomy j k with r | r | r
     . rw [e1 j r];exact h.ap i j (by omega) (by omega) hne
     . subst r;rw [e2];exact Or.inr Zz_
     . rw [e3 j r];exact h.ap i (j - 1) (by omega) (by omega) (by omega)
   . subst q;rw [e2];exact Or.inl Zz_
   . rw [e3 i q]
     rcases Nat.lt_trichotomy j k with r | r | r
     . rw [e1 j r];exact h.ap (i - 1) j (by omega) (by omega) (by omega)
     . subst r;rw [e2];exact Or.inr Zz_
     . rw [e3 j r];exact h.ap (i - 1) (j - 1) (by omega) (by omega) (by omega)
 . rw [Zkd hk hi]
   rcases Nat.lt_trichotomy i k with q | q | q
   . rw [e1 i q,dif_pos q];exact h.inn i (by omega)
   . subst q;rw [e2,dif_neg (by omega),dif_pos rfl];exact hx
   . rw [e3 i q,dif_neg (by omega),dif_neg (by omega)];exact h.inn (i - 1) (by omega)
theorem Zc6.setAt {X:Type}{P:X->World->Nat->Nat->Prop}{S S':Nat->Prop}{L:List X}{c:Nat->Nat×Nat} (h:Zc6 P w S g L c) (hS:∀ k,S k->S' k) {k:Nat} (hk:k < L.length) {x:X} {l u:Nat} (h1:l<=u) (h2:u<=l+1) (h3:∀ t,l<=t->t < u->S' t) (h4:g < l\/u<=g) (h5:∀ i,i < L.length->i≠k->(c i).2<=l\/u<=(c i).1) (hx:P x w l u):Zc6 P w S' g (L.set k x) (upd c k (l,u)):=by
 refine⟨fun i hi=>?_,fun i hi=>?_,fun i j hi hj hne=>?_,fun i hi=>?_⟩
 . rw [List.length_set] at hi
   by_cases e:i=k
   . subst e;rw [ZaA];exact⟨h1,h3,h4⟩
   . rw [Zbc _ _ e];exact⟨(h.seg i hi).1,fun t a b=>hS t ((h.seg i hi).2.1 t a b),(h.seg i hi).2.2⟩
 . rw [List.length_set] at hi
   by_cases e:i=k
   . subst e;rw [ZaA];exact h2
   . rw [Zbc _ _ e];exact h.one i hi
 . rw [List.length_set] at hi hj
   by_cases e:i=k
   . subst e;rw [ZaA,Zbc _ _ (Ne.symm hne)];exact (h5 j hj (Ne.symm hne)).symm
   . rw [Zbc _ _ e]
     by_cases e':j=k
     . subst e';rw [ZaA];exact h5 i hi e
     . rw [Zbc _ _ e'];exact h.ap i j hi hj hne
 . rw [List.length_set] at hi
   by_cases e:i=k
   . subst e;rw [ZaA,List.getElem_set_self];exact hx
   . rw [Zbc _ _ e,List.getElem_set_ne (Ne.symm e)];exact h.inn i hi
theorem Rz.turn6 {K:Nat->Prop}{lo:Nat}{γ:Nat}{b:Nat->Option Addr}{m:Nat->Nat}{S:Nat->Nat->Prop}{U:Rr}{L':List Ra} (h:Rz K lo w γ b m S U) (ht:Zal (S 6) w w') (hl:L'.length=U.ac.length) (hr:∃ L,NGS PA axL 2 w' (Gr (S 6) w w') (.slice (b 6) L'.length (m 6)) L/\L.map (·.1)=L') :
 Rz K lo w' γ b m (upd S 6 (Gr (S 6) w w')) { U with ac:=L' }/\Zag K w w':=by
 have hsz:=ht.size;have hγ:=h.box.lt;have hk:Zag (fun k=>k < w.heap.size/\¬ S 6 k) w w':=Zag.touchS ht fun _ h=>h
 have hcp:=CpS.grow6 (v':=.slice (b 6) L'.length (m 6)) h.cp ht h.low hr
 have sub:∀ i k,upd S 6 (Gr (S 6) w w') i k->S i k\/w.heap.size<=k:=fun i k hS=>by
  by_cases e:i=6
  . subst e;rw [ZaA] at hS;exact hS.imp id fun h=>h.1
  . rw [Zbc _ _ e] at hS;exact Or.inl hS
 refine⟨⟨?_,hcp,by have:=h.low;omega,fun i hi hS=>(sub i γ hS).elim (h.far i hi) (fun h=>by omega),fun k hk'=>⟨by have:=(h.prot k hk').1;omega,(h.prot k hk').2.1,fun i hi hS=>(sub i k hS).elim ((h.prot k hk').2.2 i hi) (fun h'=>by have:=(h.prot k hk').1;omega)⟩⟩,Zag.touchS ht fun k hk'=>⟨(h.prot k hk').1,(h.prot k hk').2.2 6 (by decide)⟩⟩;have hb:=h.box.kept hk ⟨hγ,h.far 6 (by decide)⟩;have e:rrF { U with ac:=L' } b m=rrF U b m:=by simp [rrF,rrL,hl]
 rw [e];exact hb
def Zg0 (ao:Option Addr) (c m:Nat):Option Addr:=if c=m then ao else ao.map (·.add (m*2))
theorem ZdR {ops:Array Oper}{C:World->Prop}{o:Oper}{a:Act} (hgd:o.guard=none) (x y:Operand) (ho:o.op=.slice 39 x (some y) none none)
 (ao:Option Addr) (n c m:Nat) (hx:a.eval x=.slice ao n c) (hy:a.eval y=.int .i64 m) (hm:m<=n):YieldsIf prog ops C o (.slice (Zg0 ao c m) (n - m) (c - m)) a:=by
 refine Or.inl ⟨by simp [Region.wanted,hgd],fun w _=>?_⟩;have hr:=run_slice_l (P:=prog) w 39 ao n c underlying39 .i64 m (by omega) (by omega);have hs:=run_sliceAt_slice (P:=prog) w 39 (.slice ao n c) (some (.int .i64 m)) none none underlying39;obtain⟨i0,hi,hz0,hz1,hz2⟩:=info_parts ZaY;have hsz:(sizeOf 105).run prog w=.ok 2 w:=by simp [sizeOf,typeInfo,hi,hz1]
 unfold execOp;simp only [ho,Option.map_some,Option.map_none,hx,hy,Sem.run_bind,Sem.run_pure,Result.andThen_ok,hs,hr,show prog.elem 39=105 from rfl,hsz,sliced,Int.toNat_natCast]
 rfl
structure Zgx (w:World) (ao:Option Addr) (n cap:Nat) (L:List AX):Prop where
 len:n=L.length
 nil:ao=none->n=0
 le:n<=cap
 src:∀ ad,ao=some ad->∀ j u,(Zai axL L)[j]?=some u->w.cell? (ad.add j)=some u
theorem NGS.srcA {S:Nat->Prop} (h:NGS PA axL 2 w S (.slice ao n cap) L):Zgx w ao n cap L:=by
 rcases h with ⟨h,rfl⟩ | ⟨g,c,hg,⟨g',cp,e1,e2⟩,hI⟩
 . injection h with h1 h2 h3
   exact⟨h2,fun _=>h2,by omega,fun ad e=>by rw [h1] at e;cases e⟩
 . injection e1 with h1 h2 h3
   refine⟨h2,fun e=>?_,by rw [h2,h3];exact e2.le,fun ad e j u hu=>?_⟩
   . rw [h1] at e;cases e
   . rw [h1] at e
     injection e with e
     subst e;rw [Addr.add_lit];exact e2.rg j u hu
theorem Zgx.below (h:Zgx w ao n cap L) (hb:∀ p:Addr,∀ u,w.cell? p=some u->w'.cell? p=some u):Zgx w' ao n cap L:=⟨h.len,h.nil,h.le,fun ad e j u hu=>hb _ _ (h.src ad e j u hu)⟩
theorem Zgx.take (h:Zgx w ao n cap L) (m:Nat):∀ ad,ao=some ad->∀ j u,(Zai axL (L.take m))[j]?=some u->w.cell? (ad.add j)=some u:=by
 intro ad e j u hu;refine h.src ad e j u ?_;have:Zai axL L=Zai axL (L.take m) ++ Zai axL (L.drop m):=by rw [<- Zbv,List.take_append_drop]
 rw [this];have hj:=(List.getElem?_eq_some_iff.1 hu).1;rw [List.getElem?_append_left hj];exact hu
theorem Zgx.from (h:Zgx w ao n cap L) (hm:m<=L.length):∀ ad,Zg0 ao cap m=some ad->∀ j u,(Zai axL (L.drop m))[j]?=some u->w.cell? (ad.add j)=some u:=by
 intro ad hc j u hu;have hj:=(List.getElem?_eq_some_iff.1 hu).1;rw [Zaw Zat,List.length_drop] at hj;have h0:=h.len;have h1:=h.le
 cases ao with
 | none=>have:=h.nil rfl;omega
 | some a0=>
  unfold Zg0 at hc;rw [if_neg (by omega)] at hc;simp only [Option.map_some,Option.some.injEq] at hc;subst hc;have hu':=ZdE Zat hm hu;have:=h.src _ rfl _ _ hu'
  rwa [Addr.add_add]
theorem Zgx.cutN (h:Zgx w ao n cap L):Zg0 ao cap m=none->n - m=0:=by
 intro hc
 have:ao=none:=by
  unfold Zg0 at hc
  split at hc
  . exact hc
  . cases ao with
    | none=>rfl
    | some x=>simp at hc
 have:=h.nil this
 omega
end
section
variable {L:List Ra} {k:Nat}
def Zc8 (L:List Ra) (ix:Int):Nat:=(L.takeWhile (fun a=>decide (a.ix < ix))).length
def Zdr (L:List Ra) (ix:Int):List Ra:=if (L[Zc8 L ix]?).map (·.ix)=some ix then L else L.take (Zc8 L ix) ++ [⟨ix,[]⟩] ++ L.drop (Zc8 L ix)
def ZeB (L:List Ra) (k:Nat) (n:Int):List Ra:=match L[k]? with
 | some a=>L.set k { a with fr:=Zcf a.fr n }
 | none=>L
def Zd3 (U:Rr) (ix n:Int):Rr:=ZcI { U with ac:=ZeB (Zdr U.ac ix) (Zc8 U.ac ix) n }
theorem Zgh {n:Int} (hk:k<=L.length) (hlt:∀ j (hj:j < L.length),j < k->L[j].ix < n) (hge:∀ (h:k < L.length),¬ L[k].ix < n):Zc8 L n=k:=by
 unfold Zc8
 induction L generalizing k with
 | nil=>simp at hk;simp [hk]
 | cons x r ih=>
  cases k with
  | zero=>
   have:=hge (by simp);rw [List.takeWhile_cons];simp at this;rw [if_neg (by simpa using this)]
   rfl
  | succ k=>
   have h0:=hlt 0 (by simp) (by omega);rw [List.takeWhile_cons,if_pos (by simpa using h0),List.length_cons,ih (k:=k) (by simpa using hk) (fun j hj hjk=>by have:=hlt (j+1) (by simpa using hj) (by omega);simpa using this) (fun h=>by have:=hge (by simpa using h);simpa using this)]
theorem ZfZ (h:k < L.length) (n:Int):ZeB L k n=L.set k { L[k] with fr:=Zcf L[k].fr n }:=by unfold ZeB;rw [List.getElem?_eq_getElem h]
theorem FR.setOne {X:Type}{f:X->List Value}{n:Nat} (hf:∀ x,(f x).length=n) {w:World} {lo hi g cap:Nat} {L:List X} (h:FR f n w lo hi g cap L) {i t:Nat} (hi':i < L.length) (ht:t < n) (x:X) (v:Value) (hx:f x=(f L[i]).set t v):FR f n (w.setCell ⟨g,i*n+t,none⟩ v) lo hi g cap (L.set i x):=by
 have hcn:i*n+n<=cap*n:=by rw [<- Nat.succ_mul];exact Nat.mul_le_mul_right _ (Nat.le_trans hi' h.le)
 have hth:=h.th (i*n+t) (by omega);refine⟨h.bs,h.up,by simpa [World.setCell] using h.lt,by rw [List.length_set];exact h.le,h.mx,fun j hj=>World.isSome_setCells g [v] (i*n+t) w _ (h.th j hj),fun j=>by rw [World.frozen?_setCell];exact h.fz j,fun j u hu=>?_⟩;rw [Zfv hf L i x hi'] at hu;rw [Nat.zero_add]
 by_cases hj:i*n<=j/\j < i*n+n
 . rw [if_pos hj,hx] at hu
   by_cases e:j=i*n+t
   . subst e
     rw [show i*n+t - i*n=t by omega,List.getElem?_set_self (by rw [hf];exact ht)] at hu;injection hu with hu
     subst hu;exact World.cell?_setCell_same' _ _ _ hth
   . rw [List.getElem?_set_ne (by omega)] at hu
     rw [ZcQ _ _ _ _ _ (Ne.symm e)];have:=h.rg j u (by rw [show j=i*n+(j - i*n) by omega,Zbw hf L i (j - i*n) hi' (by omega)];exact hu)
     rwa [Nat.zero_add] at this
 . rw [if_neg hj] at hu
   rw [ZcQ _ _ _ _ _ (by intro e;subst e;omega)];have:=h.rg j u hu
   rwa [Nat.zero_add] at this
theorem Rz.ack6 {K:Nat->Prop}{lo:Nat}{w:World}{γ:Nat}{b:Nat->Option Addr}{m:Nat->Nat}{S:Nat->Nat->Prop}{V:Rr} (h:Rz K lo w γ b m S V) {k:Nat} (hk:k < V.ac.length) :
 ∃ g a1 c1,b 6=some ⟨g,0,none⟩/\w.cell? ⟨g,k*2+1,none⟩=some (.slice a1 V.ac[k].fr.length c1)/\w.frozen? ⟨g,k*2+1,none⟩=false/\g < w.heap.size/\g≠γ/\¬ K g/\ZaJ lo w (.slice a1 V.ac[k].fr.length c1) V.ac[k].fr/\
  ∀ w1 v1 N,Zw_ w w1->((v1=.slice a1 V.ac[k].fr.length c1/\N=V.ac[k].fr)\/ZaK inL 1 w1 w.heap.size w1.heap.size v1 N)->∃ S',Rz K lo (w1.setCell ⟨g,k*2+1,none⟩ v1) γ b m S' { V with ac:=V.ac.set k { V.ac[k] with fr:=N } }/\Zag K w (w1.setCell ⟨g,k*2+1,none⟩ v1):=by
 obtain⟨L,hng,hmap⟩:=h.cp.o6;have hll:L.length=V.ac.length:=by rw [<- hmap,List.length_map]
 have hkL:k < L.length:=by omega
 have hLk:L[k].1=V.ac[k]:=by
  have:=congrArg (fun l=>l[k]?) hmap
  simpa only [List.getElem?_map,List.getElem?_eq_getElem hkL,List.getElem?_eq_getElem hk,Option.map_some,Option.some.injEq] using this
 have hsg:=h.cp.seg 6 (by decide)
 rcases hng with ⟨_,e⟩ | ⟨g,c,hg,⟨g',cp,e1,e2⟩,hI⟩
 . rw [e] at hkL;simp at hkL
 obtain rfl:g'=g:=by have:=e2.bs;have:=e2.up;omega
 injection e1 with e1 e3 e4
 have hin:ZaE inL 1 w (c k).1 (c k).2 (.slice L[k].2.1 L[k].1.fr.length L[k].2.2) L[k].1.fr:=hI.inn k hkL;have hgl:=e2.lt;have hth:=e2.th (k*2+1) (by have:=e2.le;omega);have hc:=e2.get Zat (i:=k) hkL (t:=1) (by omega) (v:=.slice L[k].2.1 L[k].1.fr.length L[k].2.2) rfl;rw [hLk] at hin hc;refine⟨g',L[k].2.1,L[k].2.2,e1,hc,e2.fz _,hgl,fun e=>h.far 6 (by decide) (e ▸ hg),fun hK=>(h.prot g' hK).2.2 6 (by decide) hg,hin.ris.at_ge (fun t p q=>(hsg t ((hI.seg k hkL).2.1 t p q)).1),fun w1 v1 N hb hN=>?_⟩
 obtain⟨a',c',rfl⟩:∃ a' c',v1=.slice a' N.length c':=by
  rcases hN with ⟨e,e'⟩ | ⟨_,_,e,_⟩
  . exact⟨_,_,by rw [e,e']⟩
  . exact⟨_,_,e⟩
 have hs1:=hb.size;obtain⟨W,hW⟩:∃ W,W=w1.setCell ⟨g',k*2+1,none⟩ (.slice a' N.length c'):=⟨_,rfl⟩
 rw [<- hW];have hsW:W.heap.size=w1.heap.size:=by rw [hW];simp [World.setCell]
 have ht1:Zad g' (g'+1) w1 W:=by rw [hW];exact Zad.setCell _ _ _ _ _ ⟨Nat.le_refl _,Nat.lt_succ_self _⟩
 have htS:Zal (S 6) w W:=Zal.trans (Zal.below hb) (ht1.toS (Zdt hg));have hkp:Zag (fun t=>t < w.heap.size/\t≠g') w W:=(Zag.below hb (fun t p=>p.1)).trans (Zag.touch ht1 (fun t p=>⟨by omega,by omega⟩))
 have hfr:FR axL 2 W g' (g'+1) g' cp (L.set k ({ V.ac[k] with fr:=N },a',c')):=by
  rw [hW];refine FR.setOne Zat (e2.below hb) hkL (by omega) _ _ ?_;have:axL L[k]=[.int .i64 L[k].1.ix,.slice L[k].2.1 L[k].1.fr.length L[k].2.2]:=rfl;rw [this,hLk]
  rfl
 have hI0:Zc6 PA W (S 6) g' L c:=⟨hI.seg,hI.one,hI.ap,fun i hi=>ZdS.kp (hI.inn i hi) hkp (fun t p q=>⟨(hsg t ((hI.seg i hi).2.1 t p q)).2,by have:=(hI.seg i hi).2.2;omega⟩)⟩
 have hin':∃ l u,l<=u/\u<=l+1/\(∀ t,l<=t->t < u->Gr (S 6) w W t)/\(g' < l\/u<=g')/\(∀ i,i < L.length->i≠k->(c i).2<=l\/u<=(c i).1)/\ZaE inL 1 W l u (.slice a' N.length c') N:=by
  rcases hN with ⟨e,e'⟩ | ⟨gn,cn,e,hf⟩
  . have hin2:=hI0.inn k hkL
    refine⟨(c k).1,(c k).2,(hI.seg k hkL).1,hI.one k hkL,fun t p q=>Or.inl ((hI.seg k hkL).2.1 t p q),(hI.seg k hkL).2.2,fun i hi hne=>hI.ap i k hi hkL hne,?_⟩;have:ZaE inL 1 W (c k).1 (c k).2 (.slice L[k].2.1 L[k].1.fr.length L[k].2.2) L[k].1.fr:=hin2;rw [hLk,<- e,<- e'] at this;exact this
  . have q1:=hf.bs
    have q2:=hf.lt;refine⟨gn,gn+1,by omega,by omega,fun t p q=>Or.inr ⟨by omega,by omega⟩,by omega,fun i hi hne=>?_,Or.inr ⟨gn,cn,e,hf.own'.touch ht1 (by omega)⟩⟩
    rcases Nat.lt_or_ge (c i).1 (c i).2 with p | p
    . have:=(hsg (c i).1 ((hI.seg i hi).2.1 _ Zl_ p)).2
      have:=hI.one i hi
      omega
    . rcases Nat.lt_or_ge gn (c i).1 with p' | p'
      . exact Or.inr p'
      . exact Or.inl (by omega)
 obtain⟨l,u,q1,q2,q3,q4,q5,q6⟩:=hin';have hI2:=hI0.setAt (S':=Gr (S 6) w W) (fun t p=>Or.inl p) hkL (x:=({ V.ac[k] with fr:=N },a',c')) q1 q2 q3 q4 q5 q6;refine⟨_,h.turn6 htS (by rw [List.length_set]) ⟨L.set k ({ V.ac[k] with fr:=N },a',c'),Or.inr ⟨g',_,Or.inl hg,⟨g',cp,?_,hfr⟩,hI2⟩,by rw [List.map_set,hmap]⟩⟩;rw [List.length_set,List.length_set,hll,e1,<- e4]
end
variable {w w':World} {L:List Ra} {lo k:Nat} {U:Rr}
abbrev ZdB (ix:Int):AX:=(⟨ix,[]⟩,none,0)
theorem Zgx.on {ao:Option Addr}{n cap:Nat}{L:List AX} (h:Zgx w ao n cap L) (hb:Zw_ w w'):Zgx w' ao n cap L:=h.below fun p u hu=>by rw [hb.cell (World.block_lt_of_cell? w p hu)];exact hu
theorem Rz.ins6 {K:Nat->Prop}{γ:Nat}{b:Nat->Option Addr}{m:Nat->Nat}{S:Nat->Nat->Prop}{V:Rr} (h:Rz K lo w γ b m S V) :
 ∃ L:List AX,Zgx w (b 6) V.ac.length (m 6) L/\∀ k,k<=V.ac.length->∀ (ix:Int) w3 (Sx:Nat->Prop) v,Zw_ w w3->(∀ t,Sx t->w.heap.size<=t/\t < w3.heap.size)->NRS axL 2 w3 Sx v (L.take k ++ [ZdB ix] ++ L.drop k)->
  ∃ a' c',v=.slice a' (V.ac.take k ++ [(⟨ix,[]⟩:Ra)] ++ V.ac.drop k).length c'/\∃ b' m' S',Rz K lo (w3.setCell ⟨γ,16,none⟩ v) γ b' m' S' { V with ac:=V.ac.take k ++ [(⟨ix,[]⟩:Ra)] ++ V.ac.drop k }/\Zag K w (w3.setCell ⟨γ,16,none⟩ v):=by
 obtain⟨L,hng,hmap⟩:=h.cp.o6;have hll:L.length=V.ac.length:=by rw [<- hmap,List.length_map]
 have hsg:=h.cp.seg 6 (by decide);refine⟨L,hng.srcA,fun k hk ix w3 Sx v hb hSx hr=>?_⟩
 have hmk:(L.take k ++ [ZdB ix] ++ L.drop k).map (·.1)=V.ac.take k ++ [(⟨ix,[]⟩:Ra)] ++ V.ac.drop k:=by
  rw [<- hmap,List.map_append,List.map_append,List.map_take,List.map_drop]
  rfl
 rcases hr with ⟨_,e⟩ | ⟨g3,hg3,g',cp,e1,e2⟩
 . simp at e
 obtain rfl:g'=g3:=by have:=e2.bs;have:=e2.up;omega
 have hg':=hSx g' hg3;have hlen:(L.take k ++ [ZdB ix] ++ L.drop k).length=(V.ac.take k ++ [(⟨ix,[]⟩:Ra)] ++ V.ac.drop k).length:=by rw [<- hmk,List.length_map]
 rw [hlen] at e1;refine⟨_,_,e1,?_⟩;have hnil:PA (ZdB ix) w3 0 0:=Or.inl ⟨rfl,rfl⟩
 obtain⟨c,hI⟩:∃ c,Zc6 PA w3 (Gr (S 6) w w3) g' (L.take k ++ [ZdB ix] ++ L.drop k) c:=by
  rcases hng with ⟨_,e⟩ | ⟨g,c,hg,hrow,hI⟩
  . have h0:Zc6 PA w3 (Gr (S 6) w w3) g' L (fun _=>(0,0)):=by
     rw [e];exact⟨fun i hi=>absurd hi (Nat.not_lt_zero _),fun i hi=>absurd hi (Nat.not_lt_zero _),fun i j hi=>absurd hi (Nat.not_lt_zero _),fun i hi=>absurd hi (Nat.not_lt_zero _)⟩
    exact⟨_,h0.ins (by omega) hnil (fun i hi=>by rw [e] at hi;exact absurd hi (Nat.not_lt_zero _))⟩
  . have hI0:Zc6 PA w3 (Gr (S 6) w w3) g L c:=⟨fun i hi=>⟨(hI.seg i hi).1,fun t p q=>Or.inl ((hI.seg i hi).2.1 t p q),(hI.seg i hi).2.2⟩,hI.one,hI.ap,fun i hi=>ZdS.kp (hI.inn i hi) (Zag.below hb fun _ p=>p) (fun t p q=>(hsg t ((hI.seg i hi).2.1 t p q)).2)⟩
    refine⟨_,hI0.ins (by omega) hnil (fun i hi=>?_)⟩
    rcases Nat.lt_or_ge (c i).1 (c i).2 with p | p
    . have:=(hsg (c i).1 ((hI.seg i hi).2.1 _ Zl_ p)).2
      have:=hI.one i hi
      omega
    . omega
 have:=h.part6 (Zal.below hb) (L':=V.ac.take k ++ [(⟨ix,[]⟩:Ra)] ++ V.ac.drop k) (a':=some ⟨g',0,none⟩) (m':=cp) ⟨_,Or.inr ⟨g',c,Or.inr hg',⟨g',cp,by rw [hlen],e2⟩,hI⟩,hmk⟩;rw [e1];exact⟨_,_,_,this⟩
theorem Cz.other {K:Nat->Prop}{b:Nat->Option Addr}{m:Nat->Nat}{S:Nat->Nat->Prop} (h:Cz K lo w b m S U) {β:Nat} (hβ:K β) (ht:Zad β (β+1) w w'):Cz K lo w' b m S U:=by
 have hsz:=ht.size;refine⟨h.cp.kept (K:=fun k=>∃ i,i < 7/\S i k) (Zag.touch ht (fun k ⟨i,hi,hS⟩=>⟨(h.cp.seg i hi k hS).2,?_⟩)) (fun i hi k hS=>⟨i,hi,hS⟩),Nat.le_trans h.low hsz,fun k hk=>⟨by have:=(h.prot k hk).1;omega,(h.prot k hk).2⟩⟩;have hne:k≠β:=fun e=>(h.prot β hβ).2 i hi (e ▸ hS)
 omega
theorem exC {K K2:Nat->Prop}{β:Nat}{w0 wa:World}{b:Nat->Option Addr}{m:Nat->Nat}{S:Nat->Nat->Prop}{X:Array Value} (hx:Box w β X) (hs:X.size=18) (h2:Zag K2 w wa) (h:Cz K2 lo wa b m S U) (hk:Zag K w0 w) (hw:∀ k,K k->k < w0.heap.size) (hβ:K2 β) (hK:∀ k,K k->K2 k) (hlt:w0.heap.size<=β) :
 ∃ yl,Hd (yl=rrF U b m)/\Hd (World.there wa β 0 yl.toArray.size)/\Hd (yl.toArray.all (·.oneCell')=true)/\Hd ((prog.info? 41).map (·.size)=some yl.length)/\yl.length=18/\Hd (∀ w',wa.setCells β 0 yl.toArray.toList=w'->Hd (Box w' β yl.toArray)/\Hd (Zag K w0 w')/\Hd (Cz K lo w' b m S U)):=by
 have hx2:=hx.kept h2 hβ;refine⟨_,rfl,hx2.there hs,ZcU ..,Zar,rfl,fun w' hW=>?_⟩;have ht:Zad β (β+1) wa w':=by rw [<- hW];exact Zad.sets ⟨by omega,by omega⟩ _ _ _
 exact⟨by unfold Hd;rw [<- hW];exact hx2.full (by rw [hs];rfl),(hk.trans (h2.less hK)).trans (Zag.touch ht (fun k hk=>⟨(h.prot k (hK k hk)).1,Or.inl (by have:=hw k hk;omega)⟩)),(h.other hβ ht).less hK⟩
theorem ZdT {P Q:Ra->Prop}{n:Int} (h:∀ a ∈ L,P a) (hq:∀ a,P a->Q a) (hs:∀ a,P a->Q { a with fr:=Zcf a.fr n }):∀ a ∈ ZeB L k n,Q a:=by
 intro a ha;unfold ZeB at ha
 split at ha
 . rename_i x hx
   rcases List.mem_or_eq_of_mem_set ha with h1 | h1
   . exact hq a (h a h1)
   . rw [h1];exact hs x (h x (List.mem_of_getElem? hx))
 . exact hq a (h a ha)
theorem ZdU (L:List Ra) (k:Nat) (n:Int):(ZeB L k n).length=L.length:=by
 unfold ZeB
 split
 . rw [List.length_set]
 . rfl
theorem Zga {P:Ra->Prop}{x:Ra} (h:∀ a ∈ L,P a) (hx:P x):∀ a ∈ L.take k ++ [x] ++ L.drop k,P a:=by
 intro a ha;rw [List.mem_append,List.mem_append,List.mem_singleton] at ha
 rcases ha with (h1 | h1) | h1
 . exact h a (List.mem_of_mem_take h1)
 . rw [h1];exact hx
 . exact h a (List.mem_of_mem_drop h1)
end Go.Proofs.YtkiefplmnoapfaaGreat
