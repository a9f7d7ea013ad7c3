import Derived.Test.YtkiefplmnoapfaaGreatV38
import Derived.Test.YtkiefplmnoapfaaGreatV39
import Derived.Test.YtkiefplmnoapfaaGreatV40
import Derived.Test.YtkiefplmnoapfaaGreatV41
import Derived.Test.YtkiefplmnoapfaaGreatV42
set_option maxHeartbeats 16000000
set_option maxRecDepth 100000
open Go.Proofs.Tryz
namespace Go.Proofs.YtkiefplmnoapfaaGreat
open Go.RowKit Go.Deep
def Zck (U:Rr) (M:Rm):Rr:=if U.ld=true/\M.ba=U.ba/\0 < M.ix then Zd3 U M.ix M.fr else U
theorem ZiP (K:Nat->Prop) (lo:Nat) (w:World) (U:Rr) (b:Nat->Option Addr) (m:Nat->Nat) (S:Nat->Nat->Prop) (M:Rm) (a0:Option Addr) (k0:Nat) (h:Cz K lo w b m S U) (hM:M.kd=4) (hx2:M.ix<=1000) (h0:0<=U.dk.kn) (h1:U.dk.kn<=1000) (ha:∀ i (h:i < U.ac.length),1<=U.ac[i].ix/\U.ac[i].ix<=1000) (hl:U.ac.length<=100000) (hf:∀ i (h:i < U.ac.length),U.ac[i].fr.length<=100000) (hsl:U.dk.sl.length<=1048576) :
 Calls prog 30 #[.agg (rrF U b m).toArray,.agg (rmL M a0 k0).toArray] w fun e w'=>∃ b' m' S',e=.returned (.agg (rrF (Zck U M) b' m').toArray)/\Zag K w w'/\Cz K lo w' b' m' S' (Zck U M):=by
 have HC:=Zaa h;have HM:=Zaa hM;clear hM;have HKw:Hd (∀ k,K k->k < w.heap.size):=fun k hk=>(h.prot k hk).1
 obtain⟨cs,hcs⟩:∃ cs,cs=rrF U b m:=⟨_,rfl⟩
 rw [<- hcs];have HCS:=Zaa hcs;clear hcs h
 show Calls prog 30 #[.agg cs.toArray,.agg #[.int .i64 M.kd,.int .i64 M.fr,.int .i64 M.tt,.int .i64 M.ba,.int .i64 M.ix,.int .i64 M.kn,.string M.tx,.slice a0 M.sl.length k0]] w _
 go_enter func30,ntmps30
 go_upto_region 1 with fail
 obtain⟨wz,hwz,FB,MB,RB,HB⟩:∃ wz,wz=((w.alloc (.cells cs.toArray 41)).alloc (.cells #[.int .i64 M.kd,.int .i64 M.fr,.int .i64 M.tt,.int .i64 M.ba,.int .i64 M.ix,.int .i64 M.kn,.string M.tx,.slice a0 M.sl.length k0] 45)).alloc (.cells zR 41)/\Hd (Box wz w.heap.size (rrF U b m).toArray)/\Hd (Box wz (w.heap.size+1) #[.int .i64 M.kd,.int .i64 M.fr,.int .i64 M.tt,.int .i64 M.ba,.int .i64 M.ix,.int .i64 M.kn,.string M.tx,.slice a0 M.sl.length k0])/\Hd (Box wz (w.heap.size+2) zR)/\Hd (Zw_ w wz):=⟨_,rfl,by unfold Hd;rw [<- HCS.o];exact (((Box.new w _ _ _ rfl).on (Zab _ _)).on (Zab _ _)),((Box.new _ _ _ _ (by simp)).on (Zab _ _)),Box.new _ _ _ _ (by simp),(bt (bt (Zab _ _) (Zab _ _)) (Zab _ _))⟩
 rw [<- hwz];clear hwz;have hwn:w.heap.size+3<=wz.heap.size:=by have:=RB.o.lt;omega
 have HR:Hd (Rz (fun k=>K k\/(w.heap.size+1<=k/\k < w.heap.size+3)) lo wz w.heap.size b m S U):=HC.o.rz HB.o FB.o Zl_ (fun k hk=>hk.imp (fun h=>h) (fun h=>⟨by omega,by omega,by omega⟩));have HKP:Hd (Zag K w wz):=Zag.below HB.o HKw.o;clear FB HB;have y0:wz.cell? ⟨w.heap.size+1,0,none⟩=some (.int .i64 4):=by rw [<- HM.o];exact MB.o.cell 0
 have HA:=Zaa ha;have HF:=Zaa hf;clear ha hf;have y3:wz.cell? ⟨w.heap.size+1,3,none⟩=some (.int .i64 M.ba):=MB.o.cell 3;have y4:wz.cell? ⟨w.heap.size+1,4,none⟩=some (.int .i64 M.ix):=MB.o.cell 4;have y1:wz.cell? ⟨w.heap.size+1,1,none⟩=some (.int .i64 M.fr):=MB.o.cell 1;have x11:wz.cell? ⟨w.heap.size,11,none⟩=some (.bool U.ld):=HR.o.box.cell 11;have x13:wz.cell? ⟨w.heap.size,13,none⟩=some (.int .i64 U.ba):=HR.o.box.cell 13
 cases q1:U.ld with
 | false=>
  rw [q1] at x11;have HE:Hd (Zck U M=U):=by unfold Hd Zck;rw [if_neg (fun h=>by rw [q1] at h;exact absurd h.1 (by decide))]
  go_upto_region 42 with fail
  clear y0 y1 y3 y4 x11 x13;obtain⟨b9,m9,S9,yl,HRx,HYL,HRA,HTH,HON,HSy,hy18⟩:=exA (U:=U) HR.o RB.o rfl;clear HR
  go_wp2_with (first
   | (with_reducible refine ldR (.tmp 2) w.heap.size 0 yl HRA.o HSy.o ?_)
   | (with_reducible refine stR (.tmp 4) (.tmp 267) (w.heap.size+2) 0 yl.toArray HTH.o (szN hy18) HON.o ?_;refine Hd.o ?_))
  generalize hW9:World.setCells _ _ _ _=W9;obtain⟨FR9,HKn,HRn⟩:=exB hW9 RB.o hy18 HRx.o (Or.inr (by omega)) HKP.o HKw.o (by omega);clear hW9;refine Zaa ?_;go_wp2;exact bodyPost_ret (v:=.agg yl.toArray) (Zb6 (p:=4) results30 FR9.o HSy.o rfl) rfl ⟨b9,m9,S9,by rw [HYL.o,HE.o],HKn.o,by rw [HE.o];exact HRn.o⟩
 | true=>
 rw [q1] at x11
 cases q2:(M.ba == U.ba) with
 | false=>
  have HE:Hd (Zck U M=U):=by unfold Hd Zck;rw [if_neg (fun h=>by rw [h.2.1] at q2;simp at q2)]
  go_upto_region 42 with fail
  clear y0 y1 y3 y4 x11 x13;obtain⟨b9,m9,S9,yl,HRx,HYL,HRA,HTH,HON,HSy,hy18⟩:=exA (U:=U) HR.o RB.o rfl;clear HR
  go_wp2_with (first
   | (with_reducible refine ldR (.tmp 2) w.heap.size 0 yl HRA.o HSy.o ?_)
   | (with_reducible refine stR (.tmp 4) (.tmp 267) (w.heap.size+2) 0 yl.toArray HTH.o (szN hy18) HON.o ?_;refine Hd.o ?_))
  generalize hW9:World.setCells _ _ _ _=W9;obtain⟨FR9,HKn,HRn⟩:=exB hW9 RB.o hy18 HRx.o (Or.inr (by omega)) HKP.o HKw.o (by omega);clear hW9;refine Zaa ?_;go_wp2;exact bodyPost_ret (v:=.agg yl.toArray) (Zb6 (p:=4) results30 FR9.o HSy.o rfl) rfl ⟨b9,m9,S9,by rw [HYL.o,HE.o],HKn.o,by rw [HE.o];exact HRn.o⟩
 | true=>
 by_cases h3:0 < M.ix
 case neg=>
  have d3:decide (0 < M.ix)=false:=decide_eq_false h3;have HE:Hd (Zck U M=U):=by unfold Hd Zck;rw [if_neg (fun h=>h3 h.2.2)]
  go_upto_region 42 with fail
  clear y0 y1 y3 y4 x11 x13;obtain⟨b9,m9,S9,yl,HRx,HYL,HRA,HTH,HON,HSy,hy18⟩:=exA (U:=U) HR.o RB.o rfl;clear HR
  go_wp2_with (first
   | (with_reducible refine ldR (.tmp 2) w.heap.size 0 yl HRA.o HSy.o ?_)
   | (with_reducible refine stR (.tmp 4) (.tmp 267) (w.heap.size+2) 0 yl.toArray HTH.o (szN hy18) HON.o ?_;refine Hd.o ?_))
  generalize hW9:World.setCells _ _ _ _=W9;obtain⟨FR9,HKn,HRn⟩:=exB hW9 RB.o hy18 HRx.o (Or.inr (by omega)) HKP.o HKw.o (by omega);clear hW9;refine Zaa ?_;go_wp2;exact bodyPost_ret (v:=.agg yl.toArray) (Zb6 (p:=4) results30 FR9.o HSy.o rfl) rfl ⟨b9,m9,S9,by rw [HYL.o,HE.o],HKn.o,by rw [HE.o];exact HRn.o⟩
 have d3:decide (0 < M.ix)=true:=decide_eq_true h3;have HE:Hd (Zck U M=Zd3 U M.ix M.fr):=by unfold Hd Zck;rw [if_pos ⟨q1,eq_of_beq q2,h3⟩]
 go_upto_region 21 with fail
 clear y0 y3 x11 x13 d3 q1 q2;obtain⟨b8,m8,S8,HRx⟩:∃ b' m' S',Hd (Rz (fun k=>K k\/(w.heap.size+1<=k/\k < w.heap.size+3)) lo wz w.heap.size b' m' S' (U)):=⟨_,_,_,HR⟩
 clear HR;have HRA:Hd (World.rangeAt wz w.heap.size 0 (rrF (U) b8 m8)):=HRx.o.box.range rfl;have HSy:Hd ((prog.info? 41).map (·.size)=some (rrF (U) b8 m8).length):=by unfold Hd;exact Zar
 go_wp2_with (first
  | (with_reducible refine ldR (.tmp 2) w.heap.size 0 (rrF (U) b8 m8) HRA.o HSy.o ?_))
 clear HRA HSy;refine (Zjf (fun k=>(fun k=>K k\/(w.heap.size+1<=k/\k < w.heap.size+3)) k\/k=w.heap.size) lo _ U b8 m8 S8 M.ix M.fr HRx.o.czg (by omega) hx2 h0 h1 HA.o hl HF.o hsl).mono ?_;rintro e wa ⟨b7,m7,S7,rfl,hk7,hc7⟩;obtain⟨yl,HYL,HTH,HON,HSz,hy18,HEX⟩:=exC RB.o rfl hk7 hc7 HKP.o HKw.o (Or.inl (Or.inr ⟨by omega,by omega⟩)) (fun k h=>Or.inl (Or.inl h)) (by omega);rw [<- HYL.o];clear hk7 hc7 HRx RB HKP;go_wp2_with (with_reducible refine stR (.tmp 4) (.tmp 137) (w.heap.size+2) 0 yl.toArray HTH.o (szN hy18) HON.o ?_;refine Hd.o ?_);generalize hW9:World.setCells _ _ _ _=W9;obtain⟨FR9,HKn,HCn⟩:=HEX.o _ hW9;clear hW9;refine Zaa ?_;go_wp2;exact bodyPost_ret (v:=.agg yl.toArray) (Zb6 (p:=4) results30 FR9.o HSz.o rfl) rfl ⟨b7,m7,S7,by rw [HYL.o,HE.o],HKn.o,by rw [HE.o];exact HCn.o⟩
structure ZkX (U:Rr) (M:Rm):Prop where
 kd1:1<=M.kd
 kd9:M.kd<=9
 hz:RrZ U
 k0:0<=U.dk.kn
 k1:U.dk.kn<=(U.dk.sl.length:Int)
 sl:U.dk.sl.length<=999
 ix0:0<=M.ix
 ix2:M.ix<=1000
 mn:M.kn<=1000
 ac:∀ i (h:i < U.ac.length),1<=U.ac[i].ix/\U.ac[i].ix<=1000
 al:U.ac.length<=100000
 af:∀ i (h:i < U.ac.length),U.ac[i].fr.length<=100000
 yl:U.ye.length<=1000
 bl:U.be.length<=1000
 wl:U.wi.length<=1000
 mt:M.tx.size<=1048576
 ms:M.sl.length<=1000
def ZaM (U:Rr) (M:Rm):Rr:=if M.kd=1 then Zdh U M else if M.kd=2 then ZcG U M else if M.kd=3 then Zb1 U M else if M.kd=4 then Zck U M else if M.kd=5 then ZcW U M else if M.kd=6 then Zco U M else if M.kd=7 then Zdi U M else if M.kd=8 then Zfh U M else Zcl U M
theorem ZiV (K:Nat->Prop) (lo:Nat) (w:World) (U:Rr) (b:Nat->Option Addr) (m:Nat->Nat) (S:Nat->Nat->Prop) (M:Rm) (a0:Option Addr) (k0:Nat) (h:Cz K lo w b m S U) (hvk:∀ W,Zag K w W->Zaq 0 W (.slice a0 M.sl.length k0) M.sl) (o:ZkX U M) :
 Calls prog 30 #[.agg (rrF U b m).toArray,.agg (rmL M a0 k0).toArray] w fun e w'=>∃ b' m' S',e=.returned (.agg (rrF (ZaM U M) b' m').toArray)/\Zag K w w'/\Cz K lo w' b' m' S' (ZaM U M):=by
 have s1:=o.sl;have s2:=o.k1;have s3:=o.wl;have e:M.kd=1\/M.kd=2\/M.kd=3\/M.kd=4\/M.kd=5\/M.kd=6\/M.kd=7\/M.kd=8\/M.kd=9:=by have:=o.kd1;have:=o.kd9;omega
 rcases e with e | e | e | e | e | e | e | e | e
 . have hu:ZaM U M=Zdh U M:=by unfold ZaM;rw [if_pos e]
   rw [hu];exact ZiM K lo w U b m S M a0 k0 h e o.hz (by omega)
 . have hu:ZaM U M=ZcG U M:=by unfold ZaM;rw [if_neg (show ¬ M.kd=1 by omega),if_pos e]
   rw [hu];exact ZiN K lo w U b m S M a0 k0 h e hvk o.hz o.k0 o.k1 (by omega) o.yl o.bl o.ms
 . have hu:ZaM U M=Zb1 U M:=by unfold ZaM;rw [if_neg (show ¬ M.kd=1 by omega),if_neg (show ¬ M.kd=2 by omega),if_pos e]
   rw [hu];exact ZiO K lo w U b m S M a0 k0 h e o.ix2 (by omega)
 . have hu:ZaM U M=Zck U M:=by unfold ZaM;rw [if_neg (show ¬ M.kd=1 by omega),if_neg (show ¬ M.kd=2 by omega),if_neg (show ¬ M.kd=3 by omega),if_pos e]
   rw [hu];exact ZiP K lo w U b m S M a0 k0 h e o.ix2 o.k0 (by omega) o.ac o.al o.af (by omega)
 . have hu:ZaM U M=ZcW U M:=by unfold ZaM;rw [if_neg (show ¬ M.kd=1 by omega),if_neg (show ¬ M.kd=2 by omega),if_neg (show ¬ M.kd=3 by omega),if_neg (show ¬ M.kd=4 by omega),if_pos e]
   rw [hu];exact ZiQ K lo w U b m S M a0 k0 h e o.k0 o.k1 (by omega) o.mn o.wl
 . have hu:ZaM U M=Zco U M:=by unfold ZaM;rw [if_neg (show ¬ M.kd=1 by omega),if_neg (show ¬ M.kd=2 by omega),if_neg (show ¬ M.kd=3 by omega),if_neg (show ¬ M.kd=4 by omega),if_neg (show ¬ M.kd=5 by omega),if_pos e]
   rw [hu];exact ZiR K lo w U b m S M a0 k0 h e o.k0 (by omega) (by omega)
 . have hu:ZaM U M=Zdi U M:=by unfold ZaM;rw [if_neg (show ¬ M.kd=1 by omega),if_neg (show ¬ M.kd=2 by omega),if_neg (show ¬ M.kd=3 by omega),if_neg (show ¬ M.kd=4 by omega),if_neg (show ¬ M.kd=5 by omega),if_neg (show ¬ M.kd=6 by omega),if_pos e]
   rw [hu];exact ZiS K lo w U b m S M a0 k0 h e o.ix0 o.ix2 o.k0 o.k1 (by omega)
 . have hu:ZaM U M=Zfh U M:=by unfold ZaM;rw [if_neg (show ¬ M.kd=1 by omega),if_neg (show ¬ M.kd=2 by omega),if_neg (show ¬ M.kd=3 by omega),if_neg (show ¬ M.kd=4 by omega),if_neg (show ¬ M.kd=5 by omega),if_neg (show ¬ M.kd=6 by omega),if_neg (show ¬ M.kd=7 by omega),if_pos e]
   rw [hu];exact ZiT K lo w U b m S M a0 k0 h e o.hz o.k0 o.k1 o.mt (by omega)
 . have hu:ZaM U M=Zcl U M:=by unfold ZaM;rw [if_neg (show ¬ M.kd=1 by omega),if_neg (show ¬ M.kd=2 by omega),if_neg (show ¬ M.kd=3 by omega),if_neg (show ¬ M.kd=4 by omega),if_neg (show ¬ M.kd=5 by omega),if_neg (show ¬ M.kd=6 by omega),if_neg (show ¬ M.kd=7 by omega),if_neg (show ¬ M.kd=8 by omega)]
   rw [hu];exact ZiU K lo w U b m S M a0 k0 h e
section
variable {L:List Rs} {U:Rr} {M:Rm}
def SlZ (L:List Rs):Prop:=∀ s ∈ L,s.tx.size<=maxLen
structure Bz (U:Rr):Prop where
 z0:SlZ U.sf.sl
 l0:U.sf.sl.length<=2000
 z1:SlZ U.dk.sl
 l1:U.dk.sl.length<=2000
 z2:∀ M ∈ U.he,SlZ M.sl/\M.sl.length<=2000/\M.tx.size<=maxLen
 l2:U.he.length<=2000
 z3:∀ t ∈ U.wi,t.size<=maxLen
 l3:U.wi.length<=2000
 l4:U.ye.length<=2000
 z5:SlZ U.be
 l5:U.be.length<=2000
 z6:∀ a ∈ U.ac,a.fr.length<=200000
 l6:U.ac.length<=200000
theorem SlZ.at (h:SlZ L):∀ i (hi:i < L.length),ZaV L[i]:=fun _ hi=>⟨h _ (List.getElem_mem hi)⟩
theorem Bz.rrz (h:Bz U):RrZ U:=
 ⟨h.z0.at,h.z1.at,fun _ hi=>⟨((h.z2 _ (List.getElem_mem hi)).1).at,(h.z2 _ (List.getElem_mem hi)).2.2⟩,fun _ hi=>h.z3 _ (List.getElem_mem hi),h.z5.at⟩
theorem Zdv (h:L.length<=2000):Zbe L:=⟨by omega,fun _ _=>rfl⟩
theorem Bz.small (h:Bz U):Zbd U:=by
 have h3:=h.l3;have h4:=h.l4;have h6:=h.l6;have h2:=h.l2;refine⟨Zdv h.l0,Zdv h.l1,⟨by omega,fun i hi=>Zdv (h.z2 _ (List.getElem_mem hi)).2.1⟩,?_,?_,Zdv h.l5,⟨by omega,fun i hi=>?_⟩⟩
 . unfold Zbf;omega
 . unfold ZaN;omega
 . have:=h.z6 _ (List.getElem_mem hi)
   unfold Zci ZaN;omega
theorem Zcg:(⟨#[]⟩:Zy_).size<=maxLen:=Nat.zero_le _
theorem Bz.hold (h:Bz U) (h1:SlZ M.sl) (h2:M.sl.length<=2000) (h3:M.tx.size<=maxLen):Bz (Zav U M):=by
 unfold Zav
 split
 . rename_i hlt
   refine⟨h.z0,h.l0,h.z1,h.l1,fun x hx=>?_,by simp;omega,h.z3,h.l3,h.l4,h.z5,h.l5,h.z6,h.l6⟩
   rcases List.mem_append.1 hx with hx | hx
   . exact h.z2 x hx
   . rw [List.mem_singleton.1 hx];exact⟨h1,h2,h3⟩
 . exact h
theorem Bz.hold0 (h:Bz U) (h1:M.sl=[]) (h3:M.tx.size<=maxLen):Bz (Zav U M):=h.hold (by rw [h1];intro s hs;simp at hs) (by rw [h1];simp) h3
theorem Bz.calm (h:Bz U):Bz (ZaB U):=⟨h.z0,h.l0,h.z1,h.l1,h.z2,h.l2,h.z3,h.l3,Nat.zero_le _,fun s hs=>by simp [ZaB] at hs,Nat.zero_le _,fun a ha=>by simp [ZaB] at ha,Nat.zero_le _⟩
theorem Bz.disk {d:Rd} (h:Bz U) (hd:d.sl=U.dk.sl):Bz { U with dk:=d }:=⟨h.z0,h.l0,by show SlZ d.sl;rw [hd];exact h.z1,by show d.sl.length<=_;rw [hd];exact h.l1,h.z2,h.l2,h.z3,h.l3,h.l4,h.z5,h.l5,h.z6,h.l6⟩
theorem Bz.pr (h:Bz U) (x:Int):Bz (prU U x):=h.disk rfl
theorem Bz.hd (h:Bz U) (x:Int):Bz { U with hd:=x }:=⟨h.z0,h.l0,h.z1,h.l1,h.z2,h.l2,h.z3,h.l3,h.l4,h.z5,h.l5,h.z6,h.l6⟩
theorem Bz.follow (h:Bz U) (x:Int):Bz (Zam U x):=by
 unfold Zam
 split
 . exact (h.pr x).hd 0
 . exact ((h.pr x).calm).hd 0
theorem ZjP {i:Nat} (s:Rs) (_hi:1<=i):(Zko L i s).length=max L.length i:=by
 unfold Zko;simp;omega
theorem SlZ.set (h:SlZ L) (i:Nat) {s:Rs} (hs:s.tx.size<=maxLen):SlZ (Zko L i s):=by
 intro x hx;unfold Zko at hx
 rcases List.mem_or_eq_of_mem_set hx with hx | hx
 . rcases List.mem_append.1 hx with hx | hx
   . exact h x hx
   . rw [(List.mem_replicate.1 hx).2];exact Zcg
 . rw [hx];exact hs
theorem Bz.set (h:Bz U) {i:Nat} (hi:1<=i) (hi2:i<=2000) {s:Rs} (hs:s.tx.size<=maxLen):Bz (ZdM U i s):=
 ⟨h.z0,h.l0,h.z1.set i hs,by show (Zko U.dk.sl i s).length<=_;rw [ZjP s hi];have:=h.l1;omega,h.z2,h.l2,h.z3,h.l3,h.l4,h.z5,h.l5,h.z6,h.l6⟩
theorem Bz.adv1 (h:Bz U) (a:Ra):Bz (adv1 U a):=by
 unfold Go.Proofs.YtkiefplmnoapfaaGreat.adv1
 split
 . exact h.disk rfl
 . exact h
theorem Bz.advs:∀ (L:List Ra) {U:Rr},Bz U->Bz (L.foldl Go.Proofs.YtkiefplmnoapfaaGreat.adv1 U)
 | [],_,h=>h
 | a :: L,_,h=>Bz.advs L (h.adv1 a)
theorem Bz.ack (h:Bz U) (hl:U.ac.length<=100000) (hf:∀ a ∈ U.ac,a.fr.length<=100000) (ix n:Int):Bz (Zd3 U ix n):=by
 unfold Zd3 ZcI;refine Bz.advs _ ⟨h.z0,h.l0,h.z1,h.l1,h.z2,h.l2,h.z3,h.l3,h.l4,h.z5,h.l5,?_,?_⟩
 . have hi:∀ a ∈ Zdr U.ac ix,a.fr.length<=100000:=by
    unfold Zdr
    split
    . exact hf
    . exact Zga hf Zz_
   exact ZdT hi (fun a h=>by omega) (fun a h=>Nat.le_trans (Zcm _ _) (by omega))
 . show (ZeB _ _ n).length<=_
   rw [ZdU];unfold Zdr
   split
   . omega
   . simp;omega
theorem SlZ.merge:∀ {a b:List Rs},SlZ a->SlZ b->SlZ (Zax a b)
 | [],b,_,hb=>by rw [Zax];exact hb
 | x :: a,[],ha,_=>by rw [Zax];exact ha
 | x :: a,y :: b,ha,hb=>by
  rw [Zax];intro s hs
  rcases List.mem_cons.1 hs with e | hs
  . rw [e]
    unfold mrg
    split
    . exact hb y (List.mem_cons_self ..)
    . exact ha x (List.mem_cons_self ..)
  . exact SlZ.merge (fun s h=>ha s (List.mem_cons_of_mem _ h)) (fun s h=>hb s (List.mem_cons_of_mem _ h)) s hs
theorem Bz.lead (h:Bz U) {B:List Rs} (hB:SlZ B) (k0:Nat) (hl:B.length<=1999):∀ i,Bz (Zca U B k0 i)
 | 0=>h
 | i+1=>by
  unfold Zca
  split
  . rename_i s hs
    have hm:=List.mem_of_getElem? hs;have hi:=(List.getElem?_eq_some_iff.1 hs).1;exact (Bz.lead h hB k0 hl i).set (by omega) (by omega) (hB s hm)
  . exact Bz.lead h hB k0 hl i
theorem Bz.prom (h:Bz U) (hy:U.ye.length<=1000) (hb:U.be.length<=1000) {L:List Rs} (hL:SlZ L) (hl:L.length<=1000) (n:Int):Bz (ZcF U n L):=by
 have hbest:Bz (Zcd U n L):=⟨h.z0,h.l0,h.z1,h.l1,h.z2,h.l2,h.z3,h.l3,Nat.le_trans (Zcm _ _) (by omega),h.z5.merge hL,by show (Zax U.be L).length<=_;rw [ZbK];omega,h.z6,h.l6⟩;unfold ZcF
 split
 . exact hbest
 . have hled:Bz (ZeI (Zcd U n L)):=⟨h.z0,h.l0,h.z1,h.l1,h.z2,h.l2,h.z3,h.l3,Nat.zero_le _,fun s hs=>by simp [ZeI,ZaB] at hs,Nat.zero_le _,fun a ha=>by simp [ZeI,ZaB] at ha,Nat.zero_le _⟩
   exact Bz.lead hled (h.z5.merge hL) _ (by rw [ZbK];omega) _
theorem Bz.kn:∀ (n:Nat) {U:Rr} (qk qb:Int),Bz U->Bz (knF n U qk qb)
 | 0,_,_,_,h=>h
 | n+1,U,qk,qb,h=>by
  unfold knF
  split
  . exact Bz.kn n qk qb (h.disk rfl)
  . exact h
theorem Bz.wishes (M:Rm):∀ (L:List Zy_) {U:Rr},(∀ t ∈ L,t.size<=maxLen)->Bz U->Bz (L.foldl (fun V t=>Zav V (ZcJ M t)) U)
 | [],_,_,h=>h
 | t :: L,_,hL,h=>Bz.wishes M L (fun t ht=>hL t (List.mem_cons_of_mem _ ht)) (h.hold0 (M:=ZcJ M t) rfl (hL t (List.mem_cons_self ..)))
theorem Bz.beat (h:Bz U) (M:Rm):Bz (Zcq U M):=by
 unfold Zcq
 split
 . exact h
 . have hk:=Bz.kn (Zam U M.ba).dk.sl.length M.kn M.ba (h.follow M.ba)
   have hn:Bz (ZbU (knF (Zam U M.ba).dk.sl.length (Zam U M.ba) M.kn M.ba) M):=by
    unfold ZbU
    split
    . exact hk.hold0 rfl Zcg
    . exact hk
   unfold Zbi;exact Bz.wishes M _ (fun t ht=>hn.z3 t (List.mem_of_mem_take ht)) hn
theorem Bz.wish (h:Bz U) {tx:Zy_} (hw:U.wi.length<=1000) (ht:tx.size<=maxLen):Bz (Zcp U tx):=by
 unfold Zcp
 split
 . refine⟨h.z0,h.l0,h.z1,h.l1,h.z2,h.l2,fun t hx=>?_,by simp;omega,h.l4,h.z5,h.l5,h.z6,h.l6⟩
   rcases List.mem_append.1 hx with hx | hx
   . exact h.z3 t hx
   . rw [List.mem_singleton.1 hx];exact ht
 . exact h
theorem ZjQ (h:SlZ L) (k:Nat):(stx L k).size<=maxLen:=by
 unfold stx
 split
 . rename_i s hs;exact h s (List.mem_of_getElem? hs)
 . exact Zcg
theorem Bz.says (h:Bz U) (M:Rm):∀ i,Bz (Zfo U M i)
 | 0=>h
 | i+1=>(Bz.says h M i).hold0 (M:=ZiG U M i) rfl (ZjQ h.z1 _)
theorem Bz.take (h:Bz U) (o:ZkX U M) (hm:SlZ M.sl) (ht:M.tx.size<=maxLen):Bz (ZaM U M):=by
 have hr:Bz (Zav U (Zfc U M)):=h.hold0 rfl Zcg;have i2:=o.ix2;have s1:=o.sl;unfold ZaM
 split
 . unfold Zdh
   split
   . exact hr
   . exact (h.follow M.ba).hold (M:=ZgN (Zam U M.ba) M) (h.follow M.ba).z1 (h.follow M.ba).l1 Zcg
 split
 . unfold ZcG
   split
   . exact h.prom o.yl o.bl hm o.ms _
   . exact h
 split
 . unfold Zb1
   split
   . exact hr
   split
   . exact h
   . rename_i hn
     refine Bz.hold0 (M:=ZhD M) ?_ rfl Zcg;unfold Zkv
     split
     . exact (h.follow M.ba).set (by omega) (by omega) ht
     . exact h.follow M.ba
 split
 . unfold Zck
   split
   . refine h.ack o.al (fun a ha=>?_) _ _
     obtain⟨i,hi,rfl⟩:=List.getElem_of_mem ha;exact o.af i hi
   . exact h
 split
 . unfold ZcW
   split
   . exact hr
   . exact h.beat M
 split
 . unfold Zco
   split
   . rename_i hq
     have:=o.k0;exact (h.set (i:=M.ix.toNat) (by omega) (by omega) (s:=⟨M.ba,M.tx⟩) ht).disk rfl
   . exact h
 split
 . exact h.says M _
 split
 . exact h.wish o.wl ht
 . unfold Zcl
   split
   . exact h.calm.pr _
   . exact h
end
section
variable {L:List Int} {U:Rr} {w:World} {lo hi g:Nat} {v:Value}
theorem Zdd {a b x:Int}:inB a b x=true↔a<=x/\x<=b:=by unfold inB;simp
theorem Zkg {of:Int} (h:Zbt of L=true):∀ k (hk:k < L.length),(k:Int)+1<=L[k]/\L[k]<=of:=by
 have ok:∀ k,k < L.length->ZfK of L k=true:=fun k hk=>by
  unfold Zbt at h;exact List.all_eq_true.1 h k (List.mem_range.2 hk)
 intro k
 induction k with
 | zero=>
  intro hk;have:=ok 0 hk;unfold ZfK at this;simp only [Bool.and_eq_true,Zdd,List.getD_eq_getElem?_getD,List.getElem?_eq_getElem hk,Option.getD_some] at this;exact⟨by simpa using this.1.1,this.1.2⟩
 | succ k ih=>
  intro hk;have hk':k < L.length:=by omega
  have hp:=ih hk';have:=ok (k+1) hk;unfold ZfK at this;simp only [Bool.and_eq_true,Zdd,List.getD_eq_getElem?_getD,List.getElem?_eq_getElem hk,Nat.add_sub_cancel,List.getElem?_eq_getElem hk',Option.getD_some,Bool.not_eq_true',Bool.and_eq_false_iff,decide_eq_false_iff_not] at this;obtain⟨⟨_,h2⟩,h3⟩:=this;refine⟨?_,h2⟩
  rcases h3 with h3 | h3
  . omega
  . omega
theorem ZdX {of:Int} (h:Zbt of L=true) (hof:of<=5):L.length<=5:=by
 rcases Nat.eq_zero_or_pos L.length with e | e
 . omega
 . have:=Zkg h (L.length - 1) (by omega)
   omega
theorem Zd4 {of:Int}{L:List Ra} (h:ZbN of L=true):∀ k (hk:k < L.length),((k:Int)+1<=L[k].ix/\L[k].ix<=120)/\Zbt of L[k].fr=true:=by
 have ok:∀ k,k < L.length->ZgU of L k=true:=fun k hk=>by
  unfold ZbN at h;exact List.all_eq_true.1 h k (List.mem_range.2 hk)
 intro k
 induction k with
 | zero=>
  intro hk;have:=ok 0 hk;unfold ZgU at this;simp only [Bool.and_eq_true,Zdd,Zb9 hk] at this;exact⟨⟨by simpa using this.1.1,this.1.2⟩,this.2.1⟩
 | succ k ih=>
  intro hk;have hk':k < L.length:=by omega
  have hp:=ih hk';have:=ok (k+1) hk;unfold ZgU at this;simp only [Bool.and_eq_true,Zdd,Zb9 hk,Nat.add_sub_cancel,Zb9 hk',Bool.not_eq_true',Bool.and_eq_false_iff,decide_eq_false_iff_not] at this;obtain⟨⟨_,h2⟩,h4,h3⟩:=this;refine⟨⟨?_,h2⟩,h4⟩
  rcases h3 with h3 | h3
  . omega
  . omega
theorem ZeV {of:Int}{L:List Ra} (h:ZbN of L=true):L.length<=120:=by
 rcases Nat.eq_zero_or_pos L.length with e | e
 . omega
 . have:=Zd4 h (L.length - 1) (by omega)
   omega
theorem Zdx {L:List Rs} (h:ZaT L=true):L.length<=120:=by
 unfold ZaT at h;simp only [Bool.and_eq_true,decide_eq_true_eq] at h;exact h.1
theorem ZgB {D:Rd} (h:Za4 D=true):D.sl.length<=120:=by
 unfold Za4 at h;simp only [Bool.and_eq_true] at h;exact Zdx h.2.1
theorem SlZ.of {L:List Rs} (h:∀ i (hi:i < L.length),ZaV L[i]):SlZ L:=fun s hs=>by
 obtain⟨i,hi,rfl⟩:=List.getElem_of_mem hs;exact (h i hi).s0
structure Zk8 (U:Rr):Prop where
 of5:U.of<=5
 sf:U.sf.sl.length<=120
 dk:U.dk.sl.length<=120
 he:U.he.length<=400
 hs:∀ M ∈ U.he,M.sl.length<=120
 wi:U.wi.length<=20
 ye:U.ye.length<=5
 be:U.be.length<=120
 ac:ZbN U.of U.ac=true
theorem Zfl (h:ZaW U=true):Zk8 U:=by
 unfold ZaW Zfd at h;simp only [Bool.and_eq_true,decide_eq_true_eq,Zdd] at h;obtain⟨⟨_,h1⟩,_,h3,h4,h5,h6,_,h8,h9,h10,h11,_⟩:=h;refine⟨h1,ZgB h3,ZgB h4,h5,fun M hM=>?_,?_,ZdX h9 h1,Zdx h10,h11⟩
 . obtain⟨i,hi,rfl⟩:=List.getElem_of_mem hM
   have:=List.all_eq_true.1 h8 i (List.mem_range.2 hi);unfold ZbZ at this;rw [List.getElem?_eq_getElem hi] at this;simp only [ZcK,Bool.and_eq_true] at this;exact Zdx this.1.2.2.2.2.2.2.2
 . unfold ZbP at h6
   simp only [Bool.and_eq_true,decide_eq_true_eq] at h6;exact h6.1
theorem ZjS (h:ZaW U=true) (hz:RrZ U):Bz U:=by
 have v:=Zfl h;have al:=ZeV v.ac;refine⟨SlZ.of hz.z0,by have:=v.sf;omega,SlZ.of hz.z1,by have:=v.dk;omega,fun M hM=>?_,by have:=v.he;omega,fun t ht=>?_,by have:=v.wi;omega,by have:=v.ye;omega,SlZ.of hz.z5,by have:=v.be;omega,fun a ha=>?_,by omega⟩
 . have hl:=v.hs M hM
   obtain⟨i,hi,rfl⟩:=List.getElem_of_mem hM;exact⟨SlZ.of (hz.z2 i hi).1,by omega,(hz.z2 i hi).2⟩
 . obtain⟨i,hi,rfl⟩:=List.getElem_of_mem ht
   exact hz.z3 i hi
 . obtain⟨i,hi,rfl⟩:=List.getElem_of_mem ha
   have:=ZdX (Zd4 v.ac i hi).2 v.of5
   omega
theorem Zfm {M:Rm} (h:ZaW U=true) (hz:RrZ U) (hm:ZcK M U.of=true):ZkX U M:=by
 have v:=Zfl h;have kn:=Zfk h;unfold ZcK at hm;simp only [Bool.and_eq_true,decide_eq_true_eq,Zdd] at hm;obtain⟨⟨k1,k9⟩,_,_,_,⟨i0,i1⟩,⟨_,n1⟩,t1,s1⟩:=hm;refine⟨k1,k9,hz,kn.1,kn.2,by have:=v.dk;omega,i0,by omega,by omega,fun i hi=>?_,by have:=ZeV v.ac;omega,fun i hi=>?_,by have:=v.ye;omega,by have:=v.be;omega,by have:=v.wi;omega,by omega,by have:=Zdx s1;omega⟩
 . have:=Zd4 v.ac i hi
   omega
 . have:=ZdX (Zd4 v.ac i hi).2 v.of5
   omega
theorem MR.ng {L:List MX} (h:MR w lo hi g v L):ZbT PM mxL 8 w lo hi v L:=by
 obtain⟨c,h1,h2,h3⟩:=h.inn;exact Or.inr ⟨g,c,h.row,h.low,h.up,⟨h1,h2,fun i hi=>Or.inr (h3 i hi)⟩⟩
theorem AR.ng {L:List AX} (h:AR w lo hi g v L):ZbT PA axL 2 w lo hi v L:=by
 obtain⟨c,h1,h2,h3⟩:=h.inn;exact Or.inr ⟨g,c,h.row,h.low,h.up,⟨h1,h2,fun i hi=>Or.inr (h3 i hi)⟩⟩
theorem Cpy.cpn {c:Nat->Nat×Nat}{v0 v1 v2 v3 v4 v5 v6:Value} (h:Cpy w lo c v0 v1 v2 v3 v4 v5 v6 U):Cpn w lo c v0 v1 v2 v3 v4 v5 v6 U:=by
 obtain⟨g2,L2,h2,e2⟩:=h.o2;obtain⟨g6,L6,h6,e6⟩:=h.o6;exact⟨h.seg,h.ap,Or.inr h.o0,Or.inr h.o1,⟨L2,h2.ng,e2⟩,Or.inr h.o3,Or.inr h.o4,Or.inr h.o5,⟨L6,h6.ng,e6⟩⟩
end
section
variable {U:Rr} {M:Rm} {lo:Nat} {w:World} {cs:List Value}
theorem ZgQ:(prog.info? 45).map (·.size)=some 8:=by kernel_rfl
def ZcV (U:Rr) (M:Rm):Rr:=if ZaW U then (if (U.up&&(ZcK M U.of&&decide (M.tt=U.nu)))=true then ZaM U M else U) else nwU 0 0 false
theorem Zfg (h:ZaW U=true) (hz:RrZ U) (hm:ZcK M U.of=true) (hs:SlZ M.sl) (ht:M.tx.size<=maxLen):Bz (ZaM U M):=(ZjS h hz).take (Zfm h hz hm) hs ht
theorem Zgo (h:Zbd U) (hz:RrZ U) (hs:SlZ M.sl) (ht:M.tx.size<=maxLen):Zbd (ZcV U M):=by
 unfold ZcV
 split
 . rename_i hv
   split
   . rename_i hq
     simp only [Bool.and_eq_true] at hq;exact (Zfg hv hz hq.2.1 hs ht).small
   . exact h
 . exact Zjx _ _ _
theorem Zk3 (lo:Nat) (n of:Int) (up:Bool) (w:World):RrC lo w (nwL n of up) (nwU n of up):=
 ⟨none,0,none,0,none,0,none,0,none,0,none,0,none,0,rfl,⟨Or.inl ⟨none,0,rfl,rfl⟩,Or.inl ⟨none,0,rfl,rfl⟩,Or.inl ⟨none,0,rfl,rfl⟩,Or.inl ⟨none,0,rfl,rfl⟩,Or.inl ⟨none,0,rfl,rfl⟩,Or.inl ⟨none,0,rfl,rfl⟩,Or.inl ⟨none,0,rfl,rfl⟩⟩⟩
theorem RmC.slz (h:RmC lo w cs M):SlZ M.sl:=by
 obtain⟨_,_,_,h⟩:=h
 rcases h.l0 with ⟨_,_,_,h2⟩ | ⟨b,off,cap,h1,h2,h3,h4,h5,h6,h7⟩
 . rw [h2];intro s hs;simp at hs
 . exact SlZ.of fun i hi=>(h7 i hi).1
theorem RmC.txz (h:RmC lo w cs M):M.tx.size<=maxLen:=by
 obtain⟨_,_,_,h⟩:=h;exact h.s0
theorem ZfO (cs:List Value) (U:Rr) (csm:List Value) (M:Rm) (w:World) (h:RrC 0 w cs U) (hm:RmC 0 w csm M) (hn:Zbd U) :
 Calls prog 7 #[.agg cs.toArray,.agg csm.toArray] w fun e w'=>∃ cs',e=.returned (.agg cs'.toArray)/\Zw_ w w'/\RrC w.heap.size w' cs' (ZcV U M):=by
 have HC:=Zaa h;have HM:=Zaa hm;have HN:=Zaa hn;have HZ:=Zaa h.sizes;have HS:Hd ((prog.info? 41).map (·.size)=some cs.length):=by unfold Hd;rw [h.len];exact Zar
 have HSm:Hd ((prog.info? 45).map (·.size)=some csm.length):=by unfold Hd;rw [hm.len];exact ZgQ
 have HE:Hd (ZcV U M=if ZaW U then (if (U.up&&(ZcK M U.of&&decide (M.tt=U.nu)))=true then ZaM U M else U) else nwU 0 0 false):=rfl;have HUP:=Zaa (ZdH h).2.2.1;have HNU:=Zaa (ZdH h).1;have HOF:=Zaa (ZdH h).2.1;have HTT:Hd (csm[2]?=some (.int .i64 M.tt)):=by obtain⟨a0,k0,e,_⟩:=hm;rw [e];rfl
 have HTN:Hd (∀ (X:World) (l:List Value),l.length=18->(X.alloc (.cells zR 41)).there X.heap.size 0 l.toArray.size):=fun X l h=>by rw [show l.toArray.size=18 from h];exact Zch _ _ _ _ rfl
 have HBX:Hd (∀ (X:World) (l:List Value),l.length=18->Box ((X.alloc (.cells zR 41)).setCells X.heap.size 0 l.toArray.toList) X.heap.size l.toArray):=fun X l h=>(Box.new _ _ _ _ rfl).full (by rw [show l.toArray.size=18 from h];rfl)
 clear h hn hm;have HR0:Hd (World.rangeAt (((w.alloc (.cells cs.toArray 41)).alloc (.cells csm.toArray 45)).alloc (.cells zR 41)) w.heap.size 0 cs):=(((Box.new w _ _ _ rfl).on (Zab _ _)).on (Zab _ _)).range rfl;go_enter func7,ntmps7;go_wp2_with (with_reducible refine ldR (.tmp 2) w.heap.size 0 cs HR0.o HS.o ?_)
 obtain⟨wz,hwz,FB,MB,RB,HB⟩:∃ wz,wz=((w.alloc (.cells cs.toArray 41)).alloc (.cells csm.toArray 45)).alloc (.cells zR 41)/\Hd (Box wz w.heap.size cs.toArray)/\Hd (Box wz (w.heap.size+1) csm.toArray)/\Hd (Box wz (w.heap.size+2) zR)/\Hd (Zw_ w wz):=
  ⟨_,rfl,((Box.new w _ _ _ rfl).on (Zab _ _)).on (Zab _ _),(Box.new _ _ _ _ (by simp)).on (Zab _ _),Box.new _ _ _ _ (by simp),bt (bt (Zab _ _) (Zab _ _)) (Zab _ _)⟩
 rw [<- hwz];clear hwz HR0;refine (Zez 0 cs U _ (HC.o.below HB.o) HN.o).mono ?_;rintro e w1 ⟨rfl,hb⟩;replace HB:Hd (Zw_ w w1):=bt HB.o hb;replace FB:=Zaa (FB.o.on hb);replace MB:=Zaa (MB.o.on hb);replace RB:=Zaa (RB.o.on hb);clear hb;have hsz:w.heap.size+3<=w1.heap.size:=by have:=RB.o.lt;omega
 cases qv:ZaW U with
 | false=>
  have HV:Hd (ZcV U M=nwU 0 0 false):=by unfold Hd;rw [HE.o,qv];rfl
  obtain⟨zl,hzl⟩:∃ zl,zl=nwL 0 0 false:=⟨_,rfl⟩
  have hz18:zl.length=18:=by rw [hzl];rfl
  have HON:Hd (zl.toArray.all (·.oneCell')=true):=by unfold Hd;rw [hzl];exact Zh8 _ _ _
  have HZL:=Zaa hzl;have hzb:∀ u,Sem.run prog (zeroValue 41) u=.ok (.agg zl.toArray) u:=by rw [hzl];intro u;kernel_rfl
  clear hzl;have HTH:Hd (World.there w1 (w.heap.size+2) 0 zl.toArray.size):=by unfold Hd;rw [show zl.toArray.size=18 from hz18];exact RB.o.there rfl
  go_wp2_with (first
   | (with_reducible refine stR (.tmp 4) (.tmp 9) (w.heap.size+2) 0 zl.toArray HTH.o (szN hz18) HON.o ?_;refine Hd.o ?_))
  generalize hW:World.setCells _ _ _ _=W9;have FR9:Hd (Box W9 (w.heap.size+2) zl.toArray):=by unfold Hd;rw [<- hW];exact RB.o.full (by rw [show zl.toArray.size=18 from hz18];rfl)
  have TT:Hd (Zad (w.heap.size+2) ((w.heap.size+2)+1) w1 W9):=by unfold Hd;rw [<- hW];exact Zad.sets ⟨by omega,by omega⟩ _ _ _
  have HB9:Hd (Zw_ w W9):=HB.o.trans ((TT.o.under (by have:=RB.o.lt;omega)).mono (by omega));clear hW;refine Zaa ?_;go_wp2;exact bodyPost_ret (v:=.agg zl.toArray) (ZbL (p:=4) (ty:=41) results7 _ _ (w.heap.size+2) 0 zl _ rfl (FR9.o.range rfl) underlying41 rfl (by rw [hz18];exact Zar)) rfl ⟨zl,rfl,HB9.o,by rw [HV.o,HZL.o];exact Zk3 _ _ _ _ _⟩
 | true=>
 have HRA:=Zaa (FB.o.range (l:=cs) rfl);go_wp2_with (with_reducible refine ldR (.tmp 2) w.heap.size 0 cs HRA.o HS.o ?_);clear HRA;refine (Zft 0 cs U _ (HC.o.below HB.o) HN.o).mono ?_;rintro e w2 ⟨b0,m0,b1,m1,b2,m2,b3,m3,b4,m4,b5,m5,b6,m6,c,rfl,hb,hcp⟩;have hs2:w1.heap.size<=w2.heap.size:=hb.size;replace HB:Hd (Zw_ w w2):=bt HB.o hb;replace FB:=Zaa (FB.o.on hb);replace MB:=Zaa (MB.o.on hb);replace RB:=Zaa (RB.o.on hb);have HCP:=Zaa hcp;clear hb hcp;obtain⟨yl,hyl⟩:∃ yl,yl=rrL U b0 m0 b1 m1 b2 m2 b3 m3 b4 m4 b5 m5 b6 m6:=⟨_,rfl⟩
 rw [<- hyl];have hy18:yl.length=18:=by rw [hyl];rfl
 have HON:Hd (yl.toArray.all (·.oneCell')=true):=by unfold Hd;rw [hyl];exact ZcU ..
 have HYL:=Zaa hyl;clear hyl;go_wp2_with (with_reducible refine stR (.tmp 5) (.tmp 11) w2.heap.size 0 yl.toArray (HTN.o _ _ hy18) (szN hy18) HON.o ?_;refine Hd.o ?_);generalize hW:World.setCells _ _ _ _=w3;have NB:Hd (Box w3 w2.heap.size yl.toArray):=by unfold Hd;rw [<- hW];exact HBX.o _ _ hy18
 have hb:Below w2.heap.size w2 w3:=by rw [<- hW];exact Below.sets Zl_ _ _ (Zab _ _)
 clear hW;have hs3:w2.heap.size < w3.heap.size:=NB.o.lt
 replace HB:Hd (Zw_ w w3):=bt HB.o hb;replace FB:=Zaa (FB.o.on hb);replace MB:=Zaa (MB.o.on hb);replace RB:=Zaa (RB.o.on hb);have H23:=Zaa hb;clear hb;have HSy:Hd ((prog.info? 41).map (·.size)=some yl.length):=by unfold Hd;rw [hy18];exact Zar
 have HMA:=Zaa (MB.o.range (l:=csm) rfl);have g2:w3.cell? ⟨w.heap.size,2,none⟩=some (.bool U.up):=by rw [FB.o.cell 2,List.getElem?_toArray,HUP.o]
 have g0:w3.cell? ⟨w.heap.size,0,none⟩=some (.int .i64 U.nu):=by rw [FB.o.cell 0,List.getElem?_toArray,HNU.o]
 have g1:w3.cell? ⟨w.heap.size,1,none⟩=some (.int .i64 U.of):=by rw [FB.o.cell 1,List.getElem?_toArray,HOF.o]
 have y2:w3.cell? ⟨w.heap.size+1,2,none⟩=some (.int .i64 M.tt):=by rw [MB.o.cell 2,List.getElem?_toArray,HTT.o]
 refine Zaa ?_
 cases qu:U.up with
 | false=>
  have HV:Hd (ZcV U M=U):=by unfold Hd;rw [HE.o,qv,qu];rfl
  rw [qu] at g2;have HRA:=Zaa (NB.o.range (l:=yl) rfl)
  go_upto_region 5 with fail
  clear g0 g1 g2 y2;have HTH:Hd (World.there w3 (w.heap.size+2) 0 yl.toArray.size):=by unfold Hd;rw [show yl.toArray.size=18 from hy18];exact RB.o.there rfl
  go_wp2_with (first
   | (with_reducible refine ldR (.tmp 5) w2.heap.size 0 yl HRA.o HSy.o ?_)
   | (with_reducible refine stR (.tmp 4) (.tmp 29) (w.heap.size+2) 0 yl.toArray HTH.o (szN hy18) HON.o ?_;refine Hd.o ?_))
  generalize hW:World.setCells _ _ _ _=W9;have FR9:Hd (Box W9 (w.heap.size+2) yl.toArray):=by unfold Hd;rw [<- hW];exact RB.o.full (by rw [show yl.toArray.size=18 from hy18];rfl)
  have TT:Hd (Zad (w.heap.size+2) ((w.heap.size+2)+1) w3 W9):=by unfold Hd;rw [<- hW];exact Zad.sets ⟨by omega,by omega⟩ _ _ _
  have HB9:Hd (Zw_ w W9):=HB.o.trans ((TT.o.under (by have:=RB.o.lt;omega)).mono (by omega));clear hW;refine Zaa ?_;go_wp2
  exact bodyPost_ret (v:=.agg yl.toArray) (ZbL (p:=4) (ty:=41) results7 _ _ (w.heap.size+2) 0 yl _ rfl (FR9.o.range rfl) underlying41 rfl (by rw [hy18];exact Zar)) rfl ⟨yl,rfl,HB9.o,by
   rw [HV.o,HYL.o];have hat:=(ZfY.touchUp ((HCP.o.at HZ.o).below (H23.o)) TT.o (by omega)).mono (lo':=w.heap.size) (by omega);exact⟨b0,m0,b1,m1,b2,m2,b3,m3,b4,m4,b5,m5,b6,m6,rfl,hat⟩⟩
 | true=>
 rw [qu] at g2
 cases qm:ZcK M U.of with
 | false=>
  have HV:Hd (ZcV U M=U):=by unfold Hd;rw [HE.o,qv,qu,qm];rfl
  go_upto_region 5 with (first|(with_reducible refine ZaC (by with_unfolding_all rfl) 45 (.tmp 3) (by with_reducible rfl) (w.heap.size+1) 0 (by with_unfolding_all rfl) csm _ HMA.o underlying45 (by with_unfolding_all rfl) HSm.o ?_)|(go_at_call 29;refine (Zb0 0 csm M U.of _ (HM.o.below HB.o)).mono ?_;rw [qm];rintro e w4 ⟨rfl,hb⟩;have HB4:=Zaa hb;have g0:w4.cell? ⟨w.heap.size,0,none⟩=some (.int .i64 U.nu):=(hb.cell (p:=⟨w.heap.size,0,none⟩) (by simp only [];omega)).trans g0;have y2:w4.cell? ⟨w.heap.size+1,2,none⟩=some (.int .i64 M.tt):=(hb.cell (p:=⟨w.heap.size+1,2,none⟩) (by simp only [];omega)).trans y2;clear hb))
  clear g0 g1 g2 y2;replace NB:=Zaa (NB.o.on HB4.o);replace RB:=Zaa (RB.o.on HB4.o);replace HB:Hd (Zw_ w w4):=bt HB.o HB4.o;have hs4:=HB4.o.size;have HRA:=Zaa (NB.o.range (l:=yl) rfl);have HTH:Hd (World.there w4 (w.heap.size+2) 0 yl.toArray.size):=by unfold Hd;rw [show yl.toArray.size=18 from hy18];exact RB.o.there rfl
  go_wp2_with (first
   | (with_reducible refine ldR (.tmp 5) w2.heap.size 0 yl HRA.o HSy.o ?_)
   | (with_reducible refine stR (.tmp 4) (.tmp 29) (w.heap.size+2) 0 yl.toArray HTH.o (szN hy18) HON.o ?_;refine Hd.o ?_))
  generalize hW:World.setCells _ _ _ _=W9;have FR9:Hd (Box W9 (w.heap.size+2) yl.toArray):=by unfold Hd;rw [<- hW];exact RB.o.full (by rw [show yl.toArray.size=18 from hy18];rfl)
  have TT:Hd (Zad (w.heap.size+2) ((w.heap.size+2)+1) w4 W9):=by unfold Hd;rw [<- hW];exact Zad.sets ⟨by omega,by omega⟩ _ _ _
  have HB9:Hd (Zw_ w W9):=HB.o.trans ((TT.o.under (by have:=RB.o.lt;omega)).mono (by omega));clear hW;refine Zaa ?_;go_wp2
  exact bodyPost_ret (v:=.agg yl.toArray) (ZbL (p:=4) (ty:=41) results7 _ _ (w.heap.size+2) 0 yl _ rfl (FR9.o.range rfl) underlying41 rfl (by rw [hy18];exact Zar)) rfl ⟨yl,rfl,HB9.o,by
   rw [HV.o,HYL.o];have hat:=(ZfY.touchUp ((HCP.o.at HZ.o).below (bt H23.o HB4.o)) TT.o (by omega)).mono (lo':=w.heap.size) (by omega);exact⟨b0,m0,b1,m1,b2,m2,b3,m3,b4,m4,b5,m5,b6,m6,rfl,hat⟩⟩
 | true=>
 by_cases qt:M.tt=U.nu
 case neg=>
  have HV:Hd (ZcV U M=U):=by unfold Hd;rw [HE.o,qv,qu,qm,decide_eq_false qt];rfl
  have dt:(M.tt != U.nu)=true:=by simpa using qt
  go_upto_region 5 with (first|(with_reducible refine ZaC (by with_unfolding_all rfl) 45 (.tmp 3) (by with_reducible rfl) (w.heap.size+1) 0 (by with_unfolding_all rfl) csm _ HMA.o underlying45 (by with_unfolding_all rfl) HSm.o ?_)|(go_at_call 29;refine (Zb0 0 csm M U.of _ (HM.o.below HB.o)).mono ?_;rw [qm];rintro e w4 ⟨rfl,hb⟩;have HB4:=Zaa hb;have g0:w4.cell? ⟨w.heap.size,0,none⟩=some (.int .i64 U.nu):=(hb.cell (p:=⟨w.heap.size,0,none⟩) (by simp only [];omega)).trans g0;have y2:w4.cell? ⟨w.heap.size+1,2,none⟩=some (.int .i64 M.tt):=(hb.cell (p:=⟨w.heap.size+1,2,none⟩) (by simp only [];omega)).trans y2;clear hb))
  clear g0 g1 g2 y2;replace NB:=Zaa (NB.o.on HB4.o);replace RB:=Zaa (RB.o.on HB4.o);replace HB:Hd (Zw_ w w4):=bt HB.o HB4.o;have hs4:=HB4.o.size;have HRA:=Zaa (NB.o.range (l:=yl) rfl);have HTH:Hd (World.there w4 (w.heap.size+2) 0 yl.toArray.size):=by unfold Hd;rw [show yl.toArray.size=18 from hy18];exact RB.o.there rfl
  go_wp2_with (first
   | (with_reducible refine ldR (.tmp 5) w2.heap.size 0 yl HRA.o HSy.o ?_)
   | (with_reducible refine stR (.tmp 4) (.tmp 29) (w.heap.size+2) 0 yl.toArray HTH.o (szN hy18) HON.o ?_;refine Hd.o ?_))
  generalize hW:World.setCells _ _ _ _=W9;have FR9:Hd (Box W9 (w.heap.size+2) yl.toArray):=by unfold Hd;rw [<- hW];exact RB.o.full (by rw [show yl.toArray.size=18 from hy18];rfl)
  have TT:Hd (Zad (w.heap.size+2) ((w.heap.size+2)+1) w4 W9):=by unfold Hd;rw [<- hW];exact Zad.sets ⟨by omega,by omega⟩ _ _ _
  have HB9:Hd (Zw_ w W9):=HB.o.trans ((TT.o.under (by have:=RB.o.lt;omega)).mono (by omega));clear hW;refine Zaa ?_;go_wp2
  exact bodyPost_ret (v:=.agg yl.toArray) (ZbL (p:=4) (ty:=41) results7 _ _ (w.heap.size+2) 0 yl _ rfl (FR9.o.range rfl) underlying41 rfl (by rw [hy18];exact Zar)) rfl ⟨yl,rfl,HB9.o,by
   rw [HV.o,HYL.o];have hat:=(ZfY.touchUp ((HCP.o.at HZ.o).below (bt H23.o HB4.o)) TT.o (by omega)).mono (lo':=w.heap.size) (by omega);exact⟨b0,m0,b1,m1,b2,m2,b3,m3,b4,m4,b5,m5,b6,m6,rfl,hat⟩⟩
 have HV:Hd (ZcV U M=ZaM U M):=by unfold Hd;rw [HE.o,qv,qu,qm,decide_eq_true qt];rfl
 have dt:(M.tt != U.nu)=false:=by rw [qt];simp
 have HTK:=Zaa (Zfm qv HZ.o qm);have HBZ:=Zaa (Zfg qv HZ.o qm HM.o.slz HM.o.txz);clear qt
 go_upto_region 6 with (first|(with_reducible refine ZaC (by with_unfolding_all rfl) 45 (.tmp 3) (by with_reducible rfl) (w.heap.size+1) 0 (by with_unfolding_all rfl) csm _ HMA.o underlying45 (by with_unfolding_all rfl) HSm.o ?_)|(go_at_call 29;refine (Zb0 0 csm M U.of _ (HM.o.below HB.o)).mono ?_;rw [qm];rintro e w4 ⟨rfl,hb⟩;have HB4:=Zaa hb;have g0:w4.cell? ⟨w.heap.size,0,none⟩=some (.int .i64 U.nu):=(hb.cell (p:=⟨w.heap.size,0,none⟩) (by simp only [];omega)).trans g0;have y2:w4.cell? ⟨w.heap.size+1,2,none⟩=some (.int .i64 M.tt):=(hb.cell (p:=⟨w.heap.size+1,2,none⟩) (by simp only [];omega)).trans y2;clear hb))
 clear g0 g1 g2 y2 dt;replace NB:=Zaa (NB.o.on HB4.o);replace MB:=Zaa (MB.o.on HB4.o);replace RB:=Zaa (RB.o.on HB4.o);replace HB:Hd (Zw_ w w4):=bt HB.o HB4.o;have hs4:=HB4.o.size;have HSEG:Hd (∀ i,i < 7->w1.heap.size<=(c i).1/\(c i).2<=w2.heap.size):=HCP.o.seg;replace HCP:=Zaa (HCP.o.below (bt H23.o HB4.o));have HRA:=Zaa (NB.o.range (l:=yl) rfl);have HMA:=Zaa (MB.o.range (l:=csm) rfl);obtain⟨a0,k0,hcsm,hmat⟩:=HM.o;have HCSM:=Zaa hcsm;have HMAT:Hd (Zaq 0 w4 (.slice a0 M.sl.length k0) M.sl):=(hmat.below HB.o).l0;have hml:=HTK.o.ms;clear hcsm hmat;refine Code.wp_mono NoPanic.imp ?_;refine Zao (S:=fun W=>W.rangeAt w2.heap.size 0 yl/\W.rangeAt (w.heap.size+1) 0 csm) [3,4,5] (by kernel_rfl) ⟨HRA.o,HMA.o⟩ (fun hHeld=>?_)
 refine tB 0 _ [3,4,5] rfl hHeld ?_ (hy:=yieldsIf_load_mid (by rfl) 41 (.tmp 5) rfl w2.heap.size 0 rfl yl _ (fun _ h=>h.1) underlying41 rfl HSy.o)
 try simp only [Act.put,sLs]
 refine tB 1 _ [2,3,4,5] rfl hHeld ?_ (hy:=yieldsIf_load_mid (by rfl) 45 (.tmp 3) rfl (w.heap.size+1) 0 rfl csm _ (fun _ h=>h.2) underlying45 rfl HSm.o)
 try simp only [Act.put,sLs]
 refine oB 2 rfl (fun K hK=>?_)
 go_simp
 rw [HCSM.o];refine (ZgI 0 M a0 k0 _ (HMAT.o.below (Zb_.drew)) (by omega)).mono ?_;rintro e w5 ⟨b9,m9,rfl,hb,hs⟩;replace hb:Below w4.heap.size w4 w5:=(Zb_.drew).trans hb;have hs5:=hb.size;have N9:Hd (ZaK rsL 2 w5 w4.heap.size w5.heap.size (.slice b9 M.sl.length m9) M.sl):=hs;replace NB:=Zaa (NB.o.on hb);replace MB:=Zaa (MB.o.on hb);replace RB:=Zaa (RB.o.on hb);replace HB:Hd (Zw_ w w5):=bt HB.o hb;replace HCP:=Zaa (HCP.o.below hb);clear hb hs hHeld;refine hK.out _ _ (fun _=>⟨NB.o.range rfl,MB.o.range rfl⟩) (fun hHx=>?_);have hHeld:=hHx (by decide);clear hK hHx K
 try simp only [Act.put,sLs]
 obtain⟨KK,hKK⟩:∃ KK:Nat->Prop,KK=fun k=>k < w1.heap.size\/(w2.heap.size<=k/\k < w5.heap.size):=⟨_,rfl⟩
 have HKD:Hd (∀ k,KK k↔(k < w1.heap.size\/(w2.heap.size<=k/\k < w5.heap.size))):=fun k=>by rw [hKK]
 clear hKK
 have HCZ:Hd (Cz KK w1.heap.size w5 (f7 b0 b1 b2 b3 b4 b5 b6) (f7 m0 m1 m2 m3 m4 m5 m6) (fun i k=>(c i).1<=k/\k < (c i).2) U):=
  ⟨HCP.o.cpn.sets,by omega,fun k hk=>by
   have h1:=(HKD.o k).1 hk;exact⟨by omega,fun i hi hS=>by have:=HSEG.o i hi;omega⟩⟩
 have HVK:Hd (∀ W,Zag KK w5 W->Zaq 0 W (.slice b9 M.sl.length m9) M.sl):=fun W hW=>((N9.o.kept hW (fun k p q=>(HKD.o k).2 (Or.inr ⟨by omega,by omega⟩))).rss HM.o.slz.at).at.mono Zz_
 have HYF:Hd (yl=rrF U (f7 b0 b1 b2 b3 b4 b5 b6) (f7 m0 m1 m2 m3 m4 m5 m6)):=HYL.o;refine oB 3 rfl (fun K hK=>?_)
 go_simp
 rw [HYF.o];refine (ZiV KK w1.heap.size _ U _ _ _ M b9 m9 HCZ.o HVK.o HTK.o).mono ?_;rintro e w6 ⟨bb,mm,S6,rfl,hk,hc⟩;have HA6:Hd (RrC 0 w6 (rrF (ZaM U M) bb mm) (ZaM U M)):=(hc.at HBZ.o.rrz).mono Zz_;have hs6:=hk.size;replace RB:=Zaa (RB.o.kept hk ((HKD.o _).2 (Or.inl (by omega))));replace HB:Hd (Zw_ w w6):=HB.o.trans ((hk.under (n:=w1.heap.size) (fun k h=>(HKD.o k).2 (Or.inl h))).mono (by omega));clear hk hc hHeld HCZ HVK HCP;refine hK.out _ _ (fun h=>absurd (by decide) h) (fun _=>?_);clear hK K
 try simp only [Act.put,sLs]
 refine oB 4 rfl (fun K hK=>?_)
 go_simp
 refine (Zft 0 _ (ZaM U M) _ HA6.o HBZ.o.small).mono ?_;rintro e w7 ⟨d0,n0,d1,n1,d2,n2,d3,n3,d4,n4,d5,n5,d6,n6,c',rfl,hb,hcp⟩;replace RB:=Zaa (RB.o.on hb);replace HB:Hd (Zw_ w w7):=bt HB.o hb;have HCQ:=Zaa (hcp.at HBZ.o.rrz);clear hb hcp;refine hK.out _ _ (fun h=>absurd (by decide) h) (fun _=>?_);clear hK K
 try simp only [Act.put,sLs]
 have HTH:Hd (World.there w7 (w.heap.size+2) 0 (rrL (ZaM U M) d0 n0 d1 n1 d2 n2 d3 n3 d4 n4 d5 n5 d6 n6).toArray.size):=RB.o.there rfl;have HONt:Hd ((rrL (ZaM U M) d0 n0 d1 n1 d2 n2 d3 n3 d4 n4 d5 n5 d6 n6).toArray.all (·.oneCell')=true):=ZcU ..;refine oB 5 rfl (fun K hK=>?_);refine Zaz rfl 41 (.tmp 4) (.tmp 34) rfl (w.heap.size+2) 0 (rrL (ZaM U M) d0 n0 d1 n1 d2 n2 d3 n3 d4 n4 d5 n5 d6 n6).toArray rfl rfl HTH.o (szN rfl) HONt.o ?_;refine hK.out _ _ (fun h=>absurd (by decide) h) (fun _=>?_);clear hK
 try simp only [Act.put,sLs]
 refine Zak (by kernel_rfl) ?_ _;refine NoPanic.normal ?_;generalize hW9:World.setCells _ _ _ _=W9;have HSz:Hd ((prog.info? 41).map (·.size)=some (rrL (ZaM U M) d0 n0 d1 n1 d2 n2 d3 n3 d4 n4 d5 n5 d6 n6).length):=by unfold Hd;exact Zar
 have FR9:Hd (Box W9 (w.heap.size+2) (rrL (ZaM U M) d0 n0 d1 n1 d2 n2 d3 n3 d4 n4 d5 n5 d6 n6).toArray):=by unfold Hd;rw [<- hW9];exact RB.o.full rfl
 have TT:Hd (Zad (w.heap.size+2) ((w.heap.size+2)+1) w7 W9):=by unfold Hd;rw [<- hW9];exact Zad.sets ⟨by omega,by omega⟩ _ _ _
 have HB9:Hd (Zw_ w W9):=HB.o.trans ((TT.o.under (by have:=RB.o.lt;omega)).mono (by omega));clear hW9;go_wp2
 exact bodyPost_ret (v:=.agg (rrL (ZaM U M) d0 n0 d1 n1 d2 n2 d3 n3 d4 n4 d5 n5 d6 n6).toArray) (ZbL (p:=4) (ty:=41) results7 _ _ (w.heap.size+2) 0 (rrL (ZaM U M) d0 n0 d1 n1 d2 n2 d3 n3 d4 n4 d5 n5 d6 n6) _ rfl (FR9.o.range rfl) underlying41 rfl HSz.o) rfl ⟨(rrL (ZaM U M) d0 n0 d1 n1 d2 n2 d3 n3 d4 n4 d5 n5 d6 n6),rfl,HB9.o,by
  rw [HV.o];have hat:=(ZfY.touchUp HCQ.o TT.o (by omega)).mono (lo':=w.heap.size) (by omega);exact⟨d0,n0,d1,n1,d2,n2,d3,n3,d4,n4,d5,n5,d6,n6,rfl,hat⟩⟩
end
variable {cs:List Value} {lo hi:Nat} {w w':World} {M:Rm}
theorem Zkp:(prog.info? 32).map (·.size)=some 8:=by kernel_rfl
theorem Zlb (h:cs.length=8):(prog.info? 45).map (·.size)=some cs.toArray.size:=by rw [List.size_toArray,h];exact ZgQ
def z8m:List Value:=[.int .i64 0,.int .i64 0,.int .i64 0,.int .i64 0,.int .i64 0,.int .i64 0,.string ⟨#[]⟩,.slice none 0 0]
theorem RrC.up {l u:Nat}{U:Rr} (h:RrC lo w cs U) (ht:Zad l u w w') (hu:u<=lo):RrC lo w' cs U:=by
 obtain⟨a0,k0,a1,k1,a2,k2,a3,k3,a4,k4,a5,k5,a6,k6,e,h⟩:=h;exact⟨a0,k0,a1,k1,a2,k2,a3,k3,a4,k4,a5,k5,a6,k6,e,h.touchUp ht hu⟩
def Zet (lo hi:Nat) (w:World) (cs:List Value) (M:Rm):Prop:=∃ b m,cs=rmL M b m/\M.tx.size<=maxLen/\Zap lo hi w (.slice b M.sl.length m) M.sl
theorem Zet.at (h:Zet lo hi w cs M):RmC lo w cs M:=by
 obtain⟨b,m,e,hs,h⟩:=h;exact⟨b,m,e,⟨h.at,hs⟩⟩
theorem Zet.below (h:Zet lo hi w cs M) (hb:Zw_ w w'):Zet lo hi w' cs M:=by
 obtain⟨b,m,e,hs,h⟩:=h;exact⟨b,m,e,hs,h.below hb⟩
theorem Zet.touch {lo' hi':Nat} (h:Zet lo hi w cs M) (ht:Zad lo' hi' w w') (ho:hi<=lo'\/hi'<=lo):Zet lo hi w' cs M:=by
 obtain⟨b,m,e,hs,h⟩:=h;exact⟨b,m,e,hs,h.touch ht ho⟩
theorem Zhf (lo hi:Nat) (cs:List Value) (M:Rm) (k:Int) (w:World) (h:Zet lo hi w cs M) (hn:Zbe M.sl) (h0:0<=k) (hk:k<=2000000000000000000) :
 Calls prog 14 #[.agg cs.toArray,.int .i64 k] w fun e w'=>e=.returned (.int .i64 (k+2*(M.sl.length:Int)))/\Zad lo hi w w':=by
 obtain⟨b,m,rfl,-,h⟩:=h;have H:=Zaa h;clear h;have HO:∀ o,Hd (Zw_ w (w.alloc o)):=fun o=>Zab w o
 show Calls prog 14 #[.agg #[.int .i64 M.kd,.int .i64 M.fr,.int .i64 M.tt,.int .i64 M.ba,.int .i64 M.ix,.int .i64 M.kn,.string M.tx,.slice b M.sl.length m],.int .i64 k] w _
 go_enter func14,ntmps14;go_wp2_with fail;refine (Zde lo hi _ M.sl k _ (H.o.below (HO _).o) hn h0 hk).mono ?_;rintro e w1 ⟨rfl,ht,ho⟩;have HT:=Zaa ((Zad.below (HO _).o).trans ht);clear ht ho;go_wp2;go_ret;exact⟨rfl,HT.o⟩
end Go.Proofs.YtkiefplmnoapfaaGreat
