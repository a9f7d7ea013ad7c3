import Derived.Test.YtkiefplmnoapfaaGreatV48
import Derived.Test.YtkiefplmnoapfaaGreatV50
import Derived.Test.YtkiefplmnoapfaaGreatV51
import Derived.Test.YtkiefplmnoapfaaGreatV52
set_option maxHeartbeats 16000000
set_option maxRecDepth 100000
open Go.Proofs.Tryz
namespace Go.Proofs.YtkiefplmnoapfaaGreat
section
open Go.RowKit Go.Deep
theorem Zhs (KP:Nat->Prop) (lo:Nat) (w:World) (γ ρ:Nat) (U:Rr) (M:Rm) (a0:Option Addr) (k0:Nat) (h:Wk KP lo w γ ρ U) (hv:Zeq U M.tx=Zcp U M.tx) (hz:RrZ U) (hkn:0<=U.dk.kn/\U.dk.kn<=(U.dk.sl.length:Int)) (htx:M.tx.size<=maxLen) (hn:U.wi.length<=1000) :
 Calls prog 123 #[.agg (wkC γ ρ),.agg (rmL M a0 k0).toArray] w fun e w'=>e=.returned (.tuple #[])/\Zag KP w w'/\Wk KP lo w' γ ρ (Zfh U M):=by
 have HW:=Zaa h;clear h;have HV:=Zaa hv;have HZ:=Zaa hz;have HKN:=Zaa hkn;have HTX:=Zaa htx;clear hv hz hkn htx
 show Calls prog 123 #[.agg #[.pointer (some ⟨γ,0,none⟩),.func (.func 115) #[] #[.pointer (some ⟨ρ,0,none⟩)]],.agg #[.int .i64 M.kd,.int .i64 M.fr,.int .i64 M.tt,.int .i64 M.ba,.int .i64 M.ix,.int .i64 M.kn,.string M.tx,.slice a0 M.sl.length k0]] w _
 go_enter func123,ntmps123
 go_upto_region 1 with fail
 obtain⟨W0,hW0,HA,MB⟩:∃ W0,W0=((w.alloc (.cells #[.pointer (some ⟨γ,0,none⟩),.func (.func 115) #[] #[.pointer (some ⟨ρ,0,none⟩)]] 123)).alloc (.cells #[.int .i64 M.kd,.int .i64 M.fr,.int .i64 M.tt,.int .i64 M.ba,.int .i64 M.ix,.int .i64 M.kn,.string M.tx,.slice a0 M.sl.length k0] 45))/\Hd (At KP lo w W0 γ ρ 2 U)/\Hd (Box W0 (w.heap.size+1) #[.int .i64 M.kd,.int .i64 M.fr,.int .i64 M.tt,.int .i64 M.ba,.int .i64 M.ix,.int .i64 M.kn,.string M.tx,.slice a0 M.sl.length k0]):=
  ⟨_,rfl,HW.o.enter (bt (Zab _ _) (Zab _ _)) ((Box.new w _ _ _ rfl).on (Zab _ _)) (by simp) (by omega),(Box.new _ _ _ _ (by simp))⟩
 rw [<- hW0];clear hW0;obtain⟨b,m,S,hR⟩:=HA.o.wz;have HR:=Zaa hR;clear hR;have HE:Hd (Zfh U M=Zeq U M.tx):=by unfold Hd Zfh;rw [HV.o]
 have x_0:W0.cell? ⟨w.heap.size,0,none⟩=some (.pointer (some ⟨γ,0,none⟩)):=HA.o.c0;have x_1:W0.cell? ⟨w.heap.size,1,none⟩=some (.func (.func 115) #[] #[.pointer (some ⟨ρ,0,none⟩)]):=HA.o.c1;have y1_6:W0.cell? ⟨w.heap.size+1,6,none⟩=some (.string M.tx):=MB.o.cell 6;go_wp2_with fail;clear x_0 x_1 y1_6;refine (Zi6 (KN KP w 2) lo _ γ ρ U M.tx HA.o.wk HZ.o HKN.o HTX.o (by omega)).mono ?_;rintro e W1 ⟨rfl,hk,hz⟩;have HAn:Hd (At KP lo w W1 γ ρ 2 (Zeq U M.tx)):=HA.o.call hk hz;replace MB:=Zaa (MB.o.kept hk (Or.inr ⟨by omega,by omega⟩));clear hk hz HA HR;have HA:=HAn;clear HAn;obtain⟨b,m,S,hR⟩:=HA.o.wz;have HR:=Zaa hR;clear hR;go_wp2
 go_end0
 exact⟨rfl,by rw [HE.o];exact HA.o.fin⟩
end
section
open Go.RowKit Go.Deep
variable {L:List Int} {of:Int}
theorem Zji (h:∀ k (h1:k+1 < L.length),L[k] < L[k+1]):Asc L:=fun a b ha hb hab=>by
 induction b with
 | zero=>omega
 | succ b ih=>
  rcases Nat.lt_or_ge a b with q | q
  . exact Int.lt_trans (ih (by omega) q) (h b hb)
  . obtain rfl:a=b:=by omega
    exact h a hb
theorem ZhH {L:List Ra} (h:∀ k (h1:k+1 < L.length),L[k].ix < L[k+1].ix):ZkA L:=fun a b ha hb hab=>by
 induction b with
 | zero=>omega
 | succ b ih=>
  rcases Nat.lt_or_ge a b with q | q
  . exact Int.lt_trans (ih (by omega) q) (h b hb)
  . obtain rfl:a=b:=by omega
    exact h a hb
theorem ZgJ (h:Zbt of L=true):Asc L:=Zji fun k h1=>by
 unfold Zbt at h;have:=List.all_eq_true.1 h (k+1) (List.mem_range.2 h1);unfold ZfK at this;simp only [Bool.and_eq_true,List.getD_eq_getElem?_getD,Nat.add_sub_cancel,List.getElem?_eq_getElem h1,List.getElem?_eq_getElem (show k < L.length by omega),Option.getD_some] at this;have h2:=this.2;simp at h2;exact h2
theorem Zjg {L:List Ra} (h:ZbN of L=true):ZkA L:=ZhH fun k h1=>by
 unfold ZbN at h;have:=List.all_eq_true.1 h (k+1) (List.mem_range.2 h1);unfold ZgU at this;simp only [Bool.and_eq_true,Nat.add_sub_cancel,Zb9 h1,Zb9 (show k < L.length by omega)] at this;have h2:=this.2.2;simp at h2;exact h2
theorem ZjT {U:Rr} (h:ZaW U=true):Asc U.ye:=by
 unfold ZaW Zfd at h;simp only [Bool.and_eq_true,decide_eq_true_eq,Zdd] at h;obtain⟨⟨_,h1⟩,_,h3,h4,h5,h6,_,h8,h9,h10,h11,_⟩:=h;exact ZgJ h9
theorem Zgk (KP:Nat->Prop) (lo:Nat) (w:World) (γ:Nat) (U:Rr) (M:Rm) (a0:Option Addr) (k0:Nat) (h:Wz KP lo w γ U) (hv:ZaW U=true) (hz:RrZ U) (hm:ZcK M U.of=true) (htx:M.tx.size<=maxLen) (hvk:∀ W,Zag KP w W->Zaq 0 W (.slice a0 M.sl.length k0) M.sl) :
 Calls prog 41 #[.pointer (some ⟨γ,0,none⟩),.agg (rmL M a0 k0).toArray] w fun e w'=>e=.returned (.tuple #[])/\Zag KP w w'/\Wz KP lo w' γ (ZaM U M):=by
 have o:=Zfm hv hz hm;have v:=Zfl hv;have kn:=Zfk hv;have s1:=v.dk;have s2:=v.wi;have s3:=v.ye;have s4:=v.be;have s5:=ZeV v.ac;have ya:=ZjT hv;have aa:=Zjg v.ac
 have ai:∀ a ∈ U.ac,1<=a.ix/\a.ix<=1000/\a.fr.length<=1000/\Asc a.fr:=fun a ha=>by
  obtain⟨i,hi,rfl⟩:=List.getElem_of_mem ha;have q:=Zd4 v.ac i hi;have l:=ZdX q.2 v.of5;exact⟨by omega,by omega,by omega,ZgJ q.2⟩
 have e:M.kd=1\/M.kd=2\/M.kd=3\/M.kd=4\/M.kd=5\/M.kd=6\/M.kd=7\/M.kd=8\/M.kd=9:=by have:=o.kd1;have:=o.kd9;omega
 rcases e with e | e | e | e | e | e | e | e | e
 . have hu:ZaM U M=Zdh U M:=by unfold ZaM;rw [if_pos e]
   rw [hu];exact Zbz _ KP lo w γ U _ M a0 k0 h (fun ρ W=>by rw [e];kernel_rfl) (fun _ _=>by kernel_rfl) fun W ρ hk hW=>Zhl _ lo W γ ρ U M a0 k0 hW hz (by omega)
 . have hu:ZaM U M=ZcG U M:=by unfold ZaM;rw [if_neg (show ¬ M.kd=1 by omega),if_pos e]
   rw [hu];exact Zbz _ KP lo w γ U _ M a0 k0 h (fun ρ W=>by rw [e];kernel_rfl) (fun _ _=>by kernel_rfl) fun W ρ hk hW=>Zhm _ lo W γ ρ U M a0 k0 hW (fun W2 hk2=>hvk W2 (hk.trans (hk2.less fun _ h=>Or.inl h))) hz U.dk.kn.toNat (by omega) (by omega) (by omega) (by omega) ya (by omega) o.ms
 . have hu:ZaM U M=Zb1 U M:=by unfold ZaM;rw [if_neg (show ¬ M.kd=1 by omega),if_neg (show ¬ M.kd=2 by omega),if_pos e]
   rw [hu];exact Zbz _ KP lo w γ U _ M a0 k0 h (fun ρ W=>by rw [e];kernel_rfl) (fun _ _=>by kernel_rfl) fun W ρ hk hW=>Zhn _ lo W γ ρ U M a0 k0 hW o.ix0 o.ix2 (by omega)
 . have hu:ZaM U M=Zck U M:=by unfold ZaM;rw [if_neg (show ¬ M.kd=1 by omega),if_neg (show ¬ M.kd=2 by omega),if_neg (show ¬ M.kd=3 by omega),if_pos e]
   rw [hu];exact Zbz _ KP lo w γ U _ M a0 k0 h (fun ρ W=>by rw [e];kernel_rfl) (fun _ _=>by kernel_rfl) fun W ρ hk hW=>Zho _ lo W γ ρ U M a0 k0 hW o.ix0 o.ix2 kn.1 (by omega) (by omega) (by omega) ai aa
 . have hu:ZaM U M=ZcW U M:=by unfold ZaM;rw [if_neg (show ¬ M.kd=1 by omega),if_neg (show ¬ M.kd=2 by omega),if_neg (show ¬ M.kd=3 by omega),if_neg (show ¬ M.kd=4 by omega),if_pos e]
   rw [hu];exact Zbz _ KP lo w γ U _ M a0 k0 h (fun ρ W=>by rw [e];kernel_rfl) (fun _ _=>by kernel_rfl) fun W ρ hk hW=>Zhp _ lo W γ ρ U M a0 k0 hW kn.1 kn.2 (by omega) o.mn (by omega)
 . have hu:ZaM U M=Zco U M:=by unfold ZaM;rw [if_neg (show ¬ M.kd=1 by omega),if_neg (show ¬ M.kd=2 by omega),if_neg (show ¬ M.kd=3 by omega),if_neg (show ¬ M.kd=4 by omega),if_neg (show ¬ M.kd=5 by omega),if_pos e]
   rw [hu];exact Zbz _ KP lo w γ U _ M a0 k0 h (fun ρ W=>by rw [e];kernel_rfl) (fun _ _=>by kernel_rfl) fun W ρ hk hW=>Zhq _ lo W γ ρ U M a0 k0 hW kn.1 (by omega) (by omega)
 . have hu:ZaM U M=Zdi U M:=by unfold ZaM;rw [if_neg (show ¬ M.kd=1 by omega),if_neg (show ¬ M.kd=2 by omega),if_neg (show ¬ M.kd=3 by omega),if_neg (show ¬ M.kd=4 by omega),if_neg (show ¬ M.kd=5 by omega),if_neg (show ¬ M.kd=6 by omega),if_pos e]
   rw [hu];exact Zbz _ KP lo w γ U _ M a0 k0 h (fun ρ W=>by rw [e];kernel_rfl) (fun _ _=>by kernel_rfl) fun W ρ hk hW=>Zhr _ lo W γ ρ U M a0 k0 hW o.ix0 o.ix2 kn.1 kn.2 (by omega)
 . have hu:ZaM U M=Zfh U M:=by unfold ZaM;rw [if_neg (show ¬ M.kd=1 by omega),if_neg (show ¬ M.kd=2 by omega),if_neg (show ¬ M.kd=3 by omega),if_neg (show ¬ M.kd=4 by omega),if_neg (show ¬ M.kd=5 by omega),if_neg (show ¬ M.kd=6 by omega),if_neg (show ¬ M.kd=7 by omega),if_pos e]
   rw [hu];exact Zbz _ KP lo w γ U _ M a0 k0 h (fun ρ W=>by rw [e];kernel_rfl) (fun _ _=>by kernel_rfl) fun W ρ hk hW=>Zhs _ lo W γ ρ U M a0 k0 hW (Zi7 hv _).symm hz kn htx (by omega)
 . have hu:ZaM U M=Zcl U M:=by unfold ZaM;rw [if_neg (show ¬ M.kd=1 by omega),if_neg (show ¬ M.kd=2 by omega),if_neg (show ¬ M.kd=3 by omega),if_neg (show ¬ M.kd=4 by omega),if_neg (show ¬ M.kd=5 by omega),if_neg (show ¬ M.kd=6 by omega),if_neg (show ¬ M.kd=7 by omega),if_neg (show ¬ M.kd=8 by omega)]
   rw [hu];exact Zbz _ KP lo w γ U _ M a0 k0 h (fun ρ W=>by rw [e];kernel_rfl) (fun _ _=>by kernel_rfl) fun W ρ hk hW=>Zht _ lo W γ ρ U M a0 k0 hW
end
section
open Go.RowKit Go.Deep
theorem Zk9 (n of:Int) (up:Bool):RrZ (nwU n of up):=by constructor <;> intro i h <;> exact absurd h (Nat.not_lt_zero _)
theorem Zkh (n of:Int) (up:Bool) (lo:Nat) (w:World):Zbl lo w.heap.size w (nwL n of up) (nwU n of up):=
 ⟨none,0,none,0,none,0,none,0,none,0,none,0,none,0,fun _ _=>False,rfl,CpS.own ⟨fun _ _ _ h=>h.elim,fun _ _ _ _ _ _ h=>h.elim,Or.inl ⟨rfl,rfl⟩,Or.inl ⟨rfl,rfl⟩,⟨[],Or.inl ⟨rfl,rfl⟩,rfl⟩,Or.inl ⟨rfl,rfl⟩,Or.inl ⟨rfl,rfl⟩,Or.inl ⟨rfl,rfl⟩,⟨[],Or.inl ⟨rfl,rfl⟩,rfl⟩⟩ (Zk9 _ _ _)⟩
theorem ZfB (cs:List Value) (U:Rr) (csm:List Value) (M:Rm) (w:World) (h:RrC 0 w cs U) (hm:RmC 0 w csm M) (hn:Zbd U) :
 Calls prog 10 #[.agg cs.toArray,.agg csm.toArray] w fun e w'=>∃ cs',e=.returned (.agg cs'.toArray)/\Zw_ w w'/\Zbl w.heap.size w'.heap.size w' cs' (ZcV U M):=by
 have HC:=Zaa h;have HM:=Zaa hm;have HN:=Zaa hn;have HZ:=Zaa h.sizes;have HS:Hd ((prog.info? 41).map (·.size)=some cs.length):=by unfold Hd;rw [h.len];exact Zar
 have HSm:Hd ((prog.info? 45).map (·.size)=some csm.length):=by unfold Hd;rw [hm.len];exact ZgQ
 have HE:Hd (ZcV U M=if ZaW U then (if (U.up&&(ZcK M U.of&&decide (M.tt=U.nu)))=true then ZaM U M else U) else nwU 0 0 false):=rfl;have HUP:=Zaa (ZdH h).2.2.1;have HNU:=Zaa (ZdH h).1;have HOF:=Zaa (ZdH h).2.1;have HTT:Hd (csm[2]?=some (.int .i64 M.tt)):=by obtain⟨a0,k0,e,_⟩:=hm;rw [e];rfl
 have HTN:Hd (∀ (X:World) (l:List Value),l.length=18->(X.alloc (.cells zR 41)).there X.heap.size 0 l.toArray.size):=fun X l h=>by rw [show l.toArray.size=18 from h];exact Zch _ _ _ _ rfl
 have HBX:Hd (∀ (X:World) (l:List Value),l.length=18->Box ((X.alloc (.cells zR 41)).setCells X.heap.size 0 l.toArray.toList) X.heap.size l.toArray):=fun X l h=>(Box.new _ _ _ _ rfl).full (by rw [show l.toArray.size=18 from h];rfl)
 clear h hn hm;have HR0:Hd (World.rangeAt (((w.alloc (.cells cs.toArray 41)).alloc (.cells csm.toArray 45)).alloc (.cells zR 41)) w.heap.size 0 cs):=(((Box.new w _ _ _ rfl).on (Zab _ _)).on (Zab _ _)).range rfl;go_enter func10,ntmps10;go_wp2_with (with_reducible refine ldR (.tmp 2) w.heap.size 0 cs HR0.o HS.o ?_)
 obtain⟨wz,hwz,FB,MB,RB,HB⟩:∃ wz,wz=((w.alloc (.cells cs.toArray 41)).alloc (.cells csm.toArray 45)).alloc (.cells zR 41)/\Hd (Box wz w.heap.size cs.toArray)/\Hd (Box wz (w.heap.size+1) csm.toArray)/\Hd (Box wz (w.heap.size+2) zR)/\Hd (Zw_ w wz):=
  ⟨_,rfl,((Box.new w _ _ _ rfl).on (Zab _ _)).on (Zab _ _),(Box.new _ _ _ _ (by simp)).on (Zab _ _),Box.new _ _ _ _ (by simp),bt (bt (Zab _ _) (Zab _ _)) (Zab _ _)⟩
 rw [<- hwz];clear hwz HR0;refine (Zex 0 cs U _ (HC.o.below HB.o)).mono ?_;rintro e w1 ⟨rfl,hb⟩;replace HB:Hd (Zw_ w w1):=bt HB.o hb;replace FB:=Zaa (FB.o.on hb);replace MB:=Zaa (MB.o.on hb);replace RB:=Zaa (RB.o.on hb);clear hb
 cases qv:ZaW U with
 | false=>
  have HV:Hd (ZcV U M=nwU 0 0 false):=by unfold Hd;rw [HE.o,qv];rfl
  obtain⟨zl,hzl⟩:∃ zl,zl=nwL 0 0 false:=⟨_,rfl⟩
  have hz18:zl.length=18:=by rw [hzl];rfl
  have HON:Hd (zl.toArray.all (·.oneCell')=true):=by unfold Hd;rw [hzl];exact Zh8 _ _ _
  have HZL:=Zaa hzl;have hzb:∀ u,Sem.run prog (zeroValue 41) u=.ok (.agg zl.toArray) u:=by rw [hzl];intro u;kernel_rfl
  clear hzl;have HTH:Hd (World.there w1 (w.heap.size+2) 0 zl.toArray.size):=by unfold Hd;rw [show zl.toArray.size=18 from hz18];exact RB.o.there rfl
  go_wp2_with (with_reducible refine stR (.tmp 4) (.tmp 9) (w.heap.size+2) 0 zl.toArray HTH.o (szN hz18) HON.o ?_;refine Hd.o ?_);generalize hW:World.setCells _ _ _ _=W9;have FR9:Hd (Box W9 (w.heap.size+2) zl.toArray):=by unfold Hd;rw [<- hW];exact RB.o.full (by rw [show zl.toArray.size=18 from hz18];rfl)
  have TT:Hd (Zad (w.heap.size+2) (w.heap.size+3) w1 W9):=by unfold Hd;rw [<- hW];exact Zad.sets ⟨by omega,by omega⟩ _ _ _
  have HB9:Hd (Zw_ w W9):=HB.o.trans ((TT.o.under (by have:=RB.o.lt;omega)).mono (by omega));clear hW;refine Zaa ?_;go_wp2;exact bodyPost_ret (v:=.agg zl.toArray) (ZbL (p:=4) (ty:=41) results10 _ _ (w.heap.size+2) 0 zl _ rfl (FR9.o.range rfl) underlying41 rfl (by rw [hz18];exact Zar)) rfl ⟨zl,rfl,HB9.o,by rw [HV.o,HZL.o];exact Zkh _ _ _ _ _⟩
 | true=>
 have HRA:=Zaa (FB.o.range (l:=cs) rfl);go_wp2_with (with_reducible refine ldR (.tmp 2) w.heap.size 0 cs HRA.o HS.o ?_);clear HRA;have hsz:w.heap.size+3<=w1.heap.size:=by have:=RB.o.lt;omega
 refine (ZhO 0 cs U _ (HC.o.below HB.o) HN.o).mono ?_;rintro e w2 ⟨b0,m0,b1,m1,b2,m2,b3,m3,b4,m4,b5,m5,b6,m6,c,rfl,hb,hcp⟩;have hs2:w1.heap.size<=w2.heap.size:=hb.size;replace HB:Hd (Zw_ w w2):=bt HB.o hb;replace FB:=Zaa (FB.o.on hb);replace MB:=Zaa (MB.o.on hb);replace RB:=Zaa (RB.o.on hb)
 have HCZ:Hd (Cz (fun k=>k < w1.heap.size) w1.heap.size w2 (f7 b0 b1 b2 b3 b4 b5 b6) (f7 m0 m1 m2 m3 m4 m5 m6) (fun i k=>(c i).1<=k/\k < (c i).2) U):=
  ⟨hcp.sets,hs2,fun k hk=>⟨Zk_ hk hs2,fun i hi hS=>by have:=hcp.seg i hi;omega⟩⟩
 clear hb hcp;obtain⟨yl,hyl⟩:∃ yl,yl=rrL U b0 m0 b1 m1 b2 m2 b3 m3 b4 m4 b5 m5 b6 m6:=⟨_,rfl⟩
 rw [<- hyl];have hy18:yl.length=18:=by rw [hyl];rfl
 have HON:Hd (yl.toArray.all (·.oneCell')=true):=by unfold Hd;rw [hyl];exact ZcU ..
 have HYL:Hd (yl=rrF U (f7 b0 b1 b2 b3 b4 b5 b6) (f7 m0 m1 m2 m3 m4 m5 m6)):=hyl;clear hyl;go_wp2_with (with_reducible refine stR (.tmp 5) (.tmp 11) w2.heap.size 0 yl.toArray (HTN.o _ _ hy18) (szN hy18) HON.o ?_;refine Hd.o ?_);generalize hW:World.setCells _ _ _ _=w3;have NB:Hd (Box w3 w2.heap.size yl.toArray):=by unfold Hd;rw [<- hW];exact HBX.o _ _ hy18
 have hb:Below w2.heap.size w2 w3:=by rw [<- hW];exact Below.sets Zl_ _ _ (Zab _ _)
 clear hW;have hs3:w2.heap.size < w3.heap.size:=NB.o.lt
 replace HB:Hd (Zw_ w w3):=bt HB.o hb;replace FB:=Zaa (FB.o.on hb);replace MB:=Zaa (MB.o.on hb);replace RB:=Zaa (RB.o.on hb);have HRZ:Hd (Rz (fun k=>k < w1.heap.size) w1.heap.size w3 w2.heap.size (f7 b0 b1 b2 b3 b4 b5 b6) (f7 m0 m1 m2 m3 m4 m5 m6) (fun i k=>(c i).1<=k/\k < (c i).2) U):=HCZ.o.rz hb (by rw [<- HYL.o];exact NB.o) Zl_ (fun k hk=>Or.inl hk);clear hb HCZ;have HMA:=Zaa (MB.o.range (l:=csm) rfl);have g2:w3.cell? ⟨w.heap.size,2,none⟩=some (.bool U.up):=by rw [FB.o.cell 2,List.getElem?_toArray,HUP.o]
 have g0:w3.cell? ⟨w.heap.size,0,none⟩=some (.int .i64 U.nu):=by rw [FB.o.cell 0,List.getElem?_toArray,HNU.o]
 have g1:w3.cell? ⟨w.heap.size,1,none⟩=some (.int .i64 U.of):=by rw [FB.o.cell 1,List.getElem?_toArray,HOF.o]
 have y2:w3.cell? ⟨w.heap.size+1,2,none⟩=some (.int .i64 M.tt):=by rw [MB.o.cell 2,List.getElem?_toArray,HTT.o]
 refine Zaa ?_
 cases qu:U.up with
 | false=>
  rw [qu] at g2;have HV:Hd (ZcV U M=U):=by unfold Hd;rw [HE.o,qv,qu];rfl
  have HOW:Hd (Zbl w1.heap.size w3.heap.size w3 yl U):=by unfold Hd;rw [HYL.o];exact HRZ.o.own HZ.o
  go_upto_region 6 with fail
  clear g0 g1 g2 y2;have HTH:Hd (World.there w3 (w.heap.size+2) 0 yl.toArray.size):=by unfold Hd;rw [show yl.toArray.size=18 from hy18];exact RB.o.there rfl
  have HRA:=Zaa (NB.o.range (l:=yl) rfl);have HSy:Hd ((prog.info? 41).map (·.size)=some yl.length):=by unfold Hd;rw [hy18];exact Zar
  go_wp2_with (first
   | (with_reducible refine ldR (.tmp 5) w2.heap.size 0 yl HRA.o HSy.o ?_)
   | (with_reducible refine stR (.tmp 4) (.tmp 29) (w.heap.size+2) 0 yl.toArray HTH.o (szN hy18) HON.o ?_;refine Hd.o ?_))
  generalize hW:World.setCells _ _ _ _=W9;have FR9:Hd (Box W9 (w.heap.size+2) yl.toArray):=by unfold Hd;rw [<- hW];exact RB.o.full (by rw [show yl.toArray.size=18 from hy18];rfl)
  have TT:Hd (Zad (w.heap.size+2) (w.heap.size+3) w3 W9):=by unfold Hd;rw [<- hW];exact Zad.sets ⟨by omega,by omega⟩ _ _ _
  have HB9:Hd (Zw_ w W9):=HB.o.trans ((TT.o.under (by have:=RB.o.lt;omega)).mono (by omega));clear hW;refine Zaa ?_;go_wp2
  exact bodyPost_ret (v:=.agg yl.toArray) (ZbL (p:=4) (ty:=41) results10 _ _ (w.heap.size+2) 0 yl _ rfl (FR9.o.range rfl) underlying41 rfl HSy.o) rfl ⟨yl,rfl,HB9.o,by
   rw [HV.o];exact (HOW.o.touch TT.o (Or.inr (by omega))).wide (by omega) TT.o.size Zl_⟩
 | true=>
 rw [qu] at g2
 by_cases qt:M.tt=U.nu
 case neg=>
  have HV:Hd (ZcV U M=U):=by unfold Hd;rw [HE.o,qv,qu,decide_eq_false qt,Bool.and_false];rfl
  have dt:(M.tt == U.nu)=false:=by simpa using qt
  have HOW:Hd (Zbl w1.heap.size w3.heap.size w3 yl U):=by unfold Hd;rw [HYL.o];exact HRZ.o.own HZ.o
  go_upto_region 6 with fail
  clear g0 g1 g2 y2 dt;have HTH:Hd (World.there w3 (w.heap.size+2) 0 yl.toArray.size):=by unfold Hd;rw [show yl.toArray.size=18 from hy18];exact RB.o.there rfl
  have HRA:=Zaa (NB.o.range (l:=yl) rfl);have HSy:Hd ((prog.info? 41).map (·.size)=some yl.length):=by unfold Hd;rw [hy18];exact Zar
  go_wp2_with (first
   | (with_reducible refine ldR (.tmp 5) w2.heap.size 0 yl HRA.o HSy.o ?_)
   | (with_reducible refine stR (.tmp 4) (.tmp 29) (w.heap.size+2) 0 yl.toArray HTH.o (szN hy18) HON.o ?_;refine Hd.o ?_))
  generalize hW:World.setCells _ _ _ _=W9;have FR9:Hd (Box W9 (w.heap.size+2) yl.toArray):=by unfold Hd;rw [<- hW];exact RB.o.full (by rw [show yl.toArray.size=18 from hy18];rfl)
  have TT:Hd (Zad (w.heap.size+2) (w.heap.size+3) w3 W9):=by unfold Hd;rw [<- hW];exact Zad.sets ⟨by omega,by omega⟩ _ _ _
  have HB9:Hd (Zw_ w W9):=HB.o.trans ((TT.o.under (by have:=RB.o.lt;omega)).mono (by omega));clear hW;refine Zaa ?_;go_wp2
  exact bodyPost_ret (v:=.agg yl.toArray) (ZbL (p:=4) (ty:=41) results10 _ _ (w.heap.size+2) 0 yl _ rfl (FR9.o.range rfl) underlying41 rfl HSy.o) rfl ⟨yl,rfl,HB9.o,by
   rw [HV.o];exact (HOW.o.touch TT.o (Or.inr (by omega))).wide (by omega) TT.o.size Zl_⟩
 have dt:(M.tt == U.nu)=true:=by rw [qt];simp
 cases qm:ZcK M U.of with
 | false=>
  have HV:Hd (ZcV U M=U):=by unfold Hd;rw [HE.o,qv,qu,qm];rfl
  clear qt
  go_upto_region 6 with (first|(with_reducible refine ZaC (by with_unfolding_all rfl) 45 (.tmp 3) (by with_reducible rfl) (w.heap.size+1) 0 (by with_unfolding_all rfl) csm _ HMA.o underlying45 (by with_unfolding_all rfl) HSm.o ?_)|(go_at_call 40;refine (ZcA 0 csm M U.of _ (HM.o.below HB.o)).mono ?_;rw [qm];rintro e w4 ⟨rfl,hb⟩;have HB4:=Zaa hb;clear hb))
  clear g0 g1 g2 y2 dt;replace NB:=Zaa (NB.o.on HB4.o);replace RB:=Zaa (RB.o.on HB4.o);replace HB:Hd (Zw_ w w4):=bt HB.o HB4.o;have hs4:=HB4.o.size;have HOW:Hd (Zbl w1.heap.size w4.heap.size w4 yl U):=by unfold Hd;rw [HYL.o];exact (HRZ.o.on HB4.o).own HZ.o
  have HTH:Hd (World.there w4 (w.heap.size+2) 0 yl.toArray.size):=by unfold Hd;rw [show yl.toArray.size=18 from hy18];exact RB.o.there rfl
  have HRA:=Zaa (NB.o.range (l:=yl) rfl);have HSy:Hd ((prog.info? 41).map (·.size)=some yl.length):=by unfold Hd;rw [hy18];exact Zar
  go_wp2_with (first
   | (with_reducible refine ldR (.tmp 5) w2.heap.size 0 yl HRA.o HSy.o ?_)
   | (with_reducible refine stR (.tmp 4) (.tmp 29) (w.heap.size+2) 0 yl.toArray HTH.o (szN hy18) HON.o ?_;refine Hd.o ?_))
  generalize hW:World.setCells _ _ _ _=W9;have FR9:Hd (Box W9 (w.heap.size+2) yl.toArray):=by unfold Hd;rw [<- hW];exact RB.o.full (by rw [show yl.toArray.size=18 from hy18];rfl)
  have TT:Hd (Zad (w.heap.size+2) (w.heap.size+3) w4 W9):=by unfold Hd;rw [<- hW];exact Zad.sets ⟨by omega,by omega⟩ _ _ _
  have HB9:Hd (Zw_ w W9):=HB.o.trans ((TT.o.under (by have:=RB.o.lt;omega)).mono (by omega));clear hW;refine Zaa ?_;go_wp2
  exact bodyPost_ret (v:=.agg yl.toArray) (ZbL (p:=4) (ty:=41) results10 _ _ (w.heap.size+2) 0 yl _ rfl (FR9.o.range rfl) underlying41 rfl HSy.o) rfl ⟨yl,rfl,HB9.o,by
   rw [HV.o];exact (HOW.o.touch TT.o (Or.inr (by omega))).wide (by omega) TT.o.size Zl_⟩
 | true=>
 have HV:Hd (ZcV U M=ZaM U M):=by unfold Hd;rw [HE.o,qv,qu,qm,decide_eq_true qt];rfl
 have HBZ:=Zaa (Zfg qv HZ.o qm HM.o.slz HM.o.txz);clear qt
 go_upto_region 5 with (first|(with_reducible refine ZaC (by with_unfolding_all rfl) 45 (.tmp 3) (by with_reducible rfl) (w.heap.size+1) 0 (by with_unfolding_all rfl) csm _ HMA.o underlying45 (by with_unfolding_all rfl) HSm.o ?_)|(go_at_call 40;refine (ZcA 0 csm M U.of _ (HM.o.below HB.o)).mono ?_;rw [qm];rintro e w4 ⟨rfl,hb⟩;have HB4:=Zaa hb;clear hb))
 clear g0 g1 g2 y2 dt;replace MB:=Zaa (MB.o.on HB4.o);replace RB:=Zaa (RB.o.on HB4.o);replace HB:Hd (Zw_ w w4):=bt HB.o HB4.o;have hs4:=HB4.o.size;have HWZ:Hd (Wz (fun k=>k < w1.heap.size) w1.heap.size w4 w2.heap.size U):=⟨_,_,_,HRZ.o.on HB4.o⟩;obtain⟨a0,k0,hcsm,hmat⟩:=HM.o;have HCSM:=Zaa hcsm;have HVK:Hd (∀ W,Zag (fun k=>k < w1.heap.size) w4 W->Zaq 0 W (.slice a0 M.sl.length k0) M.sl):=fun W hW=>(hmat.below (HB.o.trans ((hW.under (n:=w.heap.size) (fun k h=>by show k < w1.heap.size;omega))))).l0
 clear hcsm hmat HRZ NB;replace HMA:=Zaa (MB.o.range (l:=csm) rfl);go_wp2_with (first|(with_reducible refine wpList_load_mid (by with_reducible rfl) 45 (.tmp 3) (by with_reducible rfl) (w.heap.size+1) 0 (by with_unfolding_all rfl) csm _ HMA.o underlying45 (by with_unfolding_all rfl) HSm.o ?_));rw [HCSM.o];refine (Zgk (fun k=>k < w1.heap.size) w1.heap.size _ w2.heap.size U M a0 k0 HWZ.o qv HZ.o qm HM.o.txz HVK.o).mono ?_;rintro e w5 ⟨rfl,hk,hwz⟩;replace HB:Hd (Zw_ w w5):=HB.o.trans ((hk.under (n:=w1.heap.size) (fun k h=>h)).mono (by omega));replace RB:=Zaa (RB.o.kept hk (by show w.heap.size+2 < w1.heap.size;omega));obtain⟨b,m,c',hR⟩:=hwz;have NB5:Hd (Box w5 w2.heap.size (rrF (ZaM U M) b m).toArray):=hR.box;have HOW:Hd (Zbl w1.heap.size w5.heap.size w5 (rrF (ZaM U M) b m) (ZaM U M)):=hR.own HBZ.o.rrz;clear hk hR HVK HWZ HMA
 obtain⟨yl,hyl⟩:∃ yl,yl=rrF (ZaM U M) b m:=⟨_,rfl⟩
 rw [<- hyl] at NB5 HOW;have hy18:yl.length=18:=by rw [hyl];rfl
 have HON:Hd (yl.toArray.all (·.oneCell')=true):=by unfold Hd;rw [hyl];exact ZcU ..
 clear hyl;have HTH:Hd (World.there w5 (w.heap.size+2) 0 yl.toArray.size):=by unfold Hd;rw [show yl.toArray.size=18 from hy18];exact RB.o.there rfl
 have HRA:=Zaa (NB5.o.range (l:=yl) rfl);have HSy:Hd ((prog.info? 41).map (·.size)=some yl.length):=by unfold Hd;rw [hy18];exact Zar
 go_wp2_with (first
  | (with_reducible refine ldR (.tmp 5) w2.heap.size 0 yl HRA.o HSy.o ?_)
  | (with_reducible refine stR (.tmp 4) (.tmp 29) (w.heap.size+2) 0 yl.toArray HTH.o (szN hy18) HON.o ?_;refine Hd.o ?_))
 generalize hW:World.setCells _ _ _ _=W9;have FR9:Hd (Box W9 (w.heap.size+2) yl.toArray):=by unfold Hd;rw [<- hW];exact RB.o.full (by rw [show yl.toArray.size=18 from hy18];rfl)
 have TT:Hd (Zad (w.heap.size+2) (w.heap.size+3) w5 W9):=by unfold Hd;rw [<- hW];exact Zad.sets ⟨by omega,by omega⟩ _ _ _
 have HB9:Hd (Zw_ w W9):=HB.o.trans ((TT.o.under (by have:=RB.o.lt;omega)).mono (by omega));clear hW;refine Zaa ?_;go_wp2
 exact bodyPost_ret (v:=.agg yl.toArray) (ZbL (p:=4) (ty:=41) results10 _ _ (w.heap.size+2) 0 yl _ rfl (FR9.o.range rfl) underlying41 rfl HSy.o) rfl ⟨yl,rfl,HB9.o,by
  rw [HV.o];exact (HOW.o.touch TT.o (Or.inr (by omega))).wide (by omega) TT.o.size Zl_⟩
end
section
open Go.ChangeShapes Go.WideShapes Go.ChangeAt Go.RowKit Go.Deep
variable {l cs:List Value} {fuel:Nat}
theorem Tryz.cells22:prog.cellsOf 22=1:=by kernel_rfl
theorem Tryz.cells24:prog.cellsOf 24=3:=by kernel_rfl
theorem ZkZ (h:l.length=3):∃ c0 c1 c2,l=[c0,c1,c2]:=by
 match l,h with
 | [c0,c1,c2],_=>exact⟨c0,c1,c2,rfl⟩
section
variable {H:Type} {enc:TypeId×Value->H} {W:World}
theorem ZgK {x:DataW H×List MemPlace} (h:DataW.trod enc prog W 0 (fun _=>true) true fuel 24 cs=some x):∃ U,RdC 0 W cs U:=by
 obtain⟨xs,n,_,_,hl,hlen,hfld⟩:=DataW.trod_struct underlying24 h;obtain⟨c0,c1,c2,rfl⟩:=ZkZ (hl.trans Tryz.cells24);simp only [Array.size,List.length_cons,List.length_nil] at hlen;have g0:DataW.trod enc prog W 0 (fun _=>true) true n 3 ((([c0,c1,c2]:List Value).drop 0).take (prog.cellsOf 3))=xs[0]?:=hfld 0 _ rfl;have g1:DataW.trod enc prog W 0 (fun _=>true) true n 3 ((([c0,c1,c2]:List Value).drop 1).take (prog.cellsOf 3))=xs[1]?:=hfld 1 _ rfl;have g2:DataW.trod enc prog W 0 (fun _=>true) true n 22 ((([c0,c1,c2]:List Value).drop 2).take (prog.cellsOf 22))=xs[2]?:=hfld 2 _ rfl;simp only [Tryz.cells3,Tryz.cells22,List.drop_succ_cons,List.drop_zero,List.take_succ_cons,List.take_zero] at g0 g1 g2;rw [List.getElem?_eq_getElem (by omega)] at g0 g1 g2;obtain⟨q0,e0,_,_⟩:=DataW.trod_int underlying3 g0;simp only [List.cons.injEq,and_true] at e0;subst e0
 obtain⟨q1,e1,_,_⟩:=DataW.trod_int underlying3 g1;simp only [List.cons.injEq,and_true] at e1;subst e1;obtain⟨q2,h2⟩:=Ze9 g2;obtain⟨a0,k0,rfl⟩:=h2.form;exact⟨⟨q0,q1,q2⟩,a0,k0,rfl,⟨h2⟩⟩
end
theorem Tryz.cells32:prog.cellsOf 32=8:=by kernel_rfl
theorem Zk0 (h:l.length=8):∃ c0 c1 c2 c3 c4 c5 c6 c7,l=[c0,c1,c2,c3,c4,c5,c6,c7]:=by
 match l,h with
 | [c0,c1,c2,c3,c4,c5,c6,c7],_=>exact⟨c0,c1,c2,c3,c4,c5,c6,c7,rfl⟩
section
variable {H:Type} {enc:TypeId×Value->H} {W:World}
theorem ZgM {x:DataW H×List MemPlace} (h:DataW.trod enc prog W 0 (fun _=>true) true fuel 32 cs=some x):∃ U,RmC 0 W cs U:=by
 obtain⟨xs,n,_,_,hl,hlen,hfld⟩:=DataW.trod_struct underlying32 h;obtain⟨c0,c1,c2,c3,c4,c5,c6,c7,rfl⟩:=Zk0 (hl.trans Tryz.cells32);simp only [Array.size,List.length_cons,List.length_nil] at hlen;have g0:DataW.trod enc prog W 0 (fun _=>true) true n 3 ((([c0,c1,c2,c3,c4,c5,c6,c7]:List Value).drop 0).take (prog.cellsOf 3))=xs[0]?:=hfld 0 _ rfl;have g1:DataW.trod enc prog W 0 (fun _=>true) true n 3 ((([c0,c1,c2,c3,c4,c5,c6,c7]:List Value).drop 1).take (prog.cellsOf 3))=xs[1]?:=hfld 1 _ rfl;have g2:DataW.trod enc prog W 0 (fun _=>true) true n 3 ((([c0,c1,c2,c3,c4,c5,c6,c7]:List Value).drop 2).take (prog.cellsOf 3))=xs[2]?:=hfld 2 _ rfl;have g3:DataW.trod enc prog W 0 (fun _=>true) true n 3 ((([c0,c1,c2,c3,c4,c5,c6,c7]:List Value).drop 3).take (prog.cellsOf 3))=xs[3]?:=hfld 3 _ rfl
 have g4:DataW.trod enc prog W 0 (fun _=>true) true n 3 ((([c0,c1,c2,c3,c4,c5,c6,c7]:List Value).drop 4).take (prog.cellsOf 3))=xs[4]?:=hfld 4 _ rfl;have g5:DataW.trod enc prog W 0 (fun _=>true) true n 3 ((([c0,c1,c2,c3,c4,c5,c6,c7]:List Value).drop 5).take (prog.cellsOf 3))=xs[5]?:=hfld 5 _ rfl;have g6:DataW.trod enc prog W 0 (fun _=>true) true n 9 ((([c0,c1,c2,c3,c4,c5,c6,c7]:List Value).drop 6).take (prog.cellsOf 9))=xs[6]?:=hfld 6 _ rfl;have g7:DataW.trod enc prog W 0 (fun _=>true) true n 22 ((([c0,c1,c2,c3,c4,c5,c6,c7]:List Value).drop 7).take (prog.cellsOf 22))=xs[7]?:=hfld 7 _ rfl;simp only [Tryz.cells3,Tryz.cells9,Tryz.cells22,List.drop_succ_cons,List.drop_zero,List.take_succ_cons,List.take_zero] at g0 g1 g2 g3 g4 g5 g6 g7;rw [List.getElem?_eq_getElem (by omega)] at g0 g1 g2 g3 g4 g5 g6 g7
 obtain⟨q0,e0,_,_⟩:=DataW.trod_int underlying3 g0;simp only [List.cons.injEq,and_true] at e0;subst e0;obtain⟨q1,e1,_,_⟩:=DataW.trod_int underlying3 g1;simp only [List.cons.injEq,and_true] at e1;subst e1;obtain⟨q2,e2,_,_⟩:=DataW.trod_int underlying3 g2;simp only [List.cons.injEq,and_true] at e2;subst e2;obtain⟨q3,e3,_,_⟩:=DataW.trod_int underlying3 g3;simp only [List.cons.injEq,and_true] at e3;subst e3;obtain⟨q4,e4,_,_⟩:=DataW.trod_int underlying3 g4;simp only [List.cons.injEq,and_true] at e4;subst e4;obtain⟨q5,e5,_,_⟩:=DataW.trod_int underlying3 g5;simp only [List.cons.injEq,and_true] at e5;subst e5;obtain⟨q6,e6,_,t6⟩:=DataW.trod_string underlying9 g6;simp only [List.cons.injEq,and_true] at e6;subst e6;obtain⟨q7,h7⟩:=Ze9 g7;obtain⟨a0,k0,rfl⟩:=h7.form;exact⟨⟨q0,q1,q2,q3,q4,q5,q6,q7⟩,a0,k0,rfl,⟨h7,t6⟩⟩
theorem Zki {r:Reach}{b0:Nat}{v:Value}{d:DataW H}{p:List MemPlace} (hv:Value.okWide prog W r b0 32 v) (h:DataW.Trod enc prog W 0 (fun _=>true) true 32 v d p):∃ (cs:List Value) (U:Rm),v=.agg cs.toArray/\RmC 0 W cs U:=by
 obtain⟨cs,rfl,hsz⟩:=okWide_struct underlying32 hv;obtain⟨fuel,hf⟩:=h;obtain⟨U,hU⟩:=ZgM (cs:=cs.toList) hf;exact⟨cs.toList,U,rfl,hU⟩
end
end
section
open Go.ChangeShapes Go.WideShapes Go.ChangeAt Go.RowKit Go.Deep
variable {fuel:Nat} {c:Value}
theorem Tryz.cells27:prog.cellsOf 27=1:=by kernel_rfl
section
variable {H:Type} {enc:TypeId×Value->H} {W:World}
theorem ZgL {x:DataW H×List MemPlace} (h:DataW.trod enc prog W 0 (fun _=>true) true fuel 27 [c]=some x):∃ Xl,ZaJ 0 W c Xl:=by
 rcases open_slice underlying27 h with ⟨hcs,_⟩ | ⟨a,len,cap,m,n,D,Pl,hcs,_,hl,hm,hmm,_,hx⟩
 . simp only [List.cons.injEq,and_true] at hcs
   exact⟨[],Or.inl ⟨_,_,hcs,rfl⟩⟩
 . simp only [List.cons.injEq,and_true] at hcs
   simp only [if_true] at hmm;subst hmm;rw [Tryz.cells3] at hx
   by_cases h0:len=0
   . subst h0
     exact⟨[],Or.inl ⟨_,_,hcs,rfl⟩⟩
   . obtain⟨Xl,hF,hall⟩:=Zcj (p:=fun i (x:Int)=>ZeA x/\W.cells? 0 (a.add (i*1)) 1=some [.int .i64 x]) len (fun i hi=>by
      obtain⟨cs',h1,h2⟩:=hx i (by omega);obtain⟨q1,e1,_,s1⟩:=DataW.trod_int underlying3 h2;rw [e1] at h1;exact⟨q1,rfl,h1⟩)
     obtain⟨b,off,spot⟩:=a
     have hspot:spot=none:=by
      obtain⟨_,h1⟩:=hall 0 (by omega);have:=(World.cells?_some h1).2.2 0 (by omega);rw [Nat.zero_mul] at this;have e0:((⟨b,off,spot⟩:Addr).add 0).add 0=⟨b,off,spot⟩:=by simp [Addr.add]
      rw [e0] at this
      simpa using World.cell?_spot (by simpa using this)
     subst hspot
     have hcell:∀ i (hi:i < Xl.length),W.cells? 0 ((⟨b,off,none⟩:Addr).add (i*1)) 1=some [.int .i64 Xl[i]]->W.cell? ⟨b,off+i,none⟩=some (.int .i64 Xl[i]):=fun i hi h1=>by
      obtain⟨_,_,hc⟩:=World.cells?_some h1;rw [add_plain,Nat.mul_one] at hc;have q:=(add_plain b (off+i) 0) ▸ hc 0 (by omega)
      simpa using q
     have hbw:b < W.heap.size:=by
      obtain⟨_,h1⟩:=hall 0 (by omega);exact World.block_lt_of_cell? W _ (hcell 0 (by omega) h1)
     refine⟨Xl,Or.inr ⟨b,off,m,by rw [hcs,hF],?_,by omega,hbw,Nat.zero_le _,by omega,fun i hi=>?_⟩⟩
     . intro e;rw [e] at hF;simp at hF;omega
     . obtain⟨hz,h1⟩:=hall i hi
       exact⟨hz,hcell i hi h1⟩
end
theorem Tryz.cells26:prog.cellsOf 26=1:=by kernel_rfl
section
variable {H:Type} {enc:TypeId×Value->H} {W:World}
theorem ZjC {x:DataW H×List MemPlace} (h:DataW.trod enc prog W 0 (fun _=>true) true fuel 26 [c]=some x):∃ Xl,Za2 0 W c Xl:=by
 rcases open_slice underlying26 h with ⟨hcs,_⟩ | ⟨a,len,cap,m,n,D,Pl,hcs,_,hl,hm,hmm,_,hx⟩
 . simp only [List.cons.injEq,and_true] at hcs
   exact⟨[],Or.inl ⟨_,_,hcs,rfl⟩⟩
 . simp only [List.cons.injEq,and_true] at hcs
   simp only [if_true] at hmm;subst hmm;rw [Tryz.cells9] at hx
   by_cases h0:len=0
   . subst h0
     exact⟨[],Or.inl ⟨_,_,hcs,rfl⟩⟩
   . obtain⟨Xl,hF,hall⟩:=Zcj (p:=fun i (x:Zy_)=>Zdm x/\W.cells? 0 (a.add (i*1)) 1=some [.string x]) len (fun i hi=>by
      obtain⟨cs',h1,h2⟩:=hx i (by omega);obtain⟨q1,e1,_,s1⟩:=DataW.trod_string underlying9 h2;rw [e1] at h1;exact⟨q1,s1,h1⟩)
     obtain⟨b,off,spot⟩:=a
     have hspot:spot=none:=by
      obtain⟨_,h1⟩:=hall 0 (by omega);have:=(World.cells?_some h1).2.2 0 (by omega);rw [Nat.zero_mul] at this;have e0:((⟨b,off,spot⟩:Addr).add 0).add 0=⟨b,off,spot⟩:=by simp [Addr.add]
      rw [e0] at this
      simpa using World.cell?_spot (by simpa using this)
     subst hspot
     have hcell:∀ i (hi:i < Xl.length),W.cells? 0 ((⟨b,off,none⟩:Addr).add (i*1)) 1=some [.string Xl[i]]->W.cell? ⟨b,off+i,none⟩=some (.string Xl[i]):=fun i hi h1=>by
      obtain⟨_,_,hc⟩:=World.cells?_some h1;rw [add_plain,Nat.mul_one] at hc;have q:=(add_plain b (off+i) 0) ▸ hc 0 (by omega)
      simpa using q
     have hbw:b < W.heap.size:=by
      obtain⟨_,h1⟩:=hall 0 (by omega);exact World.block_lt_of_cell? W _ (hcell 0 (by omega) h1)
     refine⟨Xl,Or.inr ⟨b,off,m,by rw [hcs,hF],?_,by omega,hbw,Nat.zero_le _,by omega,fun i hi=>?_⟩⟩
     . intro e;rw [e] at hF;simp at hF;omega
     . obtain⟨hz,h1⟩:=hall i hi
       exact⟨hz,hcell i hi h1⟩
end
theorem Tryz.cells97:prog.cellsOf 97=2:=by kernel_rfl
theorem ZkY {l:List Value} (h:l.length=2):∃ c0 c1,l=[c0,c1]:=by
 match l,h with
 | [c0,c1],_=>exact⟨c0,c1,rfl⟩
section
variable {H:Type} {enc:TypeId×Value->H} {W:World}
theorem Zjy {cs:List Value}{x:DataW H×List MemPlace} (h:DataW.trod enc prog W 0 (fun _=>true) true fuel 97 cs=some x):∃ U,RaC 0 W cs U:=by
 obtain⟨xs,n,_,_,hl,hlen,hfld⟩:=DataW.trod_struct underlying97 h;obtain⟨c0,c1,rfl⟩:=ZkY (hl.trans Tryz.cells97);simp only [Array.size,List.length_cons,List.length_nil] at hlen;have g0:DataW.trod enc prog W 0 (fun _=>true) true n 3 ((([c0,c1]:List Value).drop 0).take (prog.cellsOf 3))=xs[0]?:=hfld 0 _ rfl;have g1:DataW.trod enc prog W 0 (fun _=>true) true n 27 ((([c0,c1]:List Value).drop 1).take (prog.cellsOf 27))=xs[1]?:=hfld 1 _ rfl;simp only [Tryz.cells3,Tryz.cells27,List.drop_succ_cons,List.drop_zero,List.take_succ_cons,List.take_zero] at g0 g1;rw [List.getElem?_eq_getElem (by omega)] at g0 g1;obtain⟨q0,e0,_,_⟩:=DataW.trod_int underlying3 g0;simp only [List.cons.injEq,and_true] at e0;subst e0;obtain⟨q1,h1⟩:=ZgL g1;obtain⟨a0,k0,rfl⟩:=h1.form;exact⟨⟨q0,q1⟩,a0,k0,rfl,⟨h1⟩⟩
end
theorem Tryz.cells25:prog.cellsOf 25=1:=by kernel_rfl
section
variable {H:Type} {enc:TypeId×Value->H} {W:World}
theorem ZjA {x:DataW H×List MemPlace} (h:DataW.trod enc prog W 0 (fun _=>true) true fuel 25 [c]=some x):∃ Xl,Zbg 0 W c Xl:=by
 rcases open_slice underlying25 h with ⟨hcs,_⟩ | ⟨a,len,cap,m,n,D,Pl,hcs,_,hl,hm,hmm,_,hx⟩
 . simp only [List.cons.injEq,and_true] at hcs
   exact⟨[],Or.inl ⟨_,_,hcs,rfl⟩⟩
 . simp only [List.cons.injEq,and_true] at hcs
   simp only [if_true] at hmm;subst hmm;rw [Tryz.cells32] at hx
   by_cases h0:len=0
   . subst h0
     exact⟨[],Or.inl ⟨_,_,hcs,rfl⟩⟩
   . obtain⟨Xl,hF,hall⟩:=Zcj (p:=fun i (x:Rm)=>∃ cs',W.cells? 0 (a.add (i*8)) 8=some cs'/\RmC 0 W cs' x) len (fun i hi=>by
      obtain⟨cs',h1,h2⟩:=hx i (by omega);obtain⟨S,hS⟩:=ZgM h2;exact⟨S,cs',h1,hS⟩)
     have hsp:∃ b off,a=⟨b,off,none⟩:=by
      obtain⟨b,off,spot⟩:=a;obtain⟨cs',h1,hS⟩:=hall 0 (by omega);have:=(World.cells?_some h1).2.2 0 (by omega);rw [Nat.zero_mul] at this;have e0:((⟨b,off,spot⟩:Addr).add 0).add 0=⟨b,off,spot⟩:=by simp [Addr.add]
      rw [e0,List.getElem?_eq_getElem (by have:=hS.len;omega)] at this;have hs:spot=none:=by simpa using World.cell?_spot (by simpa using this)
      exact⟨b,off,by rw [hs]⟩
     obtain⟨b,off,rfl⟩:=hsp
     have hrng:∀ i (cs':List Value),W.cells? 0 ((⟨b,off,none⟩:Addr).add (i*8)) 8=some cs'->W.rangeAt b (off+i*8) cs':=fun i cs' h1 j v hv=>by
      obtain⟨_,hln,hc⟩:=World.cells?_some h1;have hj:j < cs'.length:=(List.getElem?_eq_some_iff.1 hv).1
      have q:=hc j (by omega);rw [add_plain,add_plain] at q;rw [q,hv]
     have hbw:b < W.heap.size:=by
      obtain⟨cs',h1,hS⟩:=hall 0 (by omega);exact World.block_lt_of_cell? W _ (hrng 0 cs' h1 0 _ (List.getElem?_eq_getElem (by have:=hS.len;omega)))
     refine⟨Xl,Or.inr ⟨b,off,m,by rw [hcs,hF],?_,by omega,hbw,Nat.zero_le _,by omega,fun i hi=>?_⟩⟩
     . intro e;rw [e] at hF;simp at hF;omega
     . obtain⟨cs',h1,hS⟩:=hall i hi
       exact⟨cs',hrng i cs' h1,hS⟩
end
theorem Tryz.cells28:prog.cellsOf 28=1:=by kernel_rfl
section
variable {H:Type} {enc:TypeId×Value->H} {W:World}
theorem Zjz {x:DataW H×List MemPlace} (h:DataW.trod enc prog W 0 (fun _=>true) true fuel 28 [c]=some x):∃ Xl,Zbm 0 W c Xl:=by
 rcases open_slice underlying28 h with ⟨hcs,_⟩ | ⟨a,len,cap,m,n,D,Pl,hcs,_,hl,hm,hmm,_,hx⟩
 . simp only [List.cons.injEq,and_true] at hcs
   exact⟨[],Or.inl ⟨_,_,hcs,rfl⟩⟩
 . simp only [List.cons.injEq,and_true] at hcs
   simp only [if_true] at hmm;subst hmm;rw [Tryz.cells97] at hx
   by_cases h0:len=0
   . subst h0
     exact⟨[],Or.inl ⟨_,_,hcs,rfl⟩⟩
   . obtain⟨Xl,hF,hall⟩:=Zcj (p:=fun i (x:Ra)=>∃ cs',W.cells? 0 (a.add (i*2)) 2=some cs'/\RaC 0 W cs' x) len (fun i hi=>by
      obtain⟨cs',h1,h2⟩:=hx i (by omega);obtain⟨S,hS⟩:=Zjy h2;exact⟨S,cs',h1,hS⟩)
     have hsp:∃ b off,a=⟨b,off,none⟩:=by
      obtain⟨b,off,spot⟩:=a;obtain⟨cs',h1,hS⟩:=hall 0 (by omega);have:=(World.cells?_some h1).2.2 0 (by omega);rw [Nat.zero_mul] at this;have e0:((⟨b,off,spot⟩:Addr).add 0).add 0=⟨b,off,spot⟩:=by simp [Addr.add]
      rw [e0,List.getElem?_eq_getElem (by have:=hS.len;omega)] at this;have hs:spot=none:=by simpa using World.cell?_spot (by simpa using this)
      exact⟨b,off,by rw [hs]⟩
     obtain⟨b,off,rfl⟩:=hsp
     have hrng:∀ i (cs':List Value),W.cells? 0 ((⟨b,off,none⟩:Addr).add (i*2)) 2=some cs'->W.rangeAt b (off+i*2) cs':=fun i cs' h1 j v hv=>by
      obtain⟨_,hln,hc⟩:=World.cells?_some h1;have hj:j < cs'.length:=(List.getElem?_eq_some_iff.1 hv).1
      have q:=hc j (by omega);rw [add_plain,add_plain] at q;rw [q,hv]
     have hbw:b < W.heap.size:=by
      obtain⟨cs',h1,hS⟩:=hall 0 (by omega);exact World.block_lt_of_cell? W _ (hrng 0 cs' h1 0 _ (List.getElem?_eq_getElem (by have:=hS.len;omega)))
     refine⟨Xl,Or.inr ⟨b,off,m,by rw [hcs,hF],?_,by omega,hbw,Nat.zero_le _,by omega,fun i hi=>?_⟩⟩
     . intro e;rw [e] at hF;simp at hF;omega
     . obtain⟨cs',h1,hS⟩:=hall i hi
       exact⟨cs',hrng i cs' h1,hS⟩
end
end
open Go.ChangeShapes Go.WideShapes Go.ChangeAt Go.RowKit Go.Deep
theorem Tryz.cells30:prog.cellsOf 30=18:=by kernel_rfl
theorem Zk1 {l:List Value} (h:l.length=18):∃ c0 c1 c2 c3 c4 c5 c6 c7 c8 c9 c10 c11 c12 c13 c14 c15 c16 c17,l=[c0,c1,c2,c3,c4,c5,c6,c7,c8,c9,c10,c11,c12,c13,c14,c15,c16,c17]:=by
 match l,h with
 | [c0,c1,c2,c3,c4,c5,c6,c7,c8,c9,c10,c11,c12,c13,c14,c15,c16,c17],_=>exact⟨c0,c1,c2,c3,c4,c5,c6,c7,c8,c9,c10,c11,c12,c13,c14,c15,c16,c17,rfl⟩
section
variable {H:Type} {enc:TypeId×Value->H} {W:World}
theorem ZjB {fuel:Nat}{cs:List Value}{x:DataW H×List MemPlace} (h:DataW.trod enc prog W 0 (fun _=>true) true fuel 30 cs=some x):∃ U,RrC 0 W cs U:=by
 obtain⟨xs,n,_,_,hl,hlen,hfld⟩:=DataW.trod_struct underlying30 h;obtain⟨c0,c1,c2,c3,c4,c5,c6,c7,c8,c9,c10,c11,c12,c13,c14,c15,c16,c17,rfl⟩:=Zk1 (hl.trans Tryz.cells30);simp only [Array.size,List.length_cons,List.length_nil] at hlen;have g0:DataW.trod enc prog W 0 (fun _=>true) true n 3 ((([c0,c1,c2,c3,c4,c5,c6,c7,c8,c9,c10,c11,c12,c13,c14,c15,c16,c17]:List Value).drop 0).take (prog.cellsOf 3))=xs[0]?:=hfld 0 _ rfl;have g1:DataW.trod enc prog W 0 (fun _=>true) true n 3 ((([c0,c1,c2,c3,c4,c5,c6,c7,c8,c9,c10,c11,c12,c13,c14,c15,c16,c17]:List Value).drop 1).take (prog.cellsOf 3))=xs[1]?:=hfld 1 _ rfl;have g2:DataW.trod enc prog W 0 (fun _=>true) true n 4 ((([c0,c1,c2,c3,c4,c5,c6,c7,c8,c9,c10,c11,c12,c13,c14,c15,c16,c17]:List Value).drop 2).take (prog.cellsOf 4))=xs[2]?:=hfld 2 _ rfl
 have g3:DataW.trod enc prog W 0 (fun _=>true) true n 24 ((([c0,c1,c2,c3,c4,c5,c6,c7,c8,c9,c10,c11,c12,c13,c14,c15,c16,c17]:List Value).drop 3).take (prog.cellsOf 24))=xs[3]?:=hfld 3 _ rfl;have g4:DataW.trod enc prog W 0 (fun _=>true) true n 24 ((([c0,c1,c2,c3,c4,c5,c6,c7,c8,c9,c10,c11,c12,c13,c14,c15,c16,c17]:List Value).drop 6).take (prog.cellsOf 24))=xs[4]?:=hfld 4 _ rfl;have g5:DataW.trod enc prog W 0 (fun _=>true) true n 25 ((([c0,c1,c2,c3,c4,c5,c6,c7,c8,c9,c10,c11,c12,c13,c14,c15,c16,c17]:List Value).drop 9).take (prog.cellsOf 25))=xs[5]?:=hfld 5 _ rfl;have g6:DataW.trod enc prog W 0 (fun _=>true) true n 26 ((([c0,c1,c2,c3,c4,c5,c6,c7,c8,c9,c10,c11,c12,c13,c14,c15,c16,c17]:List Value).drop 10).take (prog.cellsOf 26))=xs[6]?:=hfld 6 _ rfl
 have g7:DataW.trod enc prog W 0 (fun _=>true) true n 4 ((([c0,c1,c2,c3,c4,c5,c6,c7,c8,c9,c10,c11,c12,c13,c14,c15,c16,c17]:List Value).drop 11).take (prog.cellsOf 4))=xs[7]?:=hfld 7 _ rfl;have g8:DataW.trod enc prog W 0 (fun _=>true) true n 4 ((([c0,c1,c2,c3,c4,c5,c6,c7,c8,c9,c10,c11,c12,c13,c14,c15,c16,c17]:List Value).drop 12).take (prog.cellsOf 4))=xs[8]?:=hfld 8 _ rfl;have g9:DataW.trod enc prog W 0 (fun _=>true) true n 3 ((([c0,c1,c2,c3,c4,c5,c6,c7,c8,c9,c10,c11,c12,c13,c14,c15,c16,c17]:List Value).drop 13).take (prog.cellsOf 3))=xs[9]?:=hfld 9 _ rfl;have g10:DataW.trod enc prog W 0 (fun _=>true) true n 27 ((([c0,c1,c2,c3,c4,c5,c6,c7,c8,c9,c10,c11,c12,c13,c14,c15,c16,c17]:List Value).drop 14).take (prog.cellsOf 27))=xs[10]?:=hfld 10 _ rfl
 have g11:DataW.trod enc prog W 0 (fun _=>true) true n 22 ((([c0,c1,c2,c3,c4,c5,c6,c7,c8,c9,c10,c11,c12,c13,c14,c15,c16,c17]:List Value).drop 15).take (prog.cellsOf 22))=xs[11]?:=hfld 11 _ rfl;have g12:DataW.trod enc prog W 0 (fun _=>true) true n 28 ((([c0,c1,c2,c3,c4,c5,c6,c7,c8,c9,c10,c11,c12,c13,c14,c15,c16,c17]:List Value).drop 16).take (prog.cellsOf 28))=xs[12]?:=hfld 12 _ rfl;have g13:DataW.trod enc prog W 0 (fun _=>true) true n 3 ((([c0,c1,c2,c3,c4,c5,c6,c7,c8,c9,c10,c11,c12,c13,c14,c15,c16,c17]:List Value).drop 17).take (prog.cellsOf 3))=xs[13]?:=hfld 13 _ rfl;simp only [Tryz.cells3,Tryz.cells4,Tryz.cells27,Tryz.cells26,Tryz.cells28,Tryz.cells25,Tryz.cells22,Tryz.cells24,List.drop_succ_cons,List.drop_zero,List.take_succ_cons,List.take_zero] at g0 g1 g2 g3 g4 g5 g6 g7 g8 g9 g10 g11 g12 g13
 rw [List.getElem?_eq_getElem (by omega)] at g0 g1 g2 g3 g4 g5 g6 g7 g8 g9 g10 g11 g12 g13;obtain⟨q0,e0,_,_⟩:=DataW.trod_int underlying3 g0;simp only [List.cons.injEq,and_true] at e0;subst e0;obtain⟨q1,e1,_,_⟩:=DataW.trod_int underlying3 g1;simp only [List.cons.injEq,and_true] at e1;subst e1;obtain⟨q2,e2,_⟩:=DataW.trod_bool underlying4 g2;simp only [List.cons.injEq,and_true] at e2;subst e2;obtain⟨q3,a0,k0,e3,h3⟩:=ZgK g3;unfold rdL at e3;simp only [List.cons.injEq,and_true] at e3;obtain⟨r3_0,r3_1,r3_2⟩:=e3;subst r3_0 r3_1 r3_2;obtain⟨q4,a1,k1,e4,h4⟩:=ZgK g4;unfold rdL at e4;simp only [List.cons.injEq,and_true] at e4;obtain⟨r4_0,r4_1,r4_2⟩:=e4;subst r4_0 r4_1 r4_2;obtain⟨q5,h5⟩:=ZjA g5;obtain⟨a2,k2,rfl⟩:=h5.form;obtain⟨q6,h6⟩:=ZjC g6;obtain⟨a3,k3,rfl⟩:=h6.form;obtain⟨q7,e7,_⟩:=DataW.trod_bool underlying4 g7
 simp only [List.cons.injEq,and_true] at e7;subst e7;obtain⟨q8,e8,_⟩:=DataW.trod_bool underlying4 g8;simp only [List.cons.injEq,and_true] at e8;subst e8;obtain⟨q9,e9,_,_⟩:=DataW.trod_int underlying3 g9;simp only [List.cons.injEq,and_true] at e9;subst e9;obtain⟨q10,h10⟩:=ZgL g10;obtain⟨a4,k4,rfl⟩:=h10.form;obtain⟨q11,h11⟩:=Ze9 g11;obtain⟨a5,k5,rfl⟩:=h11.form;obtain⟨q12,h12⟩:=Zjz g12;obtain⟨a6,k6,rfl⟩:=h12.form;obtain⟨q13,e13,_,_⟩:=DataW.trod_int underlying3 g13;simp only [List.cons.injEq,and_true] at e13;subst e13;exact⟨⟨q0,q1,q2,q3,q4,q5,q6,q7,q8,q9,q10,q11,q12,q13⟩,a0,k0,a1,k1,a2,k2,a3,k3,a4,k4,a5,k5,a6,k6,rfl,⟨h3.l0,h4.l0,h5,h6,h10,h11,h12⟩⟩
theorem Zkj {r:Reach}{b0:Nat}{v:Value}{d:DataW H}{p:List MemPlace} (hv:Value.okWide prog W r b0 30 v) (h:DataW.Trod enc prog W 0 (fun _=>true) true 30 v d p):∃ (cs:List Value) (U:Rr),v=.agg cs.toArray/\RrC 0 W cs U:=by
 obtain⟨cs,rfl,hsz⟩:=okWide_struct underlying30 hv;obtain⟨fuel,hf⟩:=h;obtain⟨U,hU⟩:=ZjB (cs:=cs.toList) hf;exact⟨cs.toList,U,rfl,hU⟩
end
end Go.Proofs.YtkiefplmnoapfaaGreat
