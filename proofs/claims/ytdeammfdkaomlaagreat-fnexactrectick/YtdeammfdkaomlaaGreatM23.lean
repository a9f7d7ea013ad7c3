import Derived.Test.YtdeammfdkaomlaaGreatM19
import Derived.Test.YtdeammfdkaomlaaGreatM22
set_option maxHeartbeats 16000000
set_option maxRecDepth 100000
open Go.Proofs.Tryz
namespace Go.Proofs.YtdeammfdkaomlaaGreat
open Go.RowKit Go.Deep
section
variable {lo γ:Nat} {w w':World} {U:Rr}
theorem Zks {fn:Func}{p:Tmp} (h:fn.results=#[.cell p 61]) {tmps:Array Value} {w:World} {b:Nat} {cs:List Value} (hx:Box w b cs.toArray) (hi:(prog.info? 61).map (·.size)=some cs.length)
 (hp:tmps.getD p undef=.pointer (some ⟨b,0,none⟩)):(results fn tmps).run prog w=.ok (.agg cs.toArray) w:=
 ZdL h _ _ b 0 cs _ hp (hx.range rfl) underlying61 rfl hi
theorem exA {K:Nat->Prop}{b:Nat->Option Addr}{m:Nat->Nat}{S:Nat->Nat->Prop} (h:Rz K lo w γ b m S U) {β:Nat} {X:Array Value} (hx:Box w β X) (hs:X.size=18) :
 ∃ b' m' S' yl,Hd (Rz K lo w γ b' m' S' U)/\Hd (yl=rrF U b' m')/\Hd (World.rangeAt w γ 0 yl)/\Hd (World.there w β 0 yl.toArray.size)/\Hd (yl.toArray.all (·.oneCell')=true)/\Hd ((prog.info? 61).map (·.size)=some yl.length)/\yl.length=18:=
 ⟨b,m,S,_,h,rfl,h.box.range rfl,hx.there hs,Zcs ..,ZaA,rfl⟩
theorem exB {K R:Nat->Prop}{β:Nat}{w0:World}{b:Nat->Option Addr}{m:Nat->Nat}{S:Nat->Nat->Prop}{X:Array Value}{yl:List Value} (hW:w.setCells β 0 yl.toArray.toList=w') (hx:Box w β X) (hy:yl.length=X.size) (h:Rz (fun k=>K k\/R k) lo w γ b m S U) (hβ:K β\/R β) (hk:Zag K w0 w) (hw:∀ k,K k->k < w0.heap.size) (hlt:w0.heap.size<=β) :
 Hd (Box w' β yl.toArray)/\Hd (Zag K w0 w')/\Hd (Cz K lo w' b m S U):=by
 have ht:Zad β (β+1) w w':=by rw [<- hW];exact Zad.sets ⟨by omega,by omega⟩ _ _ _
 exact⟨by unfold Hd;rw [<- hW];exact hx.full (by simpa using hy.symm),hk.trans (Zag.touch ht (fun k hk=>⟨(h.prot k (Or.inl hk)).1,Or.inl (by have:=hw k hk;omega)⟩)),(h.other hβ ht).cz.less (fun k hk=>Or.inl hk)⟩
theorem Zb4 (U:Rr) (b:Nat->Option Addr) (m:Nat->Nat):(rrF U b m).length=18:=rfl
theorem Zb5 (U:Rr) (b:Nat->Option Addr) (m:Nat->Nat):(rrF U b m).toArray.all (·.oneCell')=true:=Zcs ..
theorem Rz.czg {K:Nat->Prop}{b:Nat->Option Addr}{m:Nat->Nat}{S:Nat->Nat->Prop} (h:Rz K lo w γ b m S U):Cz (fun k=>K k\/k=γ) lo w b m S U:=
 ⟨h.cp,h.low,fun k hk=>by
  rcases hk with hk | rfl
  . exact⟨(h.prot k hk).1,(h.prot k hk).2.2⟩
  . exact⟨h.box.lt,h.far⟩⟩
theorem Cz.put {K:Nat->Prop}{b:Nat->Option Addr}{m:Nat->Nat}{S:Nat->Nat->Prop} (h:Cz (fun k=>K k\/k=γ) lo w b m S U) {X:Array Value} (hx:Box w γ X) (hs:X.size=18) (hK:∀ k,K k->k≠γ) {w':World} (hw:w'=w.setCells γ 0 (rrF U b m).toArray.toList) :
 Rz K lo w' γ b m S U/\Zad γ (γ+1) w w':=by
 have ht:Zad γ (γ+1) w w':=by rw [hw];exact Zad.sets ⟨Nat.le_refl _,Nat.lt_succ_self _⟩ _ _ _
 refine⟨⟨by rw [hw];exact hx.full (by rw [hs];rfl),h.cp.kept (K:=fun k=>k < w.heap.size/\(k < γ\/γ+1<=k)) (Zag.touch ht fun _ h=>h) (fun i hi k hS=>⟨(h.cp.seg i hi k hS).2,?_⟩),Nat.le_trans h.low ht.size,(h.prot γ (Or.inr rfl)).2,fun k hk=>⟨Zk_ (h.prot k (Or.inl hk)).1 ht.size,hK k hk,(h.prot k (Or.inl hk)).2⟩⟩,ht⟩
 by_cases e:k=γ
 . subst e;exact absurd hS ((h.prot k (Or.inr rfl)).2 i hi)
 . omega
theorem Zag.box {K:Nat->Prop} (h:Zad γ (γ+1) w w') (hk:∀ k,K k->k < w.heap.size/\k≠γ):Zag K w w':=Zag.touch h fun k h'=>⟨(hk k h').1,by have:=(hk k h').2;omega⟩
def Zbl (U:Rr) (M:Rm):Rr:=if U.he.length < 400 then { U with he:=U.he ++ [{ M with fr:=U.nu }] } else U
theorem Zh1 (K:Nat->Prop) (lo:Nat) (w:World) (U:Rr) (b:Nat->Option Addr) (m:Nat->Nat) (S:Nat->Nat->Prop) (M:Rm) (a0:Option Addr) (k0 lx ux:Nat) (h:Cz K lo w b m S U) (hlu:lx<=ux) (hx:Zay rsL 2 w lx ux (.slice a0 M.sl.length k0) M.sl) (hxs:∀ k,lx<=k->k < ux->lo<=k/\k < w.heap.size/\¬ K k/\∀ i,i < 7->¬ S i k) :
 Calls prog 63 #[.agg (rrF U b m).toArray,.agg (rmL M a0 k0).toArray] w fun e w'=>∃ b' m' S',e=.returned (.agg (rrF (Zbl U M) b' m').toArray)/\Zag K w w'/\Cz K lo w' b' m' S' (Zbl U M):=by
 have HC:=Zaa h;have HKw:Hd (∀ k,K k->k < w.heap.size):=fun k hk=>(h.prot k hk).1
 obtain⟨cs,hcs⟩:∃ cs,cs=rrF U b m:=⟨_,rfl⟩
 rw [<- hcs];have HCS:=Zaa hcs;clear hcs h;have HX:=Zaa hx;have HXS:=Zaa hxs;clear hx hxs
 show Calls prog 63 #[.agg cs.toArray,.agg #[.int .i64 M.kd,.int .i64 M.fr,.int .i64 M.tt,.int .i64 M.ba,.int .i64 M.ix,.int .i64 M.kn,.string M.tx,.slice a0 M.sl.length k0]] w _
 go_enter func63,ntmps63
 go_upto_region 1 with fail
 obtain⟨wz,hwz,FB,MB,RB,HB⟩:∃ wz,wz=((w.alloc (.cells cs.toArray 61)).alloc (.cells #[.int .i64 M.kd,.int .i64 M.fr,.int .i64 M.tt,.int .i64 M.ba,.int .i64 M.ix,.int .i64 M.kn,.string M.tx,.slice a0 M.sl.length k0] 102)).alloc (.cells zR 61)/\Hd (Box wz w.heap.size (rrF U b m).toArray)/\Hd (Box wz (w.heap.size+1) #[.int .i64 M.kd,.int .i64 M.fr,.int .i64 M.tt,.int .i64 M.ba,.int .i64 M.ix,.int .i64 M.kn,.string M.tx,.slice a0 M.sl.length k0])/\Hd (Box wz (w.heap.size+2) zR)/\Hd (Zw_ w wz):=⟨_,rfl,by unfold Hd;rw [<- HCS.o];exact (((Box.new w _ _ _ rfl).on (Zab _ _)).on (Zab _ _)),((Box.new _ _ _ _ (by simp)).on (Zab _ _)),Box.new _ _ _ _ (by simp),(bt (bt (Zab _ _) (Zab _ _)) (Zab _ _))⟩
 rw [<- hwz];clear hwz;have hwn:w.heap.size+3<=wz.heap.size:=by have:=RB.o.lt;omega
 have HR:Hd (Rz (fun k=>K k\/(w.heap.size+1<=k/\k < w.heap.size+3)) lo wz w.heap.size b m S U):=HC.o.rz HB.o FB.o Zl_ (fun k hk=>hk.imp (fun h=>h) (fun h=>⟨by omega,by omega,by omega⟩));have HKP:Hd (Zag K w wz):=Zag.below HB.o HKw.o;have HKB:Hd (Zag (fun k=>k < w.heap.size) w wz):=Zag.below HB.o (fun _ h=>h);clear FB HB;have x0:wz.cell? ⟨w.heap.size,0,none⟩=some (.int .i64 U.nu):=HR.o.box.cell 0;have y1:wz.cell? ⟨w.heap.size+1,1,none⟩=some (.int .i64 M.fr):=MB.o.cell 1;have yf:=MB.o.free
 go_upto_region 2 with fail
 clear x0 y1 yf;obtain⟨w1,hw1⟩:∃ w1,w1=wz.setCell ⟨w.heap.size+1,1,none⟩ (.int .i64 U.nu):=⟨_,rfl⟩
 rw [<- hw1];have MB1:Hd (Box w1 (w.heap.size+1) #[.int .i64 M.kd,.int .i64 U.nu,.int .i64 M.tt,.int .i64 M.ba,.int .i64 M.ix,.int .i64 M.kn,.string M.tx,.slice a0 M.sl.length k0]):=by unfold Hd;rw [hw1];exact MB.o.set (k:=1) (.int .i64 U.nu) (by show 1 < 8;omega)
 have T1:Hd (Zad (w.heap.size+1) (w.heap.size+2) wz w1):=by unfold Hd;rw [hw1];exact Zad.setCell _ _ _ _ _ ⟨Nat.le_refl _,Nat.lt_succ_self _⟩
 clear hw1 MB;replace HR:=Zaa (HR.o.other (β:=w.heap.size+1) (Or.inr (by omega)) T1.o);replace RB:=Zaa (RB.o.tch2 T1.o (Or.inr Zl_));replace HKP:Hd (Zag K w w1):=HKP.o.trans (Zag.touch T1.o (fun k hk=>by have:=HKw.o k hk;omega));have hw1s:wz.heap.size<=w1.heap.size:=T1.o.size
 have HX1:Hd (Zay rsL 2 w1 lx ux (.slice a0 M.sl.length k0) M.sl):=(HX.o.kept (K:=fun k=>k < w.heap.size) HKB.o (fun k a b=>(HXS.o k a b).2.1)).touch T1.o (by
  rcases Nat.lt_or_ge lx ux with h | h
  . left;have:=(HXS.o (ux - 1) (by omega) (by omega)).2.1;omega
  . rcases Nat.lt_or_ge ux (w.heap.size+2) with h' | h'
    . left;omega
    . right;omega)
 clear T1 HX;have x9:w1.cell? ⟨w.heap.size,9,none⟩=some (.slice (b 2) U.he.length (m 2)):=HR.o.box.cell 9
 by_cases hlt:U.he.length < 400
 case neg=>
  have d1:decide ((U.he.length:Int) < 400)=false:=by simp;omega
  have HE:Hd (Zbl U M=U):=by unfold Hd Zbl;rw [if_neg hlt]
  go_upto_region 4 with fail
  clear x9;obtain⟨b9,m9,S9,yl,HRx,HYL,HRA,HTH,HON,HSy,hy18⟩:=exA (U:=U) HR.o RB.o rfl;clear HR
  go_wp2_with (first
   | (with_reducible refine ldR (.tmp 2) w.heap.size 0 yl HRA.o HSy.o ?_)
   | (with_reducible refine stR (.tmp 4) (.tmp 18) (w.heap.size+2) 0 yl.toArray HTH.o (szN hy18) HON.o ?_;refine Hd.o ?_))
  generalize hW9:World.setCells _ _ _ _=W9;obtain⟨FR9,HKn,HRn⟩:=exB hW9 RB.o hy18 HRx.o (Or.inr (by omega)) HKP.o HKw.o (by omega);clear hW9;refine Zaa ?_;go_wp2;exact bodyPost_ret (v:=.agg yl.toArray) (Zks (p:=4) results63 FR9.o HSy.o rfl) rfl ⟨b9,m9,S9,by rw [HYL.o,HE.o],HKn.o,by rw [HE.o];exact HRn.o⟩
 have d1:decide ((U.he.length:Int) < 400)=true:=by simp;omega
 have HE:Hd (Zbl U M={ U with he:=U.he ++ [{ M with fr:=U.nu }] }):=by unfold Hd Zbl;rw [if_pos hlt]
 have y0:w1.rangeAt (w.heap.size+1) 0 (rmL { M with fr:=U.nu } a0 k0):=MB1.o.range rfl;have HSM:Hd ((prog.info? 102).map (·.size)=some (rmL { M with fr:=U.nu } a0 k0).length):=by unfold Hd;kernel_rfl
 have HY0:=Zaa y0;have zz:=MB1.o.cell;clear y0;go_wp2_with (at_builtin;refine Hd.o ?_);clear x9 zz HY0 HSM;obtain⟨w2,hw2,SB,HB2⟩:∃ w2,w2=w1.alloc (.cells #[.int .i64 M.kd,.int .i64 U.nu,.int .i64 M.tt,.int .i64 M.ba,.int .i64 M.ix,.int .i64 M.kn,.string M.tx,.slice a0 M.sl.length k0] 102)/\Hd (Box w2 w1.heap.size #[.int .i64 M.kd,.int .i64 U.nu,.int .i64 M.tt,.int .i64 M.ba,.int .i64 M.ix,.int .i64 M.kn,.string M.tx,.slice a0 M.sl.length k0])/\Hd (Below w1.heap.size w1 w2):=⟨_,rfl,Box.new _ _ _ _ rfl,Zab _ _⟩
 rw [<- hw2];clear hw2;have hs2:=HB2.o.size;replace HR:=Zaa (HR.o.on HB2.o);replace RB:=Zaa (RB.o.on HB2.o);replace HKP:Hd (Zag K w w2):=HKP.o.trans (Zag.below HB2.o (fun k hk=>by have:=HKw.o k hk;omega));replace HX1:=Zaa (HX1.o.below HB2.o);clear HB2 MB1
 have HRa:=Zaa (HR.o.absorb (fun k=>lx<=k/\k < ux) (fun k hk=>by
  have q:=HXS.o k hk.1 hk.2;refine⟨q.1,by omega,by omega,fun hK=>?_,q.2.2.2⟩
  rcases hK with hK | hK
  . exact q.2.2.1 hK
  . omega))
 obtain⟨L2,hng,hmap⟩:=HR.o.cp.o2;have hl2:L2.length=U.he.length:=by rw [<- hmap,List.length_map]
 obtain⟨v',w3,hrun,ht,hrow⟩:=ZjZ Zdn Zlc Zb3 (by decide) underlying32 Zcz rfl (S1:=fun k=>S 2 k\/(lx<=k/\k < ux)) (x:=({ M with fr:=U.nu },a0,k0)) 32 hng lx ux hlu HX1.o (fun k p q=>⟨by have:=(HXS.o k p q).2.1;omega,Or.inr ⟨p,q⟩,(HXS.o k p q).2.2.2 2 (by decide)⟩) ⟨w1.heap.size,0,none⟩ 1 (fun j u hu=>by
  rw [Addr.add_lit,Nat.zero_add,SB.o.cell j]
  simpa [Zai,mxL,rmL] using hu) (Zdt _) (by omega) (by decide) (fun k hk=>⟨Or.inl hk,(HR.o.cp.seg 2 (by decide) k hk).2⟩)
 have hmap':(L2 ++ [(({ M with fr:=U.nu },a0,k0):MX)]).map (·.1)=U.he ++ [{ M with fr:=U.nu }]:=by rw [List.map_append,hmap];rfl
 obtain⟨a',m',hv'⟩:=hrow.form;rw [show (L2 ++ [(({ M with fr:=U.nu },a0,k0):MX)]).length=(U.he ++ [{ M with fr:=U.nu }]).length by rw [<- hmap',List.length_map]] at hv';subst hv';have ht2:Zaj (fun k=>S 2 k\/(lx<=k/\k < ux)) w2 w3:=ht.wide fun _ h=>Or.inl h
 have HP:=Zaa (HRa.o.part2 (L':=U.he ++ [{ M with fr:=U.nu }]) (by rw [Zam];exact ht2) ⟨L2 ++ [(({ M with fr:=U.nu },a0,k0):MX)],by rw [Zam];exact hrow,hmap'⟩);obtain⟨nl,hnl⟩:∃ nl,nl=(U.he ++ [{ M with fr:=U.nu }]).length:=⟨_,rfl⟩
 rw [<- hnl] at HP hrun;have hkp:Zag (fun k=>k < w2.heap.size/\¬ S 2 k) w2 w3:=Zag.touchS ht fun _ h=>h
 have BG:=Zaa (HR.o.box.kept hkp ⟨HR.o.box.lt,HR.o.far 2 (by decide)⟩);have RB3:=Zaa (RB.o.kept hkp ⟨RB.o.lt,(HR.o.prot _ (Or.inr (by omega))).2.2 2 (by decide)⟩);have x9:w3.cell? ⟨w.heap.size,9,none⟩=some (.slice (b 2) U.he.length (m 2)):=BG.o.cell 9;have gf:=BG.o.free;have hs3:=ht.size;clear hnl hng hmap hrow ht ht2 hkp hmap' HRa HX1 SB;refine Zaa ?_;refine wpList_append_run rfl (.tmp 13) (.tmp 15) _ rfl rfl rfl hrun ?_;clear hrun
 go_upto_region 4 with fail
 clear x9 gf;obtain⟨w4,hw4⟩:∃ w4,w4=w3.setCell ⟨w.heap.size,9,none⟩ (.slice a' nl m'):=⟨_,rfl⟩
 rw [<- hw4] at HP |-;have RB4:Hd (Box w4 (w.heap.size+2) zR):=by unfold Hd;rw [hw4];exact RB3.o.setFar (by simp only [];omega) _
 have hs4:w3.heap.size=w4.heap.size:=by rw [hw4];simp [World.setCell]
 clear hw4 RB3 BG RB HR;have RB:=RB4;have HR:=Zaa HP.o.1;replace HKP:Hd (Zag K w w4):=HKP.o.trans (HP.o.2.less fun k hk=>Or.inl hk);clear HP RB4;obtain⟨b9,m9,S9,yl,HRx,HYL,HRA,HTH,HON,HSy,hy18⟩:=exA (U:={ U with he:=U.he ++ [{ M with fr:=U.nu }] }) HR.o RB.o rfl;clear HR
 go_wp2_with (first
  | (with_reducible refine ldR (.tmp 2) w.heap.size 0 yl HRA.o HSy.o ?_)
  | (with_reducible refine stR (.tmp 4) (.tmp 18) (w.heap.size+2) 0 yl.toArray HTH.o (szN hy18) HON.o ?_;refine Hd.o ?_))
 generalize hW9:World.setCells _ _ _ _=W9;obtain⟨FR9,HKn,HRn⟩:=exB hW9 RB.o hy18 HRx.o (Or.inr (by omega)) HKP.o HKw.o (by omega);clear hW9;refine Zaa ?_;go_wp2;exact bodyPost_ret (v:=.agg yl.toArray) (Zks (p:=4) results63 FR9.o HSy.o rfl) rfl ⟨b9,m9,S9,by rw [HYL.o,HE.o],HKn.o,by rw [HE.o];exact HRn.o⟩
end
def Za7 (U:Rr):Rr:={ U with ld:=false,ty:=false,ba:=0,ye:=[],be:=[],ac:=[] }
theorem ZhL (K:Nat->Prop) (lo:Nat) (w:World) (U:Rr) (b:Nat->Option Addr) (m:Nat->Nat) (S:Nat->Nat->Prop) (h:Cz K lo w b m S U) :
 Calls prog 61 #[.agg (rrF U b m).toArray] w fun e w'=>∃ b' m' S',e=.returned (.agg (rrF (Za7 U) b' m').toArray)/\Zag K w w'/\Cz K lo w' b' m' S' (Za7 U):=by
 have HC:=Zaa h;have HKw:Hd (∀ k,K k->k < w.heap.size):=fun k hk=>(h.prot k hk).1
 obtain⟨cs,hcs⟩:∃ cs,cs=rrF U b m:=⟨_,rfl⟩
 rw [<- hcs];have HCS:=Zaa hcs;clear hcs h;go_enter func61,ntmps61
 go_upto_region 1 with fail
 obtain⟨wz,hwz,FB,RB,HB⟩:∃ wz,wz=(w.alloc (.cells cs.toArray 61)).alloc (.cells zR 61)/\Hd (Box wz w.heap.size (rrF U b m).toArray)/\Hd (Box wz (w.heap.size+1) zR)/\Hd (Zw_ w wz):=⟨_,rfl,by unfold Hd;rw [<- HCS.o];exact ((Box.new w _ _ _ rfl).on (Zab _ _)),Box.new _ _ _ _ (by simp),(bt (Zab _ _) (Zab _ _))⟩
 rw [<- hwz];clear hwz;have hwn:w.heap.size+2<=wz.heap.size:=by have:=RB.o.lt;omega
 have HR:Hd (Rz (fun k=>K k\/(w.heap.size+1<=k/\k < w.heap.size+2)) lo wz w.heap.size b m S U):=HC.o.rz HB.o FB.o Zl_ (fun k hk=>hk.imp (fun h=>h) (fun h=>⟨by omega,by omega,by omega⟩));have HKP:Hd (Zag K w wz):=Zag.below HB.o HKw.o;clear FB HB;have xc:wz.cell? ⟨w.heap.size,11,none⟩=some (.bool U.ld):=HR.o.box.cell 11;have gf:=HR.o.box.free
 go_upto_region 2 with fail
 clear xc gf;obtain⟨w1,hwn'⟩:∃ wx_,wx_=wz.setCell ⟨w.heap.size,11,none⟩ (.bool false):=⟨_,rfl⟩
 rw [<- hwn'];have hp:=HR.o.scal (U':={ U with ld:=false }) (j:=11) (v:=.bool false) (by show 11 < 18;omega) rfl (fun _ h=>⟨h.seg,h.ap,h.o0,h.o1,h.o2,h.o3,h.o4,h.o5,h.o6⟩);rw [<- hwn'] at hp;have hss:wz.heap.size=w1.heap.size:=by rw [hwn'];simp [World.setCell]
 have RBn:Hd (Box w1 (w.heap.size+1) zR):=by unfold Hd;rw [hwn'];exact RB.o.setFar (by simp only [];omega) _
 have hsw1:w.heap.size+2<=w1.heap.size:=by omega
 clear hwn' RB HR hss;have RB:=RBn;have HR:=Zaa hp.1;replace HKP:Hd (Zag K w w1):=HKP.o.trans (hp.2.less fun k hk=>Or.inl hk);clear hp RBn;have xc:w1.cell? ⟨w.heap.size,12,none⟩=some (.bool U.ty):=HR.o.box.cell 12;have gf:=HR.o.box.free
 go_upto_region 3 with fail
 clear xc gf;obtain⟨w2,hwn'⟩:∃ wx_,wx_=w1.setCell ⟨w.heap.size,12,none⟩ (.bool false):=⟨_,rfl⟩
 rw [<- hwn'];have hp:=HR.o.scal (U':={ U with ld:=false,ty:=false }) (j:=12) (v:=.bool false) (by show 12 < 18;omega) rfl (fun _ h=>⟨h.seg,h.ap,h.o0,h.o1,h.o2,h.o3,h.o4,h.o5,h.o6⟩);rw [<- hwn'] at hp;have hss:w1.heap.size=w2.heap.size:=by rw [hwn'];simp [World.setCell]
 have RBn:Hd (Box w2 (w.heap.size+1) zR):=by unfold Hd;rw [hwn'];exact RB.o.setFar (by simp only [];omega) _
 have hsw2:w.heap.size+2<=w2.heap.size:=by omega
 clear hwn' RB HR hss;have RB:=RBn;have HR:=Zaa hp.1;replace HKP:Hd (Zag K w w2):=HKP.o.trans (hp.2.less fun k hk=>Or.inl hk);clear hp RBn;have xc:w2.cell? ⟨w.heap.size,13,none⟩=some (.int .i64 U.ba):=HR.o.box.cell 13;have gf:=HR.o.box.free
 go_upto_region 4 with fail
 clear xc gf;obtain⟨w3,hwn'⟩:∃ wx_,wx_=w2.setCell ⟨w.heap.size,13,none⟩ (.int .i64 0):=⟨_,rfl⟩
 rw [<- hwn'];have hp:=HR.o.scal (U':={ U with ld:=false,ty:=false,ba:=0 }) (j:=13) (v:=.int .i64 0) (by show 13 < 18;omega) rfl (fun _ h=>⟨h.seg,h.ap,h.o0,h.o1,h.o2,h.o3,h.o4,h.o5,h.o6⟩);rw [<- hwn'] at hp;have hss:w2.heap.size=w3.heap.size:=by rw [hwn'];simp [World.setCell]
 have RBn:Hd (Box w3 (w.heap.size+1) zR):=by unfold Hd;rw [hwn'];exact RB.o.setFar (by simp only [];omega) _
 have hsw3:w.heap.size+2<=w3.heap.size:=by omega
 clear hwn' RB HR hss;have RB:=RBn;have HR:=Zaa hp.1;replace HKP:Hd (Zag K w w3):=HKP.o.trans (hp.2.less fun k hk=>Or.inl hk);clear hp RBn;have xc:∀ o,(w3.alloc o).cell? ⟨w.heap.size,14,none⟩=some (.slice (b 4) U.ye.length (m 4)):=fun o=>(HR.o.box.on (Zab _ o)).cell 14
 have gf:∀ o j,(w3.alloc o).frozen? ⟨w.heap.size,j,none⟩=false:=fun o j=>(HR.o.box.on (Zab _ o)).free j
 have hp:=HR.o.part4 (w':=w3.alloc (.cells #[] 3)) (L':=([]:List Int)) (a':=some ⟨w3.heap.size,0,none⟩) (m':=0) (Zaj.below (Zab _ _)) (Or.inr ⟨w3.heap.size,Or.inr ⟨Nat.le_refl _,by simp⟩,w3.heap.size,0,rfl,(Zbb inL 1 w3 #[] 3 0 rfl Zz_).own'⟩);have HP:=Zaa hp;clear hp
 go_upto_region 5 with fail
 clear xc gf;obtain⟨w4,hwn'⟩:∃ wx_,wx_=(w3.alloc (.cells #[] 3)).setCell ⟨w.heap.size,14,none⟩ (.slice (some ⟨w3.heap.size,0,none⟩) 0 0):=⟨_,rfl⟩
 have hpp:=HP.o;simp only [List.length_nil] at hpp;rw [<- hwn'] at hpp;rw [<- hwn'];have hss:w3.heap.size+1=w4.heap.size:=by rw [hwn'];simp [World.setCell]
 have RBn:Hd (Box w4 (w.heap.size+1) zR):=by unfold Hd;rw [hwn'];exact (RB.o.on (Zab _ _)).setFar (by simp only [];omega) _
 have hsw4:w.heap.size+2<=w4.heap.size:=by omega
 clear hwn' RB HR hss HP;have RB:=RBn;have HR:=Zaa hpp.1;replace HKP:Hd (Zag K w w4):=HKP.o.trans (hpp.2.less fun k hk=>Or.inl hk);clear hpp RBn;have xc:∀ o,(w4.alloc o).cell? ⟨w.heap.size,15,none⟩=some (.slice (b 5) U.be.length (m 5)):=fun o=>(HR.o.box.on (Zab _ o)).cell 15
 have gf:∀ o j,(w4.alloc o).frozen? ⟨w.heap.size,j,none⟩=false:=fun o j=>(HR.o.box.on (Zab _ o)).free j
 have hp:=HR.o.part5 (w':=w4.alloc (.cells #[] 171)) (L':=([]:List Rs)) (a':=some ⟨w4.heap.size,0,none⟩) (m':=0) (Zaj.below (Zab _ _)) (Or.inr ⟨w4.heap.size,Or.inr ⟨Nat.le_refl _,by simp⟩,w4.heap.size,0,rfl,(Zbb rsL 2 w4 #[] 171 0 rfl Zz_).own'⟩);have HP:=Zaa hp;clear hp
 go_upto_region 6 with fail
 clear xc gf;obtain⟨w5,hwn'⟩:∃ wx_,wx_=(w4.alloc (.cells #[] 171)).setCell ⟨w.heap.size,15,none⟩ (.slice (some ⟨w4.heap.size,0,none⟩) 0 0):=⟨_,rfl⟩
 have hpp:=HP.o;simp only [List.length_nil] at hpp;rw [<- hwn'] at hpp;rw [<- hwn'];have hss:w4.heap.size+1=w5.heap.size:=by rw [hwn'];simp [World.setCell]
 have RBn:Hd (Box w5 (w.heap.size+1) zR):=by unfold Hd;rw [hwn'];exact (RB.o.on (Zab _ _)).setFar (by simp only [];omega) _
 have hsw5:w.heap.size+2<=w5.heap.size:=by omega
 clear hwn' RB HR hss HP;have RB:=RBn;have HR:=Zaa hpp.1;replace HKP:Hd (Zag K w w5):=HKP.o.trans (hpp.2.less fun k hk=>Or.inl hk);clear hpp RBn;have xc:∀ o,(w5.alloc o).cell? ⟨w.heap.size,16,none⟩=some (.slice (b 6) U.ac.length (m 6)):=fun o=>(HR.o.box.on (Zab _ o)).cell 16
 have gf:∀ o j,(w5.alloc o).frozen? ⟨w.heap.size,j,none⟩=false:=fun o j=>(HR.o.box.on (Zab _ o)).free j
 have hp:=HR.o.part6 (w':=w5.alloc (.cells #[] 170)) (L':=([]:List Ra)) (a':=some ⟨w5.heap.size,0,none⟩) (m':=0) (Zaj.below (Zab _ _)) (⟨[],Or.inr ⟨w5.heap.size,fun _=>(0,0),Or.inr ⟨Nat.le_refl _,by simp⟩,⟨w5.heap.size,0,rfl,(Zbb axL 2 w5 #[] 170 0 rfl Zz_).own'⟩,⟨fun i hi=>by simp at hi,fun i hi=>by simp at hi,fun i j hi=>by simp at hi,fun i hi=>by simp at hi⟩⟩,rfl⟩);have HP:=Zaa hp;clear hp
 go_upto_region 7 with fail
 clear xc gf;obtain⟨w6,hwn'⟩:∃ wx_,wx_=(w5.alloc (.cells #[] 170)).setCell ⟨w.heap.size,16,none⟩ (.slice (some ⟨w5.heap.size,0,none⟩) 0 0):=⟨_,rfl⟩
 have hpp:=HP.o;simp only [List.length_nil] at hpp;rw [<- hwn'] at hpp;rw [<- hwn'];have hss:w5.heap.size+1=w6.heap.size:=by rw [hwn'];simp [World.setCell]
 have RBn:Hd (Box w6 (w.heap.size+1) zR):=by unfold Hd;rw [hwn'];exact (RB.o.on (Zab _ _)).setFar (by simp only [];omega) _
 have hsw6:w.heap.size+2<=w6.heap.size:=by omega
 clear hwn' RB HR hss HP;have RB:=RBn;have HR:=Zaa hpp.1;replace HKP:Hd (Zag K w w6):=HKP.o.trans (hpp.2.less fun k hk=>Or.inl hk);clear hpp RBn;obtain⟨b9,m9,S9,yl,HRx,HYL,HRA,HTH,HON,HSy,hy18⟩:=exA (U:=Za7 U) HR.o RB.o rfl;clear HR
 go_wp2_with (first
  | (with_reducible refine ldR (.tmp 1) w.heap.size 0 yl HRA.o HSy.o ?_)
  | (with_reducible refine stR (.tmp 2) (.tmp 12) (w.heap.size+1) 0 yl.toArray HTH.o (szN hy18) HON.o ?_;refine Hd.o ?_))
 generalize hW9:World.setCells _ _ _ _=W9;obtain⟨FR9,HKn,HRn⟩:=exB hW9 RB.o hy18 HRx.o (Or.inr (by omega)) HKP.o HKw.o (by omega);clear hW9;refine Zaa ?_;go_wp2;exact bodyPost_ret (v:=.agg yl.toArray) (Zks (p:=2) results61 FR9.o HSy.o rfl) rfl ⟨b9,m9,S9,by rw [HYL.o],HKn.o,by exact HRn.o⟩
section
variable {n:Nat}
theorem Zfi {X:Type}{f:X->List Value} (hf:∀ x,(f x).length=n) (L:List X) (i:Nat) (x:X) (hi:i < L.length) (j:Nat):(Zai f (L.set i x))[j]?=if i*n<=j/\j < i*n+n then (f x)[j - i*n]? else (Zai f L)[j]?:=by
 induction L generalizing i j with
 | nil=>simp at hi
 | cons y r ih=>
  cases i with
  | zero=>
   simp only [List.set_cons_zero,Zai,Nat.zero_mul,Nat.zero_add,Nat.zero_le,true_and,Nat.sub_zero]
   by_cases h:j < n
   . rw [if_pos h,List.getElem?_append_left (by rw [hf];exact h)]
   . rw [if_neg h,List.getElem?_append_right (by rw [hf];omega),List.getElem?_append_right (by rw [hf];omega),hf,hf]
  | succ i=>
   simp only [List.set_cons_succ,Zai];have e:(i+1)*n=i*n+n:=Nat.succ_mul i n
   by_cases h:j < n
   . rw [List.getElem?_append_left (by rw [hf];exact h),List.getElem?_append_left (by rw [hf];exact h),if_neg (by rw [e];omega)]
   . rw [List.getElem?_append_right (by rw [hf];omega),List.getElem?_append_right (by rw [hf];omega),hf,ih i (by simpa using hi)]
     have e2:(i*n<=j - n/\j - n < i*n+n)↔((i+1)*n<=j/\j < (i+1)*n+n):=by rw [e];omega
     by_cases h':i*n<=j - n/\j - n < i*n+n
     . rw [if_pos h',if_pos (e2.1 h')]
       congr 1
       rw [e];omega
     . rw [if_neg h',if_neg (fun h=>h' (e2.2 h))]
theorem FR.setAt {X:Type}{f:X->List Value} (hf:∀ x,(f x).length=n) {w:World} {lo hi g cap:Nat} {L:List X} (h:FR f n w lo hi g cap L) {i:Nat} (hi':i < L.length) (x:X):FR f n (w.setCells g (i*n) (f x)) lo hi g cap (L.set i x):=by
 have hcn:i*n+n<=cap*n:=by rw [<- Nat.succ_mul];exact Nat.mul_le_mul_right _ (Nat.le_trans hi' h.le)
 refine⟨h.bs,h.up,by rw [Za6];exact h.lt,by rw [List.length_set];exact h.le,h.mx,fun j hj=>World.isSome_setCells _ _ _ _ _ (h.th j hj),fun j=>by rw [World.frozen?_setCells];exact h.fz j,fun j u hu=>?_⟩;rw [Zfi hf L i x hi'] at hu
 by_cases hj:i*n<=j/\j < i*n+n
 . rw [if_pos hj] at hu
   have:=World.rangeAt_setCells_same w g (i*n) (f x) (fun t ht=>⟨h.th _ (by rw [hf] at ht;omega),h.fz _⟩) (j - i*n) u hu
   rwa [show i*n+(j - i*n)=0+j by omega] at this
 . rw [if_neg hj] at hu
   have hold:=h.rg j u hu
   have h1:w.rangeAt g (0+j) [u]:=fun t v hv=>by
    cases t with
    | zero=>simp at hv;rw [Nat.add_zero,<- hv];exact hold
    | succ t=>simp at hv
   have h2:=World.rangeAt_setCells_apart h1 g (i*n) (f x) (Or.inr (by rw [hf];simp only [List.length_cons,List.length_nil];omega)) 0 u rfl
   rwa [Nat.add_zero] at h2
theorem Rz.keep1 {K:Nat->Prop}{lo:Nat}{w w':World}{γ:Nat}{b:Nat->Option Addr}{m:Nat->Nat}{S:Nat->Nat->Prop}{U:Rr}{L':List Rs} (h:Rz K lo w γ b m S U) (ht:Zaj (S 1) w w') (hl:L'.length=U.dk.sl.length) (hr:NRS rsL 2 w' (S 1) (.slice (b 1) L'.length (m 1)) L') :
 Rz K lo w' γ b m S { U with dk:={ U.dk with sl:=L' } }/\Zag K w w':=by
 have hsz:=ht.size;have hk:Zag (fun k=>k < w.heap.size/\¬ S 1 k) w w':=Zag.touchS ht fun _ h=>h
 have kk:∀ i,i < 7->i≠1->∀ x,S i x->x < w.heap.size/\¬ S 1 x:=fun i hi hne x hx=>⟨(h.cp.seg i hi x hx).2,h.cp.ap i 1 hi (by decide) hne x hx⟩
 obtain⟨L2,h2,e2⟩:=h.cp.o2;obtain⟨L6,h6,e6⟩:=h.cp.o6;refine⟨⟨?_,⟨fun i hi k hS=>⟨(h.cp.seg i hi k hS).1,Zk_ (h.cp.seg i hi k hS).2 hsz⟩,h.cp.ap,h.cp.o0.kept hk (kk 0 (by decide) (by decide)),hr,⟨L2,h2.kept Zdn hk (kk 2 (by decide) (by decide)),e2⟩,h.cp.o3.kept hk (kk 3 (by decide) (by decide)),h.cp.o4.kept hk (kk 4 (by decide) (by decide)),h.cp.o5.kept hk (kk 5 (by decide) (by decide)),⟨L6,h6.kept Zdm hk (kk 6 (by decide) (by decide)),e6⟩⟩,Nat.le_trans h.low hsz,h.far,fun k hk'=>?_⟩,Zag.touchS ht fun k hk'=>⟨(h.prot k hk').1,(h.prot k hk').2.2 1 (by decide)⟩⟩
 . have hb:=h.box.kept hk ⟨h.box.lt,h.far 1 (by decide)⟩
   have e:rrF { U with dk:={ U.dk with sl:=L' } } b m=rrF U b m:=by simp [rrF,rrL,hl]
   rw [e];exact hb
 . have:=h.prot k hk'
   exact⟨by omega,this.2⟩
end
def zS:Rs:=⟨0,⟨#[]⟩⟩
def ZgQ (L:List Rs) (i:Nat) (s:Rs):List Rs:=(L ++ List.replicate (i - L.length) zS).set (i - 1) s
def ZdA (U:Rr) (i:Nat) (s:Rs):Rr:={ U with dk:={ U.dk with sl:=ZgQ U.dk.sl i s } }
def Zhj:Option Value->Nat
 | some (.slice _ n _)=>n
 | _=>0
def ZbL (U:Rr) (k:Nat):Rr:={ U with dk:={ U.dk with sl:=U.dk.sl ++ List.replicate k zS } }
theorem ZgR (K:Nat->Prop) (lo:Nat) (w:World) (U:Rr) (b:Nat->Option Addr) (m:Nat->Nat) (S:Nat->Nat->Prop) (ix:Nat) (x:Rs) (h:Cz K lo w b m S U) (h1:1<=ix) (h2:ix<=1000) (hl:U.dk.sl.length<=1000) :
 Calls prog 130 #[.agg (rrF U b m).toArray,.int .i64 (ix:Int),.agg #[.int .i64 x.ba,.string x.tx]] w fun e w'=>∃ b' m' S',e=.returned (.agg (rrF (ZdA U ix x) b' m').toArray)/\Zag K w w'/\Cz K lo w' b' m' S' (ZdA U ix x):=by
 have HC:=Zaa h;have HKw:Hd (∀ k,K k->k < w.heap.size):=fun k hk=>(h.prot k hk).1
 obtain⟨cs,hcs⟩:∃ cs,cs=rrF U b m:=⟨_,rfl⟩
 rw [<- hcs];have HCS:=Zaa hcs;clear hcs h;go_enter func130,ntmps130
 go_upto_region 1 with fail
 obtain⟨wz,hwz,FB,SB,RB,HB⟩:∃ wz,wz=((w.alloc (.cells cs.toArray 61)).alloc (.cells #[.int .i64 x.ba,.string x.tx] 171)).alloc (.cells zR 61)/\Hd (Box wz w.heap.size (rrF U b m).toArray)/\Hd (Box wz (w.heap.size+1) #[.int .i64 x.ba,.string x.tx])/\Hd (Box wz (w.heap.size+2) zR)/\Hd (Zw_ w wz):=⟨_,rfl,by unfold Hd;rw [<- HCS.o];exact (((Box.new w _ _ _ rfl).on (Zab _ _)).on (Zab _ _)),((Box.new _ _ _ _ (by simp)).on (Zab _ _)),Box.new _ _ _ _ (by simp),(bt (bt (Zab _ _) (Zab _ _)) (Zab _ _))⟩
 rw [<- hwz];clear hwz;have hwn:w.heap.size+3<=wz.heap.size:=by have:=RB.o.lt;omega
 have HR:Hd (Rz (fun k=>K k\/(w.heap.size+1<=k/\k < w.heap.size+3)) lo wz w.heap.size b m S U):=HC.o.rz HB.o FB.o Zl_ (fun k hk=>hk.imp (fun h=>h) (fun h=>⟨by omega,by omega,by omega⟩));have HKP:Hd (Zag K w wz):=Zag.below HB.o HKw.o;clear FB HB
 go_loopw [] (fun wr=>∃ (k:Nat) (b':Nat->Option Addr) (m':Nat->Nat) (S':Nat->Nat->Prop),U.dk.sl.length+k<=max U.dk.sl.length ix/\Rz (fun k=>K k\/(w.heap.size+1<=k/\k < w.heap.size+3)) lo wr w.heap.size b' m' S' (ZbL U k)/\Zag K w wr/\w.heap.size+3<=wr.heap.size/\Box wr (w.heap.size+1) #[.int .i64 x.ba,.string x.tx]/\Box wr (w.heap.size+2) zR) (fun wr=>2000 - Zhj (wr.cell? ⟨w.heap.size,8,none⟩))
 case atStart=>exact⟨0,b,m,S,by omega,by have:=HR.o;simpa [ZbL] using this,HKP.o,hwn,SB.o,RB.o⟩
 case round=>
  obtain⟨k,b5,m5,S5,hk,hr,hkp,hsz,hsb,hrb⟩:=hrel;clear HR HKP SB RB;have HR:=Zaa hr;have HKP:=Zaa hkp;have SB:=Zaa hsb;have RB:=Zaa hrb;clear hr hkp hsb hrb;have hpl:(ZbL U k).dk.sl.length=U.dk.sl.length+k:=by simp [ZbL]
  have x8:wr.cell? ⟨w.heap.size,8,none⟩=some (.slice (b5 1) (U.dk.sl.length+k) (m5 1)):=by rw [HR.o.box.cell 8,<- hpl];rfl
  by_cases hlt:U.dk.sl.length+k < ix
  . have d1:decide (((U.dk.sl.length+k:Nat):Int) < (ix:Int))=true:=by simp;omega
    have d1b:decide ((U.dk.sl.length:Int)+(k:Int) < (ix:Int))=true:=by simp;omega
    have HLA:Hd (Zhj (wr.cell? ⟨w.heap.size,8,none⟩)=U.dk.sl.length+k):=by unfold Hd;rw [x8];rfl
    go_wp2_with (at_builtin;refine Hd.o ?_);clear x8 d1 d1b;obtain⟨w2,hw2,SQ,HB2⟩:∃ w2,w2=wr.alloc (.cells #[.int .i64 0,.string ⟨#[]⟩] 171)/\Hd (Box w2 wr.heap.size #[.int .i64 0,.string ⟨#[]⟩])/\Hd (Below wr.heap.size wr w2):=⟨_,rfl,Box.new _ _ _ _ rfl,Zab _ _⟩
    rw [<- hw2];clear hw2;have hs2:=HB2.o.size;replace HR:=Zaa (HR.o.on HB2.o);replace RB:=Zaa (RB.o.on HB2.o);replace SB:=Zaa (SB.o.on HB2.o);replace HKP:Hd (Zag K w w2):=HKP.o.trans (Zag.below HB2.o (fun k hk=>by have:=HKw.o k hk;omega));clear HB2;have ho1:NRS rsL 2 w2 (S5 1) (.slice (b5 1) (U.dk.sl.length+k) (m5 1)) (ZbL U k).dk.sl:=by have:=HR.o.cp.o1;rwa [hpl] at this
    obtain⟨v',w3,hrun,ht,hrow⟩:=ZaK ZaC (by decide) underlying56 Zed rfl (M:=[zS]) 56 ho1 (some ⟨wr.heap.size,0,none⟩) 1 1 rfl (fun e=>by cases e) (fun ad e j u hu=>by
     injection e with e
     subst e;rw [Addr.add_lit,Nat.zero_add,SQ.o.cell j]
     simpa [Zai,rsL,zS] using hu) (Zdz _) (by rw [hpl];simp;omega) (by decide)
    have hpad:(ZbL U k).dk.sl ++ [zS]=(ZbL U (k+1)).dk.sl:=by simp [ZbL,List.replicate_succ']
    rw [hpad] at hrow;obtain⟨a',m',hv'⟩:=hrow.form;have hpl2:(ZbL U (k+1)).dk.sl.length=U.dk.sl.length+k+1:=by simp [ZbL];omega
    rw [hpl2] at hv';subst hv';have HP:=Zaa (HR.o.part1 (L':=(ZbL U (k+1)).dk.sl) (a':=a') (m':=m') ht (by rw [hpl2];exact hrow));have hkp:Zag (fun k=>k < w2.heap.size/\¬ S5 1 k) w2 w3:=Zag.touchS ht fun _ h=>h
    have BG:=Zaa (HR.o.box.kept hkp ⟨HR.o.box.lt,HR.o.far 1 (by decide)⟩);have RB3:=Zaa (RB.o.kept hkp ⟨RB.o.lt,(HR.o.prot _ (Or.inr (by omega))).2.2 1 (by decide)⟩);have SB3:=Zaa (SB.o.kept hkp ⟨SB.o.lt,(HR.o.prot _ (Or.inr (by omega))).2.2 1 (by decide)⟩);have x8:w3.cell? ⟨w.heap.size,8,none⟩=some (.slice (b5 1) (U.dk.sl.length+k) (m5 1)):=by rw [BG.o.cell 8,<- hpl];rfl
    have gf:=BG.o.free;have hs3:=ht.size;clear ho1 hrow ht hkp hpad SQ;refine Zaa ?_;refine wpList_append_run rfl (.tmp 15) (.tmp 17) _ rfl rfl rfl hrun ?_;clear hrun;go_wp2;have hpp:=HP.o;rw [hpl2] at hpp;obtain⟨w4,hw4⟩:∃ w4,w4=w3.setCell ⟨w.heap.size,8,none⟩ (.slice a' (U.dk.sl.length+k+1) m'):=⟨_,rfl⟩
    rw [<- hw4] at hpp |-;have RB4:Hd (Box w4 (w.heap.size+2) zR):=by unfold Hd;rw [hw4];exact RB3.o.setFar (by simp only [];omega) _
    have SB4:Hd (Box w4 (w.heap.size+1) #[.int .i64 x.ba,.string x.tx]):=by unfold Hd;rw [hw4];exact SB3.o.setFar (by simp only [];omega) _
    have hs4:w3.heap.size=w4.heap.size:=by rw [hw4];simp [World.setCell]
    have h8:w4.cell? ⟨w.heap.size,8,none⟩=some (.slice a' (U.dk.sl.length+k+1) m'):=by rw [hw4];exact World.cell?_setCell_same' _ _ _ (by rw [x8];rfl)
    clear x8 gf;refine⟨⟨k+1,_,_,_,by omega,hpp.1,HKP.o.trans (hpp.2.less fun k hk=>Or.inl hk),by omega,SB4.o,RB4.o⟩,?_⟩;rw [h8,HLA.o]
    show 2000 - (U.dk.sl.length+k+1) < _
    omega
  . have d1:decide (((U.dk.sl.length+k:Nat):Int) < (ix:Int))=false:=by simp;omega
    have d1b:decide ((U.dk.sl.length:Int)+(k:Int) < (ix:Int))=false:=by simp;omega
    have hkk:k=ix - U.dk.sl.length:=by omega
    subst hkk;have HE:Hd (ZdA U ix x={ ZbL U (ix - U.dk.sl.length) with dk:={ (ZbL U (ix - U.dk.sl.length)).dk with sl:=(ZbL U (ix - U.dk.sl.length)).dk.sl.set (ix - 1) x } }):=rfl
    go_upto_region 3 with fail
    clear d1 d1b;obtain⟨n9,hn9⟩:∃ n,n=U.dk.sl.length+(ix - U.dk.sl.length):=⟨_,rfl⟩
    rw [<- hn9] at x8 hpl;have hix:ix - 1 < n9:=by omega
    have ho1:=HR.o.cp.o1
    rcases ho1 with ⟨-,hnil⟩ | ⟨g,hSg,g',cap,hv,hfr⟩
    . rw [hnil] at hpl;simp at hpl;omega
    obtain rfl:g'=g:=by have:=hfr.bs;have:=hfr.up;omega
    rw [hpl] at hv;have hfr0:=hfr;injection hv with hv1 hv2 hv3
    have HV1:=Zaa hv1;have HV3:=Zaa hv3;have HFR:=Zaa hfr;rw [hv1] at x8;have hgw:g' < wr.heap.size:=hfr.lt
    have hcl:n9<=cap:=by rw [<- hpl];exact hfr.le
    obtain⟨o0,ho0⟩:=Option.isSome_iff_exists.1 (hfr.th ((ix - 1)*2) (by omega));obtain⟨o1,ho1⟩:=Option.isSome_iff_exists.1 (hfr.th ((ix - 1)*2+1) (by omega));have fz:=hfr.fz;have s0:wr.cell? ⟨w.heap.size+1,0,none⟩=some (.int .i64 x.ba):=SB.o.cell 0;have s1:wr.cell? ⟨w.heap.size+1,1,none⟩=some (.string x.tx):=SB.o.cell 1;obtain⟨q,hq⟩:∃ q:Nat,q=ix - 1:=⟨_,rfl⟩
    rw [<- hq] at ho0 ho1 hix;have hsub:(ix:Int) - 1=(q:Int):=by omega
    have i0:(0:Int)<=(q:Int):=by omega
    have i1:(q:Int) < (n9:Int):=by omega
    have w64:IntKind.wrap .i64 ((ix:Int) - 1)=(q:Int):=by rw [IntKind.wrap_i64];omega
    have HQ:=Zaa hq;have HN9:=Zaa hn9;have HPL:=Zaa hpl;clear hfr hfr0 hv1 hv3 hv2 hq hn9 hpl hk;have hlp:q < (ZbL U (ix - U.dk.sl.length)).dk.sl.length:=by rw [HPL.o];exact hix
    go_upto_region 4 with fail
    clear x8 ho0 ho1 fz s0 s1 w64 hsub;obtain⟨w4,hw4⟩:∃ w4,w4=(wr.setCell ⟨g',q*2,none⟩ (.int .i64 x.ba)).setCell ⟨g',q*2+1,none⟩ (.string x.tx):=⟨_,rfl⟩
    rw [<- hw4];have hw5:w4=wr.setCells g' (q*2) (rsL x):=hw4;have ht:Zad g' (g'+1) wr w4:=by rw [hw5];exact Zad.sets ⟨Nat.le_refl _,Nat.lt_succ_self _⟩ _ _ _
    have hts:Zaj (S5 1) wr w4:=ht.toS (ZcX hSg);have hL:((ZbL U (ix - U.dk.sl.length)).dk.sl.set q x).length=(ZbL U (ix - U.dk.sl.length)).dk.sl.length:=List.length_set;have hp:=HR.o.keep1 (L':=(ZbL U (ix - U.dk.sl.length)).dk.sl.set q x) hts hL (Or.inr ⟨g',hSg,g',cap,by rw [HV1.o,HV3.o],by rw [hw5];exact HFR.o.setAt ZaC hlp x⟩);have hkp:Zag (fun k=>k < wr.heap.size/\¬ S5 1 k) wr w4:=Zag.touchS hts fun _ h=>h
    replace RB:=Zaa (RB.o.kept hkp ⟨RB.o.lt,(HR.o.prot _ (Or.inr (by omega))).2.2 1 (by decide)⟩);clear HR;have HR:=Zaa hp.1;replace HKP:Hd (Zag K w w4):=HKP.o.trans (hp.2.less fun k hk=>Or.inl hk);have hs4:=hts.size;have hs5:w.heap.size+3<=w4.heap.size:=by omega
    rw [HQ.o] at HR;clear hp hkp hts ht hw4 hw5 HQ HPL HN9 HFR;obtain⟨b9,m9,S9,yl,HRx,HYL,HRA,HTH,HON,HSy,hy18⟩:=exA (U:={ ZbL U (ix - U.dk.sl.length) with dk:={ (ZbL U (ix - U.dk.sl.length)).dk with sl:=(ZbL U (ix - U.dk.sl.length)).dk.sl.set (ix - 1) x } }) HR.o RB.o rfl;clear HR
    go_wp2_with (first
     | (with_reducible refine ldR (.tmp 3) w.heap.size 0 yl HRA.o HSy.o ?_)
     | (with_reducible refine stR (.tmp 6) (.tmp 28) (w.heap.size+2) 0 yl.toArray HTH.o (szN hy18) HON.o ?_;refine Hd.o ?_))
    generalize hW9:World.setCells _ _ _ _=W9;obtain⟨FR9,HKn,HRn⟩:=exB hW9 RB.o hy18 HRx.o (Or.inr (by omega)) HKP.o HKw.o (by omega);clear hW9;refine Zaa ?_;go_wp2;exact bodyPost_ret (v:=.agg yl.toArray) (Zks (p:=6) results130 FR9.o HSy.o rfl) rfl ⟨b9,m9,S9,by rw [HYL.o,HE.o],HKn.o,by rw [HE.o];exact HRn.o⟩
end Go.Proofs.YtdeammfdkaomlaaGreat
