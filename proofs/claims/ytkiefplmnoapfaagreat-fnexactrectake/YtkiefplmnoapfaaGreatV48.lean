import Derived.Test.YtkiefplmnoapfaaGreatV39
import Derived.Test.YtkiefplmnoapfaaGreatV45
import Derived.Test.YtkiefplmnoapfaaGreatV46
import Derived.Test.YtkiefplmnoapfaaGreatV47
import Derived.ProofKit
import Derived.Deep.Strs
import Derived.Deep.RegionHeld
import Derived.ChangeSlices
set_option maxHeartbeats 16000000
set_option maxRecDepth 100000
open Go.Proofs.Tryz
namespace Go.Proofs.YtkiefplmnoapfaaGreat
section
open Go.RowKit Go.Deep
theorem Zbz (f:Nat) (KP:Nat->Prop) (lo:Nat) (w:World) (γ:Nat) (U V:Rr) (M:Rm) (a0:Option Addr) (k0:Nat) (h:Wz KP lo w γ U) (hi:∀ (ρ:Nat) (W:World),Sem.run prog (Instr.index 121 (.agg #[.nilFunc,.func (.func 116) #[.agg #[.pointer (some ⟨γ,0,none⟩),.func (.func 115) #[] #[.pointer (some ⟨ρ,0,none⟩)]]] #[],.func (.func 117) #[.agg #[.pointer (some ⟨γ,0,none⟩),.func (.func 115) #[] #[.pointer (some ⟨ρ,0,none⟩)]]] #[],.func (.func 118) #[.agg #[.pointer (some ⟨γ,0,none⟩),.func (.func 115) #[] #[.pointer (some ⟨ρ,0,none⟩)]]] #[],.func (.func 119) #[.agg #[.pointer (some ⟨γ,0,none⟩),.func (.func 115) #[] #[.pointer (some ⟨ρ,0,none⟩)]]] #[],.func (.func 120) #[.agg #[.pointer (some ⟨γ,0,none⟩),.func (.func 115) #[] #[.pointer (some ⟨ρ,0,none⟩)]]] #[],.func (.func 121) #[.agg #[.pointer (some ⟨γ,0,none⟩),.func (.func 115) #[] #[.pointer (some ⟨ρ,0,none⟩)]]] #[],.func (.func 122) #[.agg #[.pointer (some ⟨γ,0,none⟩),.func (.func 115) #[] #[.pointer (some ⟨ρ,0,none⟩)]]] #[],.func (.func 123) #[.agg #[.pointer (some ⟨γ,0,none⟩),.func (.func 115) #[] #[.pointer (some ⟨ρ,0,none⟩)]]] #[],.func (.func 124) #[.agg #[.pointer (some ⟨γ,0,none⟩),.func (.func 115) #[] #[.pointer (some ⟨ρ,0,none⟩)]]] #[]]) (.int .i64 M.kd)) W=.ok (.func (.func f) #[.agg #[.pointer (some ⟨γ,0,none⟩),.func (.func 115) #[] #[.pointer (some ⟨ρ,0,none⟩)]]] #[]) W) (ep:∀ args W,(callFunc f args).run prog W=.ok (.enter f args) W) (hC:∀ (W:World) (ρ:Nat),Zag KP w W->Wk (fun k=>KP k\/k=ρ) lo W γ ρ U->Calls prog f #[.agg (wkC γ ρ),.agg (rmL M a0 k0).toArray] W fun e w'=>e=.returned (.tuple #[])/\Zag (fun k=>KP k\/k=ρ) W w'/\Wk (fun k=>KP k\/k=ρ) lo w' γ ρ V) :
 Calls prog 41 #[.pointer (some ⟨γ,0,none⟩),.agg (rmL M a0 k0).toArray] w fun e w'=>e=.returned (.tuple #[])/\Zag KP w w'/\Wz KP lo w' γ V:=by
 have HW:=Zaa h;have HKw:=Zaa h.kw;have HC:=Zaa hC;have HI:=Zaa hi;have EP:=Zaa ep
 show Calls prog 41 #[.pointer (some ⟨γ,0,none⟩),.agg #[.int .i64 M.kd,.int .i64 M.fr,.int .i64 M.tt,.int .i64 M.ba,.int .i64 M.ix,.int .i64 M.kn,.string M.tx,.slice a0 M.sl.length k0]] w _
 clear h hi hC ep;go_enter func41,ntmps41
 go_upto_region 1 with fail
 obtain⟨W0,hW0,MB,HB⟩:∃ W0,W0=w.alloc (.cells #[.int .i64 M.kd,.int .i64 M.fr,.int .i64 M.tt,.int .i64 M.ba,.int .i64 M.ix,.int .i64 M.kn,.string M.tx,.slice a0 M.sl.length k0] 45)/\Hd (Box W0 w.heap.size #[.int .i64 M.kd,.int .i64 M.fr,.int .i64 M.tt,.int .i64 M.ba,.int .i64 M.ix,.int .i64 M.kn,.string M.tx,.slice a0 M.sl.length k0])/\Hd (Zw_ w W0):=⟨_,rfl,Box.new _ _ _ _ rfl,Zab _ _⟩
 rw [<- hW0];clear hW0;have hsW:=MB.o.lt;have y0:W0.cell? ⟨w.heap.size,0,none⟩=some (.int .i64 M.kd):=MB.o.cell 0;have y1:W0.cell? ⟨w.heap.size,1,none⟩=some (.int .i64 M.fr):=MB.o.cell 1;have y2:W0.cell? ⟨w.heap.size,2,none⟩=some (.int .i64 M.tt):=MB.o.cell 2;have y3:W0.cell? ⟨w.heap.size,3,none⟩=some (.int .i64 M.ba):=MB.o.cell 3;have y4:W0.cell? ⟨w.heap.size,4,none⟩=some (.int .i64 M.ix):=MB.o.cell 4;have y5:W0.cell? ⟨w.heap.size,5,none⟩=some (.int .i64 M.kn):=MB.o.cell 5;have y6:W0.cell? ⟨w.heap.size,6,none⟩=some (.string M.tx):=MB.o.cell 6;have y7:W0.cell? ⟨w.heap.size,7,none⟩=some (.slice a0 M.sl.length k0):=MB.o.cell 7;refine Code.wp_mono NoPanic.imp ?_
 refine Zao (S:=fun W=>W.cell? ⟨w.heap.size,0,none⟩=some (.int .i64 M.kd)/\W.cell? ⟨w.heap.size,1,none⟩=some (.int .i64 M.fr)/\W.cell? ⟨w.heap.size,2,none⟩=some (.int .i64 M.tt)/\W.cell? ⟨w.heap.size,3,none⟩=some (.int .i64 M.ba)/\W.cell? ⟨w.heap.size,4,none⟩=some (.int .i64 M.ix)/\W.cell? ⟨w.heap.size,5,none⟩=some (.int .i64 M.kn)/\W.cell? ⟨w.heap.size,6,none⟩=some (.string M.tx)/\W.cell? ⟨w.heap.size,7,none⟩=some (.slice a0 M.sl.length k0)) [7] (by kernel_rfl) ⟨y0,y1,y2,y3,y4,y5,y6,y7⟩ (fun hHeld=>?_);refine tB 0 (.pointer (some ⟨γ,0,none⟩)) [1,2,5,7] rfl hHeld ?_
 try simp only [Act.put,sLs]
 refine tB 3 (.pointer (some ⟨w.heap.size,0,none⟩)) [4,5,7] rfl hHeld ?_
 try simp only [Act.put,sLs]
 refine tB 4 (.int .i64 M.kd) [5,7] rfl hHeld ?_
 try simp only [Act.put,sLs]
 refine tB 6 (.agg #[.int .i64 M.kd,.int .i64 M.fr,.int .i64 M.tt,.int .i64 M.ba,.int .i64 M.ix,.int .i64 M.kn,.string M.tx,.slice a0 M.sl.length k0]) [7] rfl hHeld ?_
 try simp only [Act.put,sLs]
 refine oB 1 rfl (fun K hK=>?_)
 go_simp
 refine (Zhz γ _).mono ?_;rintro e w1 ⟨rfl,hb0,hbx⟩;have hb:Below W0.heap.size W0 w1:=(Zb_.drew).trans hb0;have RB:Hd (Box w1 W0.heap.size #[.pointer (some ⟨γ,0,none⟩)]):=hbx;clear hb0 hbx;replace HB:=Zaa (bt HB.o hb);replace MB:=Zaa (MB.o.on hb);have hs0:=MB.o.lt;have hs1:=RB.o.lt;clear hb hHeld y0 y1 y2 y3 y4 y5 y6 y7;refine hK.out _ _ (fun _=>⟨MB.o.cell 0,MB.o.cell 1,MB.o.cell 2,MB.o.cell 3,MB.o.cell 4,MB.o.cell 5,MB.o.cell 6,MB.o.cell 7⟩) (fun hHx=>?_);have hHeld:=hHx (by decide);clear hK hHx K
 try simp only [Act.put,sLs]
 refine oB 2 rfl (fun K hK=>?_)
 go_simp
 refine (Zh0 γ W0.heap.size _).mono ?_;rintro e w2 ⟨rfl,hb⟩;replace HB:=Zaa (bt HB.o hb);replace MB:=Zaa (MB.o.on hb);replace RB:=Zaa (RB.o.on hb);have hs2:=hb.size;clear hb hHeld;refine hK.out _ _ (fun _=>⟨MB.o.cell 0,MB.o.cell 1,MB.o.cell 2,MB.o.cell 3,MB.o.cell 4,MB.o.cell 5,MB.o.cell 6,MB.o.cell 7⟩) (fun hHx=>?_);have hHeld:=hHx (by decide);clear hK hHx K
 try simp only [Act.put,sLs]
 refine Zbh [7] (i:=5) (v:=.func (.func f) #[.agg #[.pointer (some ⟨γ,0,none⟩),.func (.func 115) #[] #[.pointer (some ⟨W0.heap.size,0,none⟩)]]] #[]) rfl (by kernel_rfl) (by kernel_rfl) (by kernel_rfl) (by kernel_rfl) (fun _ _ _ h=>h) (Or.inl ⟨by rfl,fun W hW=>by obtain⟨h0_,h1_,h2_,h3_,h4_,h5_,h6_,h7_⟩:=hW;go_simp;rw [HI.o];rfl⟩) hHeld ?_
 try simp only [Act.put,sLs]
 refine oB 7 rfl (fun K hK=>?_)
 go_simp
 rw [EP.o]
 go_simp
 have hk0:Zag KP w w2:=Zag.below HB.o HKw.o;refine (HC.o w2 W0.heap.size hk0 ⟨HW.o.shield HB.o (fun k hk=>by rcases hk with hk | hk;exact Or.inl hk;exact Or.inr (by omega)),Or.inr rfl,RB.o⟩).mono ?_;rintro e WX ⟨rfl,hk,hz⟩;clear hHeld;refine hK.out _ _ (fun h=>absurd (by decide) h) (fun _=>?_);clear hK
 try simp only [Act.put,sLs]
 refine Zak (by kernel_rfl) ?_ _;refine NoPanic.normal ?_;have HF:Hd (Zag KP w WX/\Wz KP lo WX γ V):=⟨hk0.trans (hk.less fun _ h=>Or.inl h),hz.wz.less (fun _ h=>Or.inl h)⟩;clear hk hz hk0;go_wp2
 go_end0
 exact⟨rfl,HF.o⟩
end
section
open Go.RowKit Go.Deep
theorem Rz.free5 {K:Nat->Prop}{lo:Nat}{w:World}{γ:Nat}{b:Nat->Option Addr}{m:Nat->Nat}{S:Nat->Nat->Prop}{U:Rr} (h:Rz K lo w γ b m S U) (h0:U.be=[]) (h1:b 5=none) (h2:m 5=0) {S5:Nat->Prop} (h5:∀ k,S5 k->S 5 k):Rz (fun k=>K k\/S5 k) lo w γ b m (upd S 5 (fun _=>False)) U:=by
 have hs:∀ i k,upd S 5 (fun _=>False) i k->S i k/\i≠5:=fun i k hk=>by
  by_cases e:i=5
  . subst e;rw [ZaA] at hk;exact hk.elim
  . rw [Zbc _ _ e] at hk;exact⟨hk,e⟩
 refine⟨h.box,⟨fun i hi k hS=>h.cp.seg i hi k (hs i k hS).1,fun i j hi hj hne k hS hS'=>h.cp.ap i j hi hj hne k (hs i k hS).1 (hs j k hS').1,h.cp.o0,h.cp.o1,h.cp.o2,h.cp.o3,h.cp.o4,Or.inl ⟨by rw [h1,h2,h0];rfl,h0⟩,h.cp.o6⟩,h.low,fun i hi hS=>h.far i hi (hs i γ hS).1,fun k hk=>?_⟩
 rcases hk with hk | hk
 . exact⟨(h.prot k hk).1,(h.prot k hk).2.1,fun i hi hS=>(h.prot k hk).2.2 i hi (hs i k hS).1⟩
 . have h5k:=h5 k hk
   exact⟨(h.cp.seg 5 (by decide) k h5k).2,fun e=>h.far 5 (by decide) (e ▸ h5k),fun i hi hS=>h.cp.ap i 5 hi (by decide) (hs i k hS).2 k (hs i k hS).1 h5k⟩
theorem Zh2 (KP:Nat->Prop) (lo:Nat) (w:World) (γ ρ:Nat) (U:Rr) (k0:Nat) (h:Wk KP lo w γ ρ U) (hk0:U.dk.kn=(k0:Int)) (hk1:k0<=1000) (hl:U.dk.sl.length<=1000) (hbl:U.be.length<=1000) :
 Calls prog 155 #[.agg (wkC γ ρ)] w fun e w'=>e=.returned (.tuple #[])/\Zag KP w w'/\Wk KP lo w' γ ρ (Ze3 (ZeI U) U.be):=by
 have HW:=Zaa h;clear h
 show Calls prog 155 #[.agg #[.pointer (some ⟨γ,0,none⟩),.func (.func 115) #[] #[.pointer (some ⟨ρ,0,none⟩)]]] w _
 go_enter func155,ntmps155
 go_upto_region 1 with fail
 obtain⟨W0,hW0,HA⟩:∃ W0,W0=(w.alloc (.cells #[.pointer (some ⟨γ,0,none⟩),.func (.func 115) #[] #[.pointer (some ⟨ρ,0,none⟩)]] 123))/\Hd (At KP lo w W0 γ ρ 1 U):=
  ⟨_,rfl,HW.o.enter (Zab _ _) (Box.new w _ _ _ rfl) (by simp) (by omega)⟩
 rw [<- hW0];have HB0:Hd (Zw_ w W0):=by unfold Hd;rw [hW0];exact Zab w _
 have hsW:W0.heap.size=w.heap.size+1:=by rw [hW0];simp
 clear hW0;obtain⟨b,m,S,hR⟩:=HA.o.wz;have HR:=Zaa hR;clear hR;have x_0:W0.cell? ⟨w.heap.size,0,none⟩=some (.pointer (some ⟨γ,0,none⟩)):=HA.o.c0;have x15:W0.cell? ⟨γ,15,none⟩=some (.slice (b 5) U.be.length (m 5)):=HR.o.box.cell 15
 go_upto_region 2 with fail
 clear x_0 x15;obtain⟨S5,hS5⟩:∃ S5,S5=S 5:=⟨_,rfl⟩
 have HBW:Hd (NRS rsL 2 W0 S5 (.slice (b 5) U.be.length (m 5)) U.be):=by unfold Hd;rw [hS5];exact HR.o.cp.o5
 have HSL:Hd (∀ k,S5 k->k < w.heap.size/\k≠γ):=fun k hk=>by
  rw [hS5] at hk;have h1:=(HR.o.cp.seg 5 (by decide) k hk).2;have h2:k≠w.heap.size:=fun e=>(HR.o.prot w.heap.size (Or.inr ⟨Nat.le_refl _,by omega⟩)).2.2 5 (by decide) (e ▸ hk)
  exact⟨by omega,fun e=>HR.o.far 5 (by decide) (e ▸ hk)⟩
 have HS5:=Zaa hS5;clear hS5;have x_0:W0.cell? ⟨w.heap.size,0,none⟩=some (.pointer (some ⟨γ,0,none⟩)):=HA.o.c0;have x11:W0.cell? ⟨γ,11,none⟩=some (.bool U.ld):=HR.o.box.cell 11;have x12:W0.cell? ⟨γ,12,none⟩=some (.bool U.ty):=HR.o.box.cell 12;have gf:=HR.o.box.free
 go_region
 clear x_0 x11 x12 gf;obtain⟨W1,hWn⟩:∃ wx_,wx_=((W0.setCell ⟨γ,11,none⟩ (.bool true)).setCell ⟨γ,12,none⟩ (.bool false)).drew:=⟨_,rfl⟩
 rw [<- hWn];have hp0:=HR.o.scal (U':={ U with ld:=true }) (j:=11) (v:=.bool true) (by show 11 < 18;omega) rfl (fun _ h=>⟨h.seg,h.ap,h.o0,h.o1,h.o2,h.o3,h.o4,h.o5,h.o6⟩);have ha0:=HA.o.step hp0.2 ⟨_,_,_,hp0.1⟩;have hp1:=hp0.1.scal (U':={ U with ld:=true,ty:=false }) (j:=12) (v:=.bool false) (by show 12 < 18;omega) rfl (fun _ h=>⟨h.seg,h.ap,h.o0,h.o1,h.o2,h.o3,h.o4,h.o5,h.o6⟩);have ha1:=ha0.step hp1.2 ⟨_,_,_,hp1.1⟩;have ha9:=ha1.on Zb_.drew;have HAn:Hd (At KP lo w W1 γ ρ 1 ({ U with ld:=true,ty:=false })):=by unfold Hd;rw [hWn];exact ha9
 have HKn:Hd (Zag (KN KP w 1) W0 W1):=by unfold Hd;rw [hWn];exact ((hp0.2.trans hp1.2).trans (Zag.below Zb_.drew (ha1.wz.kw)))
 have HTn:Hd (Zad γ (γ+1) W0 W1):=by unfold Hd;rw [hWn];exact (ZeP ((Zcv γ 11 _ _).trans (Zcv γ 12 _ _)))
 have HRn:Hd (Rz (KN KP w 1) lo W1 γ b m S ({ U with ld:=true,ty:=false })):=by unfold Hd;rw [hWn];exact hp1.1.on Zb_.drew
 clear hWn HA HR hp0 ha0 hp1 ha1 ha9;have HA:=HAn;clear HAn;have HR:=HRn;clear HRn;have HT1:=HTn;clear HTn
 go_upto_region 3 with fail
 have x_0:W1.cell? ⟨w.heap.size,0,none⟩=some (.pointer (some ⟨γ,0,none⟩)):=HA.o.c0;have x14:W1.cell? ⟨γ,14,none⟩=some (.slice (b 4) U.ye.length (m 4)):=HR.o.box.cell 14;have x15:W1.cell? ⟨γ,15,none⟩=some (.slice (b 5) U.be.length (m 5)):=HR.o.box.cell 15;have x16:W1.cell? ⟨γ,16,none⟩=some (.slice (b 6) U.ac.length (m 6)):=HR.o.box.cell 16;have gf:=HR.o.box.free
 go_region
 clear x_0 x14 x15 x16 gf;obtain⟨W2,hWn⟩:∃ wx_,wx_=(((W1.setCell ⟨γ,14,none⟩ (.slice none 0 0)).setCell ⟨γ,15,none⟩ (.slice none 0 0)).setCell ⟨γ,16,none⟩ (.slice none 0 0)).drew:=⟨_,rfl⟩
 rw [<- hWn];have hp0:=HR.o.part4 (L':=[]) (a':=none) (m':=0) (Zal.refl _ _) (Or.inl ⟨rfl,rfl⟩);have ha0:=HA.o.step hp0.2 ⟨_,_,_,hp0.1⟩;have hp1:=hp0.1.part5 (L':=[]) (a':=none) (m':=0) (Zal.refl _ _) (Or.inl ⟨rfl,rfl⟩);have ha1:=ha0.step hp1.2 ⟨_,_,_,hp1.1⟩;have hp2:=hp1.1.part6 (L':=[]) (a':=none) (m':=0) (Zal.refl _ _) (⟨[],Or.inl ⟨rfl,rfl⟩,rfl⟩);have ha2:=ha1.step hp2.2 ⟨_,_,_,hp2.1⟩;have ha9:=ha2.on Zb_.drew;have HAn:Hd (At KP lo w W2 γ ρ 1 (ZeI U)):=by unfold Hd;rw [hWn];exact ha9
 have HKn:Hd (Zag (KN KP w 1) W1 W2):=by unfold Hd;rw [hWn];exact (((hp0.2.trans hp1.2).trans hp2.2).trans (Zag.below Zb_.drew (ha2.wz.kw)))
 have HTn:Hd (Zad γ (γ+1) W1 W2):=by unfold Hd;rw [hWn];exact (ZeP (((Zcv γ 14 _ _).trans (Zcv γ 15 _ _)).trans (Zcv γ 16 _ _)))
 have hr9:Rz (KN KP w 1) lo ((((W1.setCell ⟨γ,14,none⟩ (.slice none 0 0)).setCell ⟨γ,15,none⟩ (.slice none 0 0)).setCell ⟨γ,16,none⟩ (.slice none 0 0)).drew) γ _ _ _ (ZeI U):=hp2.1.on Zb_.drew;rw [<- hWn] at hr9;have HRn:=Zaa hr9;clear hr9;clear hWn HA HR hp0 ha0 hp1 ha1 hp2 ha2 ha9;have HA:=HAn;clear HAn;have HR:=HRn;clear HRn;have HT2:Hd (Zad γ (γ+1) W0 W2):=HT1.o.trans HTn.o;obtain⟨K5,hK5⟩:∃ K5:Nat->Prop,K5=fun k=>KP k\/S5 k:=⟨_,rfl⟩
 have HK5:Hd (∀ k,K5 k↔(KP k\/S5 k)):=fun k=>by rw [hK5]
 clear hK5
 have HA5:Hd (At K5 lo w W2 γ ρ 1 (ZeI U)):=by
  have hf:=HR.o.free5 (S5:=S5) rfl rfl rfl (fun k hk=>by
   rw [HS5.o] at hk;rw [Zbc _ _ (by decide),ZaA,Zbc _ _ (by decide)];exact Or.inl hk)
  refine⟨⟨HA.o.kp.os,HA.o.kp.tape,HA.o.kp.output,HA.o.kp.size,fun k hk=>?_⟩,⟨_,_,_,hf.shield Zb_ (fun k hk=>Or.inl ?_)⟩,(HK5.o ρ).2 (Or.inl HA.o.kr),HA.o.rb,HA.o.bx,fun k hk=>?_,HA.o.ps⟩
  . rcases (HK5.o k).1 hk with h | h
    . exact HA.o.kp.block k h
    . exact (HT2.o.block k (by have:=(HSL.o k h).1;omega) (by have:=(HSL.o k h).2;omega)).trans (HB0.o.block k (HSL.o k h).1)
  . rcases hk with hk | hk
    . rcases (HK5.o k).1 hk with h | h
      . exact Or.inl (Or.inl h)
      . exact Or.inr h
    . exact Or.inl (Or.inr hk)
  . rcases (HK5.o k).1 hk with h | h
    . exact HA.o.kw k h
    . exact (HSL.o k h).1
 clear HA HTn HT1;have HA:=HA5;clear HA5;have x7:W2.cell? ⟨γ,7,none⟩=some (.int .i64 (k0:Int)):=by rw [<- hk0];exact HR.o.box.cell 7
 have x_0:W2.cell? ⟨w.heap.size,0,none⟩=some (.pointer (some ⟨γ,0,none⟩)):=HA.o.c0;have HSV:Hd (∀ W,At K5 lo w W γ ρ 1 (ZeI U)->True):=fun _ _=>trivial
 clear HSV;have HKB:Hd (∀ W V,At K5 lo w W γ ρ 1 V->Zag S5 W0 W):=fun W V ha=>⟨ha.kp.os.trans HB0.o.os.symm,ha.kp.tape.trans HB0.o.tape.symm,ha.kp.output.trans HB0.o.output.symm,by have:=ha.sz;omega,fun k hk=>(ha.kp.block k ((HK5.o k).2 (Or.inr hk))).trans (HB0.o.block k (HSL.o k hk).1).symm⟩
 have HLD:Hd (Ze3 (ZeI U) U.be=Zca (ZeI U) U.be k0 (U.be.length - k0)):=by unfold Hd Ze3;rw [show (ZeI U).dk.kn=(k0:Int) from hk0];rfl
 clear HR hk0;go_wp2;clear x7 x_0;obtain⟨V,hV⟩:∃ V,V=ZeI U:=⟨_,rfl⟩
 have HVB:Hd (V.ba=U.ba/\V.dk.sl.length<=1000):=by unfold Hd;rw [hV];exact⟨rfl,hl⟩
 rw [<- hV] at HA HLD;have HVE:=Zaa hV;clear hV
 go_loopw [3] (fun ix wr=>∃ i:Nat,ix=.int .i64 ((k0+i+1:Nat):Int)/\i<=U.be.length - k0/\At K5 lo w wr γ ρ 1 (Zca V U.be k0 i)) (fun ix _=>U.be.length+1 - (intOf ix).toNat)
 case atStart=>exact⟨0,by go_num,by omega,HA.o⟩
 case round=>
  obtain⟨i,rfl,hi,ha⟩:=hrel;clear HA;have HA:=Zaa ha;clear ha
  by_cases hlt:k0+i < U.be.length
  . have d1:decide (((k0+i+1:Nat):Int)<=(U.be.length:Int))=true:=by simp;omega
    obtain⟨sx,hsx⟩:∃ sx,sx=U.be[k0+i]:=⟨_,rfl⟩
    have HST:Hd (Zca V U.be k0 (i+1)=ZdM (Zca V U.be k0 i) (k0+i+1) ⟨V.ba,sx.tx⟩):=by unfold Hd;rw [Zca,List.getElem?_eq_getElem hlt,<- hsx]
    obtain⟨g5,c5,hbv,hf5⟩:∃ g c,(.slice (b 5) U.be.length (m 5):Value)=.slice (some ⟨g,0,none⟩) U.be.length c/\FR rsL 2 wr g (g+1) g c U.be:=by
     rcases HBW.o.kept (HKB.o _ _ HA.o) (fun _ h=>h) with ⟨_,hnil⟩ | ⟨g,_,g',cap,e1,e2⟩
     . rw [hnil] at hlt;simp at hlt
     . exact⟨g',cap,e1,e2.own'⟩
    have yt:wr.cell? ⟨g5,(k0+i)*2+1,none⟩=some (.string sx.tx):=by rw [hsx];exact hf5.get ZaI hlt (t:=1) (by omega) (v:=.string U.be[k0+i].tx) rfl
    injection hbv with hb1 hb2 hb3
    rw [hb1];clear hf5 hb1 hb2 hb3 hsx;obtain⟨b7,m7,S7,hR⟩:=HA.o.wz;have HR:=Zaa hR;clear hR;have x_0:wr.cell? ⟨w.heap.size,0,none⟩=some (.pointer (some ⟨γ,0,none⟩)):=HA.o.c0;have x_1:wr.cell? ⟨w.heap.size,1,none⟩=some (.func (.func 115) #[] #[.pointer (some ⟨ρ,0,none⟩)]):=HA.o.c1;have x13:wr.cell? ⟨γ,13,none⟩=some (.int .i64 V.ba):=by rw [HR.o.box.cell 13];show some (Value.int .i64 (Zca V U.be k0 i).ba)=_;rw [Ze2]
    go_upto_region 7 with fail
    clear d1;obtain⟨q,hq⟩:∃ q,q=k0+i:=⟨_,rfl⟩
    obtain⟨q1,hq1⟩:∃ q1,q1=k0+i+1:=⟨_,rfl⟩
    rw [<- hq1];rw [<- hq1] at HST;rw [<- hq] at yt;have w64:IntKind.wrap .i64 ((q1:Int) - 1)=(q:Int):=by rw [IntKind.wrap_i64];omega
    have i0:(0:Int)<=(q:Int):=by omega
    have i1:(q:Int) < (U.be.length:Int):=by omega
    have p1:1<=q1:=by omega
    have p2:q1<=1000:=by omega
    have HQ:=Zaa hq;have HQ1:=Zaa hq1;clear hq hq1;refine Code.wp_mono NoPanic.imp ?_;refine Zao (S:=fun W=>W.cell? ⟨w.heap.size,0,none⟩=some (.pointer (some ⟨γ,0,none⟩))/\W.cell? ⟨w.heap.size,1,none⟩=some (.func (.func 115) #[] #[.pointer (some ⟨ρ,0,none⟩)])/\W.cell? ⟨γ,13,none⟩=some (.int .i64 V.ba)/\W.cell? ⟨g5,q*2+1,none⟩=some (.string sx.tx)) [14] (by kernel_rfl) ⟨x_0,x_1,x13,yt⟩ (fun hHeld=>?_);refine tB 0 (.agg #[.pointer (some ⟨γ,0,none⟩),.func (.func 115) #[] #[.pointer (some ⟨ρ,0,none⟩)]]) [14] rfl hHeld ?_
    try simp only [Act.put,sLs]
    refine tB 1 (.int .i64 (q1:Int)) [14] rfl hHeld ?_
    try simp only [Act.put,sLs]
    refine tB 2 (.pointer (some ⟨w.heap.size,0,none⟩)) [3,4,5,6,13,14] rfl hHeld ?_
    try simp only [Act.put,sLs]
    refine tB 3 (.pointer (some ⟨γ,0,none⟩)) [4,5,6,13,14] rfl hHeld ?_
    try simp only [Act.put,sLs]
    refine tB 4 (.pointer (some ⟨γ,0,none⟩)) [5,6,13,14] rfl hHeld ?_
    try simp only [Act.put,sLs]
    refine tB 5 (.pointer (some ⟨γ,13,none⟩)) [6,13,14] rfl hHeld ?_
    try simp only [Act.put,sLs]
    refine tB 6 (.int .i64 V.ba) [13,14] rfl hHeld ?_
    try simp only [Act.put,sLs]
    refine tB 7 (.slice (some ⟨g5,0,none⟩) U.be.length (m 5)) [10,11,12,13,14] rfl hHeld ?_
    try simp only [Act.put,sLs]
    refine tB 8 (.int .i64 (q1:Int)) [9,10,11,12,13,14] rfl hHeld ?_
    try simp only [Act.put,sLs]
    refine tB 9 (.int .i64 (q:Int)) [10,11,12,13,14] rfl hHeld ?_
    try simp only [Act.put,sLs]
    refine tB 10 (.pointer (some ⟨g5,q*2,none⟩)) [11,12,13,14] rfl hHeld ?_
    try simp only [Act.put,sLs]
    refine tB 11 (.pointer (some ⟨g5,q*2+1,none⟩)) [12,13,14] rfl hHeld ?_
    try simp only [Act.put,sLs]
    refine tB 12 (.string sx.tx) [13,14] rfl hHeld ?_
    try simp only [Act.put,sLs]
    refine tB 13 (.agg #[.int .i64 V.ba,.string sx.tx]) [14] rfl hHeld ?_
    try simp only [Act.put,sLs]
    refine oB 14 rfl (fun K hK=>?_)
    go_simp
    refine (Zfb (KN K5 w 1) lo _ γ ρ (Zca V U.be k0 i) q1 ⟨V.ba,sx.tx⟩ (HA.o.wk.on Zb_.drew) p1 p2 (Zee V U.be k0 hbl HVB.o.2 i)).mono ?_;rintro e WX ⟨rfl,hk,hz⟩;clear hHeld;refine hK.out _ _ (fun h=>absurd (by decide) h) (fun _=>?_);clear hK
    try simp only [Act.put,sLs]
    refine Zak (by kernel_rfl) ?_ _;refine NoPanic.normal ?_;have HAn:Hd (At K5 lo w WX γ ρ 1 (Zca V U.be k0 (i+1))):=by unfold Hd;rw [HST.o];exact (HA.o.on Zb_.drew).call hk hz
    clear hk hz HA HR x_0 x_1 x13 yt w64 HST;go_wp2;exact⟨⟨i+1,by rw [HQ1.o];go_num,by omega,HAn.o⟩,by rw [HQ1.o];simp [intOf];omega⟩
  . have d1:decide (((k0+i+1:Nat):Int)<=(U.be.length:Int))=false:=by simp;omega
    have hii:i=U.be.length - k0:=by omega
    subst hii;rw [<- HLD.o] at HA;go_wp2
    go_end0
    exact⟨rfl,HA.o.kp.less (fun k h=>(HK5.o k).2 (Or.inl h)),by rw [<- HVE.o];exact HA.o.fin.2.less (fun k h=>(HK5.o k).2 (Or.inl h)) HW.o.kr⟩
end
section
open Go.RowKit Go.Deep
theorem Zid (KP:Nat->Prop) (lo:Nat) (w:World) (γ ρ:Nat) (U:Rr) (n:Int) (a1:Option Addr) (c1:Nat) (L:List Rs) (k0:Nat) (h:Wk KP lo w γ ρ U) (hvk:∀ W,Zag KP w W->Zaq 0 W (.slice a1 L.length c1) L) (hz:RrZ U) (hk0:U.dk.kn=(k0:Int)) (hk1:k0<=1000) (hl:U.dk.sl.length<=1000) (hyl:U.ye.length<=999) (hys:Asc U.ye) (hbl:U.be.length<=1000) (hll:L.length<=1000) :
 Calls prog 136 #[.agg (wkC γ ρ),.int .i64 n,.slice a1 L.length c1] w fun e w'=>e=.returned (.tuple #[])/\Zag KP w w'/\Wk KP lo w' γ ρ (ZcF U n L):=by
 have HW:=Zaa h;clear h;have HVK:=Zaa hvk;have HZ:=Zaa hz;have HYS:=Zaa hys;have HK0:=Zaa hk0;clear hvk hz hys hk0
 show Calls prog 136 #[.agg #[.pointer (some ⟨γ,0,none⟩),.func (.func 115) #[] #[.pointer (some ⟨ρ,0,none⟩)]],.int .i64 n,.slice a1 L.length c1] w _
 go_enter func136,ntmps136
 go_upto_region 1 with fail
 obtain⟨W0,hW0,HA⟩:∃ W0,W0=(w.alloc (.cells #[.pointer (some ⟨γ,0,none⟩),.func (.func 115) #[] #[.pointer (some ⟨ρ,0,none⟩)]] 123))/\Hd (At KP lo w W0 γ ρ 1 U):=
  ⟨_,rfl,HW.o.enter (Zab _ _) (Box.new w _ _ _ rfl) (by simp) (by omega)⟩
 rw [<- hW0];clear hW0;obtain⟨b,m,S,hR⟩:=HA.o.wz;have HR:=Zaa hR;clear hR;have x_0:W0.cell? ⟨w.heap.size,0,none⟩=some (.pointer (some ⟨γ,0,none⟩)):=HA.o.c0;have x14:W0.cell? ⟨γ,14,none⟩=some (.slice (b 4) U.ye.length (m 4)):=HR.o.box.cell 14;refine Code.wp_mono NoPanic.imp ?_;refine Zao (S:=fun W=>W.cell? ⟨w.heap.size,0,none⟩=some (.pointer (some ⟨γ,0,none⟩))/\W.cell? ⟨γ,14,none⟩=some (.slice (b 4) U.ye.length (m 4))) [9,10,11] (by kernel_rfl) ⟨x_0,x14⟩ (fun hHeld=>?_);refine tB 0 (.pointer (some ⟨w.heap.size,0,none⟩)) [1,9,10,11] rfl hHeld ?_
 try simp only [Act.put,sLs]
 refine tB 1 (.pointer (some ⟨γ,0,none⟩)) [9,10,11] rfl hHeld ?_
 try simp only [Act.put,sLs]
 refine tB 2 (.pointer (some ⟨w.heap.size,0,none⟩)) [3,4,5,6,8,9,10,11] rfl hHeld ?_
 try simp only [Act.put,sLs]
 refine tB 3 (.pointer (some ⟨γ,0,none⟩)) [4,5,6,8,9,10,11] rfl hHeld ?_
 try simp only [Act.put,sLs]
 refine tB 4 (.pointer (some ⟨γ,0,none⟩)) [5,6,8,9,10,11] rfl hHeld ?_
 try simp only [Act.put,sLs]
 refine tB 5 (.pointer (some ⟨γ,14,none⟩)) [6,8,9,10,11] rfl hHeld ?_
 try simp only [Act.put,sLs]
 refine tB 6 (.slice (b 4) U.ye.length (m 4)) [8,9,10,11] rfl hHeld ?_
 try simp only [Act.put,sLs]
 refine tB 7 (.int .i64 n) [8,9,10,11] rfl hHeld ?_
 try simp only [Act.put,sLs]
 refine oB 8 rfl (fun K hK=>?_)
 go_simp
 have hd:Below W0.heap.size W0 W0.drew:=Zb_.drew;refine (ZfV (S 4) _ U.ye n _ (HR.o.on hd).cp.o4 (by omega) HYS.o).mono ?_;rintro e w1 ⟨v',rfl,ht0,hrow0⟩;have ht:Zal (S 4) W0 w1:=⟨ht0.os,ht0.tape,ht0.output,ht0.size,ht0.block⟩;have hrow:NRS inL 1 w1 (Gr (S 4) W0 w1) v' (Zcf U.ye n):=hrow0;clear ht0 hrow0 hd;obtain⟨a',m',hv'⟩:=hrow.form;subst hv';have HP:=Zaa (HR.o.part4 (L':=Zcf U.ye n) (a':=a') (m':=m') ht hrow);have hkp:Zag (fun k=>k < W0.heap.size/\¬ S 4 k) W0 w1:=Zag.touchS ht fun _ h=>h
 have BG:=Zaa (HR.o.box.kept hkp ⟨HR.o.box.lt,HR.o.far 4 (by decide)⟩);have BX3:=Zaa (HA.o.bx.kept hkp ⟨HA.o.bx.lt,(HR.o.prot _ (Or.inr ⟨by omega,by omega⟩)).2.2 4 (by decide)⟩);have z14:w1.cell? ⟨γ,14,none⟩=some (.slice (b 4) U.ye.length (m 4)):=BG.o.cell 14;have z_0:w1.cell? ⟨w.heap.size,0,none⟩=some (.pointer (some ⟨γ,0,none⟩)):=BX3.o.cell 0;obtain⟨nl,hnl⟩:∃ nl,nl=(Zcf U.ye n).length:=⟨_,rfl⟩
 rw [<- hnl] at HP |-;have HNL:=Zaa hnl;clear hnl hrow ht hkp hHeld;refine hK.out _ _ (fun _=>⟨z_0,z14⟩) (fun _=>?_);clear hK;have gf:=BG.o.free
 try simp only [Act.put,sLs]
 refine oB 9 rfl (fun K hK=>?_)
 go_simp
 refine hK.out _ _ (fun h=>absurd (by decide) h) (fun _=>?_);clear hK K
 try simp only [Act.put,sLs]
 refine oB 10 rfl (fun K hK=>?_)
 go_simp
 refine hK.out _ _ (fun h=>absurd (by decide) h) (fun _=>?_);clear hK K
 try simp only [Act.put,sLs]
 refine oB 11 rfl (fun K hK=>?_)
 go_simp
 refine hK.out _ _ (fun h=>absurd (by decide) h) (fun _=>?_);clear hK K
 try simp only [Act.put,sLs]
 refine Zak (by kernel_rfl) ?_ _;refine NoPanic.normal ?_;obtain⟨w2,hw2⟩:∃ w2,w2=w1.setCell ⟨γ,14,none⟩ (.slice a' nl m'):=⟨_,rfl⟩
 rw [<- hw2] at HP |-;clear hw2 z14 z_0 gf x_0 x14 BG BX3;have HAn:Hd (At KP lo w w2 γ ρ 1 (ZkR U n)):=HA.o.step HP.o.2 ⟨_,_,_,HP.o.1⟩;clear HA HR HP;have HA:=HAn;clear HAn
 go_upto_region 2 with fail
 obtain⟨b,m,S,hR⟩:=HA.o.wz;have HR:=Zaa hR;clear hR;have x_0:w2.cell? ⟨w.heap.size,0,none⟩=some (.pointer (some ⟨γ,0,none⟩)):=HA.o.c0;have x15:w2.cell? ⟨γ,15,none⟩=some (.slice (b 5) U.be.length (m 5)):=HR.o.box.cell 15
 have HVB:Hd (Zaq 0 w2 (.slice (b 5) U.be.length (m 5)) U.be):=by
  obtain⟨l,u,_,ho⟩:=(show NRS rsL 2 w2 (S 5) (.slice (b 5) U.be.length (m 5)) U.be from HR.o.cp.o5).rss HZ.o.z5;exact ho.at.mono Zz_
 have HVL:Hd (Zaq 0 w2 (.slice a1 L.length c1) L):=HVK.o w2 HA.o.kp;refine Code.wp_mono NoPanic.imp ?_;refine Zao (S:=fun W=>W.cell? ⟨w.heap.size,0,none⟩=some (.pointer (some ⟨γ,0,none⟩))/\W.cell? ⟨γ,15,none⟩=some (.slice (b 5) U.be.length (m 5))) [9,10,11] (by kernel_rfl) ⟨x_0,x15⟩ (fun hHeld=>?_);refine tB 0 (.pointer (some ⟨w.heap.size,0,none⟩)) [1,9,10,11] rfl hHeld ?_
 try simp only [Act.put,sLs]
 refine tB 1 (.pointer (some ⟨γ,0,none⟩)) [9,10,11] rfl hHeld ?_
 try simp only [Act.put,sLs]
 refine tB 2 (.pointer (some ⟨w.heap.size,0,none⟩)) [3,4,5,6,8,9,10,11] rfl hHeld ?_
 try simp only [Act.put,sLs]
 refine tB 3 (.pointer (some ⟨γ,0,none⟩)) [4,5,6,8,9,10,11] rfl hHeld ?_
 try simp only [Act.put,sLs]
 refine tB 4 (.pointer (some ⟨γ,0,none⟩)) [5,6,8,9,10,11] rfl hHeld ?_
 try simp only [Act.put,sLs]
 refine tB 5 (.pointer (some ⟨γ,15,none⟩)) [6,8,9,10,11] rfl hHeld ?_
 try simp only [Act.put,sLs]
 refine tB 6 (.slice (b 5) U.be.length (m 5)) [8,9,10,11] rfl hHeld ?_
 try simp only [Act.put,sLs]
 refine tB 7 (.slice a1 L.length c1) [8,9,10,11] rfl hHeld ?_
 try simp only [Act.put,sLs]
 refine oB 8 rfl (fun K hK=>?_)
 go_simp
 have hd:Below w2.heap.size w2 w2.drew:=Zb_.drew;refine (Zew 0 _ _ U.be L _ (HVB.o.below hd) (HVL.o.below hd) (by omega) (by omega)).mono ?_;rintro e w3 ⟨v',rfl,hb0,⟨nn,hnn,hrow0⟩,hsz⟩;have hb:Below w2.heap.size w2 w3:=hd.trans hb0;have hnn':w2.heap.size<=nn:=hnn;clear hb0 hd hnn hsz;have hrow:NRS rsL 2 w3 (Gr (S 5) w2 w3) v' (Zax U.be L):=hrow0.set1 (fun k p q=>Or.inr ⟨by omega,q⟩);obtain⟨a',m',hv'⟩:=hrow.form;subst hv';have HP:=Zaa (HR.o.part5 (L':=Zax U.be L) (a':=a') (m':=m') (Zal.below hb) hrow);have HA3:=Zaa (HA.o.on hb);have HR3:=Zaa (HR.o.on hb);have z15:w3.cell? ⟨γ,15,none⟩=some (.slice (b 5) U.be.length (m 5)):=HR3.o.box.cell 15;obtain⟨nl,hnl⟩:∃ nl,nl=(Zax U.be L).length:=⟨_,rfl⟩
 rw [<- hnl] at HP |-;clear hnl hrow hb hrow0 hHeld;refine hK.out _ _ (fun _=>⟨HA3.o.c0,z15⟩) (fun _=>?_);clear hK;have gf:=HR3.o.box.free
 try simp only [Act.put,sLs]
 refine oB 9 rfl (fun K hK=>?_)
 go_simp
 refine hK.out _ _ (fun h=>absurd (by decide) h) (fun _=>?_);clear hK K
 try simp only [Act.put,sLs]
 refine oB 10 rfl (fun K hK=>?_)
 go_simp
 refine hK.out _ _ (fun h=>absurd (by decide) h) (fun _=>?_);clear hK K
 try simp only [Act.put,sLs]
 refine oB 11 rfl (fun K hK=>?_)
 go_simp
 refine hK.out _ _ (fun h=>absurd (by decide) h) (fun _=>?_);clear hK K
 try simp only [Act.put,sLs]
 refine Zak (by kernel_rfl) ?_ _;refine NoPanic.normal ?_;obtain⟨w4,hw4⟩:∃ w4,w4=w3.setCell ⟨γ,15,none⟩ (.slice a' nl m'):=⟨_,rfl⟩
 rw [<- hw4] at HP |-;clear hw4 z15 gf x_0 x15 HA3 HR3;have HAn:Hd (At KP lo w w4 γ ρ 1 (Zcd U n L)):=HA.o.step HP.o.2 ⟨_,_,_,HP.o.1⟩;clear HA HR HP HVB HVL;have HA:=HAn;clear HAn
 go_upto_region 3 with fail
 obtain⟨b,m,S,hR⟩:=HA.o.wz;have HR:=Zaa hR;clear hR;obtain⟨ny,hny⟩:∃ ny,ny=(Zcf U.ye n).length:=⟨_,rfl⟩
 have HNY:=Zaa hny;have hnyl:ny<=1000:=by have:=Zcm U.ye n;omega
 have x_0:w4.cell? ⟨w.heap.size,0,none⟩=some (.pointer (some ⟨γ,0,none⟩)):=HA.o.c0;have x_1:w4.cell? ⟨w.heap.size,1,none⟩=some (.func (.func 115) #[] #[.pointer (some ⟨ρ,0,none⟩)]):=HA.o.c1;have x14:w4.cell? ⟨γ,14,none⟩=some (.slice (b 4) ny (m 4)):=by rw [hny];exact HR.o.box.cell 14
 clear hny;refine Code.wp_mono NoPanic.imp ?_;refine Zao (S:=fun W=>W.cell? ⟨w.heap.size,0,none⟩=some (.pointer (some ⟨γ,0,none⟩))/\W.cell? ⟨w.heap.size,1,none⟩=some (.func (.func 115) #[] #[.pointer (some ⟨ρ,0,none⟩)])/\W.cell? ⟨γ,14,none⟩=some (.slice (b 4) ny (m 4))) [6] (by kernel_rfl) ⟨x_0,x_1,x14⟩ (fun hHeld=>?_);refine tB 0 (.agg #[.pointer (some ⟨γ,0,none⟩),.func (.func 115) #[] #[.pointer (some ⟨ρ,0,none⟩)]]) [6] rfl hHeld ?_
 try simp only [Act.put,sLs]
 refine tB 1 (.pointer (some ⟨w.heap.size,0,none⟩)) [2,3,4,5,6] rfl hHeld ?_
 try simp only [Act.put,sLs]
 refine tB 2 (.pointer (some ⟨γ,0,none⟩)) [3,4,5,6] rfl hHeld ?_
 try simp only [Act.put,sLs]
 refine tB 3 (.pointer (some ⟨γ,0,none⟩)) [4,5,6] rfl hHeld ?_
 try simp only [Act.put,sLs]
 refine tB 4 (.pointer (some ⟨γ,14,none⟩)) [5,6] rfl hHeld ?_
 try simp only [Act.put,sLs]
 refine tB 5 (.slice (b 4) ny (m 4)) [6] rfl hHeld ?_
 try simp only [Act.put,sLs]
 refine oB 6 rfl (fun K hK=>?_)
 go_simp
 refine (Zds (KN KP w 1) lo _ γ ρ (Zcd U n L) (b 4) ny (m 4) (HA.o.wk.on Zb_.drew) (by omega)).mono ?_;rintro e w5 ⟨rfl,hb0⟩;have hb:Below w4.heap.size w4 w5:=(Zb_.drew).trans hb0;clear hb0 hHeld;refine hK.out _ _ (fun h=>absurd (by decide) h) (fun _=>?_);clear hK
 try simp only [Act.put,sLs]
 refine Zak (by kernel_rfl) ?_ _;refine NoPanic.normal ?_;clear x_0 x_1 x14;replace HA:=Zaa (HA.o.on hb);clear hb HR
 by_cases hq:(Zcd U n L).of < 2*(ny:Int)
 case neg=>
  have d1:decide ((Zcd U n L).of < 2*(ny:Int))=false:=decide_eq_false hq
  have HE:Hd (ZcF U n L=Zcd U n L):=by
   unfold Hd ZcF;rw [<- HNY.o,if_pos (by have h:¬ U.of < 2*(ny:Int):=hq;omega)]
  go_wp2
  go_end0
  exact⟨rfl,by rw [HE.o];exact HA.o.fin⟩
 have d1:decide ((Zcd U n L).of < 2*(ny:Int))=true:=decide_eq_true hq
 have HE:Hd (ZcF U n L=Ze3 (ZeI (Zcd U n L)) (Zcd U n L).be):=by
  unfold Hd ZcF;rw [<- HNY.o,if_neg (by have h:U.of < 2*(ny:Int):=hq;omega)]
  rfl
 have x_0:w5.cell? ⟨w.heap.size,0,none⟩=some (.pointer (some ⟨γ,0,none⟩)):=HA.o.c0;have x_1:w5.cell? ⟨w.heap.size,1,none⟩=some (.func (.func 115) #[] #[.pointer (some ⟨ρ,0,none⟩)]):=HA.o.c1
 go_upto_region 4 with fail
 clear d1 hq;go_wp2_with fail;clear x_0 x_1;refine (Zh2 (KN KP w 1) lo _ γ ρ (Zcd U n L) k0 HA.o.wk HK0.o hk1 hl (by show (Zax U.be L).length<=_;rw [ZbK];omega)).mono ?_;rintro e w6 ⟨rfl,hk,hz⟩;have HAn:Hd (At KP lo w w6 γ ρ 1 (Ze3 (ZeI (Zcd U n L)) (Zcd U n L).be)):=HA.o.call hk hz;clear hk hz HA;go_wp2
 go_end0
 exact⟨rfl,by rw [HE.o];exact HAn.o.fin⟩
end
section
open Go.RowKit Go.Deep
theorem Zhm (KP:Nat->Prop) (lo:Nat) (w:World) (γ ρ:Nat) (U:Rr) (M:Rm) (a0:Option Addr) (k0:Nat) (h:Wk KP lo w γ ρ U) (hvk:∀ W,Zag KP w W->Zaq 0 W (.slice a0 M.sl.length k0) M.sl) (hz:RrZ U) (k9:Nat) (hk0:U.dk.kn=(k9:Int)) (hk1:k9<=1000) (hl:U.dk.sl.length<=999) (hyl:U.ye.length<=999) (hys:Asc U.ye) (hbl:U.be.length<=1000) (hll:M.sl.length<=1000) :
 Calls prog 117 #[.agg (wkC γ ρ),.agg (rmL M a0 k0).toArray] w fun e w'=>e=.returned (.tuple #[])/\Zag KP w w'/\Wk KP lo w' γ ρ (ZcG U M):=by
 have HW:=Zaa h;clear h;have HVK:=Zaa hvk;have HZ:=Zaa hz;have HYS:=Zaa hys;have HK0:=Zaa hk0;clear hvk hz hys hk0
 show Calls prog 117 #[.agg #[.pointer (some ⟨γ,0,none⟩),.func (.func 115) #[] #[.pointer (some ⟨ρ,0,none⟩)]],.agg #[.int .i64 M.kd,.int .i64 M.fr,.int .i64 M.tt,.int .i64 M.ba,.int .i64 M.ix,.int .i64 M.kn,.string M.tx,.slice a0 M.sl.length k0]] w _
 go_enter func117,ntmps117
 go_upto_region 1 with fail
 obtain⟨W0,hW0,HA,MB⟩:∃ W0,W0=((w.alloc (.cells #[.pointer (some ⟨γ,0,none⟩),.func (.func 115) #[] #[.pointer (some ⟨ρ,0,none⟩)]] 123)).alloc (.cells #[.int .i64 M.kd,.int .i64 M.fr,.int .i64 M.tt,.int .i64 M.ba,.int .i64 M.ix,.int .i64 M.kn,.string M.tx,.slice a0 M.sl.length k0] 45))/\Hd (At KP lo w W0 γ ρ 2 U)/\Hd (Box W0 (w.heap.size+1) #[.int .i64 M.kd,.int .i64 M.fr,.int .i64 M.tt,.int .i64 M.ba,.int .i64 M.ix,.int .i64 M.kn,.string M.tx,.slice a0 M.sl.length k0]):=
  ⟨_,rfl,HW.o.enter (bt (Zab _ _) (Zab _ _)) ((Box.new w _ _ _ rfl).on (Zab _ _)) (by simp) (by omega),(Box.new _ _ _ _ (by simp))⟩
 rw [<- hW0];clear hW0;obtain⟨b,m,S,hR⟩:=HA.o.wz;have HR:=Zaa hR;clear hR;have x_0:W0.cell? ⟨w.heap.size,0,none⟩=some (.pointer (some ⟨γ,0,none⟩)):=HA.o.c0;have x12:W0.cell? ⟨γ,12,none⟩=some (.bool U.ty):=HR.o.box.cell 12;have x13:W0.cell? ⟨γ,13,none⟩=some (.int .i64 U.ba):=HR.o.box.cell 13;have y1_3:W0.cell? ⟨w.heap.size+1,3,none⟩=some (.int .i64 M.ba):=MB.o.cell 3
 cases q1:U.ty with
 | false=>
  rw [q1] at x12;have HE:Hd (ZcG U M=U):=by unfold Hd ZcG;rw [if_neg (by rw [q1];simp)]
  go_quiet (fail)
  obtain⟨W1,hWn⟩:∃ wx_,wx_=W0.drewN nq:=⟨_,rfl⟩
  rw [<- hWn];have hb:Below W0.heap.size W0 W1:=by rw [hWn];exact below_drewN Zb_ _
  clear hWn;replace HA:=Zaa (HA.o.on hb);replace HR:=Zaa (HR.o.on hb);replace MB:=Zaa (MB.o.on hb);clear hb;go_wp2
  go_end0
  exact⟨rfl,by rw [HE.o];exact HA.o.fin⟩
 | true=>
 rw [q1] at x12
 by_cases q2:M.ba=U.ba
 case neg=>
  have d2:(M.ba == U.ba)=false:=by simpa using q2
  have HE:Hd (ZcG U M=U):=by unfold Hd ZcG;rw [if_neg (by simp [q2])]
  go_quiet (fail)
  obtain⟨W1,hWn⟩:∃ wx_,wx_=W0.drewN nq:=⟨_,rfl⟩
  rw [<- hWn];have hb:Below W0.heap.size W0 W1:=by rw [hWn];exact below_drewN Zb_ _
  clear hWn;replace HA:=Zaa (HA.o.on hb);replace HR:=Zaa (HR.o.on hb);replace MB:=Zaa (MB.o.on hb);clear hb;go_wp2
  go_end0
  exact⟨rfl,by rw [HE.o];exact HA.o.fin⟩
 have d2:(M.ba == U.ba)=true:=by simpa using q2
 have HE:Hd (ZcG U M=ZcF U M.fr M.sl):=by unfold Hd ZcG;rw [if_pos ⟨q1,q2⟩]
 clear q2
 go_quiet (fail)
 obtain⟨W1,hWn⟩:∃ wx_,wx_=W0.drewN nq:=⟨_,rfl⟩
 rw [<- hWn];have hb:Below W0.heap.size W0 W1:=by rw [hWn];exact below_drewN Zb_ _
 clear hWn;replace HA:=Zaa (HA.o.on hb);replace HR:=Zaa (HR.o.on hb);replace MB:=Zaa (MB.o.on hb);clear hb
 go_upto_region 2 with fail
 clear x_0 x12 x13 y1_3 d2;have x_0:W1.cell? ⟨w.heap.size,0,none⟩=some (.pointer (some ⟨γ,0,none⟩)):=HA.o.c0;have x_1:W1.cell? ⟨w.heap.size,1,none⟩=some (.func (.func 115) #[] #[.pointer (some ⟨ρ,0,none⟩)]):=HA.o.c1;have y1_1:W1.cell? ⟨w.heap.size+1,1,none⟩=some (.int .i64 M.fr):=MB.o.cell 1;have y1_7:W1.cell? ⟨w.heap.size+1,7,none⟩=some (.slice a0 M.sl.length k0):=MB.o.cell 7;go_wp2_with fail;clear x_0 x_1 y1_1 y1_7;refine (Zid (KN KP w 2) lo _ γ ρ U M.fr a0 k0 M.sl k9 HA.o.wk (fun W hW=>HVK.o W (HA.o.kp.trans (hW.less fun _ h=>Or.inl h))) HZ.o HK0.o hk1 (by omega) hyl HYS.o hbl hll).mono ?_;rintro e W2 ⟨rfl,hk,hz⟩;have HAn:Hd (At KP lo w W2 γ ρ 2 (ZcF U M.fr M.sl)):=HA.o.call hk hz;replace MB:=Zaa (MB.o.kept hk (Or.inr ⟨by omega,by omega⟩));clear hk hz HA HR;have HA:=HAn;clear HAn;obtain⟨b,m,S,hR⟩:=HA.o.wz;have HR:=Zaa hR;clear hR;go_wp2
 go_end0
 exact⟨rfl,by rw [HE.o];exact HA.o.fin⟩
end
section
open Go.RowKit Go.Deep
theorem Zhq (KP:Nat->Prop) (lo:Nat) (w:World) (γ ρ:Nat) (U:Rr) (M:Rm) (a0:Option Addr) (k0:Nat) (h:Wk KP lo w γ ρ U) (h0:0<=U.dk.kn) (h1:U.dk.kn < 1000) (hl:U.dk.sl.length<=999) :
 Calls prog 121 #[.agg (wkC γ ρ),.agg (rmL M a0 k0).toArray] w fun e w'=>e=.returned (.tuple #[])/\Zag KP w w'/\Wk KP lo w' γ ρ (Zco U M):=by
 have HW:=Zaa h;clear h
 show Calls prog 121 #[.agg #[.pointer (some ⟨γ,0,none⟩),.func (.func 115) #[] #[.pointer (some ⟨ρ,0,none⟩)]],.agg #[.int .i64 M.kd,.int .i64 M.fr,.int .i64 M.tt,.int .i64 M.ba,.int .i64 M.ix,.int .i64 M.kn,.string M.tx,.slice a0 M.sl.length k0]] w _
 go_enter func121,ntmps121
 go_upto_region 1 with fail
 obtain⟨W0,hW0,HA,MB⟩:∃ W0,W0=((w.alloc (.cells #[.pointer (some ⟨γ,0,none⟩),.func (.func 115) #[] #[.pointer (some ⟨ρ,0,none⟩)]] 123)).alloc (.cells #[.int .i64 M.kd,.int .i64 M.fr,.int .i64 M.tt,.int .i64 M.ba,.int .i64 M.ix,.int .i64 M.kn,.string M.tx,.slice a0 M.sl.length k0] 45))/\Hd (At KP lo w W0 γ ρ 2 U)/\Hd (Box W0 (w.heap.size+1) #[.int .i64 M.kd,.int .i64 M.fr,.int .i64 M.tt,.int .i64 M.ba,.int .i64 M.ix,.int .i64 M.kn,.string M.tx,.slice a0 M.sl.length k0]):=
  ⟨_,rfl,HW.o.enter (bt (Zab _ _) (Zab _ _)) ((Box.new w _ _ _ rfl).on (Zab _ _)) (by simp) (by omega),(Box.new _ _ _ _ (by simp))⟩
 rw [<- hW0];clear hW0;obtain⟨b,m,S,hR⟩:=HA.o.wz;have HR:=Zaa hR;clear hR;have x_0:W0.cell? ⟨w.heap.size,0,none⟩=some (.pointer (some ⟨γ,0,none⟩)):=HA.o.c0;have x6:W0.cell? ⟨γ,6,none⟩=some (.int .i64 U.dk.pr):=HR.o.box.cell 6;have x7:W0.cell? ⟨γ,7,none⟩=some (.int .i64 U.dk.kn):=HR.o.box.cell 7;have y1_3:W0.cell? ⟨w.heap.size+1,3,none⟩=some (.int .i64 M.ba):=MB.o.cell 3;have y1_4:W0.cell? ⟨w.heap.size+1,4,none⟩=some (.int .i64 M.ix):=MB.o.cell 4;have w64:IntKind.wrap .i64 (U.dk.kn+1)=U.dk.kn+1:=by rw [IntKind.wrap_i64];omega
 by_cases hp:M.ix=U.dk.kn+1
 case neg=>
  have d1:(M.ix == U.dk.kn+1)=false:=by simpa using hp
  have HE:Hd (Zco U M=U):=by unfold Hd Zco;rw [if_neg (fun h=>hp h.1)]
  clear hp
  go_quiet (fail)
  obtain⟨W1,hWn⟩:∃ wx_,wx_=W0.drewN nq:=⟨_,rfl⟩
  rw [<- hWn];have hb:Below W0.heap.size W0 W1:=by rw [hWn];exact below_drewN Zb_ _
  clear hWn;replace HA:=Zaa (HA.o.on hb);replace HR:=Zaa (HR.o.on hb);replace MB:=Zaa (MB.o.on hb);clear hb;go_wp2
  go_end0
  exact⟨rfl,by rw [HE.o];exact HA.o.fin⟩
 have d1:(M.ix == U.dk.kn+1)=true:=by simpa using hp
 have HP:=Zaa hp;clear hp
 cases q1:inB 1 U.dk.pr M.ba with
 | false=>
  have HE:Hd (Zco U M=U):=by
   unfold Hd Zco;rw [if_neg];rintro⟨-,g1,g2⟩;rw [ZdK] at q1;simp at q1
   omega
  go_quiet ((go_at_call 89;exact Calls.quiet_of_same ((Zah _ _ _ _).mono fun _ _ h=>⟨h.1.trans (rb q1),h.2⟩)))
  obtain⟨W1,hWn⟩:∃ wx_,wx_=W0.drewN nq:=⟨_,rfl⟩
  rw [<- hWn];have hb:Below W0.heap.size W0 W1:=by rw [hWn];exact below_drewN Zb_ _
  clear hWn;replace HA:=Zaa (HA.o.on hb);replace HR:=Zaa (HR.o.on hb);replace MB:=Zaa (MB.o.on hb);clear hb;go_wp2
  go_end0
  exact⟨rfl,by rw [HE.o];exact HA.o.fin⟩
 | true=>
 obtain⟨ix,hix⟩:∃ ix:Nat,ix=M.ix.toNat:=⟨_,rfl⟩
 have hixM:M.ix=(ix:Int):=by have:=HP.o;omega
 have hx1:1<=ix/\ix<=1000:=by have:=HP.o;omega
 have HE:Hd (Zco U M={ ZdM U ix ⟨M.ba,M.tx⟩ with dk:={ (ZdM U ix ⟨M.ba,M.tx⟩).dk with kn:=(ix:Int) } }):=by
  have g:0 < M.ba/\M.ba<=U.dk.pr:=by
   rw [ZdK] at q1;simp at q1
   omega
  unfold Hd Zco;rw [if_pos ⟨HP.o,g⟩,<- hix,hixM]
 have HIX:=Zaa hixM;clear HP hix hixM
 go_quiet ((go_at_call 89;exact Calls.quiet_of_same ((Zah _ _ _ _).mono fun _ _ h=>⟨h.1.trans (rb q1),h.2⟩)))
 obtain⟨W1,hWn⟩:∃ wx_,wx_=W0.drewN nq:=⟨_,rfl⟩
 rw [<- hWn];have hb:Below W0.heap.size W0 W1:=by rw [hWn];exact below_drewN Zb_ _
 clear hWn;replace HA:=Zaa (HA.o.on hb);replace HR:=Zaa (HR.o.on hb);replace MB:=Zaa (MB.o.on hb);clear hb
 go_upto_region 2 with fail
 clear x_0 x6 x7 y1_3 y1_4 d1 w64;have x_0:W1.cell? ⟨w.heap.size,0,none⟩=some (.pointer (some ⟨γ,0,none⟩)):=HA.o.c0;have x_1:W1.cell? ⟨w.heap.size,1,none⟩=some (.func (.func 115) #[] #[.pointer (some ⟨ρ,0,none⟩)]):=HA.o.c1;have y1_3:W1.cell? ⟨w.heap.size+1,3,none⟩=some (.int .i64 M.ba):=MB.o.cell 3;have y1_6:W1.cell? ⟨w.heap.size+1,6,none⟩=some (.string M.tx):=MB.o.cell 6;have y4:W1.cell? ⟨w.heap.size+1,4,none⟩=some (.int .i64 (ix:Int)):=by rw [<- HIX.o];exact MB.o.cell 4
 go_wp2_with fail;clear x_0 x_1 y1_3 y1_6 y4;refine (Zfb (KN KP w 2) lo _ γ ρ U ix ⟨M.ba,M.tx⟩ HA.o.wk (by omega) (by omega) (by omega)).mono ?_;rintro e W2 ⟨rfl,hk,hz⟩;have HAn:Hd (At KP lo w W2 γ ρ 2 (ZdM U ix ⟨M.ba,M.tx⟩)):=HA.o.call hk hz;replace MB:=Zaa (MB.o.kept hk (Or.inr ⟨by omega,by omega⟩));clear hk hz HA HR;have HA:=HAn;clear HAn;obtain⟨b,m,S,hR⟩:=HA.o.wz;have HR:=Zaa hR;clear hR;obtain⟨P,hP⟩:∃ P,P=ZdM U ix ⟨M.ba,M.tx⟩:=⟨_,rfl⟩
 rw [<- hP] at HA HR HE;clear hP
 go_upto_region 3 with fail
 have x_0:W2.cell? ⟨w.heap.size,0,none⟩=some (.pointer (some ⟨γ,0,none⟩)):=HA.o.c0;have x7:W2.cell? ⟨γ,7,none⟩=some (.int .i64 P.dk.kn):=HR.o.box.cell 7;have gf:=HR.o.box.free;have y4:W2.cell? ⟨w.heap.size+1,4,none⟩=some (.int .i64 (ix:Int)):=by rw [<- HIX.o];exact MB.o.cell 4
 go_wp2_with fail;clear x_0 x7 gf y4;obtain⟨W3,hWn⟩:∃ wx_,wx_=(W2.setCell ⟨γ,7,none⟩ (.int .i64 (ix:Int))):=⟨_,rfl⟩
 rw [<- hWn];have hp0:=HR.o.scal (U':={ P with dk:={ P.dk with kn:=(ix:Int) } }) (j:=7) (v:=.int .i64 (ix:Int)) (by show 7 < 18;omega) rfl (fun _ h=>⟨h.seg,h.ap,h.o0,h.o1,h.o2,h.o3,h.o4,h.o5,h.o6⟩);have ha0:=HA.o.step hp0.2 ⟨_,_,_,hp0.1⟩;have HAn:Hd (At KP lo w W3 γ ρ 2 ({ P with dk:={ P.dk with kn:=(ix:Int) } })):=by unfold Hd;rw [hWn];exact ha0
 have HKn:Hd (Zag (KN KP w 2) W2 W3):=by unfold Hd;rw [hWn];exact hp0.2
 replace MB:=Zaa (MB.o.kept HKn.o (Or.inr ⟨by omega,by omega⟩));have HRn:Hd (Rz (KN KP w 2) lo W3 γ b m S ({ P with dk:={ P.dk with kn:=(ix:Int) } })):=by unfold Hd;rw [hWn];exact hp0.1
 clear hWn HA HR hp0 ha0;have HA:=HAn;clear HAn;have HR:=HRn;clear HRn
 go_end0
 exact⟨rfl,by rw [HE.o];exact HA.o.fin⟩
end
open Go.ChangeShapes Go.WideShapes Go.ChangeAt Go.RowKit Go.Deep
variable {fuel:Nat}
theorem Tryz.own:ownKnob prog.godebug=none:=by kernel_rfl
theorem Tryz.laidOut:laidOutB prog=true:=by kernel_rfl
theorem Tryz.cells9:prog.cellsOf 9=1:=by kernel_rfl
theorem Tryz.cells3:prog.cellsOf 3=1:=by kernel_rfl
theorem Tryz.cells4:prog.cellsOf 4=1:=by kernel_rfl
theorem Zcj {α:Type}{p:Nat->α->Prop} (n:Nat):(∀ i,i < n->∃ x,p i x)->∃ L:List α,L.length=n/\∀ i (h:i < L.length),p i L[i]:=by
 induction n with
 | zero=>intro _;exact⟨[],rfl,fun i h=>absurd h (by simp)⟩
 | succ n ih=>
  intro h;obtain⟨L,hl,hL⟩:=ih (fun i hi=>h i (by omega));obtain⟨x,hx⟩:=h n (by omega);refine⟨L ++ [x],by simp [hl],fun i hi=>?_⟩
  by_cases e:i < L.length
  . rw [List.getElem_append_left e];exact hL i e
  . have e2:i=n:=by simp at hi;omega
    subst e2;have:(L ++ [x])[i]=x:=by rw [List.getElem_append_right (by omega)];simp [hl]
    rw [this];exact hx
theorem Tryz.cells94:prog.cellsOf 94=2:=by kernel_rfl
theorem Zk2 {l:List Value} (h:l.length=2):∃ c0 c1,l=[c0,c1]:=by
 match l,h with
 | [c0,c1],_=>exact⟨c0,c1,rfl⟩
section
variable {H:Type} {enc:TypeId×Value->H} {W:World}
theorem Zkk {cs:List Value}{x:DataW H×List MemPlace} (h:DataW.trod enc prog W 0 (fun _=>true) true fuel 94 cs=some x) :
 ∃ (x:Rs),cs=[.int .i64 x.ba,.string x.tx]/\ZaV x:=by
 obtain⟨xs,n,_,_,hl,hlen,hfld⟩:=DataW.trod_struct underlying94 h;obtain⟨c0,c1,rfl⟩:=Zk2 (hl.trans Tryz.cells94);simp only [Array.size,List.length_cons,List.length_nil] at hlen;have g0:DataW.trod enc prog W 0 (fun _=>true) true n 3 ((([c0,c1]:List Value).drop 0).take (prog.cellsOf 3))=xs[0]?:=hfld 0 _ rfl;have g1:DataW.trod enc prog W 0 (fun _=>true) true n 9 ((([c0,c1]:List Value).drop 1).take (prog.cellsOf 9))=xs[1]?:=hfld 1 _ rfl;simp only [Tryz.cells3,Tryz.cells9,List.drop_succ_cons,List.drop_zero,List.take_succ_cons,List.take_zero] at g0 g1;rw [List.getElem?_eq_getElem (by omega)] at g0 g1;obtain⟨q0,e0,_,_⟩:=DataW.trod_int underlying3 g0;obtain⟨q1,e1,_,s1⟩:=DataW.trod_string underlying9 g1;simp only [List.cons.injEq,and_true] at e0 e1;subst e0 e1;exact⟨⟨q0,q1⟩,rfl,⟨s1⟩⟩
theorem Ze9 {c:Value}{x:DataW H×List MemPlace} (h:DataW.trod enc prog W 0 (fun _=>true) true fuel 22 [c]=some x):∃ Xl,Zaq 0 W c Xl:=by
 rcases open_slice underlying22 h with ⟨hcs,_⟩ | ⟨a,len,cap,m,n,D,Pl,hcs,_,hl,hm,hmm,_,hx⟩
 . simp only [List.cons.injEq,and_true] at hcs
   exact⟨[],Or.inl ⟨_,_,hcs,rfl⟩⟩
 . simp only [List.cons.injEq,and_true] at hcs
   simp only [if_true] at hmm;subst hmm;rw [Tryz.cells94] at hx
   by_cases h0:len=0
   . subst h0
     exact⟨[],Or.inl ⟨_,_,hcs,rfl⟩⟩
   . obtain⟨Xl,hF,hall⟩:=Zcj (p:=fun i (x:Rs)=>ZaV x/\W.cells? 0 (a.add (i*2)) 2=some [.int .i64 x.ba,.string x.tx]) len (fun i hi=>by
      obtain⟨cs',h1,h2⟩:=hx i (by omega);obtain⟨md,e,hz⟩:=Zkk h2;rw [e] at h1;exact⟨md,hz,h1⟩)
     obtain⟨b,off,spot⟩:=a
     have hspot:spot=none:=by
      obtain⟨_,h1⟩:=hall 0 (by omega);have:=(World.cells?_some h1).2.2 0 (by omega);rw [Nat.zero_mul] at this;have e0:((⟨b,off,spot⟩:Addr).add 0).add 0=⟨b,off,spot⟩:=by simp [Addr.add]
      rw [e0] at this
      simpa using World.cell?_spot (by simpa using this)
     subst hspot
     have hcell:∀ i (hi:i < Xl.length),W.cells? 0 ((⟨b,off,none⟩:Addr).add (i*2)) 2=some [.int .i64 Xl[i].ba,.string Xl[i].tx]->ZbX W b (off+i*2) Xl[i]:=fun i hi h1=>by
      obtain⟨_,_,hc⟩:=World.cells?_some h1;rw [add_plain] at hc;have q:=fun j (hj:j < 2)=>(add_plain b (off+i*2) j) ▸ hc j hj
      exact⟨by simpa using q 0 (by omega),by simpa using q 1 (by omega)⟩
     have hbw:b < W.heap.size:=by
      obtain⟨_,h1⟩:=hall 0 (by omega);exact World.block_lt_of_cell? W _ (hcell 0 (by omega) h1).c0
     refine⟨Xl,Or.inr ⟨b,off,m,by rw [hcs,hF],?_,by omega,hbw,Nat.zero_le _,by omega,fun i hi=>?_⟩⟩
     . intro e;rw [e] at hF;simp at hF;omega
     . obtain⟨hz,h1⟩:=hall i hi
       exact⟨hz,hcell i hi h1⟩
end
end Go.Proofs.YtkiefplmnoapfaaGreat
