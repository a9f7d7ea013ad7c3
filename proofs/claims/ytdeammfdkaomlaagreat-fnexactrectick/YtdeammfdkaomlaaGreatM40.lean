import Derived.Test.YtdeammfdkaomlaaGreatM37
set_option maxHeartbeats 16000000
set_option maxRecDepth 100000
open Go.Proofs.Tryz
namespace Go.Proofs.YtdeammfdkaomlaaGreat
open Go.RowKit Go.Deep
theorem Rz.free5 {K:Nat->Prop}{lo:Nat}{w:World}{γ:Nat}{b:Nat->Option Addr}{m:Nat->Nat}{S:Nat->Nat->Prop}{U:Rr} (h:Rz K lo w γ b m S U) (h0:U.be=[]) (h1:b 5=none) (h2:m 5=0) {S5:Nat->Prop} (h5:∀ k,S5 k->S 5 k):Rz (fun k=>K k\/S5 k) lo w γ b m (upd S 5 (fun _=>False)) U:=by
 have hs:∀ i k,upd S 5 (fun _=>False) i k->S i k/\i≠5:=fun i k hk=>by
  by_cases e:i=5
  . subst e;rw [Zam] at hk;exact hk.elim
  . rw [ZaG _ _ e] at hk;exact⟨hk,e⟩
 refine⟨h.box,⟨fun i hi k hS=>h.cp.seg i hi k (hs i k hS).1,fun i j hi hj hne k hS hS'=>h.cp.ap i j hi hj hne k (hs i k hS).1 (hs j k hS').1,h.cp.o0,h.cp.o1,h.cp.o2,h.cp.o3,h.cp.o4,Or.inl ⟨by rw [h1,h2,h0];rfl,h0⟩,h.cp.o6⟩,h.low,fun i hi hS=>h.far i hi (hs i γ hS).1,fun k hk=>?_⟩
 rcases hk with hk | hk
 . exact⟨(h.prot k hk).1,(h.prot k hk).2.1,fun i hi hS=>(h.prot k hk).2.2 i hi (hs i k hS).1⟩
 . have h5k:=h5 k hk
   exact⟨(h.cp.seg 5 (by decide) k h5k).2,fun e=>h.far 5 (by decide) (e ▸ h5k),fun i hi hS=>h.cp.ap i 5 hi (by decide) (hs i k hS).2 k (hs i k hS).1 h5k⟩
theorem Zh9 (KP:Nat->Prop) (lo:Nat) (w:World) (γ ρ:Nat) (U:Rr) (k0:Nat) (h:Wk KP lo w γ ρ U) (hk0:U.dk.kn=(k0:Int)) (hk1:k0<=1000) (hl:U.dk.sl.length<=1000) (hbl:U.be.length<=1000) :
 Calls prog 206 #[.agg (wkC γ ρ)] w fun e w'=>e=.returned (.tuple #[])/\Zag KP w w'/\Wk KP lo w' γ ρ (Zeu (ZdS U) U.be):=by
 have HW:=Zaa h;clear h
 show Calls prog 206 #[.agg #[.pointer (some ⟨γ,0,none⟩),.func (.func 177) #[] #[.pointer (some ⟨ρ,0,none⟩)]]] w _
 go_enter func206,ntmps206
 go_upto_region 1 with fail
 obtain⟨W0,hW0,HA⟩:∃ W0,W0=(w.alloc (.cells #[.pointer (some ⟨γ,0,none⟩),.func (.func 177) #[] #[.pointer (some ⟨ρ,0,none⟩)]] 190))/\Hd (At KP lo w W0 γ ρ 1 U):=
  ⟨_,rfl,HW.o.enter (Zab _ _) (Box.new w _ _ _ rfl) (by simp) (by omega)⟩
 rw [<- hW0];have HB0:Hd (Zw_ w W0):=by unfold Hd;rw [hW0];exact Zab w _
 have hsW:W0.heap.size=w.heap.size+1:=by rw [hW0];simp
 clear hW0;obtain⟨b,m,S,hR⟩:=HA.o.wz;have HR:=Zaa hR;clear hR;have x_0:W0.cell? ⟨w.heap.size,0,none⟩=some (.pointer (some ⟨γ,0,none⟩)):=HA.o.c0;have x15:W0.cell? ⟨γ,15,none⟩=some (.slice (b 5) U.be.length (m 5)):=HR.o.box.cell 15
 go_upto_region 2 with fail
 clear x_0 x15;obtain⟨S5,hS5⟩:∃ S5,S5=S 5:=⟨_,rfl⟩
 have HBW:Hd (NRS rsL 2 W0 S5 (.slice (b 5) U.be.length (m 5)) U.be):=by unfold Hd;rw [hS5];exact HR.o.cp.o5
 have HSL:Hd (∀ k,S5 k->k < w.heap.size/\k≠γ):=fun k hk=>by
  rw [hS5] at hk;have h1:=(HR.o.cp.seg 5 (by decide) k hk).2;have h2:k≠w.heap.size:=fun e=>(HR.o.prot w.heap.size (Or.inr ⟨Nat.le_refl _,by omega⟩)).2.2 5 (by decide) (e ▸ hk)
  exact⟨by omega,fun e=>HR.o.far 5 (by decide) (e ▸ hk)⟩
 have HS5:=Zaa hS5;clear hS5;have x_0:W0.cell? ⟨w.heap.size,0,none⟩=some (.pointer (some ⟨γ,0,none⟩)):=HA.o.c0;have x11:W0.cell? ⟨γ,11,none⟩=some (.bool U.ld):=HR.o.box.cell 11;have x12:W0.cell? ⟨γ,12,none⟩=some (.bool U.ty):=HR.o.box.cell 12;have gf:=HR.o.box.free
 go_region
 clear x_0 x11 x12 gf;obtain⟨W1,hWn⟩:∃ wx_,wx_=((W0.setCell ⟨γ,11,none⟩ (.bool true)).setCell ⟨γ,12,none⟩ (.bool false)).drew:=⟨_,rfl⟩
 rw [<- hWn];have hp0:=HR.o.scal (U':={ U with ld:=true }) (j:=11) (v:=.bool true) (by show 11 < 18;omega) rfl (fun _ h=>⟨h.seg,h.ap,h.o0,h.o1,h.o2,h.o3,h.o4,h.o5,h.o6⟩);have ha0:=HA.o.step hp0.2 ⟨_,_,_,hp0.1⟩;have hp1:=hp0.1.scal (U':={ U with ld:=true,ty:=false }) (j:=12) (v:=.bool false) (by show 12 < 18;omega) rfl (fun _ h=>⟨h.seg,h.ap,h.o0,h.o1,h.o2,h.o3,h.o4,h.o5,h.o6⟩);have ha1:=ha0.step hp1.2 ⟨_,_,_,hp1.1⟩;have ha9:=ha1.on Zb_.drew;have HAn:Hd (At KP lo w W1 γ ρ 1 ({ U with ld:=true,ty:=false })):=by unfold Hd;rw [hWn];exact ha9
 have HKn:Hd (Zag (KN KP w 1) W0 W1):=by unfold Hd;rw [hWn];exact ((hp0.2.trans hp1.2).trans (Zag.below Zb_.drew (ha1.wz.kw)))
 have HTn:Hd (Zad γ (γ+1) W0 W1):=by unfold Hd;rw [hWn];exact (ZeO ((Zck γ 11 _ _).trans (Zck γ 12 _ _)))
 have HRn:Hd (Rz (KN KP w 1) lo W1 γ b m S ({ U with ld:=true,ty:=false })):=by unfold Hd;rw [hWn];exact hp1.1.on Zb_.drew
 clear hWn HA HR hp0 ha0 hp1 ha1 ha9;have HA:=HAn;clear HAn;have HR:=HRn;clear HRn;have HT1:=HTn;clear HTn
 go_upto_region 3 with fail
 have x_0:W1.cell? ⟨w.heap.size,0,none⟩=some (.pointer (some ⟨γ,0,none⟩)):=HA.o.c0;have x14:W1.cell? ⟨γ,14,none⟩=some (.slice (b 4) U.ye.length (m 4)):=HR.o.box.cell 14;have x15:W1.cell? ⟨γ,15,none⟩=some (.slice (b 5) U.be.length (m 5)):=HR.o.box.cell 15;have x16:W1.cell? ⟨γ,16,none⟩=some (.slice (b 6) U.ac.length (m 6)):=HR.o.box.cell 16;have gf:=HR.o.box.free
 go_region
 clear x_0 x14 x15 x16 gf;obtain⟨W2,hWn⟩:∃ wx_,wx_=(((W1.setCell ⟨γ,14,none⟩ (.slice none 0 0)).setCell ⟨γ,15,none⟩ (.slice none 0 0)).setCell ⟨γ,16,none⟩ (.slice none 0 0)).drew:=⟨_,rfl⟩
 rw [<- hWn];have hp0:=HR.o.part4 (L':=[]) (a':=none) (m':=0) (Zaj.refl _ _) (Or.inl ⟨rfl,rfl⟩);have ha0:=HA.o.step hp0.2 ⟨_,_,_,hp0.1⟩;have hp1:=hp0.1.part5 (L':=[]) (a':=none) (m':=0) (Zaj.refl _ _) (Or.inl ⟨rfl,rfl⟩);have ha1:=ha0.step hp1.2 ⟨_,_,_,hp1.1⟩;have hp2:=hp1.1.part6 (L':=[]) (a':=none) (m':=0) (Zaj.refl _ _) (⟨[],Or.inl ⟨rfl,rfl⟩,rfl⟩);have ha2:=ha1.step hp2.2 ⟨_,_,_,hp2.1⟩;have ha9:=ha2.on Zb_.drew;have HAn:Hd (At KP lo w W2 γ ρ 1 (ZdS U)):=by unfold Hd;rw [hWn];exact ha9
 have HKn:Hd (Zag (KN KP w 1) W1 W2):=by unfold Hd;rw [hWn];exact (((hp0.2.trans hp1.2).trans hp2.2).trans (Zag.below Zb_.drew (ha2.wz.kw)))
 have HTn:Hd (Zad γ (γ+1) W1 W2):=by unfold Hd;rw [hWn];exact (ZeO (((Zck γ 14 _ _).trans (Zck γ 15 _ _)).trans (Zck γ 16 _ _)))
 have hr9:Rz (KN KP w 1) lo ((((W1.setCell ⟨γ,14,none⟩ (.slice none 0 0)).setCell ⟨γ,15,none⟩ (.slice none 0 0)).setCell ⟨γ,16,none⟩ (.slice none 0 0)).drew) γ _ _ _ (ZdS U):=hp2.1.on Zb_.drew;rw [<- hWn] at hr9;have HRn:=Zaa hr9;clear hr9;clear hWn HA HR hp0 ha0 hp1 ha1 hp2 ha2 ha9;have HA:=HAn;clear HAn;have HR:=HRn;clear HRn;have HT2:Hd (Zad γ (γ+1) W0 W2):=HT1.o.trans HTn.o;obtain⟨K5,hK5⟩:∃ K5:Nat->Prop,K5=fun k=>KP k\/S5 k:=⟨_,rfl⟩
 have HK5:Hd (∀ k,K5 k↔(KP k\/S5 k)):=fun k=>by rw [hK5]
 clear hK5
 have HA5:Hd (At K5 lo w W2 γ ρ 1 (ZdS U)):=by
  have hf:=HR.o.free5 (S5:=S5) rfl rfl rfl (fun k hk=>by
   rw [HS5.o] at hk;rw [ZaG _ _ (by decide),Zam,ZaG _ _ (by decide)];exact Or.inl hk)
  refine⟨⟨HA.o.kp.os,HA.o.kp.tape,HA.o.kp.output,HA.o.kp.size,fun k hk=>?_⟩,⟨_,_,_,hf.shield Zb_ (fun k hk=>Or.inl ?_)⟩,(HK5.o ρ).2 (Or.inl HA.o.kr),HA.o.rb,HA.o.bx,fun k hk=>?_,HA.o.ps⟩
  . rcases (HK5.o k).1 hk with h | h
    . exact HA.o.kp.block k h
    . exact (HT2.o.block k (by have:=(HSL.o k h).1;omega) (by have:=(HSL.o k h).2;omega)).trans (HB0.o.block k (HSL.o k h).1)
  . rcases hk with hk | hk
    . rcases (HK5.o k).1 hk with h | h
      . exact Or.inl (Or.inl h)
      . exact Or.inr h
    . exact Or.inl (Or.inr hk)
  . rcases (HK5.o k).1 hk with h | h
    . exact HA.o.kw k h
    . exact (HSL.o k h).1
 clear HA HTn HT1;have HA:=HA5;clear HA5;have x7:W2.cell? ⟨γ,7,none⟩=some (.int .i64 (k0:Int)):=by rw [<- hk0];exact HR.o.box.cell 7
 have x_0:W2.cell? ⟨w.heap.size,0,none⟩=some (.pointer (some ⟨γ,0,none⟩)):=HA.o.c0;have HSV:Hd (∀ W,At K5 lo w W γ ρ 1 (ZdS U)->True):=fun _ _=>trivial
 clear HSV;have HKB:Hd (∀ W V,At K5 lo w W γ ρ 1 V->Zag S5 W0 W):=fun W V ha=>⟨ha.kp.os.trans HB0.o.os.symm,ha.kp.tape.trans HB0.o.tape.symm,ha.kp.output.trans HB0.o.output.symm,by have:=ha.sz;omega,fun k hk=>(ha.kp.block k ((HK5.o k).2 (Or.inr hk))).trans (HB0.o.block k (HSL.o k hk).1).symm⟩
 have HLD:Hd (Zeu (ZdS U) U.be=ZbQ (ZdS U) U.be k0 (U.be.length - k0)):=by unfold Hd Zeu;rw [show (ZdS U).dk.kn=(k0:Int) from hk0];rfl
 clear HR hk0;go_wp2;clear x7 x_0;obtain⟨V,hV⟩:∃ V,V=ZdS U:=⟨_,rfl⟩
 have HVB:Hd (V.ba=U.ba/\V.dk.sl.length<=1000):=by unfold Hd;rw [hV];exact⟨rfl,hl⟩
 rw [<- hV] at HA HLD;have HVE:=Zaa hV;clear hV
 go_loopw [3] (fun ix wr=>∃ i:Nat,ix=.int .i64 ((k0+i+1:Nat):Int)/\i<=U.be.length - k0/\At K5 lo w wr γ ρ 1 (ZbQ V U.be k0 i)) (fun ix _=>U.be.length+1 - (intOf ix).toNat)
 case atStart=>exact⟨0,by go_num,by omega,HA.o⟩
 case round=>
  obtain⟨i,rfl,hi,ha⟩:=hrel;clear HA;have HA:=Zaa ha;clear ha
  by_cases hlt:k0+i < U.be.length
  . have d1:decide (((k0+i+1:Nat):Int)<=(U.be.length:Int))=true:=by simp;omega
    obtain⟨sx,hsx⟩:∃ sx,sx=U.be[k0+i]:=⟨_,rfl⟩
    have HST:Hd (ZbQ V U.be k0 (i+1)=ZdA (ZbQ V U.be k0 i) (k0+i+1) ⟨V.ba,sx.tx⟩):=by unfold Hd;rw [ZbQ,List.getElem?_eq_getElem hlt,<- hsx]
    obtain⟨g5,c5,hbv,hf5⟩:∃ g c,(.slice (b 5) U.be.length (m 5):Value)=.slice (some ⟨g,0,none⟩) U.be.length c/\FR rsL 2 wr g (g+1) g c U.be:=by
     rcases HBW.o.kept (HKB.o _ _ HA.o) (fun _ h=>h) with ⟨_,hnil⟩ | ⟨g,_,g',cap,e1,e2⟩
     . rw [hnil] at hlt;simp at hlt
     . exact⟨g',cap,e1,e2.own'⟩
    have yt:wr.cell? ⟨g5,(k0+i)*2+1,none⟩=some (.string sx.tx):=by rw [hsx];exact hf5.get ZaC hlt (t:=1) (by omega) (v:=.string U.be[k0+i].tx) rfl
    injection hbv with hb1 hb2 hb3
    rw [hb1];clear hf5 hb1 hb2 hb3 hsx;obtain⟨b7,m7,S7,hR⟩:=HA.o.wz;have HR:=Zaa hR;clear hR;have x_0:wr.cell? ⟨w.heap.size,0,none⟩=some (.pointer (some ⟨γ,0,none⟩)):=HA.o.c0;have x_1:wr.cell? ⟨w.heap.size,1,none⟩=some (.func (.func 177) #[] #[.pointer (some ⟨ρ,0,none⟩)]):=HA.o.c1;have x13:wr.cell? ⟨γ,13,none⟩=some (.int .i64 V.ba):=by rw [HR.o.box.cell 13];show some (Value.int .i64 (ZbQ V U.be k0 i).ba)=_;rw [Ze0]
    go_upto_region 7 with fail
    clear d1;obtain⟨q,hq⟩:∃ q,q=k0+i:=⟨_,rfl⟩
    obtain⟨q1,hq1⟩:∃ q1,q1=k0+i+1:=⟨_,rfl⟩
    rw [<- hq1];rw [<- hq1] at HST;rw [<- hq] at yt;have w64:IntKind.wrap .i64 ((q1:Int) - 1)=(q:Int):=by rw [IntKind.wrap_i64];omega
    have i0:(0:Int)<=(q:Int):=by omega
    have i1:(q:Int) < (U.be.length:Int):=by omega
    have p1:1<=q1:=by omega
    have p2:q1<=1000:=by omega
    have HQ:=Zaa hq;have HQ1:=Zaa hq1;clear hq hq1;refine Code.wp_mono NoPanic.imp ?_;refine Zan (S:=fun W=>W.cell? ⟨w.heap.size,0,none⟩=some (.pointer (some ⟨γ,0,none⟩))/\W.cell? ⟨w.heap.size,1,none⟩=some (.func (.func 177) #[] #[.pointer (some ⟨ρ,0,none⟩)])/\W.cell? ⟨γ,13,none⟩=some (.int .i64 V.ba)/\W.cell? ⟨g5,q*2+1,none⟩=some (.string sx.tx)) [14] (by kernel_rfl) ⟨x_0,x_1,x13,yt⟩ (fun hHeld=>?_);refine tB 0 (.agg #[.pointer (some ⟨γ,0,none⟩),.func (.func 177) #[] #[.pointer (some ⟨ρ,0,none⟩)]]) [14] rfl hHeld ?_
    try simp only [Act.put,sLs]
    refine tB 1 (.int .i64 (q1:Int)) [14] rfl hHeld ?_
    try simp only [Act.put,sLs]
    refine tB 2 (.pointer (some ⟨w.heap.size,0,none⟩)) [3,4,5,6,13,14] rfl hHeld ?_
    try simp only [Act.put,sLs]
    refine tB 3 (.pointer (some ⟨γ,0,none⟩)) [4,5,6,13,14] rfl hHeld ?_
    try simp only [Act.put,sLs]
    refine tB 4 (.pointer (some ⟨γ,0,none⟩)) [5,6,13,14] rfl hHeld ?_
    try simp only [Act.put,sLs]
    refine tB 5 (.pointer (some ⟨γ,13,none⟩)) [6,13,14] rfl hHeld ?_
    try simp only [Act.put,sLs]
    refine tB 6 (.int .i64 V.ba) [13,14] rfl hHeld ?_
    try simp only [Act.put,sLs]
    refine tB 7 (.slice (some ⟨g5,0,none⟩) U.be.length (m 5)) [10,11,12,13,14] rfl hHeld ?_
    try simp only [Act.put,sLs]
    refine tB 8 (.int .i64 (q1:Int)) [9,10,11,12,13,14] rfl hHeld ?_
    try simp only [Act.put,sLs]
    refine tB 9 (.int .i64 (q:Int)) [10,11,12,13,14] rfl hHeld ?_
    try simp only [Act.put,sLs]
    refine tB 10 (.pointer (some ⟨g5,q*2,none⟩)) [11,12,13,14] rfl hHeld ?_
    try simp only [Act.put,sLs]
    refine tB 11 (.pointer (some ⟨g5,q*2+1,none⟩)) [12,13,14] rfl hHeld ?_
    try simp only [Act.put,sLs]
    refine tB 12 (.string sx.tx) [13,14] rfl hHeld ?_
    try simp only [Act.put,sLs]
    refine tB 13 (.agg #[.int .i64 V.ba,.string sx.tx]) [14] rfl hHeld ?_
    try simp only [Act.put,sLs]
    refine oB 14 rfl (fun K hK=>?_)
    go_simp
    refine (Zjy (KN K5 w 1) lo _ γ ρ (ZbQ V U.be k0 i) q1 ⟨V.ba,sx.tx⟩ (HA.o.wk.on Zb_.drew) p1 p2 (Zef V U.be k0 hbl HVB.o.2 i)).mono ?_;rintro e WX ⟨rfl,hk,hz⟩;clear hHeld;refine hK.out _ _ (fun h=>absurd (by decide) h) (fun _=>?_);clear hK
    try simp only [Act.put,sLs]
    refine Zak (by kernel_rfl) ?_ _;refine NoPanic.normal ?_;have HAn:Hd (At K5 lo w WX γ ρ 1 (ZbQ V U.be k0 (i+1))):=by unfold Hd;rw [HST.o];exact (HA.o.on Zb_.drew).call hk hz
    clear hk hz HA HR x_0 x_1 x13 yt w64 HST;go_wp2;exact⟨⟨i+1,by rw [HQ1.o];go_num,by omega,HAn.o⟩,by rw [HQ1.o];simp [intOf];omega⟩
  . have d1:decide (((k0+i+1:Nat):Int)<=(U.be.length:Int))=false:=by simp;omega
    have hii:i=U.be.length - k0:=by omega
    subst hii;rw [<- HLD.o] at HA;go_wp2
    go_end0
    exact⟨rfl,HA.o.kp.less (fun k h=>(HK5.o k).2 (Or.inl h)),by rw [<- HVE.o];exact HA.o.fin.2.less (fun k h=>(HK5.o k).2 (Or.inl h)) HW.o.kr⟩
theorem Zih (KP:Nat->Prop) (lo:Nat) (w:World) (γ ρ:Nat) (U:Rr) (n:Int) (b0:Nat->Option Addr) (m0:Nat->Nat) (S0:Nat->Nat->Prop) (k0:Nat) (h:Wk KP lo w γ ρ U) (hvk:Rz KP lo w γ b0 m0 S0 U) (hz:RrZ U) (hk0:U.dk.kn=(k0:Int)) (hk1:k0<=1000) (hl:U.dk.sl.length<=1000) (hyl:U.ye.length<=999) (hys:Asc U.ye) (hbl:U.be.length<=1000) :
 Calls prog 193 #[.agg (wkC γ ρ),.int .i64 n,.slice (b0 1) U.dk.sl.length (m0 1)] w fun e w'=>e=.returned (.tuple #[])/\Zag KP w w'/\Wk KP lo w' γ ρ (Zb1 U n U.dk.sl):=by
 obtain⟨a1,ha1⟩:∃ a1,a1=b0 1:=⟨_,rfl⟩
 obtain⟨c1,hc1⟩:∃ c1,c1=m0 1:=⟨_,rfl⟩
 obtain⟨L,hLq⟩:∃ L,L=U.dk.sl:=⟨_,rfl⟩
 have hll:L.length<=1000:=by rw [hLq];exact hl
 rw [<- ha1,<- hc1,<- hLq];have HLQ:=Zaa hLq;clear hLq;have HW:=Zaa h;clear h;have HVK:=Zaa hvk;have HZ:=Zaa hz;have HYS:=Zaa hys;have HK0:=Zaa hk0;clear hvk hz hys hk0
 show Calls prog 193 #[.agg #[.pointer (some ⟨γ,0,none⟩),.func (.func 177) #[] #[.pointer (some ⟨ρ,0,none⟩)]],.int .i64 n,.slice a1 L.length c1] w _
 go_enter func193,ntmps193
 go_upto_region 1 with fail
 obtain⟨W0,hW0,HA⟩:∃ W0,W0=(w.alloc (.cells #[.pointer (some ⟨γ,0,none⟩),.func (.func 177) #[] #[.pointer (some ⟨ρ,0,none⟩)]] 190))/\Hd (At KP lo w W0 γ ρ 1 U):=
  ⟨_,rfl,HW.o.enter (Zab _ _) (Box.new w _ _ _ rfl) (by simp) (by omega)⟩
 rw [<- hW0];obtain⟨b,m,S,hR,hq1,hq2⟩:∃ b m S,Rz (KN KP w 1) lo W0 γ b m S U/\b 1=a1/\m 1=c1:=⟨b0,m0,S0,HVK.o.shield (by rw [hW0];exact Zab _ _) (fun k hk=>hk.imp id fun h=>⟨h.1,by rw [hW0];simp;omega⟩),ha1.symm,hc1.symm⟩
 have HQ:Hd (b 1=a1/\m 1=c1):=⟨hq1,hq2⟩;clear hW0 hq1 hq2 ha1 hc1 HVK;have HR:=Zaa hR;clear hR;have x_0:W0.cell? ⟨w.heap.size,0,none⟩=some (.pointer (some ⟨γ,0,none⟩)):=HA.o.c0;have x14:W0.cell? ⟨γ,14,none⟩=some (.slice (b 4) U.ye.length (m 4)):=HR.o.box.cell 14;refine Code.wp_mono NoPanic.imp ?_;refine Zan (S:=fun W=>W.cell? ⟨w.heap.size,0,none⟩=some (.pointer (some ⟨γ,0,none⟩))/\W.cell? ⟨γ,14,none⟩=some (.slice (b 4) U.ye.length (m 4))) [9,10,11] (by kernel_rfl) ⟨x_0,x14⟩ (fun hHeld=>?_);refine tB 0 (.pointer (some ⟨w.heap.size,0,none⟩)) [1,9,10,11] rfl hHeld ?_
 try simp only [Act.put,List.getElem_toArray,List.getElem_cons_zero,List.setIfInBounds_toArray,List.set_cons_zero,List.set_cons_succ]
 refine tB 1 (.pointer (some ⟨γ,0,none⟩)) [9,10,11] rfl hHeld ?_
 try simp only [Act.put,sLs]
 refine tB 2 (.pointer (some ⟨w.heap.size,0,none⟩)) [3,4,5,6,8,9,10,11] rfl hHeld ?_
 try simp only [Act.put,sLs]
 refine tB 3 (.pointer (some ⟨γ,0,none⟩)) [4,5,6,8,9,10,11] rfl hHeld ?_
 try simp only [Act.put,sLs]
 refine tB 4 (.pointer (some ⟨γ,0,none⟩)) [5,6,8,9,10,11] rfl hHeld ?_
 try simp only [Act.put,sLs]
 refine tB 5 (.pointer (some ⟨γ,14,none⟩)) [6,8,9,10,11] rfl hHeld ?_
 try simp only [Act.put,sLs]
 refine tB 6 (.slice (b 4) U.ye.length (m 4)) [8,9,10,11] rfl hHeld ?_
 try simp only [Act.put,sLs]
 refine tB 7 (.int .i64 n) [8,9,10,11] rfl hHeld ?_
 try simp only [Act.put,sLs]
 refine oB 8 rfl (fun K hK=>?_)
 go_simp
 have hd:Below W0.heap.size W0 W0.drew:=Zb_.drew;refine (ZfI (S 4) _ U.ye n _ (HR.o.on hd).cp.o4 (by omega) HYS.o).mono ?_;rintro e w1 ⟨v',rfl,ht0,hrow0⟩;have ht:Zaj (S 4) W0 w1:=⟨ht0.os,ht0.tape,ht0.output,ht0.size,ht0.block⟩;have hrow:NRS inL 1 w1 (Gr (S 4) W0 w1) v' (ZbD U.ye n):=hrow0;clear ht0 hrow0 hd;obtain⟨a',m',hv'⟩:=hrow.form;subst hv';have HP:=Zaa (HR.o.part4 (L':=ZbD U.ye n) (a':=a') (m':=m') ht hrow);have hkp:Zag (fun k=>k < W0.heap.size/\¬ S 4 k) W0 w1:=Zag.touchS ht fun _ h=>h
 have BG:=Zaa (HR.o.box.kept hkp ⟨HR.o.box.lt,HR.o.far 4 (by decide)⟩);have BX3:=Zaa (HA.o.bx.kept hkp ⟨HA.o.bx.lt,(HR.o.prot _ (Or.inr ⟨by omega,by omega⟩)).2.2 4 (by decide)⟩);have z14:w1.cell? ⟨γ,14,none⟩=some (.slice (b 4) U.ye.length (m 4)):=BG.o.cell 14;have z_0:w1.cell? ⟨w.heap.size,0,none⟩=some (.pointer (some ⟨γ,0,none⟩)):=BX3.o.cell 0;obtain⟨nl,hnl⟩:∃ nl,nl=(ZbD U.ye n).length:=⟨_,rfl⟩
 rw [<- hnl] at HP |-;have HNL:=Zaa hnl;clear hnl hrow ht hkp hHeld;refine hK.out _ _ (fun _=>⟨z_0,z14⟩) (fun _=>?_);clear hK;have gf:=BG.o.free
 try simp only [Act.put,sLs]
 refine oB 9 rfl (fun K hK=>?_)
 go_simp
 refine hK.out _ _ (fun h=>absurd (by decide) h) (fun _=>?_);clear hK K
 try simp only [Act.put,sLs]
 refine oB 10 rfl (fun K hK=>?_)
 go_simp
 refine hK.out _ _ (fun h=>absurd (by decide) h) (fun _=>?_);clear hK K
 try simp only [Act.put,sLs]
 refine oB 11 rfl (fun K hK=>?_)
 go_simp
 refine hK.out _ _ (fun h=>absurd (by decide) h) (fun _=>?_);clear hK K
 try simp only [Act.put,sLs]
 refine Zak (by kernel_rfl) ?_ _;refine NoPanic.normal ?_;obtain⟨w2,hw2⟩:∃ w2,w2=w1.setCell ⟨γ,14,none⟩ (.slice a' nl m'):=⟨_,rfl⟩
 rw [<- hw2] at HP |-;clear hw2 z14 z_0 gf x_0 x14 BG BX3;have HAn:Hd (At KP lo w w2 γ ρ 1 (ZkX U n)):=HA.o.step HP.o.2 ⟨_,_,_,HP.o.1⟩
 have HVL:Hd (Zat 0 w2 (.slice a1 L.length c1) L):=by
  have ho1:=HP.o.1.cp.o1;rw [ZaG _ _ (by decide),ZaG _ _ (by decide),ZaG _ _ (by decide),HQ.o.1,HQ.o.2] at ho1;unfold Hd;rw [HLQ.o];obtain⟨l,u,_,ho⟩:=(show NRS rsL 2 w2 (S 1) (.slice a1 U.dk.sl.length c1) U.dk.sl from ho1).rss HZ.o.z1;exact ho.at.mono Zz_
 clear HQ HLQ;clear HA HR HP;have HA:=HAn;clear HAn
 go_upto_region 2 with fail
 obtain⟨b,m,S,hR⟩:=HA.o.wz;have HR:=Zaa hR;clear hR;have x_0:w2.cell? ⟨w.heap.size,0,none⟩=some (.pointer (some ⟨γ,0,none⟩)):=HA.o.c0;have x15:w2.cell? ⟨γ,15,none⟩=some (.slice (b 5) U.be.length (m 5)):=HR.o.box.cell 15
 have HVB:Hd (Zat 0 w2 (.slice (b 5) U.be.length (m 5)) U.be):=by
  obtain⟨l,u,_,ho⟩:=(show NRS rsL 2 w2 (S 5) (.slice (b 5) U.be.length (m 5)) U.be from HR.o.cp.o5).rss HZ.o.z5;exact ho.at.mono Zz_
 refine Code.wp_mono NoPanic.imp ?_;refine Zan (S:=fun W=>W.cell? ⟨w.heap.size,0,none⟩=some (.pointer (some ⟨γ,0,none⟩))/\W.cell? ⟨γ,15,none⟩=some (.slice (b 5) U.be.length (m 5))) [9,10,11] (by kernel_rfl) ⟨x_0,x15⟩ (fun hHeld=>?_);refine tB 0 (.pointer (some ⟨w.heap.size,0,none⟩)) [1,9,10,11] rfl hHeld ?_
 try simp only [Act.put,List.getElem_toArray,List.getElem_cons_zero,List.setIfInBounds_toArray,List.set_cons_zero,List.set_cons_succ]
 refine tB 1 (.pointer (some ⟨γ,0,none⟩)) [9,10,11] rfl hHeld ?_
 try simp only [Act.put,sLs]
 refine tB 2 (.pointer (some ⟨w.heap.size,0,none⟩)) [3,4,5,6,8,9,10,11] rfl hHeld ?_
 try simp only [Act.put,sLs]
 refine tB 3 (.pointer (some ⟨γ,0,none⟩)) [4,5,6,8,9,10,11] rfl hHeld ?_
 try simp only [Act.put,sLs]
 refine tB 4 (.pointer (some ⟨γ,0,none⟩)) [5,6,8,9,10,11] rfl hHeld ?_
 try simp only [Act.put,sLs]
 refine tB 5 (.pointer (some ⟨γ,15,none⟩)) [6,8,9,10,11] rfl hHeld ?_
 try simp only [Act.put,sLs]
 refine tB 6 (.slice (b 5) U.be.length (m 5)) [8,9,10,11] rfl hHeld ?_
 try simp only [Act.put,sLs]
 refine tB 7 (.slice a1 L.length c1) [8,9,10,11] rfl hHeld ?_
 try simp only [Act.put,sLs]
 refine oB 8 rfl (fun K hK=>?_)
 go_simp
 have hd:Below w2.heap.size w2 w2.drew:=Zb_.drew;refine (Zes 0 _ _ U.be L _ (HVB.o.below hd) (HVL.o.below hd) (by omega) (by omega)).mono ?_;rintro e w3 ⟨v',rfl,hb0,⟨nn,hnn,hrow0⟩,hsz⟩;have hb:Below w2.heap.size w2 w3:=hd.trans hb0;have hnn':w2.heap.size<=nn:=hnn;clear hb0 hd hnn hsz;have hrow:NRS rsL 2 w3 (Gr (S 5) w2 w3) v' (Zas U.be L):=hrow0.set1 (fun k p q=>Or.inr ⟨by omega,q⟩);obtain⟨a',m',hv'⟩:=hrow.form;subst hv';have HP:=Zaa (HR.o.part5 (L':=Zas U.be L) (a':=a') (m':=m') (Zaj.below hb) hrow);have HA3:=Zaa (HA.o.on hb);have HR3:=Zaa (HR.o.on hb);have z15:w3.cell? ⟨γ,15,none⟩=some (.slice (b 5) U.be.length (m 5)):=HR3.o.box.cell 15;obtain⟨nl,hnl⟩:∃ nl,nl=(Zas U.be L).length:=⟨_,rfl⟩
 rw [<- hnl] at HP |-;clear hnl hrow hb hrow0 hHeld;refine hK.out _ _ (fun _=>⟨HA3.o.c0,z15⟩) (fun _=>?_);clear hK;have gf:=HR3.o.box.free
 try simp only [Act.put,sLs]
 refine oB 9 rfl (fun K hK=>?_)
 go_simp
 refine hK.out _ _ (fun h=>absurd (by decide) h) (fun _=>?_);clear hK K
 try simp only [Act.put,sLs]
 refine oB 10 rfl (fun K hK=>?_)
 go_simp
 refine hK.out _ _ (fun h=>absurd (by decide) h) (fun _=>?_);clear hK K
 try simp only [Act.put,sLs]
 refine oB 11 rfl (fun K hK=>?_)
 go_simp
 refine hK.out _ _ (fun h=>absurd (by decide) h) (fun _=>?_);clear hK K
 try simp only [Act.put,sLs]
 refine Zak (by kernel_rfl) ?_ _;refine NoPanic.normal ?_;obtain⟨w4,hw4⟩:∃ w4,w4=w3.setCell ⟨γ,15,none⟩ (.slice a' nl m'):=⟨_,rfl⟩
 rw [<- hw4] at HP |-;clear hw4 z15 gf x_0 x15 HA3 HR3;have HAn:Hd (At KP lo w w4 γ ρ 1 (ZbP U n L)):=HA.o.step HP.o.2 ⟨_,_,_,HP.o.1⟩;clear HA HR HP HVB HVL;have HA:=HAn;clear HAn
 go_upto_region 3 with fail
 obtain⟨b,m,S,hR⟩:=HA.o.wz;have HR:=Zaa hR;clear hR;obtain⟨ny,hny⟩:∃ ny,ny=(ZbD U.ye n).length:=⟨_,rfl⟩
 have HNY:=Zaa hny;have hnyl:ny<=1000:=by have:=ZbU U.ye n;omega
 have x_0:w4.cell? ⟨w.heap.size,0,none⟩=some (.pointer (some ⟨γ,0,none⟩)):=HA.o.c0;have x_1:w4.cell? ⟨w.heap.size,1,none⟩=some (.func (.func 177) #[] #[.pointer (some ⟨ρ,0,none⟩)]):=HA.o.c1;have x14:w4.cell? ⟨γ,14,none⟩=some (.slice (b 4) ny (m 4)):=by rw [hny];exact HR.o.box.cell 14
 clear hny;refine Code.wp_mono NoPanic.imp ?_;refine Zan (S:=fun W=>W.cell? ⟨w.heap.size,0,none⟩=some (.pointer (some ⟨γ,0,none⟩))/\W.cell? ⟨w.heap.size,1,none⟩=some (.func (.func 177) #[] #[.pointer (some ⟨ρ,0,none⟩)])/\W.cell? ⟨γ,14,none⟩=some (.slice (b 4) ny (m 4))) [6] (by kernel_rfl) ⟨x_0,x_1,x14⟩ (fun hHeld=>?_);refine tB 0 (.agg #[.pointer (some ⟨γ,0,none⟩),.func (.func 177) #[] #[.pointer (some ⟨ρ,0,none⟩)]]) [6] rfl hHeld ?_
 try simp only [Act.put,List.getElem_toArray,List.getElem_cons_zero,List.setIfInBounds_toArray,List.set_cons_zero,List.set_cons_succ]
 refine tB 1 (.pointer (some ⟨w.heap.size,0,none⟩)) [2,3,4,5,6] rfl hHeld ?_
 try simp only [Act.put,sLs]
 refine tB 2 (.pointer (some ⟨γ,0,none⟩)) [3,4,5,6] rfl hHeld ?_
 try simp only [Act.put,sLs]
 refine tB 3 (.pointer (some ⟨γ,0,none⟩)) [4,5,6] rfl hHeld ?_
 try simp only [Act.put,sLs]
 refine tB 4 (.pointer (some ⟨γ,14,none⟩)) [5,6] rfl hHeld ?_
 try simp only [Act.put,sLs]
 refine tB 5 (.slice (b 4) ny (m 4)) [6] rfl hHeld ?_
 try simp only [Act.put,sLs]
 refine oB 6 rfl (fun K hK=>?_)
 go_simp
 refine (Zde (KN KP w 1) lo _ γ ρ (ZbP U n L) (b 4) ny (m 4) (HA.o.wk.on Zb_.drew) (by omega)).mono ?_;rintro e w5 ⟨rfl,hb0⟩;have hb:Below w4.heap.size w4 w5:=(Zb_.drew).trans hb0;clear hb0 hHeld;refine hK.out _ _ (fun h=>absurd (by decide) h) (fun _=>?_);clear hK
 try simp only [Act.put,sLs]
 refine Zak (by kernel_rfl) ?_ _;refine NoPanic.normal ?_;clear x_0 x_1 x14;replace HA:=Zaa (HA.o.on hb);clear hb HR
 by_cases hq:(ZbP U n L).of < 2*(ny:Int)
 case neg=>
  have d1:decide ((ZbP U n L).of < 2*(ny:Int))=false:=decide_eq_false hq
  have HE:Hd (Zb1 U n L=ZbP U n L):=by
   unfold Hd Zb1;rw [<- HNY.o,if_pos (by have h:¬ U.of < 2*(ny:Int):=hq;omega)]
  go_wp2
  go_end0
  exact⟨rfl,by rw [HE.o];exact HA.o.fin⟩
 have d1:decide ((ZbP U n L).of < 2*(ny:Int))=true:=decide_eq_true hq
 have HE:Hd (Zb1 U n L=Zeu (ZdS (ZbP U n L)) (ZbP U n L).be):=by
  unfold Hd Zb1;rw [<- HNY.o,if_neg (by have h:U.of < 2*(ny:Int):=hq;omega)]
  rfl
 have x_0:w5.cell? ⟨w.heap.size,0,none⟩=some (.pointer (some ⟨γ,0,none⟩)):=HA.o.c0;have x_1:w5.cell? ⟨w.heap.size,1,none⟩=some (.func (.func 177) #[] #[.pointer (some ⟨ρ,0,none⟩)]):=HA.o.c1
 go_upto_region 4 with fail
 clear d1 hq;go_wp2_with fail;clear x_0 x_1;refine (Zh9 (KN KP w 1) lo _ γ ρ (ZbP U n L) k0 HA.o.wk HK0.o hk1 hl (by show (Zas U.be L).length<=_;rw [Zbv];omega)).mono ?_;rintro e w6 ⟨rfl,hk,hz⟩;have HAn:Hd (At KP lo w w6 γ ρ 1 (Zeu (ZdS (ZbP U n L)) (ZbP U n L).be)):=HA.o.call hk hz;clear hk hz HA;go_wp2
 go_end0
 exact⟨rfl,by rw [HE.o];exact HAn.o.fin⟩
end Go.Proofs.YtdeammfdkaomlaaGreat
