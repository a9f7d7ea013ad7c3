import Derived.Test.YtkiefplmnoapfaaGreatV38
set_option maxHeartbeats 16000000
set_option maxRecDepth 100000
open Go.Proofs.Tryz
namespace Go.Proofs.YtkiefplmnoapfaaGreat
open Go.RowKit Go.Deep
theorem Zd6 (K:Nat->Prop) (lo:Nat) (w:World) (γ ρ:Nat) (U:Rr) (h:Wk K lo w γ ρ U) :
 Calls prog 142 #[.agg (wkC γ ρ)] w fun e w'=>e=.returned (.tuple #[])/\Zag K w w'/\Wk K lo w' γ ρ (ZaB U):=by
 have HW:=Zaa h;clear h
 show Calls prog 142 #[.agg #[.pointer (some ⟨γ,0,none⟩),.func (.func 115) #[] #[.pointer (some ⟨ρ,0,none⟩)]]] w _
 go_enter func142,ntmps142
 go_upto_region 1 with fail
 obtain⟨W0,hW0,HA⟩:∃ W0,W0=(w.alloc (.cells #[.pointer (some ⟨γ,0,none⟩),.func (.func 115) #[] #[.pointer (some ⟨ρ,0,none⟩)]] 123))/\Hd (At K lo w W0 γ ρ 1 U):=
  ⟨_,rfl,HW.o.enter (Zab _ _) (Box.new w _ _ _ rfl) (by simp) (by omega)⟩
 rw [<- hW0];clear hW0;obtain⟨b,m,S,hR⟩:=HA.o.wz;have HR:=Zaa hR;clear hR;have x_0:W0.cell? ⟨w.heap.size,0,none⟩=some (.pointer (some ⟨γ,0,none⟩)):=HA.o.c0;have x11:W0.cell? ⟨γ,11,none⟩=some (.bool U.ld):=HR.o.box.cell 11;have x12:W0.cell? ⟨γ,12,none⟩=some (.bool U.ty):=HR.o.box.cell 12;have x13:W0.cell? ⟨γ,13,none⟩=some (.int .i64 U.ba):=HR.o.box.cell 13;have gf:=HR.o.box.free
 go_region
 clear x_0 x11 x12 x13 gf;obtain⟨W1,hWn⟩:∃ wx_,wx_=(((W0.setCell ⟨γ,11,none⟩ (.bool false)).setCell ⟨γ,12,none⟩ (.bool false)).setCell ⟨γ,13,none⟩ (.int .i64 0)).drew:=⟨_,rfl⟩
 rw [<- hWn];have hp0:=HR.o.scal (U':={ U with ld:=false }) (j:=11) (v:=.bool false) (by show 11 < 18;omega) rfl (fun _ h=>⟨h.seg,h.ap,h.o0,h.o1,h.o2,h.o3,h.o4,h.o5,h.o6⟩);have ha0:=HA.o.step hp0.2 ⟨_,_,_,hp0.1⟩;have hp1:=hp0.1.scal (U':={ U with ld:=false,ty:=false }) (j:=12) (v:=.bool false) (by show 12 < 18;omega) rfl (fun _ h=>⟨h.seg,h.ap,h.o0,h.o1,h.o2,h.o3,h.o4,h.o5,h.o6⟩);have ha1:=ha0.step hp1.2 ⟨_,_,_,hp1.1⟩;have hp2:=hp1.1.scal (U':={ U with ld:=false,ty:=false,ba:=0 }) (j:=13) (v:=.int .i64 0) (by show 13 < 18;omega) rfl (fun _ h=>⟨h.seg,h.ap,h.o0,h.o1,h.o2,h.o3,h.o4,h.o5,h.o6⟩);have ha2:=ha1.step hp2.2 ⟨_,_,_,hp2.1⟩;have ha9:=ha2.on Zb_.drew;have HAn:Hd (At K lo w W1 γ ρ 1 ({ U with ld:=false,ty:=false,ba:=0 })):=by unfold Hd;rw [hWn];exact ha9
 have HKn:Hd (Zag (KN K w 1) W0 W1):=by unfold Hd;rw [hWn];exact (((hp0.2.trans hp1.2).trans hp2.2).trans (Zag.below Zb_.drew (ha2.wz.kw)))
 have HRn:Hd (Rz (KN K w 1) lo W1 γ b m S ({ U with ld:=false,ty:=false,ba:=0 })):=by unfold Hd;rw [hWn];exact hp2.1.on Zb_.drew
 clear hWn HA HR hp0 ha0 hp1 ha1 hp2 ha2 ha9;have HA:=HAn;clear HAn;have HR:=HRn;clear HRn
 go_upto_region 2 with fail
 have x_0:W1.cell? ⟨w.heap.size,0,none⟩=some (.pointer (some ⟨γ,0,none⟩)):=HA.o.c0;have x14:W1.cell? ⟨γ,14,none⟩=some (.slice (b 4) ({ U with ld:=false,ty:=false,ba:=0 }).ye.length (m 4)):=HR.o.box.cell 14;have x15:W1.cell? ⟨γ,15,none⟩=some (.slice (b 5) ({ U with ld:=false,ty:=false,ba:=0 }).be.length (m 5)):=HR.o.box.cell 15;have x16:W1.cell? ⟨γ,16,none⟩=some (.slice (b 6) ({ U with ld:=false,ty:=false,ba:=0 }).ac.length (m 6)):=HR.o.box.cell 16;have gf:=HR.o.box.free
 go_region
 clear x_0 x14 x15 x16 gf;obtain⟨W2,hWn⟩:∃ wx_,wx_=(((W1.setCell ⟨γ,14,none⟩ (.slice none 0 0)).setCell ⟨γ,15,none⟩ (.slice none 0 0)).setCell ⟨γ,16,none⟩ (.slice none 0 0)).drew:=⟨_,rfl⟩
 rw [<- hWn];have hp0:=HR.o.part4 (L':=[]) (a':=none) (m':=0) (Zal.refl _ _) (Or.inl ⟨rfl,rfl⟩);have ha0:=HA.o.step hp0.2 ⟨_,_,_,hp0.1⟩;have hp1:=hp0.1.part5 (L':=[]) (a':=none) (m':=0) (Zal.refl _ _) (Or.inl ⟨rfl,rfl⟩);have ha1:=ha0.step hp1.2 ⟨_,_,_,hp1.1⟩;have hp2:=hp1.1.part6 (L':=[]) (a':=none) (m':=0) (Zal.refl _ _) (⟨[],Or.inl ⟨rfl,rfl⟩,rfl⟩);have ha2:=ha1.step hp2.2 ⟨_,_,_,hp2.1⟩;have ha9:=ha2.on Zb_.drew;have HAn:Hd (At K lo w W2 γ ρ 1 (ZaB U)):=by unfold Hd;rw [hWn];exact ha9
 have HKn:Hd (Zag (KN K w 1) W1 W2):=by unfold Hd;rw [hWn];exact (((hp0.2.trans hp1.2).trans hp2.2).trans (Zag.below Zb_.drew (ha2.wz.kw)))
 clear hWn HA HR hp0 ha0 hp1 ha1 hp2 ha2 ha9;have HA:=HAn;clear HAn;obtain⟨b,m,S,hR⟩:=HA.o.wz;have HR:=Zaa hR;clear hR;go_wp2
 go_end0
 exact⟨rfl,HA.o.fin⟩
theorem Zda (K:Nat->Prop) (lo:Nat) (w:World) (γ ρ:Nat) (U:Rr) (x:Int) (h:Wk K lo w γ ρ U) :
 Calls prog 135 #[.agg (wkC γ ρ),.int .i64 x] w fun e w'=>e=.returned (.tuple #[])/\Zag K w w'/\Wk K lo w' γ ρ (Zam U x):=by
 have HW:=Zaa h;clear h
 show Calls prog 135 #[.agg #[.pointer (some ⟨γ,0,none⟩),.func (.func 115) #[] #[.pointer (some ⟨ρ,0,none⟩)]],.int .i64 x] w _
 go_enter func135,ntmps135
 go_upto_region 1 with fail
 obtain⟨W0,hW0,HA⟩:∃ W0,W0=(w.alloc (.cells #[.pointer (some ⟨γ,0,none⟩),.func (.func 115) #[] #[.pointer (some ⟨ρ,0,none⟩)]] 123))/\Hd (At K lo w W0 γ ρ 1 U):=
  ⟨_,rfl,HW.o.enter (Zab _ _) (Box.new w _ _ _ rfl) (by simp) (by omega)⟩
 rw [<- hW0];clear hW0;obtain⟨b,m,S,hR⟩:=HA.o.wz;have HR:=Zaa hR;clear hR;obtain⟨mx,hmx⟩:∃ mx,mx=max U.dk.pr x:=⟨_,rfl⟩
 have HPR:Hd (prU U x={ U with dk:={ U.dk with pr:=mx } }):=by
  have e:(if U.dk.pr < x then x else U.dk.pr)=mx:=by rw [hmx];split <;> omega
  unfold Hd prU;rw [e]
 have HE:Hd (∀ V:Rr,(if x=U.ba then { U with dk:={ U.dk with pr:=mx } } else ZaB { U with dk:={ U.dk with pr:=mx } })=V->{ V with hd:=0 }=Zam U x):=fun V h=>by rw [<- h,<- HPR.o];rfl
 have HMX:=Zaa hmx;clear hmx;have x_0:W0.cell? ⟨w.heap.size,0,none⟩=some (.pointer (some ⟨γ,0,none⟩)):=HA.o.c0;have x6:W0.cell? ⟨γ,6,none⟩=some (.int .i64 U.dk.pr):=HR.o.box.cell 6;have gf:=HR.o.box.free
 go_region
 clear x_0 x6 gf;rw [<- HMX.o];clear HMX HPR;obtain⟨W1,hWn⟩:∃ wx_,wx_=(W0.setCell ⟨γ,6,none⟩ (.int .i64 mx)).drew:=⟨_,rfl⟩
 rw [<- hWn];have hp0:=HR.o.scal (U':={ U with dk:={ U.dk with pr:=mx } }) (j:=6) (v:=.int .i64 mx) (by show 6 < 18;omega) rfl (fun _ h=>⟨h.seg,h.ap,h.o0,h.o1,h.o2,h.o3,h.o4,h.o5,h.o6⟩);have ha0:=HA.o.step hp0.2 ⟨_,_,_,hp0.1⟩;have ha9:=ha0.on Zb_.drew;have HAn:Hd (At K lo w W1 γ ρ 1 ({ U with dk:={ U.dk with pr:=mx } })):=by unfold Hd;rw [hWn];exact ha9
 have HKn:Hd (Zag (KN K w 1) W0 W1):=by unfold Hd;rw [hWn];exact (hp0.2.trans (Zag.below Zb_.drew (ha0.wz.kw)))
 have HRn:Hd (Rz (KN K w 1) lo W1 γ b m S ({ U with dk:={ U.dk with pr:=mx } })):=by unfold Hd;rw [hWn];exact hp0.1.on Zb_.drew
 clear hWn HA HR hp0 ha0 ha9;have HA:=HAn;clear HAn;have HR:=HRn;clear HRn;have x_0:W1.cell? ⟨w.heap.size,0,none⟩=some (.pointer (some ⟨γ,0,none⟩)):=HA.o.c0;have x13:W1.cell? ⟨γ,13,none⟩=some (.int .i64 U.ba):=HR.o.box.cell 13
 by_cases hx:x=U.ba
 case pos=>
  have d1:(x != U.ba)=false:=by rw [hx];simp
  have HX:=Zaa hx;clear hx
  go_upto_region 4 with fail
  clear x_0 x13 d1;have x_0:W1.cell? ⟨w.heap.size,0,none⟩=some (.pointer (some ⟨γ,0,none⟩)):=HA.o.c0;have x17:W1.cell? ⟨γ,17,none⟩=some (.int .i64 ({ U with dk:={ U.dk with pr:=mx } }).hd):=HR.o.box.cell 17;have gf:=HR.o.box.free;go_wp2_with fail;clear x_0 x17 gf;obtain⟨W2,hWn⟩:∃ wx_,wx_=(W1.setCell ⟨γ,17,none⟩ (.int .i64 0)):=⟨_,rfl⟩
  rw [<- hWn];have hp0:=HR.o.scal (U':={ ({ U with dk:={ U.dk with pr:=mx } }) with hd:=0 }) (j:=17) (v:=.int .i64 0) (by show 17 < 18;omega) rfl (fun _ h=>⟨h.seg,h.ap,h.o0,h.o1,h.o2,h.o3,h.o4,h.o5,h.o6⟩);have ha0:=HA.o.step hp0.2 ⟨_,_,_,hp0.1⟩;have HAn:Hd (At K lo w W2 γ ρ 1 ({ ({ U with dk:={ U.dk with pr:=mx } }) with hd:=0 })):=by unfold Hd;rw [hWn];exact ha0
  have HKn:Hd (Zag (KN K w 1) W1 W2):=by unfold Hd;rw [hWn];exact hp0.2
  have HRn:Hd (Rz (KN K w 1) lo W2 γ b m S ({ ({ U with dk:={ U.dk with pr:=mx } }) with hd:=0 })):=by unfold Hd;rw [hWn];exact hp0.1
  clear hWn HA HR hp0 ha0;have HA:=HAn;clear HAn;have HR:=HRn;clear HRn;have HEQ:Hd ({ ({ U with dk:={ U.dk with pr:=mx } }) with hd:=0 }=Zam U x):=HE.o _ (by rw [if_pos HX.o])
  go_end0
  exact⟨rfl,by rw [<- HEQ.o];exact HA.o.fin⟩
 have d1:(x != U.ba)=true:=by simpa using hx
 have HX:=Zaa hx;clear hx
 go_upto_region 3 with fail
 clear x_0 x13 d1;have x_0:W1.cell? ⟨w.heap.size,0,none⟩=some (.pointer (some ⟨γ,0,none⟩)):=HA.o.c0;have x_1:W1.cell? ⟨w.heap.size,1,none⟩=some (.func (.func 115) #[] #[.pointer (some ⟨ρ,0,none⟩)]):=HA.o.c1;go_wp2_with fail;clear x_0 x_1;refine (Zd6 (KN K w 1) lo _ γ ρ _ HA.o.wk).mono ?_;rintro e W2 ⟨rfl,hk,hz⟩;have HAn:Hd (At K lo w W2 γ ρ 1 (ZaB { U with dk:={ U.dk with pr:=mx } })):=HA.o.call hk hz;clear hk hz HA HR;have HA:=HAn;clear HAn;obtain⟨b,m,S,hR⟩:=HA.o.wz;have HR:=Zaa hR;clear hR
 go_upto_region 4 with fail
 have x_0:W2.cell? ⟨w.heap.size,0,none⟩=some (.pointer (some ⟨γ,0,none⟩)):=HA.o.c0;have x17:W2.cell? ⟨γ,17,none⟩=some (.int .i64 (ZaB { U with dk:={ U.dk with pr:=mx } }).hd):=HR.o.box.cell 17;have gf:=HR.o.box.free;go_wp2_with fail;clear x_0 x17 gf;obtain⟨W3,hWn⟩:∃ wx_,wx_=(W2.setCell ⟨γ,17,none⟩ (.int .i64 0)):=⟨_,rfl⟩
 rw [<- hWn];have hp0:=HR.o.scal (U':={ (ZaB { U with dk:={ U.dk with pr:=mx } }) with hd:=0 }) (j:=17) (v:=.int .i64 0) (by show 17 < 18;omega) rfl (fun _ h=>⟨h.seg,h.ap,h.o0,h.o1,h.o2,h.o3,h.o4,h.o5,h.o6⟩);have ha0:=HA.o.step hp0.2 ⟨_,_,_,hp0.1⟩;have HAn:Hd (At K lo w W3 γ ρ 1 ({ (ZaB { U with dk:={ U.dk with pr:=mx } }) with hd:=0 })):=by unfold Hd;rw [hWn];exact ha0
 have HKn:Hd (Zag (KN K w 1) W2 W3):=by unfold Hd;rw [hWn];exact hp0.2
 have HRn:Hd (Rz (KN K w 1) lo W3 γ b m S ({ (ZaB { U with dk:={ U.dk with pr:=mx } }) with hd:=0 })):=by unfold Hd;rw [hWn];exact hp0.1
 clear hWn HA HR hp0 ha0;have HA:=HAn;clear HAn;have HR:=HRn;clear HRn;have HEQ:Hd ({ (ZaB { U with dk:={ U.dk with pr:=mx } }) with hd:=0 }=Zam U x):=HE.o _ (by rw [if_neg HX.o])
 go_end0
 exact⟨rfl,by rw [<- HEQ.o];exact HA.o.fin⟩
theorem Zds (K:Nat->Prop) (lo:Nat) (w:World) (γ ρ:Nat) (U:Rr) (a1:Option Addr) (n1 k1:Nat) (h:Wk K lo w γ ρ U) (hn:n1<=1000000) :
 Calls prog 154 #[.agg (wkC γ ρ),.slice a1 n1 k1] w fun e w'=>e=.returned (.bool (decide (U.of < 2*(n1:Int))))/\Zw_ w w':=by
 have HW:=Zaa h;clear h
 show Calls prog 154 #[.agg #[.pointer (some ⟨γ,0,none⟩),.func (.func 115) #[] #[.pointer (some ⟨ρ,0,none⟩)]],.slice a1 n1 k1] w _
 go_enter func154,ntmps154
 go_upto_region 1 with fail
 have HB0:∀ o,Hd (Zw_ w (w.alloc o)):=fun o=>Zab w o
 obtain⟨W0,hW0,HA⟩:∃ W0,W0=(w.alloc (.cells #[.pointer (some ⟨γ,0,none⟩),.func (.func 115) #[] #[.pointer (some ⟨ρ,0,none⟩)]] 123))/\Hd (At K lo w W0 γ ρ 1 U):=
  ⟨_,rfl,HW.o.enter (Zab _ _) (Box.new w _ _ _ rfl) (by simp) (by omega)⟩
 rw [<- hW0];have HB:Hd (Zw_ w W0):=by unfold Hd;rw [hW0];exact Zab w _
 clear hW0 HB0;obtain⟨b,m,S,hR⟩:=HA.o.wz;have HR:=Zaa hR;clear hR;have x_0:W0.cell? ⟨w.heap.size,0,none⟩=some (.pointer (some ⟨γ,0,none⟩)):=HA.o.c0;have x1:W0.cell? ⟨γ,1,none⟩=some (.int .i64 U.of):=HR.o.box.cell 1;have j1:(2:Int)*(n1:Int)<=2000000:=by omega
 have j0:(0:Int)<=2*(n1:Int):=by omega
 go_wp2;go_ret;exact⟨rfl,HB.o⟩
def Zgp (L:List Rs) (i y:Int):Bool:=match L[(i - 1).toNat]? with
 | some s=>s.ba == y
 | none=>false
theorem Zc3 (K:Nat->Prop) (lo:Nat) (w:World) (γ ρ:Nat) (U:Rr) (i y:Int) (h:Wk K lo w γ ρ U) (h1:1<=i) (h2:i<=1000000) (hm:U.dk.sl.length<=1000000) :
 Calls prog 140 #[.agg (wkC γ ρ),.int .i64 i,.int .i64 y] w fun e w'=>e=.returned (.bool (Zgp U.dk.sl i y))/\Zw_ w w':=by
 have HW:=Zaa h;clear h
 show Calls prog 140 #[.agg #[.pointer (some ⟨γ,0,none⟩),.func (.func 115) #[] #[.pointer (some ⟨ρ,0,none⟩)]],.int .i64 i,.int .i64 y] w _
 go_enter func140,ntmps140
 go_upto_region 1 with fail
 obtain⟨W0,hW0,HA⟩:∃ W0,W0=(w.alloc (.cells #[.pointer (some ⟨γ,0,none⟩),.func (.func 115) #[] #[.pointer (some ⟨ρ,0,none⟩)]] 123))/\Hd (At K lo w W0 γ ρ 1 U):=
  ⟨_,rfl,HW.o.enter (Zab _ _) (Box.new w _ _ _ rfl) (by simp) (by omega)⟩
 rw [<- hW0];have HB:Hd (Zw_ w W0):=by unfold Hd;rw [hW0];exact Zab w _
 clear hW0;obtain⟨b,m,S,hR⟩:=HA.o.wz;have HR:=Zaa hR;clear hR;have x_0:W0.cell? ⟨w.heap.size,0,none⟩=some (.pointer (some ⟨γ,0,none⟩)):=HA.o.c0;have x8:W0.cell? ⟨γ,8,none⟩=some (.slice (b 1) U.dk.sl.length (m 1)):=HR.o.box.cell 8
 by_cases hi:i<=(U.dk.sl.length:Int)
 case neg=>
  have d1:decide (i<=(U.dk.sl.length:Int))=false:=decide_eq_false hi;have HE:Hd (Zgp U.dk.sl i y=false):=by unfold Hd Zgp;rw [List.getElem?_eq_none (by omega)]
  go_wp2;go_ret;exact⟨by rw [HE.o];rfl,HB.o⟩
 have d1:decide (i<=(U.dk.sl.length:Int))=true:=decide_eq_true hi;have hlt:(i - 1).toNat < U.dk.sl.length:=by omega
 have HE:Hd (Zgp U.dk.sl i y=(U.dk.sl[(i - 1).toNat].ba == y)):=by unfold Hd Zgp;rw [List.getElem?_eq_getElem hlt]
 obtain⟨sx,hsx⟩:∃ sx,sx=U.dk.sl[(i - 1).toNat]:=⟨_,rfl⟩
 rw [<- hsx] at HE
 obtain⟨g,cap,hv,hf⟩:∃ g cap,(.slice (b 1) U.dk.sl.length (m 1):Value)=.slice (some ⟨g,0,none⟩) U.dk.sl.length cap/\FR rsL 2 W0 g (g+1) g cap U.dk.sl:=by
  rcases HR.o.cp.o1 with ⟨_,hnil⟩ | ⟨g,_,g',cap,e1,e2⟩
  . rw [hnil] at hlt;simp at hlt
  . exact⟨g',cap,e1,e2.own'⟩
 have z0:W0.cell? ⟨g,(i.toNat - 1)*2,none⟩=some (.int .i64 sx.ba):=by rw [show i.toNat - 1=(i - 1).toNat by omega];have:=hf.get ZaI hlt (t:=0) (by omega) (v:=.int .i64 U.dk.sl[(i - 1).toNat].ba) rfl;rw [hsx];simpa using this
 rw [hv] at x8;have j0:(0:Int)<=i - 1:=by omega
 have j1:i - 1 < (U.dk.sl.length:Int):=by omega
 have HF:=Zaa hf;clear hf hv hsx hi
 cases qy:(sx.ba == y) with
 | true=>
  go_wp2;go_ret;exact⟨by rw [HE.o,qy];rfl,HB.o⟩
 | false=>
  go_wp2;go_ret;exact⟨by rw [HE.o,qy];rfl,HB.o⟩
theorem ZgH (K:Nat->Prop) (lo:Nat) (w:World) (γ ρ:Nat) (U:Rr) (M:Rm) (a0:Option Addr) (k0:Nat) (h:Wk K lo w γ ρ U) :
 Calls prog 137 #[.agg (wkC γ ρ),.agg (rmL M a0 k0).toArray] w fun e w'=>e=.returned (.bool (decide (0 < M.ba)&&(M.fr != U.nu)))/\Zw_ w w':=by
 have HW:=Zaa h;clear h
 show Calls prog 137 #[.agg #[.pointer (some ⟨γ,0,none⟩),.func (.func 115) #[] #[.pointer (some ⟨ρ,0,none⟩)]],.agg #[.int .i64 M.kd,.int .i64 M.fr,.int .i64 M.tt,.int .i64 M.ba,.int .i64 M.ix,.int .i64 M.kn,.string M.tx,.slice a0 M.sl.length k0]] w _
 go_enter func137,ntmps137
 go_upto_region 1 with fail
 obtain⟨W0,hW0,HA,MB⟩:∃ W0,W0=((w.alloc (.cells #[.pointer (some ⟨γ,0,none⟩),.func (.func 115) #[] #[.pointer (some ⟨ρ,0,none⟩)]] 123)).alloc (.cells #[.int .i64 M.kd,.int .i64 M.fr,.int .i64 M.tt,.int .i64 M.ba,.int .i64 M.ix,.int .i64 M.kn,.string M.tx,.slice a0 M.sl.length k0] 45))/\Hd (At K lo w W0 γ ρ 2 U)/\Hd (Box W0 (w.heap.size+1) #[.int .i64 M.kd,.int .i64 M.fr,.int .i64 M.tt,.int .i64 M.ba,.int .i64 M.ix,.int .i64 M.kn,.string M.tx,.slice a0 M.sl.length k0]):=
  ⟨_,rfl,HW.o.enter (bt (Zab _ _) (Zab _ _)) ((Box.new w _ _ _ rfl).on (Zab _ _)) (by simp) (by omega),(Box.new _ _ _ _ (by simp))⟩
 rw [<- hW0];have HB:Hd (Zw_ w W0):=by unfold Hd;rw [hW0];exact bt (Zab _ _) (Zab _ _)
 clear hW0;obtain⟨b,m,S,hR⟩:=HA.o.wz;have HR:=Zaa hR;clear hR;have x_0:W0.cell? ⟨w.heap.size,0,none⟩=some (.pointer (some ⟨γ,0,none⟩)):=HA.o.c0;have x0:W0.cell? ⟨γ,0,none⟩=some (.int .i64 U.nu):=HR.o.box.cell 0;have y1_3:W0.cell? ⟨w.heap.size+1,3,none⟩=some (.int .i64 M.ba):=MB.o.cell 3;have y1_1:W0.cell? ⟨w.heap.size+1,1,none⟩=some (.int .i64 M.fr):=MB.o.cell 1
 cases q1:decide (0 < M.ba) with
 | false=>
  go_quiet (fail)
  go_wp2;go_ret;exact⟨Zac (by rw [q1];rfl),below_drewN HB.o _⟩
 | true=>
  go_quiet (fail)
  go_wp2;go_ret;exact⟨Zac (by rw [q1];rfl),below_drewN HB.o _⟩
theorem Zg8 (g i vb cap:Nat) (L:List AX) (x:AX) (w:World) (hfr:FR axL 2 w g (g+1) g cap L) (hi:i<=L.length) (hn:L.length<=1000000) (hvb:vb≠g) (hv:Box w vb (axL x).toArray) :
 Calls prog 157 #[.slice (some ⟨g,0,none⟩) L.length cap,.int .i64 i,.slice (some ⟨vb,0,none⟩) 1 1] w fun e w'=>∃ v',e=.returned v'/\Zad g (g+1) w w'/\(ZaK axL 2 w' g (g+1) v' (L.take i ++ [x] ++ L.drop i)\/ZaK axL 2 w' w.heap.size w'.heap.size v' (L.take i ++ [x] ++ L.drop i)):=by
 have HF:=Zaa hfr;have HV:=Zaa hv;have hvlt:=hv.lt;have hglt:=hfr.lt;have hlc:L.length<=cap:=hfr.le;have hcm:=hfr.mx;have HXL:Hd ((Zai axL L).length=L.length*2):=Zaw Zat L;have HONE:Hd (∀ u ∈ axL x,u.oneCell'=true):=fun u hu=>Za3 [x] u (by simpa [Zai] using hu)
 have HFL:Hd ((axL x).length=2):=Zat x
 have HVC:Hd (∀ W:World,W.heap[vb]?=w.heap[vb]?->∀ j u,(axL x)[j]?=some u->W.cell? ((⟨vb,0,none⟩:Addr).add j)=some u):=fun W hW j u hu=>by
  rw [Go.WideShapes.add_plain,Nat.zero_add,World.cell?_of_block (w:=w) (a:=⟨vb,j,none⟩) hW,HV.o.cell j]
  simpa using hu
 clear hfr hv;generalize hRR:L.take i ++ [x] ++ L.drop i=R;have HRR:=Zaa hRR;clear hRR
 by_cases hil:i=L.length
 . subst hil
   have HEN:Hd (R=L ++ [x]):=by unfold Hd;rw [<- HRR.o];simp
   have hii:(L.length:Int)<=L.length:=Int.le_refl _;have hz:¬ ((L.length:Int) < 0):=by omega
   obtain⟨v',w',hrun,ht,hrow⟩:=ZeM Zat (by decide) underlying39 ZaY rfl (w:=w) (lo:=g) (hi':=g+1) (L:=L) (M:=[x]) 39 ⟨g,cap,rfl,HF.o⟩ (some ⟨vb,0,none⟩) 1 1 rfl (fun e=>by cases e) (fun ad e j u hu=>by
    injection e with e
    subst e;exact HVC.o w rfl j u (by simpa [Zai] using hu)) (Za3 _) (by simp;omega) (by decide)
   have HT:=Zaa ht;have HRW:=Zaa hrow;clear ht hrow
   by_cases hcl:cap=L.length
   all_goals
    go_enter func157,ntmps157;go_wp2_with (at_builtin;refine wpList_append_run rfl (.tmp 23) (.tmp 24) 39 rfl rfl rfl hrun ?_);go_ret;refine⟨v',rfl,HT.o,?_⟩;rw [HEN.o];exact HRW.o
 have hlt:i < L.length:=by omega
 obtain⟨i0,hin,hz0,hz1,hz2⟩:=info_parts ZaY;have HI:=Zaa (And.intro hin (And.intro hz0 (And.intro hz1 hz2)));have HSZ:Hd ((prog.info? 105).map (·.size)=some 2):=by unfold Hd;rw [hin];simp [hz1]
 clear hin hz0 hz1 hz2
 have HGC:Hd (∀ W:World,W.heap[g]?=w.heap[g]?->∀ j,j < L.length*2->W.cell? ⟨g,j,none⟩=(Zai axL L)[j]?):=fun W hW j hj=>by
  rw [World.cell?_of_block (w:=w) (a:=⟨g,j,none⟩) hW];obtain⟨u,hu⟩:∃ u,(Zai axL L)[j]?=some u:=⟨_,List.getElem?_eq_getElem (by rw [HXL.o];exact hj)⟩
  rw [hu];have:=HF.o.rg j u hu
  rwa [Nat.zero_add] at this
 have hii:¬ ((i:Int)=(L.length:Int)):=by omega
 have hi1:(i:Int)<=(L.length:Int):=by omega
 have hcapI:(cap:Int)<=9223372036854775807:=by unfold maxLen at hcm;omega
 have hw1:IntKind.wrap .i64 ((L.length:Int)+1)=(L.length:Int)+1:=by rw [IntKind.wrap_i64];omega
 have hw2:IntKind.wrap .i64 ((i:Int)+1)=(i:Int)+1:=by rw [IntKind.wrap_i64];omega
 have hti:((i:Int)+1).toNat=i+1:=by omega
 have htn:((L.length:Int)+1).toNat=L.length+1:=by omega
 have hb1:¬ (cap=i):=by omega
 have hb3:i<=cap:=by omega
 have hdl:((Zai axL L).drop (i*2)).length=(L.length - i)*2:=by rw [List.length_drop,HXL.o,Nat.sub_mul]
 clear hil
 by_cases hroom:L.length+1<=cap
 . have hb4:¬ (cap=i+1):=by omega
   have hb5:i+1<=cap:=by omega
   have hq1:(0:Int)<=(i:Int)+1:=by omega
   have hq2:(i:Int)+1<=(L.length:Int)+1:=by omega
   have hq3:(i:Int)<=(L.length:Int)+1:=by omega
   have hq4:i<=L.length+1:=by omega
   have hb6:(L.length:Int)+1<=(cap:Int):=by omega
   have hb7:i<=L.length:=by omega
   have hb8:¬ ((cap:Int) < (L.length:Int)+1):=by omega
   obtain⟨tA,kA,hsa,-⟩:=Zd0 (w:=w) (g:=vb) (j:=0) (by rw [HV.o.cell 0];simp [HFL.o]);obtain⟨tB,kB,hsb,hkB⟩:=Zd0 (HF.o.th 0 (by omega))
   have hov:∀ o lb cb,(callFunc 165 #[.slice (some ⟨vb,0,none⟩) 1 1,.slice (some ⟨g,o,none⟩) lb cb]).run prog w=.ok (.value (.bool false)) w:=fun o lb cb=>by
    rw [run_callFunc_extern func165 (by kernel_rfl) (by kernel_rfl) (by kernel_rfl) (e:=Extern.SlicesOverlaps.overlaps #[39,39] #[4]) (by kernel_rfl),
     Lib.run_overlaps_apart w 39 4 105 underlying39 2 (fun w=>by simp [sizeOf,typeInfo,HI.o.1,HI.o.2.2.1]) ⟨vb,0,none⟩ ⟨g,o,none⟩ 1 1 lb cb hvb tA tB kA kB hsa hsb hkB (HV.o.free 0) (HV.o.free _)]
    rfl
   have hcp1:∀ ty dc sc,(Builtin.copy_ #[39,39] ty #[.slice (some ⟨g,(i+1)*2,none⟩) (L.length - i) dc,.slice (some ⟨g,i*2,none⟩) (L.length+1 - i) sc]).run prog w.drew=.ok (goInt (L.length - i:Nat)) (w.drew.setCells g ((i+1)*2) ((Zai axL L).drop (i*2))):=fun ty dc sc=>
    ZaZ w.drew _ _ ty 105 2 g ((i+1)*2) _ dc ⟨g,i*2,none⟩ _ sc (L.length - i) _ underlying39 HSZ.o (by show min _ _=_;omega) hdl (fun j u hj=>by
     rw [Go.WideShapes.add_plain,HGC.o w.drew rfl _ (by have:=(List.getElem?_eq_some_iff.1 hj).1;rw [hdl] at this;omega)];rw [List.getElem?_drop] at hj
     simpa using hj) (fun j hj=>HF.o.th _ (by rw [hdl] at hj;omega)) (fun j=>HF.o.fz j) (fun u hu=>Za3 _ u (List.mem_of_mem_drop hu))
   obtain⟨W1,hW1⟩:∃ W1,W1=w.drew.setCells g ((i+1)*2) ((Zai axL L).drop (i*2)):=⟨_,rfl⟩
   have hF1:∀ j,(W1.cell? ⟨g,j,none⟩).isSome=(w.cell? ⟨g,j,none⟩).isSome\/(W1.cell? ⟨g,j,none⟩).isSome=true:=fun j=>by
    cases hq:(w.cell? ⟨g,j,none⟩).isSome with
    | true=>exact Or.inr (by rw [hW1];exact ZbF (W:=w.drew) _ _ (fun t ht=>HF.o.th _ (by rw [hdl] at ht;omega)) hq)
    | false=>
     by_cases q:(i+1)*2<=j/\j < (i+1)*2+((Zai axL L).drop (i*2)).length
     . have:=HF.o.th j (by have:=q.2;rw [hdl] at this;omega)
       rw [hq] at this
       cases this
     . exact Or.inl (by rw [hW1,Zbu (by omega)];exact hq)
   have hT1:Zad g (g+1) w W1:=by rw [hW1];exact Zad.drewL (Zad.sets ⟨Nat.le_refl _,Nat.lt_succ_self _⟩ _ _ _)
   have hcp2:∀ ty dc,(Builtin.copy_ #[39,39] ty #[.slice (some ⟨g,i*2,none⟩) (L.length+1 - i) dc,.slice (some ⟨vb,0,none⟩) 1 1]).run prog W1=.ok (goInt (1:Nat)) (W1.setCells g (i*2) (axL x)):=fun ty dc=>
    ZaZ W1 _ _ ty 105 2 g (i*2) _ dc ⟨vb,0,none⟩ 1 1 1 _ underlying39 HSZ.o (by show min _ _=_;omega) (by rw [HFL.o]) (HVC.o W1 (hT1.block vb hvlt (by omega))) (fun j hj=>by
     have hth:=HF.o.th (i*2+j) (by rw [HFL.o] at hj;omega)
     rcases hF1 (i*2+j) with q | q
     . rw [q];exact hth
     . exact q) (fun j=>by rw [hW1,World.frozen?_setCells];exact HF.o.fz j) HONE.o
   rw [<- hW1] at hcp1;obtain⟨W2,hW2⟩:∃ W2,W2=W1.setCells g (i*2) (axL x):=⟨_,rfl⟩
   have HR2:Hd (FR axL 2 (W1.setCells g (i*2) (axL x)) g (g+1) g cap R):=by
    unfold Hd;rw [hW1,<- HRR.o];have hd:FR axL 2 w.drew g (g+1) g cap L:=⟨HF.o.bs,HF.o.up,HF.o.lt,HF.o.le,HF.o.mx,HF.o.th,HF.o.fz,HF.o.rg⟩;exact hd.insIn Zat hlt hroom x (by omega) (by omega)
   have HT2:Hd (Zad g (g+1) w (W1.setCells g (i*2) (axL x))):=hT1.trans (Zad.sets ⟨Nat.le_refl _,Nat.lt_succ_self _⟩ _ _ _);have HLN:Hd (R.length=L.length+1):=by unfold Hd;rw [<- HRR.o];simp;omega
   rw [<- hW2] at hcp2 HR2 HT2;clear hW2;clear hW1 hF1 hT1 hdl hsa hsb;go_enter func157,ntmps157;go_wp2_with (simp only [hov]);clear hov
   go_region_law (refine step_copy_runF rfl (.tmp 73) (.tmp 76) 39 39 rfl _ _ (by simp [Act.eval,Act.put]) (by simp [Act.eval,Act.put]) (hcp1 _ _ _) ?_)
   clear hcp1;go_wp2_with (simp only [hcp2]);clear hcp2;go_ret;exact⟨_,rfl,HT2.o,Or.inl ⟨g,cap,by rw [HLN.o];rfl,HR2.o⟩⟩
 . have hgr:cap < i+(L.length+1 - i):=by omega
   have hb8:(cap:Int) < (L.length:Int)+1:=by omega
   have hw3:IntKind.wrap .i64 ((L.length:Int)+1 - (i:Int))=((L.length+1 - i:Nat):Int):=by rw [IntKind.wrap_i64];omega
   have hie:i+(L.length+1 - i)=L.length+1:=by omega
   have hap:=fun ty=>ZbV (P:=prog) w 39 3 ty 105 i0 (.agg #[.int .i64 0,.slice none 0 0]) .i64 .i64 underlying39 underlying3 HI.o.1 HI.o.2.1 ⟨g,0,none⟩ i cap (L.length+1 - i) ((Zai axL L).take (i*2)) (by rw [List.length_take,HXL.o,HI.o.2.2.1];omega) (fun j u hj=>by
    rw [List.getElem?_take] at hj
    split at hj
    . rw [Go.WideShapes.add_plain,Nat.zero_add,HGC.o w rfl _ (by omega)]
      exact hj
    . cases hj) (by omega) (by rw [HI.o.2.2.1];omega) hgr (by omega) (growslice_fits hgr (by rw [HI.o.2.2.2];omega)) (by rw [HI.o.2.2.2];omega)
   rw [hie] at hap;have hcg:=grownCap_ge w (L.length+1) cap 105;have hcx:=grownCap_le_maxLen w (L.length+1) cap 105 (by unfold maxLen;omega);generalize grownCap w (L.length+1) cap 105=cap1 at hap hcg hcx;have hzc:∀ n,(Builtin.zeroCells (.agg #[.int .i64 0,.slice none 0 0]:Value).cells n).size=n*2:=fun n=>size_zeroCells _ n
   obtain⟨C0,hC0⟩:∃ C0:List Value,C0=(((Zai axL L).take (i*2)).toArray ++ Builtin.zeroCells (.agg #[.int .i64 0,.slice none 0 0]:Value).cells (L.length+1 - i) ++ Builtin.zeroCells (.agg #[.int .i64 0,.slice none 0 0]:Value).cells (cap1 - (L.length+1))).toList:=⟨_,rfl⟩
   have hC0l:C0.length=cap1*2:=by
    rw [hC0,Array.length_toList];simp only [Array.size_append,List.size_toArray,hzc,List.length_take,HXL.o]
    omega
   have hC0t:C0.take (i*2)=(Zai axL L).take (i*2):=by
    rw [hC0];simp only [Array.toList_append,List.append_assoc];refine (List.take_append_of_le_length ?_).trans (List.take_of_length_le ?_)
    . simp only [List.length_take,HXL.o];omega
    . simp only [List.length_take];omega
   have hC0a:((Zai axL L).take (i*2)).toArray ++ Builtin.zeroCells (.agg #[.int .i64 0,.slice none 0 0]:Value).cells (L.length+1 - i) ++ Builtin.zeroCells (.agg #[.int .i64 0,.slice none 0 0]:Value).cells (cap1 - (L.length+1))=C0.toArray:=by rw [hC0]
   rw [hC0a] at hap;obtain⟨W0,hW0⟩:∃ W0,W0=w.drew.alloc (.cells C0.toArray 105):=⟨_,rfl⟩
   rw [<- hW0] at hap;have hB0:Box W0 w.heap.size C0.toArray:=by rw [hW0];exact Box.new w.drew _ _ _ rfl
   have hb0:Zw_ w W0:=by rw [hW0];exact (Zb_.drew).trans (Zab w.drew _)
   have hth0:∀ j,j < cap1*2->(W0.cell? ⟨w.heap.size,j,none⟩).isSome=true:=fun j hj=>by rw [hB0.cell j,List.getElem?_toArray,List.getElem?_eq_getElem (by rw [hC0l];exact hj)];rfl
   have hsW:w.heap.size < W0.heap.size:=hB0.lt
   have hcp2:∀ ty dc,(Builtin.copy_ #[39,39] ty #[.slice (some ⟨w.heap.size,i*2,none⟩) (L.length+1 - i) dc,.slice (some ⟨vb,0,none⟩) 1 1]).run prog W0=.ok (goInt (1:Nat)) (W0.setCells w.heap.size (i*2) (axL x)):=fun ty dc=>
    ZaZ W0 _ _ ty 105 2 w.heap.size (i*2) _ dc ⟨vb,0,none⟩ 1 1 1 _ underlying39 HSZ.o (by show min _ _=_;omega) (by rw [HFL.o]) (HVC.o W0 (hb0.block vb hvlt)) (fun j hj=>hth0 _ (by rw [HFL.o] at hj;omega)) (fun j=>hB0.free j) HONE.o
   obtain⟨W1,hW1⟩:∃ W1,W1=W0.setCells w.heap.size (i*2) (axL x):=⟨_,rfl⟩
   have hT1:Zad w.heap.size (w.heap.size+1) W0 W1:=by rw [hW1];exact Zad.sets ⟨Nat.le_refl _,Nat.lt_succ_self _⟩ _ _ _
   have hb1':Zw_ w W1:=hb0.trans (hT1.under (by omega))
   have hcp1:∀ ty dc sc,(Builtin.copy_ #[39,39] ty #[.slice (some ⟨w.heap.size,(i+1)*2,none⟩) (L.length - i) dc,.slice (some ⟨g,i*2,none⟩) (L.length - i) sc]).run prog W1.drew=.ok (goInt (L.length - i:Nat)) (W1.drew.setCells w.heap.size ((i+1)*2) ((Zai axL L).drop (i*2))):=fun ty dc sc=>
    ZaZ W1.drew _ _ ty 105 2 w.heap.size ((i+1)*2) _ dc ⟨g,i*2,none⟩ _ sc (L.length - i) _ underlying39 HSZ.o (by show min _ _=_;omega) hdl (fun j u hj=>by
     rw [Go.WideShapes.add_plain,HGC.o W1.drew (hb1'.block g hglt) _ (by have:=(List.getElem?_eq_some_iff.1 hj).1;rw [hdl] at this;omega)];rw [List.getElem?_drop] at hj
     simpa using hj) (fun j hj=>by
     show (W1.cell? _).isSome=true
     rw [hW1];exact ZbF _ _ (fun t ht=>hth0 _ (by rw [HFL.o] at ht;omega)) (hth0 _ (by rw [hdl] at hj;omega))) (fun j=>by
     show W1.frozen? _=false
     rw [hW1,World.frozen?_setCells];exact hB0.free j) (fun u hu=>Za3 _ u (List.mem_of_mem_drop hu))
   have HR2:Hd (FR axL 2 (W1.drew.setCells w.heap.size ((i+1)*2) ((Zai axL L).drop (i*2))) w.heap.size (w.heap.size+1) w.heap.size cap1 R):=by
    unfold Hd;rw [hW1,<- HRR.o]
    exact FR.insNew Zat hsW hth0 hB0.free hcx hlt hcg x (fun j hj=>by
     rw [hB0.cell j,List.getElem?_toArray];have:=congrArg (fun l=>l[j]?) hC0t;simp only [List.getElem?_take,if_pos hj] at this;exact this) (by omega) (by omega)
   rw [<- hW1] at hcp2;obtain⟨W2,hW2⟩:∃ W2,W2=W1.drew.setCells w.heap.size ((i+1)*2) ((Zai axL L).drop (i*2)):=⟨_,rfl⟩
   have HB2:Hd (Zw_ w (W1.drew.setCells w.heap.size ((i+1)*2) ((Zai axL L).drop (i*2)))):=Below.sets Zl_ _ _ hb1'.drew;rw [<- hW2] at hcp1 HR2 HB2;clear hW2;have HLN:Hd (R.length=L.length+1):=by unfold Hd;rw [<- HRR.o];simp;omega
   have hb9:¬ (cap1=i):=by omega
   have hq1:(0:Int)<=(i:Int)+1:=by omega
   have hq2:(i:Int)+1<=(L.length:Int)+1:=by omega
   have hq3:(i:Int)<=(L.length:Int)+1:=by omega
   have hq4:i<=L.length+1:=by omega
   have hb10:¬ (cap1=i+1):=by omega
   have hb11:i+1<=cap1:=by omega
   clear hC0 hC0l hC0t hC0a hW0 hB0 hb0 hth0 hT1 hb1' hW1 hdl hzc;go_enter func157,ntmps157
   go_wp2_with (at_builtin;first
    | (refine Lib.wpList_append_run _ rfl (.tmp 34) (.tmp 39) 39 3 rfl _ _ rfl rfl _ _ (hap _) ?_)
    | (refine wpList_copy_runF _ rfl (.tmp 43) (.tmp 44) 39 39 rfl _ _ rfl rfl (hcp2 _ _) ?_))
   go_region_law (refine step_copy_runF rfl (.tmp 50) (.tmp 53) 39 39 rfl _ _ (by simp [Act.eval,Act.put]) (by simp [Act.eval,Act.put]) (hcp1 _ _ _) ?_)
   clear hcp1 hcp2 hap;go_wp2;go_ret;refine⟨_,rfl,⟨HB2.o.os,HB2.o.tape,HB2.o.output,HB2.o.size,fun j hj _=>HB2.o.block j hj⟩,Or.inr ⟨w.heap.size,cap1,by rw [HLN.o];rfl,?_⟩⟩;have hR2:=HR2.o;exact⟨Nat.le_refl _,hR2.lt,hR2.lt,hR2.le,hR2.mx,hR2.th,hR2.fz,hR2.rg⟩
theorem Zg9 (vb:Nat) (x:AX) (w:World) (hv:Box w vb (axL x).toArray) :
 Calls prog 157 #[.slice none 0 0,.int .i64 0,.slice (some ⟨vb,0,none⟩) 1 1] w fun e w'=>∃ v',e=.returned v'/\Zw_ w w'/\ZaK axL 2 w' w.heap.size w'.heap.size v' [x]:=by
 have HV:=Zaa hv
 obtain⟨v',w',hrun,ht,hrow⟩:=Zem Zat (by decide) underlying39 ZaY rfl (w:=w) (M:=[x]) 39 (ZaE.nil axL 2 w w.heap.size w.heap.size) (some ⟨vb,0,none⟩) 1 1 rfl (fun e=>by cases e) (fun ad e j u hu=>by
  injection e with e
  subst e;rw [Go.WideShapes.add_plain,Nat.zero_add,HV.o.cell j]
  simpa [Zai] using hu) (Za3 _) (by simp) (by decide)
 have HB:Hd (Zw_ w w'):=ht.none Zl_;have HRW:=Zaa hrow;clear ht hrow hv;go_enter func157,ntmps157;go_wp2_with (at_builtin;refine wpList_append_run rfl (.tmp 23) (.tmp 24) 39 rfl rfl rfl hrun ?_);go_ret;refine⟨v',rfl,HB.o,?_⟩;have h2:=HRW.o;rw [List.nil_append] at h2
 rcases h2 with (⟨_,h3⟩ | h3)|(⟨_,h3⟩ | h3)
 . cases h3
 . obtain⟨g,cap,_,h4⟩:=h3
   have:=h4.bs;have:=h4.up
   omega
 . cases h3
 . exact h3
end Go.Proofs.YtkiefplmnoapfaaGreat
