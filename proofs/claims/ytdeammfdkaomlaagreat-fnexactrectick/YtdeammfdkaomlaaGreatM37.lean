import Derived.Test.YtdeammfdkaomlaaGreatM32
import Derived.Test.YtdeammfdkaomlaaGreatM35
import Derived.Test.YtdeammfdkaomlaaGreatM36
set_option maxHeartbeats 16000000
set_option maxRecDepth 100000
open Go.Proofs.Tryz
namespace Go.Proofs.YtdeammfdkaomlaaGreat
open Go.RowKit Go.Deep
theorem ZhK (K:Nat->Prop) (lo:Nat) (w:World) (γ ρ:Nat) (U:Rr) (h:Wk K lo w γ ρ U) :
 Calls prog 197 #[.agg (wkC γ ρ)] w fun e w'=>e=.returned (.tuple #[])/\Zag K w w'/\Wk K lo w' γ ρ (Za7 U):=by
 have HW:=Zaa h;clear h
 show Calls prog 197 #[.agg #[.pointer (some ⟨γ,0,none⟩),.func (.func 177) #[] #[.pointer (some ⟨ρ,0,none⟩)]]] w _
 go_enter func197,ntmps197
 go_upto_region 1 with fail
 obtain⟨W0,hW0,HA⟩:∃ W0,W0=(w.alloc (.cells #[.pointer (some ⟨γ,0,none⟩),.func (.func 177) #[] #[.pointer (some ⟨ρ,0,none⟩)]] 190))/\Hd (At K lo w W0 γ ρ 1 U):=
  ⟨_,rfl,HW.o.enter (Zab _ _) (Box.new w _ _ _ rfl) (by simp) (by omega)⟩
 rw [<- hW0];clear hW0;obtain⟨b,m,S,hR⟩:=HA.o.wz;have HR:=Zaa hR;clear hR;have x_0:W0.cell? ⟨w.heap.size,0,none⟩=some (.pointer (some ⟨γ,0,none⟩)):=HA.o.c0;have x11:W0.cell? ⟨γ,11,none⟩=some (.bool U.ld):=HR.o.box.cell 11;have x12:W0.cell? ⟨γ,12,none⟩=some (.bool U.ty):=HR.o.box.cell 12;have x13:W0.cell? ⟨γ,13,none⟩=some (.int .i64 U.ba):=HR.o.box.cell 13;have gf:=HR.o.box.free
 go_region
 clear x_0 x11 x12 x13 gf;obtain⟨W1,hWn⟩:∃ wx_,wx_=(((W0.setCell ⟨γ,11,none⟩ (.bool false)).setCell ⟨γ,12,none⟩ (.bool false)).setCell ⟨γ,13,none⟩ (.int .i64 0)).drew:=⟨_,rfl⟩
 rw [<- hWn];have hp0:=HR.o.scal (U':={ U with ld:=false }) (j:=11) (v:=.bool false) (by show 11 < 18;omega) rfl (fun _ h=>⟨h.seg,h.ap,h.o0,h.o1,h.o2,h.o3,h.o4,h.o5,h.o6⟩);have ha0:=HA.o.step hp0.2 ⟨_,_,_,hp0.1⟩;have hp1:=hp0.1.scal (U':={ U with ld:=false,ty:=false }) (j:=12) (v:=.bool false) (by show 12 < 18;omega) rfl (fun _ h=>⟨h.seg,h.ap,h.o0,h.o1,h.o2,h.o3,h.o4,h.o5,h.o6⟩);have ha1:=ha0.step hp1.2 ⟨_,_,_,hp1.1⟩;have hp2:=hp1.1.scal (U':={ U with ld:=false,ty:=false,ba:=0 }) (j:=13) (v:=.int .i64 0) (by show 13 < 18;omega) rfl (fun _ h=>⟨h.seg,h.ap,h.o0,h.o1,h.o2,h.o3,h.o4,h.o5,h.o6⟩);have ha2:=ha1.step hp2.2 ⟨_,_,_,hp2.1⟩;have ha9:=ha2.on Zb_.drew;have HAn:Hd (At K lo w W1 γ ρ 1 ({ U with ld:=false,ty:=false,ba:=0 })):=by unfold Hd;rw [hWn];exact ha9
 have HKn:Hd (Zag (KN K w 1) W0 W1):=by unfold Hd;rw [hWn];exact (((hp0.2.trans hp1.2).trans hp2.2).trans (Zag.below Zb_.drew (ha2.wz.kw)))
 have HRn:Hd (Rz (KN K w 1) lo W1 γ b m S ({ U with ld:=false,ty:=false,ba:=0 })):=by unfold Hd;rw [hWn];exact hp2.1.on Zb_.drew
 clear hWn HA HR hp0 ha0 hp1 ha1 hp2 ha2 ha9;have HA:=HAn;clear HAn;have HR:=HRn;clear HRn
 go_upto_region 2 with fail
 have x_0:W1.cell? ⟨w.heap.size,0,none⟩=some (.pointer (some ⟨γ,0,none⟩)):=HA.o.c0;have x14:W1.cell? ⟨γ,14,none⟩=some (.slice (b 4) ({ U with ld:=false,ty:=false,ba:=0 }).ye.length (m 4)):=HR.o.box.cell 14;have x15:W1.cell? ⟨γ,15,none⟩=some (.slice (b 5) ({ U with ld:=false,ty:=false,ba:=0 }).be.length (m 5)):=HR.o.box.cell 15;have x16:W1.cell? ⟨γ,16,none⟩=some (.slice (b 6) ({ U with ld:=false,ty:=false,ba:=0 }).ac.length (m 6)):=HR.o.box.cell 16;have gf:=HR.o.box.free
 go_region
 clear x_0 x14 x15 x16 gf;obtain⟨W2,hWn⟩:∃ wx_,wx_=(((W1.setCell ⟨γ,14,none⟩ (.slice none 0 0)).setCell ⟨γ,15,none⟩ (.slice none 0 0)).setCell ⟨γ,16,none⟩ (.slice none 0 0)).drew:=⟨_,rfl⟩
 rw [<- hWn];have hp0:=HR.o.part4 (L':=[]) (a':=none) (m':=0) (Zaj.refl _ _) (Or.inl ⟨rfl,rfl⟩);have ha0:=HA.o.step hp0.2 ⟨_,_,_,hp0.1⟩;have hp1:=hp0.1.part5 (L':=[]) (a':=none) (m':=0) (Zaj.refl _ _) (Or.inl ⟨rfl,rfl⟩);have ha1:=ha0.step hp1.2 ⟨_,_,_,hp1.1⟩;have hp2:=hp1.1.part6 (L':=[]) (a':=none) (m':=0) (Zaj.refl _ _) (⟨[],Or.inl ⟨rfl,rfl⟩,rfl⟩);have ha2:=ha1.step hp2.2 ⟨_,_,_,hp2.1⟩;have ha9:=ha2.on Zb_.drew;have HAn:Hd (At K lo w W2 γ ρ 1 (Za7 U)):=by unfold Hd;rw [hWn];exact ha9
 have HKn:Hd (Zag (KN K w 1) W1 W2):=by unfold Hd;rw [hWn];exact (((hp0.2.trans hp1.2).trans hp2.2).trans (Zag.below Zb_.drew (ha2.wz.kw)))
 clear hWn HA HR hp0 ha0 hp1 ha1 hp2 ha2 ha9;have HA:=HAn;clear HAn;obtain⟨b,m,S,hR⟩:=HA.o.wz;have HR:=Zaa hR;clear hR;go_wp2
 go_end0
 exact⟨rfl,HA.o.fin⟩
theorem Zde (K:Nat->Prop) (lo:Nat) (w:World) (γ ρ:Nat) (U:Rr) (a1:Option Addr) (n1 k1:Nat) (h:Wk K lo w γ ρ U) (hn:n1<=1000000) :
 Calls prog 205 #[.agg (wkC γ ρ),.slice a1 n1 k1] w fun e w'=>e=.returned (.bool (decide (U.of < 2*(n1:Int))))/\Zw_ w w':=by
 have HW:=Zaa h;clear h
 show Calls prog 205 #[.agg #[.pointer (some ⟨γ,0,none⟩),.func (.func 177) #[] #[.pointer (some ⟨ρ,0,none⟩)]],.slice a1 n1 k1] w _
 go_enter func205,ntmps205
 go_upto_region 1 with fail
 have HB0:∀ o,Hd (Zw_ w (w.alloc o)):=fun o=>Zab w o
 obtain⟨W0,hW0,HA⟩:∃ W0,W0=(w.alloc (.cells #[.pointer (some ⟨γ,0,none⟩),.func (.func 177) #[] #[.pointer (some ⟨ρ,0,none⟩)]] 190))/\Hd (At K lo w W0 γ ρ 1 U):=
  ⟨_,rfl,HW.o.enter (Zab _ _) (Box.new w _ _ _ rfl) (by simp) (by omega)⟩
 rw [<- hW0];have HB:Hd (Zw_ w W0):=by unfold Hd;rw [hW0];exact Zab w _
 clear hW0 HB0;obtain⟨b,m,S,hR⟩:=HA.o.wz;have HR:=Zaa hR;clear hR;have x_0:W0.cell? ⟨w.heap.size,0,none⟩=some (.pointer (some ⟨γ,0,none⟩)):=HA.o.c0;have x1:W0.cell? ⟨γ,1,none⟩=some (.int .i64 U.of):=HR.o.box.cell 1;have j1:(2:Int)*(n1:Int)<=2000000:=by omega
 have j0:(0:Int)<=2*(n1:Int):=by omega
 go_wp2;go_ret;exact⟨rfl,HB.o⟩
def Zj1 (L:List Rs) (i y:Int):Bool:=match L[(i - 1).toNat]? with
 | some s=>s.ba == y
 | none=>false
theorem ZeL (K:Nat->Prop) (lo:Nat) (w:World) (γ ρ:Nat) (U:Rr) (i y:Int) (h:Wk K lo w γ ρ U) (h1:1<=i) (h2:i<=1000000) (hm:U.dk.sl.length<=1000000) :
 Calls prog 218 #[.agg (wkC γ ρ),.int .i64 i,.int .i64 y] w fun e w'=>e=.returned (.bool (Zj1 U.dk.sl i y))/\Zw_ w w':=by
 have HW:=Zaa h;clear h
 show Calls prog 218 #[.agg #[.pointer (some ⟨γ,0,none⟩),.func (.func 177) #[] #[.pointer (some ⟨ρ,0,none⟩)]],.int .i64 i,.int .i64 y] w _
 go_enter func218,ntmps218
 go_upto_region 1 with fail
 obtain⟨W0,hW0,HA⟩:∃ W0,W0=(w.alloc (.cells #[.pointer (some ⟨γ,0,none⟩),.func (.func 177) #[] #[.pointer (some ⟨ρ,0,none⟩)]] 190))/\Hd (At K lo w W0 γ ρ 1 U):=
  ⟨_,rfl,HW.o.enter (Zab _ _) (Box.new w _ _ _ rfl) (by simp) (by omega)⟩
 rw [<- hW0];have HB:Hd (Zw_ w W0):=by unfold Hd;rw [hW0];exact Zab w _
 clear hW0;obtain⟨b,m,S,hR⟩:=HA.o.wz;have HR:=Zaa hR;clear hR;have x_0:W0.cell? ⟨w.heap.size,0,none⟩=some (.pointer (some ⟨γ,0,none⟩)):=HA.o.c0;have x8:W0.cell? ⟨γ,8,none⟩=some (.slice (b 1) U.dk.sl.length (m 1)):=HR.o.box.cell 8
 by_cases hi:i<=(U.dk.sl.length:Int)
 case neg=>
  have d1:decide (i<=(U.dk.sl.length:Int))=false:=decide_eq_false hi;have HE:Hd (Zj1 U.dk.sl i y=false):=by unfold Hd Zj1;rw [List.getElem?_eq_none (by omega)]
  go_wp2;go_ret;exact⟨by rw [HE.o];rfl,HB.o⟩
 have d1:decide (i<=(U.dk.sl.length:Int))=true:=decide_eq_true hi;have hlt:(i - 1).toNat < U.dk.sl.length:=by omega
 have HE:Hd (Zj1 U.dk.sl i y=(U.dk.sl[(i - 1).toNat].ba == y)):=by unfold Hd Zj1;rw [List.getElem?_eq_getElem hlt]
 obtain⟨sx,hsx⟩:∃ sx,sx=U.dk.sl[(i - 1).toNat]:=⟨_,rfl⟩
 rw [<- hsx] at HE
 obtain⟨g,cap,hv,hf⟩:∃ g cap,(.slice (b 1) U.dk.sl.length (m 1):Value)=.slice (some ⟨g,0,none⟩) U.dk.sl.length cap/\FR rsL 2 W0 g (g+1) g cap U.dk.sl:=by
  rcases HR.o.cp.o1 with ⟨_,hnil⟩ | ⟨g,_,g',cap,e1,e2⟩
  . rw [hnil] at hlt;simp at hlt
  . exact⟨g',cap,e1,e2.own'⟩
 have z0:W0.cell? ⟨g,(i.toNat - 1)*2,none⟩=some (.int .i64 sx.ba):=by rw [show i.toNat - 1=(i - 1).toNat by omega];have:=hf.get ZaC hlt (t:=0) (by omega) (v:=.int .i64 U.dk.sl[(i - 1).toNat].ba) rfl;rw [hsx];simpa using this
 rw [hv] at x8;have j0:(0:Int)<=i - 1:=by omega
 have j1:i - 1 < (U.dk.sl.length:Int):=by omega
 have HF:=Zaa hf;clear hf hv hsx hi
 cases qy:(sx.ba == y) with
 | true=>
  go_wp2;go_ret;exact⟨by rw [HE.o,qy];rfl,HB.o⟩
 | false=>
  go_wp2;go_ret;exact⟨by rw [HE.o,qy];rfl,HB.o⟩
theorem Wk.on {K:Nat->Prop}{lo:Nat}{w w':World}{γ ρ:Nat}{U:Rr} (h:Wk K lo w γ ρ U) (hb:Zw_ w w'):Wk K lo w' γ ρ U:=⟨h.wz.shield hb fun _ h=>Or.inl h,h.kr,h.rb.on hb⟩
theorem ZhZ (K:Nat->Prop) (lo:Nat) (w:World) (γ ρ:Nat) (U:Rr) (M:Rm) (h:Wk K lo w γ ρ U) (hM:M.sl=[]) :
 Calls prog 177 #[.agg (rmL M none 0).toArray,.pointer (some ⟨ρ,0,none⟩)] w fun e w'=>e=.returned (.tuple #[])/\Zag K w w'/\Wk K lo w' γ ρ (Zbl U M):=by
 obtain⟨⟨b,m,S,hR⟩,kr,rb⟩:=h;exact Zh0 K lo w γ ρ U b m S M none 0 0 0 hR kr rb Zl_ (by rw [hM];exact Zay.nil _ _ _ _ _) (fun k _ h=>absurd h (Nat.not_lt_zero _))
theorem ZgC {i j:Nat} (h:i < j):i<=(i+j) / 2/\(i+j) / 2 < j:=by omega
theorem Zib (x:Int) (w:World):Calls prog 200 #[.int .i64 x] w fun e w'=>e=.returned (.bool false)/\w'=w:=by
 go_enter func200,ntmps200;go_wp2;go_ret;exact⟨Zac (by simp),rfl⟩
theorem Zfv (x:Int) (w:World):Calls prog 221 #[.int .i64 x] w fun e w'=>e=.returned (.bool false)/\w'=w:=by
 go_enter func221,ntmps221;go_wp2;go_ret;exact⟨Zac (by simp),rfl⟩
theorem Zfn (x y:Int) (w:World):Calls prog 220 #[.int .i64 x,.int .i64 y] w fun e w'=>e=.returned (.bool (decide (x < y)))/\w'=w:=by
 go_enter func220,ntmps220;go_wp2_with (go_at_call 200;refine (Zib _ _).mono ?_;rintro e w' ⟨rfl,rfl⟩);go_ret;exact⟨rfl,rfl⟩
def Asc (L:List Int):Prop:=∀ a b (ha:a < L.length) (hb:b < L.length),a < b->L[a] < L[b]
theorem Zc0 (lo:Nat) (v:Value) (L:List Int) (n:Int) (w:World) (hv:ZaR lo w v L) (hn:L.length<=1000000) (hs:Asc L) :
 Calls prog 212 #[v,.int .i64 n] w fun e w'=>e=.returned (.tuple #[.int .i64 (ZdK L n),.bool (decide (L[ZdK L n]?=some n))])/\w'=w:=by
 have HV:=Zaa hv;have HS:=Zaa hs;obtain⟨a,cap,rfl⟩:=hv.form;clear hv hs;go_enter func212,ntmps212;go_wp2
 go_loop [7,8] (fun i j=>∃ p q:Nat,i=.int .i64 p/\j=.int .i64 q/\p<=q/\q<=L.length/\(∀ k (h:k < L.length),k < p->L[k] < n)/\(∀ k (h:k < L.length),q<=k->n<=L[k])) (fun i j=>(intOf j).toNat - (intOf i).toNat)
 case atStart=>exact⟨0,L.length,rfl,rfl,Nat.zero_le _,Nat.le_refl _,fun k _ h=>by omega,fun k h h'=>by omega⟩
 case round=>
  obtain⟨p,q,rfl,rfl,hpq,hq,h1,h2⟩:=hrel;have HL1:=Zaa h1;have HL2:=Zaa h2;clear h1 h2
  by_cases hlt:p < q
  . obtain⟨hm1,hm2⟩:=ZgC hlt
    have hml:(p+q) / 2 < L.length:=by omega
    obtain⟨m,em⟩:∃ m:Nat,(p+q) / 2=m:=⟨_,rfl⟩
    rw [em] at hm1 hm2 hml;have em':((p:Int)+(q:Int)) / 2=(m:Int):=by omega
    obtain⟨b,off,rfl,hbw,-,hc⟩:=HV.o.full' (by omega);have s0:=(hc m hml).2;obtain⟨y,hy⟩:∃ y,y=L[m]:=⟨_,rfl⟩
    rw [<- hy] at s0;have HY:=Zaa hy;have i0:(0:Int)<=(m:Int):=by omega
    have i1:(m:Int) < (L.length:Int):=by omega
    clear hc em hy
    cases hq:decide (y < n) with
    | true=>
     have HT:=Zaa (of_decide_eq_true hq);go_wp2_with (go_at_call 220;refine (Zfn _ _ _).mono ?_;rw [hq];rintro e w' ⟨rfl,rfl⟩)
     go_round
     case rel=>exact⟨m+1,q,by go_num,rfl,by omega,by omega,fun k hk hkm=>by
                by_cases e:k=m
                . subst e;rw [<- HY.o];exact HT.o
                . have:=HS.o k m hk hml (by omega)
                  rw [<- HY.o] at this;have:=HT.o
                  omega,HL2.o⟩
     . simp [intOf];omega
    | false=>
     have HT:Hd (n<=y):=Int.not_lt.1 (of_decide_eq_false hq);go_wp2_with (go_at_call 220;refine (Zfn _ _ _).mono ?_;rw [hq];rintro e w' ⟨rfl,rfl⟩)
     go_round
     case rel=>exact⟨p,m,rfl,rfl,by omega,by omega,HL1.o,fun k hk hkm=>by
                by_cases e:k=m
                . subst e;rw [<- HY.o];exact HT.o
                . have:=HS.o m k hml hk (by omega)
                  rw [<- HY.o] at this;have:=HT.o
                  omega⟩
     . simp [intOf];omega
  . obtain rfl:q=p:=by omega
    have HP:Hd (ZdK L n=q):=Zgb hq HL1.o (fun h=>Int.not_lt.2 (HL2.o q h Zl_))
    by_cases hqe:q < L.length
    . obtain⟨b,off,rfl,hbw,-,hc⟩:=HV.o.full' (by omega)
      have s0:=(hc q hqe).2;obtain⟨y,hy⟩:∃ y,y=L[q]:=⟨_,rfl⟩
      rw [<- hy] at s0
      have HE:Hd (decide (L[q]?=some n)=(y == n)):=by
       unfold Hd;rw [List.getElem?_eq_getElem hqe,<- hy]
       by_cases e:y=n
       . simp [e]
       . simp [e]
      have d1:decide ((q:Int) < (L.length:Int))=true:=by simp;omega
      have i0:(0:Int)<=(q:Int):=by omega
      have i1:(q:Int) < (L.length:Int):=by omega
      clear hc hy
      cases qy:(y == n) with
      | true=>
       go_wp2_with (go_at_call 221;refine (Zfv _ _).mono ?_;rintro e w' ⟨rfl,rfl⟩);refine bodyPost_ret (v:=.tuple #[.int .i64 (q:Int),.bool true]) (by simp [results,results212,go_sem]) rfl ⟨by rw [HP.o,HE.o,qy],rfl⟩
      | false=>
       go_wp2_with (go_at_call 221;refine (Zfv _ _).mono ?_;rintro e w' ⟨rfl,rfl⟩);refine bodyPost_ret (v:=.tuple #[.int .i64 (q:Int),.bool false]) (by simp [results,results212,go_sem]) rfl ⟨by rw [HP.o,HE.o,qy],rfl⟩
    . have d1:decide ((q:Int) < (L.length:Int))=false:=by simp;omega
      have HE:Hd (decide (L[q]?=some n)=false):=by unfold Hd;rw [List.getElem?_eq_none (by omega)];rfl
      go_wp2;refine bodyPost_ret (v:=.tuple #[.int .i64 (q:Int),.bool false]) (by simp [results,results212,go_sem]) rfl ⟨by rw [HP.o,HE.o],rfl⟩
theorem ZfI (S:Nat->Prop) (v:Value) (L:List Int) (n:Int) (w:World) (hr:NRS inL 1 w S v L) (hl:L.length<=100000) (hs:Asc L) :
 Calls prog 203 #[v,.int .i64 n] w fun e w'=>∃ v',e=.returned v'/\Zaj S w w'/\NRS inL 1 w' (Gr S w w') v' (ZbD L n):=by
 have HR:=Zaa hr
 have HAT:Hd (ZaR 0 w v L):=by
  obtain⟨l,u,_,ho⟩:=hr.ris;exact ho.at.mono Zz_
 have HS:=Zaa hs;obtain⟨a,c,rfl⟩:=hr.form;clear hr hs
 by_cases hq:L[ZdK L n]?=some n
 . have d1:decide (L[ZdK L n]?=some n)=true:=decide_eq_true hq
   have HE:Hd (ZbD L n=L):=by unfold Hd ZbD;rw [if_pos hq]
   go_enter func203,ntmps203;go_wp2_with (go_at_call 212;refine (Zc0 0 _ L n _ HAT.o (by omega) HS.o).mono ?_;rw [d1];rintro e w' ⟨rfl,rfl⟩);go_ret;exact⟨_,rfl,Zaj.refl _ _,by rw [HE.o];exact HR.o.wide fun _ h=>Or.inl h⟩
 have d1:decide (L[ZdK L n]?=some n)=false:=decide_eq_false hq;have HE:Hd (ZbD L n=L.take (ZdK L n) ++ [n] ++ L.drop (ZdK L n)):=by unfold Hd ZbD;rw [if_neg hq]
 have hp:=Zif L n;obtain⟨p,hpp⟩:∃ p,p=ZdK L n:=⟨_,rfl⟩
 have HB:∀ o,Hd (Zw_ w (w.alloc o)):=fun o=>Zab w o
 have HX:Hd (Box (w.alloc (.cells #[.int .i64 n] 3)) w.heap.size (inL n).toArray):=Box.new w _ _ _ rfl
 rcases HR.o with ⟨e0,e1⟩ | ⟨g,hg,g',cap,e1,e2⟩
 . have HNI:Hd (ZdK L n=0):=by unfold Hd;rw [e1];rfl
   have HE2:Hd (ZbD L n=[n]):=by unfold Hd;rw [HE.o,HNI.o,e1];rfl
   injection e0 with e2 e3 e4
   subst e2 e4;have e5:L.length=0:=e3;rw [e5] at HAT |-;go_enter func203,ntmps203;go_wp2_with (go_at_call 212;refine (Zc0 0 _ L n _ HAT.o (by omega) HS.o).mono ?_;rw [d1,HNI.o];rintro e Wq ⟨rfl,hq⟩;have hq2:=hq.symm;subst hq2);refine (Zhf w.heap.size n _ HX.o).mono ?_;rintro e w2 ⟨v',rfl,hb,hrow⟩;have HB2:=Zaa hb;have HRW:=Zaa hrow;clear hb hrow;go_wp2;go_ret;have hsz:(w.alloc (.cells #[.int .i64 n] 3)).heap.size=w.heap.size+1:=by simp
   refine⟨_,rfl,Zaj.below (bt (HB _).o HB2.o),?_⟩;rw [HE2.o];exact Zay.set1 (Or.inr HRW.o) (fun k p q=>Or.inr ⟨by omega,q⟩)
 . obtain rfl:g'=g:=by have:=e2.bs;have:=e2.up;omega
   injection e1 with e3 e4 e5
   subst e3 e5;have HF:=Zaa e2;have hgl:=e2.lt;have HG:=Zaa hg;have HF1:Hd (FR inL 1 (w.alloc (.cells #[.int .i64 n] 3)) g' (g'+1) g' c L):=HF.o.below (Zab _ _);clear e2 hg;rw [<- hpp] at d1 hp HE;have HPP:=Zaa hpp;clear hpp hq;go_enter func203,ntmps203;go_wp2_with (go_at_call 212;refine (Zc0 0 _ L n _ HAT.o (by omega) HS.o).mono ?_;rw [<- HPP.o,d1];rintro e Wq ⟨rfl,hq⟩;have hq2:=hq.symm;subst hq2);refine (Zhe g' p w.heap.size c L n _ HF1.o hp (by omega) (by omega) HX.o).mono ?_;rintro e w2 ⟨v',rfl,ht,hrow⟩;have HT2:=Zaa ht;have HRW:=Zaa hrow;clear ht hrow;go_wp2;go_ret;have hsz:(w.alloc (.cells #[.int .i64 n] 3)).heap.size=w.heap.size+1:=by simp
   refine⟨_,rfl,Zaj.trans (Zaj.below (HB _).o) (HT2.o.toS (ZcX HG.o)),?_⟩;rw [HE.o]
   rcases HRW.o with h | h
   . exact Zay.set1 (Or.inr h) (fun k a b=>Or.inl (ZcX (S:=S) HG.o k a b))
   . exact Zay.set1 (Or.inr h) (fun k a b=>Or.inr ⟨by omega,b⟩)
def Zi2 (L:List Ra):Prop:=∀ a b (ha:a < L.length) (hb:b < L.length),a < b->L[a].ix < L[b].ix
theorem Zje (x y:Ra):decide (cRa x y=0)=decide (x.ix=y.ix):=by
 unfold cRa Zg1
 by_cases h1:x.ix < y.ix
 . simp [h1];omega
 . by_cases h2:y.ix < x.ix
   . simp [h1,h2];omega
   . simp [h1,h2];omega
def atA (L:List Ra) (ix:Int):Bool:=decide ((L[Zch L ix]?).map (·.ix)=some ix)
theorem Zgf (g cap:Nat) (L:List AX) (ix:Int) (w:World) (hf:FR axL 2 w g (g+1) g cap L) (hn:L.length<=1000000) (hs:Zi2 (L.map (·.1))) :
 Calls prog 216 #[.slice (some ⟨g,0,none⟩) L.length cap,.agg #[.int .i64 ix,.slice none 0 0],.func (.func 176) #[] #[]] w fun e w'=>e=.returned (.tuple #[.int .i64 (Zch (L.map (·.1)) ix),.bool (atA (L.map (·.1)) ix)])/\Zw_ w w':=by
 have HF:=Zaa hf
 have HS:Hd (∀ a b (ha:a < L.length) (hb:b < L.length),a < b->L[a].1.ix < L[b].1.ix):=fun a b ha hb hab=>by
  have:=hs a b (by simpa using ha) (by simpa using hb) hab
  simpa using this
 have HPI:Hd (∀ k,k<=L.length->(∀ j (hj:j < L.length),j < k->L[j].1.ix < ix)->(∀ (h:k < L.length),ix<=L[k].1.ix)->Zch (L.map (·.1)) ix=k):=fun k hk h1 h2=>
  Zf9 (by simpa using hk) (fun j hj hjk=>by have:=h1 j (by simpa using hj) hjk;simpa using this) (fun h=>by have:=h2 (by simpa using h);simpa using this)
 have HAA:Hd (∀ k,Zch (L.map (·.1)) ix=k->atA (L.map (·.1)) ix=decide ((L[k]?).map (·.1.ix)=some ix)):=fun k hk=>by
  unfold atA;rw [hk,List.getElem?_map,Option.map_map]
  rfl
 generalize Zch (L.map (·.1)) ix=PP at*;generalize atA (L.map (·.1)) ix=AA at*;have hgl:=hf.lt;clear hf hs;go_enter func216,ntmps216;go_wp2_with fail;generalize hWa:w.alloc _=Wa;have HB:Hd (Zw_ w Wa):=by rw [<- hWa];exact Zab w _
 have HX:Hd (Box Wa w.heap.size #[.int .i64 ix,.slice none 0 0]):=by rw [<- hWa];exact Box.new _ _ _ _ rfl
 clear hWa
 go_loopw [9,10] (fun i j wr=>∃ p q:Nat,i=.int .i64 p/\j=.int .i64 q/\p<=q/\q<=L.length/\(∀ k (h:k < L.length),k < p->L[k].1.ix < ix)/\(∀ k (h:k < L.length),q<=k->ix<=L[k].1.ix)/\Zw_ w wr/\Box wr w.heap.size #[.int .i64 ix,.slice none 0 0])
  (fun i j _=>(intOf j).toNat - (intOf i).toNat)
 case atStart=>exact⟨0,L.length,rfl,rfl,Nat.zero_le _,Nat.le_refl _,fun k _ h=>by omega,fun k h h'=>by omega,HB.o,HX.o⟩
 case round=>
  obtain⟨p,q,rfl,rfl,hpq,hq,h1,h2,hb,hx⟩:=hrel;have HL1:=Zaa h1;have HL2:=Zaa h2;have HBr:=Zaa hb;have HXr:=Zaa hx;clear h1 h2 hb hx HB HX
  by_cases hlt:p < q
  . obtain⟨hm1,hm2⟩:=ZgC hlt
    have hml:(p+q) / 2 < L.length:=by omega
    obtain⟨m,em⟩:∃ m:Nat,(p+q) / 2=m:=⟨_,rfl⟩
    rw [em] at hm1 hm2 hml;have em':((p:Int)+(q:Int)) / 2=(m:Int):=by omega
    obtain⟨y,hy⟩:∃ y,y=L[m]:=⟨_,rfl⟩
    have hFr:=HF.o.touch (lo':=w.heap.size) (hi':=w.heap.size) (w':=wr) ⟨HBr.o.os,HBr.o.tape,HBr.o.output,HBr.o.size,fun k hk _=>HBr.o.block k hk⟩ (Or.inl hgl);have c0:wr.cell? ⟨g,m*2,none⟩=some (.int .i64 y.1.ix):=by rw [hy];exact hFr.get Zar hml (t:=0) (by omega) (v:=.int .i64 L[m].1.ix) rfl
    have c1:wr.cell? ⟨g,m*2+1,none⟩=some (.slice y.2.1 y.1.fr.length y.2.2):=by rw [hy];exact hFr.get Zar hml (t:=1) (by omega) (v:=.slice L[m].2.1 L[m].1.fr.length L[m].2.2) rfl
    have HC0:=Zaa c0;have HC1:=Zaa c1;have HY:=Zaa hy;clear em hy hFr c0 c1;go_wp2;clear em'
    go_cut [31] (fun c wc=>c=.bool (decide (y.1.ix < ix))/\Below wr.heap.size wr wc)
    case first=>
     have xn:Nonempty (In (Up wr)):=⟨⟨wr,Below.refl _ _⟩⟩;have xs:=fun (X:In (Up wr))=>Zbc X
     have s0:∀ X:In (Up wr),_:=fun X=>Up.cell X HC0.o
     have s1:∀ X:In (Up wr),_:=fun X=>Up.cell X HC1.o
     have t0:∀ X:In (Up wr),X.w.cell? ⟨w.heap.size,0,none⟩=some (.int .i64 ix):=fun X=>Up.cell X (by rw [HXr.o.cell 0];rfl)
     have t1:∀ X:In (Up wr),X.w.cell? ⟨w.heap.size,1,none⟩=some (.slice none 0 0):=fun X=>Up.cell X (by rw [HXr.o.cell 1];rfl)
     have i0:(0:Int)<=(m:Int):=by omega
     have i1:(m:Int) < (L.length:Int):=by omega
     have HN:Hd (decide (cRa y.1 ⟨ix,[]⟩ < 0)=decide (y.1.ix < ix)):=ZhJ _ _;refine Zaf (Up wr) (by kernel_rfl) (by kernel_rfl) (Zb_.drew) ?_
     repeat (go_big_quiet_step ((go_at_call 176;rename_i X;exact (Zd4 y.1 ⟨ix,[]⟩ _ _ _ _ _).mono fun _ _ h=>⟨h.1,Up.next X h.2⟩)))
     refine wpQuiet_nil ?_;intro wn hw;obtain⟨X,hX⟩:=hw;have HWN:Below wr.heap.size wr wn:=by rw [hX];exact X.h
     clear hX X s0 t0 s1 t1 xs xn;go_wp2;go_meet;exact⟨by rw [HN.o],HWN⟩
    case rest=>
    obtain⟨rfl,hbc⟩:=hcut;have HBc:=Zaa (bt HBr.o hbc);have HXc:=Zaa (HXr.o.on hbc);clear hbc HC0 HC1
    cases hq:decide (y.1.ix < ix) with
    | true=>
     have HT:=Zaa (of_decide_eq_true hq);go_wp2;go_roundw
     case rel=>exact⟨m+1,q,by go_num,rfl,by omega,by omega,fun k hk hkm=>by
                by_cases e:k=m
                . subst e;rw [<- HY.o];exact HT.o
                . have h9:=HS.o k m hk hml (by omega)
                  rw [<- HY.o] at h9;have:=HT.o
                  omega,HL2.o,HBc.o,HXc.o⟩
     . simp [intOf];omega
    | false=>
     have HT:Hd (ix<=y.1.ix):=Int.not_lt.1 (of_decide_eq_false hq);go_wp2;go_roundw
     case rel=>exact⟨p,m,rfl,rfl,by omega,by omega,HL1.o,fun k hk hkm=>by
                by_cases e:k=m
                . subst e;rw [<- HY.o];exact HT.o
                . have h9:=HS.o m k hml hk (by omega)
                  rw [<- HY.o] at h9;have:=HT.o
                  omega,HBc.o,HXc.o⟩
     . simp [intOf];omega
  . have hpq':p=q:=by omega
    subst hpq';have HP:Hd (PP=p):=HPI.o p hq HL1.o (fun h=>HL2.o p h Zl_);have HA:Hd (AA=decide ((L[p]?).map (·.1.ix)=some ix)):=HAA.o p HP.o
    by_cases hlt2:p < L.length
    . obtain⟨y,hy⟩:∃ y,y=L[p]:=⟨_,rfl⟩
      have hFr:=HF.o.touch (lo':=w.heap.size) (hi':=w.heap.size) (w':=wr) ⟨HBr.o.os,HBr.o.tape,HBr.o.output,HBr.o.size,fun k hk _=>HBr.o.block k hk⟩ (Or.inl hgl);have c0:wr.cell? ⟨g,p*2,none⟩=some (.int .i64 y.1.ix):=by rw [hy];exact hFr.get Zar hlt2 (t:=0) (by omega) (v:=.int .i64 L[p].1.ix) rfl
      have c1:wr.cell? ⟨g,p*2+1,none⟩=some (.slice y.2.1 y.1.fr.length y.2.2):=by rw [hy];exact hFr.get Zar hlt2 (t:=1) (by omega) (v:=.slice L[p].2.1 L[p].1.fr.length L[p].2.2) rfl
      have HI:Hd (AA=decide (y.1.ix=ix)):=by unfold Hd;rw [HA.o,List.getElem?_eq_getElem hlt2,<- hy];simp
      have hd:decide ((p:Int) < (L.length:Int))=true:=by simp;omega
      have HC0:=Zaa c0;have HC1:=Zaa c1;clear hy hFr c0 c1 HA;go_wp2;have xn:Nonempty (In (Up wr)):=⟨⟨wr,Below.refl _ _⟩⟩;have xs:=fun (X:In (Up wr))=>Zbc X
      have s0:∀ X:In (Up wr),_:=fun X=>Up.cell X HC0.o
      have s1:∀ X:In (Up wr),_:=fun X=>Up.cell X HC1.o
      have t0:∀ X:In (Up wr),X.w.cell? ⟨w.heap.size,0,none⟩=some (.int .i64 ix):=fun X=>Up.cell X (by rw [HXr.o.cell 0];rfl)
      have t1:∀ X:In (Up wr),X.w.cell? ⟨w.heap.size,1,none⟩=some (.slice none 0 0):=fun X=>Up.cell X (by rw [HXr.o.cell 1];rfl)
      have i0:(0:Int)<=(p:Int):=by omega
      have i1:(p:Int) < (L.length:Int):=by omega
      have HN:Hd (decide (cRa y.1 ⟨ix,[]⟩=0)=decide (y.1.ix=ix)):=Zje _ _;refine Zaf (Up wr) (by kernel_rfl) (by kernel_rfl) (Zb_.drew) ?_
      repeat (go_big_quiet_step ((go_at_call 176;rename_i X;exact (Zd4 y.1 ⟨ix,[]⟩ _ _ _ _ _).mono fun _ _ h=>⟨h.1,Up.next X h.2⟩)))
      refine wpQuiet_nil ?_;intro wn hw;obtain⟨X,hX⟩:=hw;have HWN:Hd (Below wr.heap.size wr wn):=by unfold Hd;rw [hX];exact X.h
      clear hX X s0 t0 s1 t1 xs xn;go_wp2
      go_ret2
      exact⟨by rw [HP.o,HI.o,<- HN.o];first | rfl | simp,bt HBr.o HWN.o⟩
    . have HI:Hd (AA=false):=by unfold Hd;rw [HA.o,List.getElem?_eq_none (by omega)];rfl
      have hd:decide ((p:Int) < (L.length:Int))=false:=by simp;omega
      clear HA;go_wp2
      go_quiet (fail)
      go_wp2
      go_ret2
      exact⟨by rw [HP.o,HI.o];rfl,below_drewN HBr.o _⟩
theorem Zgg (ix:Int) (w:World) :
 Calls prog 216 #[.slice none 0 0,.agg #[.int .i64 ix,.slice none 0 0],.func (.func 176) #[] #[]] w fun e w'=>e=.returned (.tuple #[.int .i64 0,.bool false])/\Zw_ w w':=by
 go_enter func216,ntmps216;go_wp2_with fail;generalize hWa:w.alloc _=Wa;have HB:Hd (Zw_ w Wa):=by rw [<- hWa];exact Zab w _
 clear hWa
 go_loopw [9,10] (fun i j wr=>i=.int .i64 0/\j=.int .i64 0/\Zw_ w wr) (fun _ _ _=>0)
 case atStart=>exact⟨rfl,rfl,HB.o⟩
 case round=>
  obtain⟨rfl,rfl,hb⟩:=hrel;have HBr:=Zaa hb;clear hb HB;go_wp2
  go_quiet (fail)
  go_wp2
  go_ret2
  exact⟨rfl,below_drewN HBr.o _⟩
theorem Zlb:(prog.info? 236).map (fun i=>match i.zero with | some (.agg Z)=>Z.size | _=>0)=some 240:=by kernel_rfl
theorem Zin:∃ Z:Array Value,Z.size=240/\∀ u,Sem.run prog (zeroValue 236) u=.ok (.agg Z) u:=by
 have h:=Zlb
 cases hi:prog.info? 236 with
 | none=>rw [hi] at h;simp at h
 | some i=>
  rw [hi] at h;simp only [Option.map_some,Option.some.injEq] at h
  split at h
  . rename_i Z hz
    exact⟨Z,h,fun u=>by simp [zeroValue,typeInfo,hi,hz]⟩
  . omega
theorem Zes (lo:Nat) (va vb:Value) (A B:List Rs) (w:World) (ha:Zat lo w va A) (hb:Zat lo w vb B) (hna:A.length<=1048576) (hnb:B.length<=1048576) :
 Calls prog 204 #[va,vb] w fun e w'=>∃ v',e=.returned v'/\Zw_ w w'/\(∃ n,w.heap.size<=n/\Zay rsL 2 w' n w'.heap.size v' (Zas A B))/\∀ i (h:i < (Zas A B).length),ZaJ (Zas A B)[i]:=by
 have HVA:=Zaa ha;have HVB:=Zaa hb;obtain⟨aa,ca,rfl⟩:=ha.form;obtain⟨ab,cb,rfl⟩:=hb.form;clear ha hb;obtain⟨Z,hZs,hZ⟩:=Zin;have HZS:=Zaa hZs;clear hZs;go_enter func204,ntmps204;go_wp2_with fail;refine (ZgX lo w _ _ _ A B _ HVA.o HVB.o hna hnb (Zab _ _) ⟨w.heap.size,120,rfl,ZjX w Z _ 120 HZS.o (by unfold maxLen;omega)⟩).mono ?_;rintro e w1 ⟨v1,rfl,hb1,hl1⟩;have HB1:=Zaa hb1;have HL1:=Zaa hl1
 have hsz:∀ i (h:i < (Zas A B).length),ZaJ (Zas A B)[i]:=by
  obtain⟨g,cap,-,hr⟩:=hl1;exact hr.sz
 have HSZ:=Zaa hsz;obtain⟨g,cap,rfl,hr⟩:=hl1;clear hb1 hr hZ hsz;have HRl:Hd ((Zas A B).length<=1048576):=by unfold Hd;rw [Zbv];omega
 go_wp2_with fail;refine (ZcI w.heap.size _ (Zas A B) _ HL1.o.at HRl.o).mono ?_;rintro e w2 ⟨v2,rfl,hb2,hl2⟩;have HB2:Hd (Zw_ w w2):=bt HB1.o hb2;have HN2:=Zaa hl2;clear hb2 hl2;go_wp2;go_ret;exact⟨v2,rfl,HB2.o,⟨_,HB1.o.size,HN2.o⟩,HSZ.o⟩
end Go.Proofs.YtdeammfdkaomlaaGreat
