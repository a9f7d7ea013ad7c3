import Derived.Test.YtbdhbihhgfpnnaaGreatV36
import Derived.Test.YtbdhbihhgfpnnaaGreatV37
set_option maxHeartbeats 16000000
set_option maxRecDepth 100000
open Go.Proofs.Tryz
namespace Go.Proofs.YtbdhbihhgfpnnaaGreat
section
open Go.RowKit Go.Deep
theorem Zmc (Q:Bool) (cs ds:List Value) (U:Ho) (B:Bk) (T:Sb) (w:World) (hU:HoC 0 w cs U) (hB:HdC 0 w ds B T)
 (hspec:∀ (cs ds:List Value) (w:World),HoC 0 w cs U->HdC 0 w ds B T->Zdy U->Zbl B/\Zdz T->Calls prog 6 #[.agg cs.toArray,.agg ds.toArray] w fun e w'=>e=.returned (.bool Q)/\Zw_ w w')
 (himpl:∀ (cs ds:List Value) (w:World),HoC 0 w cs U->HdC 0 w ds B T->Zdy U->Zbl B/\Zdz T->Calls prog 9 #[.agg cs.toArray,.agg ds.toArray] w fun e w'=>e=.returned (.bool Q)/\Zw_ w w') :
 Calls prog 3 #[.agg cs.toArray,.agg ds.toArray] w fun e w'=>e=.returned (.bool true)/\Zw_ w w':=by
 have HL:=Zab hU;have HK:=Zab hB;have HSP:=Zab hspec;have HIM:=Zab himpl;clear hspec himpl;obtain⟨u0,v0,u1,v1,rfl,-⟩:=hU;obtain⟨a0,k0,a1,k1,a2,k2,a3,k3,a4,k4,a5,k5,a6,k6,rfl,-⟩:=hB
 show Calls prog 3 #[.agg #[.slice u0 U.tm.length v0,.slice u1 U.gr.length v1],.agg #[.int .i64 B.now,.int .i64 B.tick,.int .i64 B.given,.slice a0 B.os.length k0,.slice a1 B.gs.length k1,.slice a2 B.ls.length k2,.slice a3 B.ps.length k3,.int .i64 T.now,.slice a4 T.ss.length k4,.slice a5 T.cs.length k5,.slice a6 T.bs.length k6]] w _
 go_enter func3,ntmps3;go_wp2_with fail;generalize hWa:(World.alloc (w.alloc _) _)=Wa;have HBa:Hd (Zw_ w Wa):=by rw [<- hWa];exact (Zac w _).alloc (by simp) _
 have FA:Hd (Box Wa w.heap.size #[.slice u0 U.tm.length v0,.slice u1 U.gr.length v1]):=by rw [<- hWa];exact (Box.new _ _ _ _ rfl).on (Zac _ _)
 have FB:Hd (Box Wa (w.heap.size+1) #[.int .i64 B.now,.int .i64 B.tick,.int .i64 B.given,.slice a0 B.os.length k0,.slice a1 B.gs.length k1,.slice a2 B.ls.length k2,.slice a3 B.ps.length k3,.int .i64 T.now,.slice a4 T.ss.length k4,.slice a5 T.cs.length k5,.slice a6 T.bs.length k6]):=by rw [<- hWa];exact Box.new _ _ _ _ (by simp)
 clear hWa;refine (Zsp 0 _ U _ _ (by omega) (by omega) (HL.o.below HBa.o)).mono ?_;rintro e w1 ⟨q,rfl,hb1,hr0,hr1,hr2⟩;have HB1:Hd (Zw_ w w1):=bt HBa.o hb1;replace FA:=Zab (FA.o.on hb1);replace FB:=Zab (FB.o.on hb1);have HQ:=Zab hr2;clear hb1 hr2 HBa
 by_cases hneg:q < 0
 . go_wp2
   go_ret;exact⟨rfl,HB1.o⟩
 have hLm:Hd (Zdy U):=HQ.o (by omega);clear HQ hr0;have g1:=FB.o.cell;have gm:=FB.o.lt;go_wp2_with fail;clear g1 gm;refine (Zso 0 _ B T _ _ (by omega) (by omega) (HK.o.below HB1.o)).mono ?_;rintro e w2 ⟨q2,rfl,hb2,hr0,hr2,hr3⟩;have HB3:Hd (Zw_ w w2):=bt HB1.o hb2;replace FA:=Zab (FA.o.on hb2);replace FB:=Zab (FB.o.on hb2);have HQ:=Zab hr3;clear hb2 hr3 HB1
 by_cases hneg2:q2 < 0
 . go_wp2
   go_ret;exact⟨rfl,HB3.o⟩
 have hBm:Hd (Zbl B/\Zdz T):=HQ.o (by omega);clear HQ hr0 hr1 hr2 hneg;go_wp2;clear hneg2;have HL3:=Zab (HL.o.below HB3.o);have HK3:=Zab (HK.o.below HB3.o)
 go_region_held3 (Zby w2 w.heap.size #[.slice u0 U.tm.length v0,.slice u1 U.gr.length v1] (w.heap.size+1) #[.int .i64 B.now,.int .i64 B.tick,.int .i64 B.given,.slice a0 B.os.length k0,.slice a1 B.gs.length k1,.slice a2 B.ls.length k2,.slice a3 B.ps.length k3,.int .i64 T.now,.slice a4 T.ss.length k4,.slice a5 T.cs.length k5,.slice a6 T.bs.length k6])
  (first
    | (with_reducible exact Zby.drew FA.o FB.o)
    | (with_reducible exact Zby.on (by assumption) (by assumption)))
  (first
    | (go_at_call 7
       refine (Zoy 0 _ U _ (HL3.o.below (Zb_.drew)) hLm.o).mono ?_;rintro e w4 ⟨xs4,rfl,hb4,hs4⟩;have HC4:Hd (Below w2.heap.size w2 w4):=bt (Zb_.drew) hb4;have HS4:=Zab (hs4.mono Zz_);clear hs4)
    | (go_at_call 8
       refine (Zox 0 _ B T _ (HK3.o.below HC4.o) hBm.o).mono ?_;rintro e w5 ⟨xs5,rfl,hb5,hk5⟩;have HC5:Hd (Below w2.heap.size w2 w5):=bt HC4.o hb5;have HS45:=Zab (HS4.o.below hb5);have HK5:=Zab (hk5.mono Zz_);clear hk5)
    | (go_at_call 6
       refine (HSP.o _ _ _ HS45.o HK5.o hLm.o hBm.o).mono ?_;rintro e w7 ⟨rfl,hb7⟩;have HC7:Hd (Below w2.heap.size w2 w7):=bt HC5.o hb7))
 replace FA:=Zab (FA.o.on HC7.o);replace FB:=Zab (FB.o.on HC7.o);have HB7:Hd (Zw_ w w7):=bt HB3.o HC7.o;clear HB3 HC4 HC5 HC7 HS4 HS45 HK5 HL3 HK3 HSP;have g0:=FA.o.cell;have gl:=FA.o.lt;go_wp2_with fail;clear g0 gl;refine (Zoy 0 _ U _ (HL.o.below HB7.o) hLm.o).mono ?_;rintro e w8 ⟨ys8,rfl,hb8,hs8⟩;have HB8:Hd (Zw_ w w8):=bt HB7.o hb8;have HS8:=Zab (hs8.mono Zz_);replace FA:=Zab (FA.o.on hb8);replace FB:=Zab (FB.o.on hb8);obtain⟨b0,m0,b1,m1,rfl,-⟩:=hs8;clear hb8 HB7;rw [show (hoL U b0 m0 b1 m1).toArray=#[.slice b0 U.tm.length m0,.slice b1 U.gr.length m1] from rfl];have g0:=FB.o.cell;have gl:=FB.o.lt;have g1:∀ o i,(w8.alloc o).cell? ⟨w.heap.size+1,i,none⟩=_:=fun o i=>(Zai _ _ _ _ gl).trans (g0 i)
 go_wp2_with fail;clear g0 gl g1;generalize hWx:w8.alloc _=Wx;have hbx:Below w8.heap.size w8 Wx:=by rw [<- hWx];exact Zac _ _
 have FX:Hd (Box Wx w8.heap.size #[.slice b0 U.tm.length m0,.slice b1 U.gr.length m1]):=by rw [<- hWx];exact Box.new _ _ _ _ rfl
 have HBx:Hd (Zw_ w Wx):=bt HB8.o hbx;replace FA:=Zab (FA.o.on hbx);replace FB:=Zab (FB.o.on hbx);replace HS8:=Zab (HS8.o.below hbx);clear hWx hbx HB8;generalize hbeta:w8.heap.size=β at*;refine (Zox 0 _ B T _ (HK.o.below HBx.o) hBm.o).mono ?_;rintro e w9 ⟨ys9,rfl,hb9,hk9⟩;have HB9:Hd (Zw_ w w9):=bt HBx.o hb9;have HK9:=Zab (hk9.mono Zz_);replace HS8:=Zab (HS8.o.below hb9);replace FA:=Zab (FA.o.on hb9);replace FB:=Zab (FB.o.on hb9);replace FX:=Zab (FX.o.on hb9);obtain⟨x0,y0,x1,y1,x2,y2,x3,y3,x4,y4,x5,y5,x6,y6,rfl,-⟩:=hk9;clear hb9 HBx
 rw [show (hdL B T x0 x1 x2 x3 x4 x5 x6 y0 y1 y2 y3 y4 y5 y6).toArray=#[.int .i64 B.now,.int .i64 B.tick,.int .i64 B.given,.slice x0 B.os.length y0,.slice x1 B.gs.length y1,.slice x2 B.ls.length y2,.slice x3 B.ps.length y3,.int .i64 T.now,.slice x4 T.ss.length y4,.slice x5 T.cs.length y5,.slice x6 T.bs.length y6] from rfl];have g0:=FX.o.cell;have gl:=FX.o.lt;have g1:∀ o i,(w9.alloc o).cell? ⟨β,i,none⟩=_:=fun o i=>(Zai _ _ _ _ gl).trans (g0 i)
 go_wp2_with fail;clear g0 gl g1;generalize hWx:w9.alloc _=Wy;have hbx:Below w9.heap.size w9 Wy:=by rw [<- hWx];exact Zac _ _
 have FY:Hd (Box Wy w9.heap.size #[.int .i64 B.now,.int .i64 B.tick,.int .i64 B.given,.slice x0 B.os.length y0,.slice x1 B.gs.length y1,.slice x2 B.ls.length y2,.slice x3 B.ps.length y3,.int .i64 T.now,.slice x4 T.ss.length y4,.slice x5 T.cs.length y5,.slice x6 T.bs.length y6]):=by rw [<- hWx];exact Box.new _ _ _ _ rfl
 have HBy:Hd (Zw_ w Wy):=bt HB9.o hbx;replace FA:=Zab (FA.o.on hbx);replace FB:=Zab (FB.o.on hbx);replace FX:=Zab (FX.o.on hbx);replace HS8:=Zab (HS8.o.below hbx);replace HK9:=Zab (HK9.o.below hbx);clear hWx hbx HB9;generalize hgamma:w9.heap.size=γ at*;refine (HIM.o _ _ _ HS8.o HK9.o hLm.o hBm.o).mono ?_;rintro e wb ⟨rfl,hbb⟩;have HBb:Hd (Zw_ w wb):=bt HBy.o hbb;replace FA:=Zab (FA.o.on hbb);replace FB:=Zab (FB.o.on hbb);replace FX:=Zab (FX.o.on hbb);replace FY:=Zab (FY.o.on hbb);replace HS8:=Zab (HS8.o.below hbb);replace HK9:=Zab (HK9.o.below hbb);clear hbb HBy HIM;have HLb:=Zab (HL.o.below HBb.o);go_wp2
 go_region_held3 (Zby wb β #[.slice b0 U.tm.length m0,.slice b1 U.gr.length m1] w.heap.size #[.slice u0 U.tm.length v0,.slice u1 U.gr.length v1])
  (first
    | (with_reducible exact Zby.drew FX.o FA.o)
    | (with_reducible exact Zby.on (by assumption) (by assumption)))
  (first
    | (go_at_call 7
       refine (Zoy 0 _ U _ (HLb.o.below (Zb_.drew)) hLm.o).mono ?_;rintro e we ⟨zse,rfl,hbe,hse⟩;have HC8:Hd (Below wb.heap.size wb we):=bt (Zb_.drew) hbe;have HSe:=Zab hse;clear hse)
    | (go_at_call 10
       refine (ZrR _ _ _ _ U _ (HS8.o.below HC8.o) HSe.o).mono ?_;rintro e wf ⟨rfl,hbf⟩;have HC9:Hd (Below wb.heap.size wb wf):=bt HC8.o hbf))
 have HBf:Hd (Zw_ w wf):=bt HBb.o HC9.o;replace FB:=Zab (FB.o.on HC9.o);replace FY:=Zab (FY.o.on HC9.o);replace HK9:=Zab (HK9.o.below HC9.o);clear HBb HC8 HSe HC9 HLb HS8 FX FA;have HKf:=Zab (HK.o.below HBf.o);go_wp2
 go_region_held3 (Zby wf γ #[.int .i64 B.now,.int .i64 B.tick,.int .i64 B.given,.slice x0 B.os.length y0,.slice x1 B.gs.length y1,.slice x2 B.ls.length y2,.slice x3 B.ps.length y3,.int .i64 T.now,.slice x4 T.ss.length y4,.slice x5 T.cs.length y5,.slice x6 T.bs.length y6] (w.heap.size+1) #[.int .i64 B.now,.int .i64 B.tick,.int .i64 B.given,.slice a0 B.os.length k0,.slice a1 B.gs.length k1,.slice a2 B.ls.length k2,.slice a3 B.ps.length k3,.int .i64 T.now,.slice a4 T.ss.length k4,.slice a5 T.cs.length k5,.slice a6 T.bs.length k6])
  (first
    | (with_reducible exact Zby.drew FY.o FB.o)
    | (with_reducible exact Zby.on (by assumption) (by assumption)))
  (first
    | (go_at_call 8
       refine (Zox 0 _ B T _ (HKf.o.below (Zb_.drew)) hBm.o).mono ?_;rintro e wg ⟨zsg,rfl,hbg,hkg⟩;have HC10:Hd (Below wf.heap.size wf wg):=bt (Zb_.drew) hbg;have HKg:=Zab hkg;clear hkg)
    | (go_at_call 11
       refine (ZrQ _ _ _ _ B T _ (HK9.o.below HC10.o) HKg.o).mono ?_;rintro e wh ⟨rfl,hbh⟩;have HC11:Hd (Below wf.heap.size wf wh):=bt HC10.o hbh))
 go_wp2;go_ret;exact⟨rfl,bt HBf.o HC11.o⟩
end
section
open Go.RowKit Go.Deep
variable {L T:List Sv} {s:Sv} {o:Ob}
def ZfE:Zy_:=⟨#[102,108,101,101,116]⟩
def Zk7 (o:Ob):Bool:=ZdC o.hs ZfE
def Zsl (o:Ob) (s:Sv):Sv:={ Zcu o.nm o.en o.vs s with ve:=s.ve,nx:=s.nx,cl:=s.cl }
def ZrG (x y:Sv):Bool:=(x.nm.toList == y.nm.toList)&&((x.ve == y.ve)&&((x.gn == y.gn)&&((x.im == y.im)&&((x.wa == y.wa)&&((x.dn == y.dn)&&((x.ov == y.ov)&&((x.nx == y.nx)&&((x.pr == y.pr)&&((x.ls == y.ls)&&((x.ms == y.ms)&&((x.ld == y.ld)&&(x.cl == y.cl))))))))))))
def Zce (o:Ob) (s:Sv):Bool:=ZrG (Zsl o s) s
theorem ZnF {nm:Zy_}{en:Bool}{V:List Zy_}{old:Sv} (h:V.length=6):(Zcu nm en V old).nm=nm:=by
 obtain⟨s0,s1,s2,s3,s4,s5,rfl⟩:=ZiG h;unfold Zcu
 split
 . split <;> rfl
 . rename_i h
   exact absurd rfl (h _ _ _ _ _ _)
def Zb6:List Ob->List Sv->Bool
 | [],L=>L.isEmpty
 | o :: os,L=>if Zk7 o then (match L with | []=>false | s :: T=>Zce o s&&Zb6 os T) else o.en&&Zb6 os L
theorem Zen (o:Ob) (os:List Ob) (L:List Sv):Zb6 (o :: os) L=if Zk7 o then (match L with | []=>false | s :: T=>Zce o s&&Zb6 os T) else o.en&&Zb6 os L:=by
 cases L <;> rfl
def named (L:List Sv) (nm:Zy_):Bool:=L.any fun x=>x.nm.toList == nm.toList
def Zbd (O:List Ob) (L:List Sv):Nat:=(O.filter fun o=>named L o.nm).length
def okO (L:List Sv) (o:Ob):Bool:=match svF L o.nm with
 | some s=>Zk7 o&&Zce o s
 | none=>!Zk7 o&&o.en
def ZcL (O:List Ob) (L:List Sv):Bool:=O.all (okO L)&&decide (Zbd O L=L.length)
def upO (O:List Ob):Prop:=O.Pairwise fun x y=>Op.bytesLess x.nm.toList y.nm.toList=true
def upS (L:List Sv):Prop:=L.Pairwise fun x y=>Op.bytesLess x.nm.toList y.nm.toList=true
theorem Zis {a b:List UInt8} (h:Op.bytesLess a b=true):(a == b)=false:=by
 cases e:a == b with
 | false=>rfl
 | true=>rw [beq_iff_eq.1 e,ZcY] at h;cases h
theorem ZgX {nm:Zy_}:named L nm=(svF L nm).isSome:=by
 unfold named svF;rw [Bool.eq_iff_iff,List.any_eq_true,List.find?_isSome]
theorem Zsm {nm:Zy_} (h:∀ s ∈ L,(s.nm.toList == nm.toList)=false):svF L nm=none:=by
 unfold svF;rw [List.find?_eq_none];exact fun x hx=>by rw [h x hx];exact Bool.false_ne_true
theorem Zpt {nm:Zy_} (h:(s.nm.toList == nm.toList)=true):svF (s :: T) nm=some s:=by unfold svF;simp only [List.find?_cons,h]
theorem Zlq {nm:Zy_} (h:(s.nm.toList == nm.toList)=false):svF (s :: T) nm=svF T nm:=by unfold svF;simp only [List.find?_cons,h]
theorem Zb7 (o:Ob) (os:List Ob) (L:List Sv):Zbd (o :: os) L=(if named L o.nm then 1 else 0)+Zbd os L:=by
 unfold Zbd;rw [List.filter_cons]
 split <;> simp <;> omega
theorem Zeh:∀ (O:List Ob),(∀ o ∈ O,(s.nm.toList == o.nm.toList)=false)->Zbd O (s :: T)=Zbd O T
 | [],_=>rfl
 | o :: os,h=>by
  have:named (s :: T) o.nm=named T o.nm:=by unfold named;rw [List.any_cons,h o (by simp),Bool.false_or]
  rw [Zb7,Zb7,this,Zeh os fun o' ho=>h o' (by simp [ho])]
theorem Zgr:∀ (O:List Ob),upO O->Zbd O (s :: T)<=Zbd O T+1
 | [],_=>by simp [Zbd]
 | o :: os,h=>by
  have h2:=List.pairwise_cons.1 h
  cases e:s.nm.toList == o.nm.toList with
  | true=>
   have:Zbd os (s :: T)=Zbd os T:=Zeh os fun o' ho=>by rw [beq_iff_eq.1 e];exact Zis (h2.1 o' ho)
   rw [Zb7,Zb7,this]
   split <;> split <;> omega
  | false=>
   have hn:named (s :: T) o.nm=named T o.nm:=by unfold named;rw [List.any_cons,e,Bool.false_or]
   have:=Zgr os h2.2;rw [Zb7,Zb7,hn]
   omega
theorem Zk3:∀ (L:List Sv) (O:List Ob),upO O->Zbd O L<=L.length
 | [],O,_=>by
  have:Zbd O []=0:=by unfold Zbd;simp [named]
  simp [this]
 | s :: T,O,h=>by
  have:=Zgr (s:=s) (T:=T) O h;have:=Zk3 T O h;simp only [List.length_cons]
  omega
theorem Zic {O:List Ob} (h:upO O):∀ (L:List Sv) (s:Sv),s ∈ L->(∀ o ∈ O,(s.nm.toList == o.nm.toList)=false)->Zbd O L < L.length
 | [],_,hs,_=>by simp at hs
 | t :: T,s,hs,hn=>by
  rcases List.mem_cons.1 hs with rfl | hs
  . rw [Zeh O hn]
    have:=Zk3 T O h;simp only [List.length_cons]
    omega
  . have:=Zgr (s:=t) (T:=T) O h
    have:=Zic h T s hs hn;simp only [List.length_cons]
    omega
theorem Zo8 (h:(s.nm.toList == o.nm.toList)=false):okO (s :: T) o=okO T o:=by unfold okO;rw [Zlq h]
theorem Zk0:∀ (O:List Ob),(∀ o ∈ O,(s.nm.toList == o.nm.toList)=false)->O.all (okO (s :: T))=O.all (okO T)
 | [],_=>rfl
 | o :: os,h=>by
  rw [List.all_cons,List.all_cons,Zo8 (h o (by simp)),Zk0 os fun o' ho=>h o' (by simp [ho])]
theorem Zpr (h6:o.vs.length=6) (h:Zce o s=true):(s.nm.toList == o.nm.toList)=true:=by
 unfold Zce ZrG Zsl at h;rw [Bool.and_eq_true] at h;have h1:=h.1;simp only [ZnF h6] at h1;rw [beq_iff_eq] at h1 |-;exact h1.symm
theorem Zp4 {nm:Zy_} (h:svF L nm=some s):s ∈ L/\(s.nm.toList == nm.toList)=true:=by
 unfold svF at h;exact⟨List.mem_of_find?_eq_some h,List.find?_some (p:=fun x:Sv=>x.nm.toList == nm.toList) h⟩
theorem Zg2:∀ (O:List Ob) (L:List Sv),upO O->upS L->(∀ o ∈ O,o.vs.length=6)->Zb6 O L=ZcL O L
 | [],L,_,_,_=>by
  unfold Zb6 ZcL Zbd
  cases L with
  | nil=>rfl
  | cons s T=>simp
 | o :: os,L,ho,hl,h6=>by
  have ho2:=List.pairwise_cons.1 ho;have h6':∀ o ∈ os,o.vs.length=6:=fun x hx=>h6 x (by simp [hx])
  rw [Zen]
  cases hf:Zk7 o with
  | false=>
   rw [if_neg Bool.false_ne_true,Zg2 os L ho2.2 hl h6']
   cases hn:svF L o.nm with
   | none=>
    have hn2:named L o.nm=false:=by rw [ZgX,hn];rfl
    unfold ZcL;rw [List.all_cons,Zb7,hn2];unfold okO;rw [hn,hf];simp [Bool.and_assoc]
   | some s=>
    have hm:=Zp4 hn;have hlt:=Zic ho2.2 L s hm.1 fun o' ho'=>by rw [beq_iff_eq.1 hm.2];exact Zis (ho2.1 o' ho')
    have e1:ZcL os L=false:=by unfold ZcL;rw [decide_eq_false (by omega),Bool.and_false]
    have e2:ZcL (o :: os) L=false:=by
     unfold ZcL;rw [List.all_cons];unfold okO;rw [hn,hf]
     rfl
    rw [e1,e2,Bool.and_false]
  | true=>
   rw [if_pos rfl]
   cases L with
   | nil=>
    have:ZcL (o :: os) []=false:=by
     unfold ZcL;rw [List.all_cons];unfold okO;rw [Zsm (L:=[]) (by simp),hf]
     rfl
    rw [this]
   | cons s T=>
    have hl2:=List.pairwise_cons.1 hl
    show (Zce o s&&Zb6 os T)=_
    rw [Zg2 os T ho2.2 hl2.2 h6']
    cases he:s.nm.toList == o.nm.toList with
    | true=>
     have hos:∀ o' ∈ os,(s.nm.toList == o'.nm.toList)=false:=fun o' ho'=>by rw [beq_iff_eq.1 he];exact Zis (ho2.1 o' ho')
     have hn:named (s :: T) o.nm=true:=by unfold named;rw [List.any_cons,he,Bool.true_or]
     unfold ZcL;rw [List.all_cons,Zb7,hn,Zeh os hos,Zk0 os hos];have hok:okO (s :: T) o=Zce o s:=by unfold okO;rw [Zpt he,hf];rfl
     rw [hok,Bool.and_assoc]
     congr 2
     simp only [List.length_cons,if_true];exact decide_eq_decide.2 (by omega)
    | false=>
     have hs:Zce o s=false:=by
      cases h:Zce o s with
      | false=>rfl
      | true=>rw [Zpr (h6 o (by simp)) h] at he;cases he
     rw [hs,Bool.false_and]
     symm
     unfold ZcL
     cases hn:svF T o.nm with
     | none=>
      rw [List.all_cons];have:okO (s :: T) o=false:=by unfold okO;rw [Zlq he,hn,hf];rfl
      rw [this,Bool.false_and,Bool.false_and]
     | some x=>
      have hm:=Zp4 hn
      have hlt:=Zic ho (s :: T) s (by simp) fun o' ho'=>by
       rcases List.mem_cons.1 ho' with rfl | h
       . exact he
       . have h1:=hl2.1 x hm.1
         rw [beq_iff_eq.1 hm.2] at h1;exact Zis (Zdp h1 (ho2.1 o' h))
      rw [decide_eq_false (by omega),Bool.and_false]
end
section
open Go.RowKit Go.Deep
variable {base sz n:Nat} {e:TypeId} {W W':World} {v:Value} {cs:List Value}
theorem Below.grown {w w':World} (h:w.grownBy w' none):Zw_ w w':=⟨h.os,h.tape,h.output,h.size,fun k hk=>h.block k hk fun e=>by cases e⟩
theorem Below.ownsB (h:W.ownsRow base e sz v n cs) (hb:Below W.heap.size W W'):W'.ownsRow base e sz v n cs:=by
 refine⟨h.1,?_⟩;have hlt:=fun g hg=>ZdH h (g:=g) hg
 rcases h.2 with hv | ⟨g,cap,cur,hv,h1,h2,h3⟩
 . exact Or.inl hv
 . have hg:=hlt g (by rw [hv];rfl)
   exact Or.inr ⟨g,cap,cur,hv,h1,by rw [hb.block g hg.1];exact h2,h3⟩
theorem Zaw.ownsB {lo hi:Nat} (h:W.ownsRow base e sz v n cs) (ht:Zaw lo hi W W') (hh:hi<=base):W'.ownsRow base e sz v n cs:=by
 refine⟨h.1,?_⟩;have hlt:=fun g hg=>ZdH h (g:=g) hg
 rcases h.2 with hv | ⟨g,cap,cur,hv,h1,h2,h3⟩
 . exact Or.inl hv
 . have hg:=hlt g (by rw [hv];rfl)
   exact Or.inr ⟨g,cap,cur,hv,h1,by rw [ht.block g hg.1 (by omega)];exact h2,h3⟩
theorem ZhK (W:World) (e:TypeId) (sz:Nat):W.ownsRow base e sz (.slice none 0 0) 0 []:=⟨by simp,Or.inl ⟨rfl,rfl⟩⟩
end
section
open Go.RowKit Go.Deep Go.Maps
theorem ZlJ (lo m cb:Nat) (sv cv bv v:Value) (B:Sb) (Xl:List Be) (w:World) (h:Zc5 lo w sv cv bv B) (hv:Zb9 lo w v Xl) (hck:Box w cb #[.func (.func 251) #[] #[]]) :
 Calls prog 219 #[.agg #[.int .i64 B.now,sv,cv,bv,.map (some m)],v,.slice (some ⟨cb,0,none⟩) 1 1] w fun e w'=>e=.returned (.bool (Xl.all (beB)))/\Zw_ w w':=by
 have HK:=Zab h;have HV:=Zab hv;have HCK:=Zab hck;obtain⟨a0,k0,rfl⟩:=h.svs.form;obtain⟨a1,k1,rfl⟩:=h.cps.form;obtain⟨a2,k2,rfl⟩:=h.bes.form;obtain⟨a,cap,rfl⟩:=hv.form;have hmx:=hv.max;unfold maxLen at hmx;clear h hv hck;go_enter func219,ntmps219;go_wp2;generalize hWa:w.alloc _=Wa;have HB0:Hd (Zw_ w Wa):=by rw [<- hWa];exact Zac w _
 have HX0:Hd (Box Wa w.heap.size #[.int .i64 B.now,.slice a0 B.ss.length k0,.slice a1 B.cs.length k1,.slice a2 B.bs.length k2,.map (some m)]):=by rw [<- hWa];exact Box.new _ _ _ _ rfl
 have HK0:Hd (Box Wa cb #[.func (.func 251) #[] #[]]):=by rw [<- hWa];exact HCK.o.on (Zac _ _)
 clear hWa HCK
 go_loopw [13] (fun i wr=>∃ k:Nat,i=.int .i64 k/\k<=Xl.length/\Zw_ w wr/\Box wr w.heap.size #[.int .i64 B.now,.slice a0 B.ss.length k0,.slice a1 B.cs.length k1,.slice a2 B.bs.length k2,.map (some m)]/\Box wr cb #[.func (.func 251) #[] #[]]/\(∀ j (h:j < Xl.length),j < k->(beB) Xl[j]=true)) (fun i _=>Xl.length - (intOf i).toNat)
 case atStart=>exact⟨0,rfl,Nat.zero_le _,HB0.o,HX0.o,HK0.o,fun j _ h=>by omega⟩
 case round=>
  obtain⟨k,rfl,hk,hb,hx,hc,hall⟩:=hrel;have HB:=Zab hb;have HX:=Zab hx;have HC:=Zab hc;have HA:=Zab hall;clear hb hx hc hall HB0 HX0 HK0
  by_cases hlt:k < Xl.length
  . obtain⟨b,off,rfl,hbw,-,hc⟩:=HV.o.full' (by omega)
    obtain⟨hs,hc⟩:=hc k hlt;have HZ:=Zab hs;obtain⟨c0,c1⟩:=hc.below HB.o hbw;clear hc hs;obtain⟨W1,hW1⟩:∃ W,W=wr:=⟨_,rfl⟩
    subst hW1;go_wp2;generalize hW:World.alloc _ _=W;have HBW:Hd (Zw_ w W):=by rw [<- hW];exact zbt HB.o (Zac _ _)
    have HXW:Hd (Box W w.heap.size #[.int .i64 B.now,.slice a0 B.ss.length k0,.slice a1 B.cs.length k1,.slice a2 B.bs.length k2,.map (some m)]):=by rw [<- hW];exact HX.o.on (Zac _ _)
    have HCW:Hd (Box W cb #[.func (.func 251) #[] #[]]):=by rw [<- hW];exact HC.o.on (Zac _ _)
    have HTW:Hd (Box W W1.heap.size #[.string Xl[k].nm,.bool Xl[k].dr]):=by rw [<- hW];exact Box.new _ _ _ _ rfl
    clear hW HB HX HC c0 c1
    go_loopw [19] (fun i wr=>∃ j:Nat,i=.int .i64 j/\j<=1/\Zw_ w wr/\Box wr w.heap.size #[.int .i64 B.now,.slice a0 B.ss.length k0,.slice a1 B.cs.length k1,.slice a2 B.bs.length k2,.map (some m)]/\Box wr W1.heap.size #[.string Xl[k].nm,.bool Xl[k].dr]/\Box wr cb #[.func (.func 251) #[] #[]]/\(∀ l,l < j->Zst Xl[k] l=true)) (fun i _=>1 - (intOf i).toNat)
    case atStart=>exact⟨0,rfl,by omega,HBW.o,HXW.o,HTW.o,HCW.o,fun l h=>by omega⟩
    case round=>
     obtain⟨j,rfl,hj,hb,hx,ht,hc,hall⟩:=hrel;have HBj:=Zab hb;have HXj:=Zab hx;have HTj:=Zab ht;have HKj:=Zab hc;have HAj:=Zab hall;clear hb hx ht hc hall HBW HXW HCW HTW
     by_cases hjl:j < 1
     . have x:=HXj.o.cell
       have t:=HTj.o.cell;have hj':j=0:=by omega
       rcases hj' with rfl
       . have kc:=HKj.o.cell 0
         simp at kc
         cases hq:Zst Xl[k] 0 with
         | false=>
          have HF:Hd (Xl.all (beB)=false):=Zbc hlt (ZsF ((fun _=>rfl:∀ x,beB x=Zst x 0) Xl[k]) (by omega) hq);go_wp2_with (go_at_call 251;refine (Zgk lo m _ _ _ B Xl[k] _ (HK.o.below HBj.o) HZ.o).mono ?_;rintro e w3 ⟨he,hb3⟩;replace he:=he.trans (congrArg (fun b=>Ending.returned (.bool b)) hq);subst he;have HB3:=Zab (zbt HBj.o hb3);clear hb3);go_ret;exact⟨Zaa HF.o.symm,HB3.o⟩
         | true=>
          have HQ:=Zab hq;go_wp2_with (go_at_call 251;refine (Zgk lo m _ _ _ B Xl[k] _ (HK.o.below HBj.o) HZ.o).mono ?_;rintro e w3 ⟨he,hb3⟩;replace he:=he.trans (congrArg (fun b=>Ending.returned (.bool b)) HQ.o);subst he;have HB3:=Zab (zbt HBj.o hb3);have HX3:=Zab (HXj.o.on hb3);have HT3:=Zab (HTj.o.on hb3);have HK3:=Zab (HKj.o.on hb3);clear hb3);go_roundw
          case rel=>exact⟨1,by go_num,by omega,HB3.o,HX3.o,HT3.o,HK3.o,fun l hl=>by
                     by_cases e:l=0
                     . rw [e];exact HQ.o
                     . exact HAj.o l (by omega)⟩
          . simp [intOf]
     . have hjn:j=1:=by omega
       subst hjn;have HT:Hd ((beB) Xl[k]=true):=Zs0 ((fun _=>rfl:∀ x,beB x=Zst x 0) Xl[k]) HAj.o;go_wp2;go_roundw
       . exact⟨k+1,by go_num,by omega,HBj.o,HXj.o,HKj.o,Zbr HA.o hlt HT.o⟩
       . simp [intOf];omega
  . have HT:Hd (Xl.all (beB)=true):=Zb2 fun i hi=>HA.o i hi (by omega)
    go_wp2;go_ret;exact⟨Zaa HT.o.symm,HB.o⟩
end
section
open Go.RowKit Go.Deep Go.Maps
variable {W0:World} {b1:Nat} {cs1:Array Value}
abbrev ZeV (W0:World) (b1:Nat) (cs1:Array Value) (W:World):Prop:=(∀ i,W.cell? ⟨b1,i,none⟩=cs1[i]?)/\Hd (Below W0.heap.size W0 W/\b1 < W0.heap.size)
theorem ZeV.drew (h1:Box W0 b1 cs1):ZeV W0 b1 cs1 W0.drew:=⟨h1.cell,Zb_.drew,h1.lt⟩
theorem ZeV.on {W W':World} (h:ZeV W0 b1 cs1 W) (hb:Below W.heap.size W W'):ZeV W0 b1 cs1 W':=by
 obtain⟨h1,h4⟩:=h;have hz:=h4.o.1.size;have q1:=h4.o.2;exact⟨fun i=>(hb.cell (p:=⟨b1,i,none⟩) (show b1 < W.heap.size by omega)).trans (h1 i),h4.o.1.trans (hb.mono hz),q1⟩
theorem ZjR (w:World) :
 Calls prog 216 #[] w fun e w'=>e=.returned (.slice (some ⟨w.heap.size,0,none⟩) 5 5)/\Box w' w.heap.size #[.func (.func 246) #[] #[],.func (.func 247) #[] #[],.func (.func 248) #[] #[],.func (.func 249) #[] #[],.func (.func 250) #[] #[]]/\Zw_ w w':=by
 go_enter func216,ntmps216;go_wp2;go_ret;exact⟨rfl,Box.new _ _ _ _ rfl,Zac _ _⟩
theorem ZiY (w:World) :
 Calls prog 220 #[] w fun e w'=>e=.returned (.slice (some ⟨w.heap.size,0,none⟩) 1 1)/\Box w' w.heap.size #[.func (.func 251) #[] #[]]/\Zw_ w w':=by
 go_enter func220,ntmps220;go_wp2;go_ret;exact⟨rfl,Box.new _ _ _ _ rfl,Zac _ _⟩
theorem Zi5 (w:World) :
 Calls prog 224 #[] w fun e w'=>e=.returned (.slice (some ⟨w.heap.size,0,none⟩) 3 3)/\Box w' w.heap.size #[.func (.func 252) #[] #[],.func (.func 253) #[] #[],.func (.func 254) #[] #[]]/\Zw_ w w':=by
 go_enter func224,ntmps224;go_wp2;go_ret;exact⟨rfl,Box.new _ _ _ _ rfl,Zac _ _⟩
theorem Zi1 (w:World) :
 Calls prog 136 #[] w fun e w'=>e=.returned (.slice (some ⟨w.heap.size,0,none⟩) 4 4)/\Box w' w.heap.size #[.func (.func 184) #[] #[],.func (.func 185) #[] #[],.func (.func 186) #[] #[],.func (.func 187) #[] #[]]/\Zw_ w w':=by
 go_enter func136,ntmps136;go_wp2;go_ret;exact⟨rfl,Box.new _ _ _ _ rfl,Zac _ _⟩
theorem ZjT (lo m:Nat) (sv cv bv:Value) (B:Sb) (w:World) (h:Zc5 lo w sv cv bv B) :
 Calls prog 185 #[.agg #[.int .i64 B.now,sv,cv,bv,.map (some m)]] w fun e w'=>e=.returned (.bool (ZcK rSv B.ss&&B.ss.all (svB B.now)))/\Zw_ w w':=by
 have HK:=Zab h;obtain⟨a0,k0,rfl⟩:=h.svs.form;obtain⟨a1,k1,rfl⟩:=h.cps.form;obtain⟨a2,k2,rfl⟩:=h.bes.form;clear h;go_enter func185,ntmps185;go_wp2;generalize hWa:w.alloc _=Wa;have HB0:Hd (Zw_ w Wa):=by rw [<- hWa];exact Zac w _
 have HX0:Hd (Box Wa w.heap.size #[.int .i64 B.now,.slice a0 B.ss.length k0,.slice a1 B.cs.length k1,.slice a2 B.bs.length k2,.map (some m)]):=by rw [<- hWa];exact Box.new _ _ _ _ rfl
 clear hWa;have K:=Zab (HK.o.below HB0.o)
 cases hq:ZcK rSv B.ss with
 | false=>
  have xn:Nonempty (In (Up Wa)):=⟨⟨Wa,Below.refl _ _⟩⟩;have xs:=fun (X:In (Up Wa))=>Zb4 X
  have x1:∀ X:In (Up Wa),X.w.cell? ⟨w.heap.size,1,none⟩=some (.slice a0 B.ss.length k0):=fun X=>Up.cell X (by rw [HX0.o.cell 1];rfl)
  have x2:∀ X:In (Up Wa),X.w.cell? ⟨w.heap.size,2,none⟩=some (.slice a1 B.cs.length k1):=fun X=>Up.cell X (by rw [HX0.o.cell 2];rfl)
  have x3:∀ X:In (Up Wa),X.w.cell? ⟨w.heap.size,3,none⟩=some (.slice a2 B.bs.length k2):=fun X=>Up.cell X (by rw [HX0.o.cell 3];rfl)
  refine Zal (Up Wa) (by kernel_rfl) (by kernel_rfl) (Zb_.drew) ?_
  repeat (go_big_quiet_step ((go_at_call 213;rename_i X;exact (ZiX lo _ B.ss _ (K.o.below X.h).svs).mono fun _ _ h=>⟨h.1.trans (congrArg (fun b=>Ending.returned (.bool b)) hq),Up.next X h.2⟩)))
  refine wpQuiet_nil ?_;intro wn hw;obtain⟨X,hX⟩:=hw;have HWN:Hd (Below Wa.heap.size Wa wn):=by unfold Hd;rw [hX];exact X.h
  clear hX X x1 x2 x3 xs xn;go_wp2;go_ret;exact⟨Zaa (by rw [hq];rfl),zbt HB0.o HWN.o⟩
 | true=>
  go_region_held3 (ZeV Wa w.heap.size #[.int .i64 B.now,.slice a0 B.ss.length k0,.slice a1 B.cs.length k1,.slice a2 B.bs.length k2,.map (some m)])
   (first
     | (with_reducible exact ZeV.drew HX0.o)
     | (with_reducible exact ZeV.on (by assumption) (by assumption)))
   (first
     | (go_at_call 213
        refine (ZiX lo _ B.ss _ (K.o.below (Zb_.drew)).svs).mono ?_;rintro e w1 ⟨he,hb1⟩;replace he:=he.trans (congrArg (fun b=>Ending.returned (.bool b)) hq);subst he;have C1:Hd (Below Wa.heap.size Wa w1):=zbt (Zb_.drew) hb1)
     | (go_at_call 216
        refine (ZjR _).mono ?_;rintro e w2 ⟨rfl,hbx,hb2⟩;have C2:Hd (Below Wa.heap.size Wa w2):=zbt C1.o hb2;have CX:=Zab hbx;clear hbx)
     | (go_at_call 215
        refine (ZlL lo m _ _ _ _ _ B B.ss _ (K.o.below C2.o) (K.o.below C2.o).svs CX.o).mono ?_;rintro e w3 ⟨rfl,hb3⟩;have C3:Hd (Below Wa.heap.size Wa w3):=zbt C2.o hb3))
  go_wp2;go_ret;exact⟨Zaa (by rw [hq];rfl),zbt HB0.o C3.o⟩
theorem Zi0 (lo m:Nat) (sv cv bv:Value) (B:Sb) (w:World) (h:Zc5 lo w sv cv bv B) :
 Calls prog 186 #[.agg #[.int .i64 B.now,sv,cv,bv,.map (some m)]] w fun e w'=>e=.returned (.bool (ZcK rBe B.bs&&B.bs.all (beB)))/\Zw_ w w':=by
 have HK:=Zab h;obtain⟨a0,k0,rfl⟩:=h.svs.form;obtain⟨a1,k1,rfl⟩:=h.cps.form;obtain⟨a2,k2,rfl⟩:=h.bes.form;clear h;go_enter func186,ntmps186;go_wp2;generalize hWa:w.alloc _=Wa;have HB0:Hd (Zw_ w Wa):=by rw [<- hWa];exact Zac w _
 have HX0:Hd (Box Wa w.heap.size #[.int .i64 B.now,.slice a0 B.ss.length k0,.slice a1 B.cs.length k1,.slice a2 B.bs.length k2,.map (some m)]):=by rw [<- hWa];exact Box.new _ _ _ _ rfl
 clear hWa;have K:=Zab (HK.o.below HB0.o)
 cases hq:ZcK rBe B.bs with
 | false=>
  have xn:Nonempty (In (Up Wa)):=⟨⟨Wa,Below.refl _ _⟩⟩;have xs:=fun (X:In (Up Wa))=>Zb4 X
  have x1:∀ X:In (Up Wa),X.w.cell? ⟨w.heap.size,1,none⟩=some (.slice a0 B.ss.length k0):=fun X=>Up.cell X (by rw [HX0.o.cell 1];rfl)
  have x2:∀ X:In (Up Wa),X.w.cell? ⟨w.heap.size,2,none⟩=some (.slice a1 B.cs.length k1):=fun X=>Up.cell X (by rw [HX0.o.cell 2];rfl)
  have x3:∀ X:In (Up Wa),X.w.cell? ⟨w.heap.size,3,none⟩=some (.slice a2 B.bs.length k2):=fun X=>Up.cell X (by rw [HX0.o.cell 3];rfl)
  refine Zal (Up Wa) (by kernel_rfl) (by kernel_rfl) (Zb_.drew) ?_
  repeat (go_big_quiet_step ((go_at_call 217;rename_i X;exact (ZiV lo _ B.bs _ (K.o.below X.h).bes).mono fun _ _ h=>⟨h.1.trans (congrArg (fun b=>Ending.returned (.bool b)) hq),Up.next X h.2⟩)))
  refine wpQuiet_nil ?_;intro wn hw;obtain⟨X,hX⟩:=hw;have HWN:Hd (Below Wa.heap.size Wa wn):=by unfold Hd;rw [hX];exact X.h
  clear hX X x1 x2 x3 xs xn;go_wp2;go_ret;exact⟨Zaa (by rw [hq];rfl),zbt HB0.o HWN.o⟩
 | true=>
  go_region_held3 (ZeV Wa w.heap.size #[.int .i64 B.now,.slice a0 B.ss.length k0,.slice a1 B.cs.length k1,.slice a2 B.bs.length k2,.map (some m)])
   (first
     | (with_reducible exact ZeV.drew HX0.o)
     | (with_reducible exact ZeV.on (by assumption) (by assumption)))
   (first
     | (go_at_call 217
        refine (ZiV lo _ B.bs _ (K.o.below (Zb_.drew)).bes).mono ?_;rintro e w1 ⟨he,hb1⟩;replace he:=he.trans (congrArg (fun b=>Ending.returned (.bool b)) hq);subst he;have C1:Hd (Below Wa.heap.size Wa w1):=zbt (Zb_.drew) hb1)
     | (go_at_call 220
        refine (ZiY _).mono ?_;rintro e w2 ⟨rfl,hbx,hb2⟩;have C2:Hd (Below Wa.heap.size Wa w2):=zbt C1.o hb2;have CX:=Zab hbx;clear hbx)
     | (go_at_call 219
        refine (ZlJ lo m _ _ _ _ _ B B.bs _ (K.o.below C2.o) (K.o.below C2.o).bes CX.o).mono ?_;rintro e w3 ⟨rfl,hb3⟩;have C3:Hd (Below Wa.heap.size Wa w3):=zbt C2.o hb3))
  go_wp2;go_ret;exact⟨Zaa (by rw [hq];rfl),zbt HB0.o C3.o⟩
theorem Zi6 (lo m:Nat) (sv cv bv:Value) (B:Sb) (w:World) (h:Zc5 lo w sv cv bv B) (hx:Zlv w m B) (hu:ZcK rSv B.ss=true) (hss:B.ss.all (svB B.now)=true) :
 Calls prog 187 #[.agg #[.int .i64 B.now,sv,cv,bv,.map (some m)]] w fun e w'=>e=.returned (.bool (ZcK Zbb B.cs&&B.cs.all (cpB B)))/\Zw_ w w':=by
 have HK:=Zab h;have HIX:=Zab hx;have HU:=Zab hu;have HSS:=Zab hss;clear hx hu hss;obtain⟨a0,k0,rfl⟩:=h.svs.form;obtain⟨a1,k1,rfl⟩:=h.cps.form;obtain⟨a2,k2,rfl⟩:=h.bes.form;clear h;go_enter func187,ntmps187;go_wp2;generalize hWa:w.alloc _=Wa;have HB0:Hd (Zw_ w Wa):=by rw [<- hWa];exact Zac w _
 have HX0:Hd (Box Wa w.heap.size #[.int .i64 B.now,.slice a0 B.ss.length k0,.slice a1 B.cs.length k1,.slice a2 B.bs.length k2,.map (some m)]):=by rw [<- hWa];exact Box.new _ _ _ _ rfl
 clear hWa;have K:=Zab (HK.o.below HB0.o)
 cases hq:ZcK Zbb B.cs with
 | false=>
  have xn:Nonempty (In (Up Wa)):=⟨⟨Wa,Below.refl _ _⟩⟩;have xs:=fun (X:In (Up Wa))=>Zb4 X
  have x1:∀ X:In (Up Wa),X.w.cell? ⟨w.heap.size,1,none⟩=some (.slice a0 B.ss.length k0):=fun X=>Up.cell X (by rw [HX0.o.cell 1];rfl)
  have x2:∀ X:In (Up Wa),X.w.cell? ⟨w.heap.size,2,none⟩=some (.slice a1 B.cs.length k1):=fun X=>Up.cell X (by rw [HX0.o.cell 2];rfl)
  have x3:∀ X:In (Up Wa),X.w.cell? ⟨w.heap.size,3,none⟩=some (.slice a2 B.bs.length k2):=fun X=>Up.cell X (by rw [HX0.o.cell 3];rfl)
  refine Zal (Up Wa) (by kernel_rfl) (by kernel_rfl) (Zb_.drew) ?_
  repeat (go_big_quiet_step ((go_at_call 221;rename_i X;exact (ZiW lo _ B.cs _ (K.o.below X.h).cps).mono fun _ _ h=>⟨h.1.trans (congrArg (fun b=>Ending.returned (.bool b)) hq),Up.next X h.2⟩)))
  refine wpQuiet_nil ?_;intro wn hw;obtain⟨X,hX⟩:=hw;have HWN:Hd (Below Wa.heap.size Wa wn):=by unfold Hd;rw [hX];exact X.h
  clear hX X x1 x2 x3 xs xn;go_wp2;go_ret;exact⟨Zaa (by rw [hq];rfl),zbt HB0.o HWN.o⟩
 | true=>
  go_region_held3 (ZeV Wa w.heap.size #[.int .i64 B.now,.slice a0 B.ss.length k0,.slice a1 B.cs.length k1,.slice a2 B.bs.length k2,.map (some m)])
   (first
     | (with_reducible exact ZeV.drew HX0.o)
     | (with_reducible exact ZeV.on (by assumption) (by assumption)))
   (first
     | (go_at_call 221
        refine (ZiW lo _ B.cs _ (K.o.below (Zb_.drew)).cps).mono ?_;rintro e w1 ⟨he,hb1⟩;replace he:=he.trans (congrArg (fun b=>Ending.returned (.bool b)) hq);subst he;have C1:Hd (Below Wa.heap.size Wa w1):=zbt (Zb_.drew) hb1)
     | (go_at_call 224
        refine (Zi5 _).mono ?_;rintro e w2 ⟨rfl,hbx,hb2⟩;have C2:Hd (Below Wa.heap.size Wa w2):=zbt C1.o hb2;have CX:=Zab hbx;clear hbx)
     | (go_at_call 223
        refine (ZlK lo m _ _ _ _ _ B B.cs _ (K.o.below C2.o) (K.o.below C2.o).cps CX.o (HIX.o.below (zbt HB0.o C2.o)) HU.o HSS.o).mono ?_;rintro e w3 ⟨rfl,hb3⟩;have C3:Hd (Below Wa.heap.size Wa w3):=zbt C2.o hb3))
  go_wp2;go_ret;exact⟨Zaa (by rw [hq];rfl),zbt HB0.o C3.o⟩
end
section
open Go.RowKit Go.Deep Go.Maps
variable {B:Sb} {b:Bool}
def szB (B:Sb):Bool:=decide (B.ss.length<=8)&&(decide (B.cs.length<=200)&&decide (B.bs.length<=6))
def ZoM (B:Sb):Nat->Bool
 | 0=>inB 0 1000000 B.now
 | 1=>ZcK rSv B.ss&&B.ss.all (svB B.now)
 | 2=>ZcK rBe B.bs&&B.bs.all beB
 | _=>ZcK Zbb B.cs&&B.cs.all (cpB B)
theorem Ze2 (h:szB B=true):ZaW B=(ZoM B 0&&(ZoM B 1&&(ZoM B 2&&ZoM B 3))):=by
 unfold szB at h;simp only [Bool.and_eq_true] at h;simp only [ZaW,ZoM,h.1,h.2.1,h.2.2,Bool.true_and,Bool.and_comm (List.all _ _) (ZcK _ _)]
theorem Zqh (h:szB B=false):ZaW B=false:=by
 unfold szB at h;unfold ZaW
 cases h1:decide (B.ss.length<=8) with
 | false=>simp
 | true=>
  cases h2:decide (B.cs.length<=200) with
  | false=>simp
  | true=>
   rw [h1,h2] at h;simp only [Bool.true_and] at h;simp [h]
theorem Zs2 {f:Nat->Bool} (h:b=(f 0&&(f 1&&(f 2&&f 3)))):(∀ j,j < 4->f j=true)->b=true:=fun hf=>by
 rw [h,hf 0 (by omega),hf 1 (by omega),hf 2 (by omega),hf 3 (by omega)];rfl
theorem ZoU {f:Nat->Bool} (h:b=(f 0&&(f 1&&(f 2&&f 3)))) {j:Nat} (hj:j < 4) (hf:f j=false):b=false:=by
 have hj':j=0\/j=1\/j=2\/j=3:=by omega
 rcases hj' with rfl | rfl | rfl | rfl <;> simp [h,hf]
theorem ZkM (lo:Nat) (sv cv bv:Value) (B:Sb) (w:World) (h:Zc5 lo w sv cv bv B) :
 Calls prog 134 #[.agg #[.int .i64 B.now,sv,cv,bv]] w fun e w'=>e=.returned (.bool (szB B))/\Zw_ w w':=by
 obtain⟨a0,k0,rfl⟩:=h.svs.form;obtain⟨a1,k1,rfl⟩:=h.cps.form;obtain⟨a2,k2,rfl⟩:=h.bes.form;clear h;go_enter func134,ntmps134
 by_cases h1:B.ss.length<=8
 . by_cases h2:B.cs.length<=200
   . by_cases h3:B.bs.length<=6
     all_goals
      go_wp2;go_ret;exact⟨Zaa (by unfold szB;simp [h1,h2,h3] <;> omega),Zac _ _⟩
   . go_wp2
     go_ret;exact⟨Zaa (by unfold szB;simp [h2]),Zac _ _⟩
 . go_wp2
   go_ret;exact⟨Zaa (by unfold szB;simp [h1]),Zac _ _⟩
theorem Zho (lo:Nat) (sv cv bv:Value) (B:Sb) (w:World) (h:Zc5 lo w sv cv bv B) :
 Calls prog 77 #[.agg #[.int .i64 B.now,sv,cv,bv]] w fun e w'=>Zw_ w w'/\((ZaW B=false/\e=.returned (.tuple #[.agg #[.int .i64 0,.slice none 0 0,.slice none 0 0,.slice none 0 0,.map none],.bool false]))\/(ZaW B=true/\∃ m,Zlv w' m B/\e=.returned (.tuple #[.agg #[.int .i64 B.now,sv,cv,bv,.map (some m)],.bool true]))):=by
 have HK:=Zab h;obtain⟨a0,k0,rfl⟩:=h.svs.form;obtain⟨a1,k1,rfl⟩:=h.cps.form;obtain⟨a2,k2,rfl⟩:=h.bes.form;clear h;go_enter func77,ntmps77;go_wp2_with fail;generalize hWa:World.alloc (w.alloc _) _=Wa;have HB0:Hd (Zw_ w Wa):=by rw [<- hWa];exact (Zac w _).alloc (by simp) _
 have HP0:Hd (Box Wa w.heap.size #[.int .i64 B.now,.slice a0 B.ss.length k0,.slice a1 B.cs.length k1,.slice a2 B.bs.length k2]):=by rw [<- hWa];exact (Box.new _ _ _ _ rfl).on (Zac _ _)
 have HR0:Hd (Box Wa (w.heap.size+1) #[.int .i64 0,.slice none 0 0,.slice none 0 0,.slice none 0 0,.map none]):=by rw [<- hWa];exact Box.new _ _ _ _ (by simp)
 clear hWa;refine (ZkM lo _ _ _ B _ (HK.o.below HB0.o)).mono ?_;rintro e w1 ⟨rfl,hb1⟩;have HB1:=Zab (zbt HB0.o hb1);have HP1:=Zab (HP0.o.on hb1);have HR1:=Zab (HR0.o.on hb1);clear hb1 HB0 HP0 HR0
 cases hsz:szB B with
 | false=>
  have HF:Hd (ZaW B=false):=Zqh hsz;have r0:=HR1.o.cell;have g0:=HR1.o.free;go_wp2;refine bodyPost_ret (v:=.tuple #[.agg #[.int .i64 0,.slice none 0 0,.slice none 0 0,.slice none 0 0,.map none],.bool false]) (by simp [results,results77,go_sem,r0]) rfl ⟨?_,Or.inl ⟨HF.o,rfl⟩⟩
  repeat (refine Below.setCell ?_ (by simp only [];omega) _)
  exact HB1.o
 | true=>
  have HSZ:=Zab hsz;have hss:B.ss.length<=8:=by unfold szB at hsz;simp at hsz;omega
  have hbs:B.bs.length<=6:=by unfold szB at hsz;simp at hsz;omega
  clear hsz;have p:=HP1.o.cell;go_wp2_with fail;clear p;refine (Zkp lo _ _ _ B _ (HK.o.below HB1.o) hss hbs).mono ?_;rintro e w2 ⟨m,hmm,rfl,hb2,D,ho,hix⟩;have hne:m≠w.heap.size+1:=by have:=HR1.o.lt;omega
  clear hmm;have HB2:=Zab (zbt HB1.o hb2);have HR2:=Zab (HR1.o.on hb2);have HI2:Hd (Zlv w2 m B):=⟨_,D,ho,hix⟩;clear hb2 ho hix HB1 HP1 HR1 hss hbs;go_wp2_with fail;generalize hWb:w2.alloc _=Wb;have HBb:Hd (Zw_ w Wb):=by rw [<- hWb];exact zbt HB2.o (Zac _ _)
  have HRb:Hd (Box Wb (w.heap.size+1) #[.int .i64 0,.slice none 0 0,.slice none 0 0,.slice none 0 0,.map none]):=by rw [<- hWb];exact HR2.o.on (Zac _ _)
  have HIb:Hd (Zlv Wb m B):=by rw [<- hWb];exact HI2.o.below (Zac _ _)
  have HXb:Hd (Box Wb w2.heap.size #[.int .i64 B.now,.slice a0 B.ss.length k0,.slice a1 B.cs.length k1,.slice a2 B.bs.length k2,.map (some m)]):=by rw [<- hWb];exact Box.new _ _ _ _ rfl
  clear hWb HR2 HI2;have hw2:w.heap.size<=w2.heap.size:=HB2.o.size;clear HB2;refine (Zi1 _).mono ?_;rintro e W1 ⟨rfl,hbx,hb3⟩;have HB3:=Zab (zbt HBb.o hb3);have HR3:=Zab (HRb.o.on hb3);have HIX:=Zab (HIb.o.below hb3);have HX3:=Zab (HXb.o.on hb3);have HC3:=Zab hbx;clear hb3 hbx HRb HIb HXb HBb;obtain⟨cb,hcb⟩:∃ cb,Wb.heap.size=cb:=⟨_,rfl⟩
  rw [hcb] at HC3 |-;clear hcb;go_wp2
  go_loopw [15] (fun i wr=>∃ j:Nat,i=.int .i64 j/\j<=4/\Zw_ w wr/\Below W1.heap.size W1 wr/\Box wr (w.heap.size+1) #[.int .i64 0,.slice none 0 0,.slice none 0 0,.slice none 0 0,.map none]/\Box wr w2.heap.size #[.int .i64 B.now,.slice a0 B.ss.length k0,.slice a1 B.cs.length k1,.slice a2 B.bs.length k2,.map (some m)]/\Box wr cb #[.func (.func 184) #[] #[],.func (.func 185) #[] #[],.func (.func 186) #[] #[],.func (.func 187) #[] #[]]/\(∀ l,l < j->ZoM B l=true)) (fun i _=>4 - (intOf i).toNat)
  case atStart=>exact⟨0,rfl,by omega,HB3.o,Below.refl _ _,HR3.o,HX3.o,HC3.o,fun l h=>by omega⟩
  case round=>
   obtain⟨j,rfl,hj,hb,hwj,hr,hx,hc,hall⟩:=hrel;have HBj:=Zab hb;have HWj:=Zab hwj;have HRj:=Zab hr;have HXj:=Zab hx;have HCj:=Zab hc;have HAj:=Zab hall;clear hb hwj hr hx hc hall HB3 HR3 HX3 HC3
   by_cases hjl:j < 4
   . have x:=HXj.o.cell
     have hj':j=0\/j=1\/j=2\/j=3:=by omega
     rcases hj' with rfl | rfl | rfl | rfl
     . have kc:=HCj.o.cell 0
       simp at kc
       cases hq:ZoM B 0 with
       | false=>
        have HF:Hd (ZaW B=false):=ZoU (Ze2 HSZ.o) (by omega) hq;go_wp2_with (go_at_call 184;refine (ZjD lo m _ _ _ B _ (HK.o.below HBj.o)).mono ?_;rintro e w3 ⟨he,hb3⟩;replace he:=he.trans (congrArg (fun b=>Ending.returned (.bool b)) hq);subst he;have HB3:=Zab (zbt HBj.o hb3);have HR3:=Zab (HRj.o.on hb3);have r0:=HR3.o.cell;have g0:=HR3.o.free;clear hb3);refine bodyPost_ret (v:=.tuple #[.agg #[.int .i64 0,.slice none 0 0,.slice none 0 0,.slice none 0 0,.map none],.bool false]) (by simp [results,results77,go_sem,r0]) rfl ⟨?_,Or.inl ⟨HF.o,rfl⟩⟩
        repeat (refine Below.setCell ?_ (by simp only [];omega) _)
        exact HB3.o
       | true=>
        have HQ:=Zab hq;go_wp2_with (go_at_call 184;refine (ZjD lo m _ _ _ B _ (HK.o.below HBj.o)).mono ?_;rintro e w3 ⟨he,hb3⟩;replace he:=he.trans (congrArg (fun b=>Ending.returned (.bool b)) HQ.o);subst he;have HB3:=Zab (zbt HBj.o hb3);have HW3:=Zab (zbt HWj.o hb3);have HR3:=Zab (HRj.o.on hb3);have HX3:=Zab (HXj.o.on hb3);have HC3:=Zab (HCj.o.on hb3);clear hb3);go_roundw
        case rel=>exact⟨1,by go_num,by omega,HB3.o,HW3.o,HR3.o,HX3.o,HC3.o,fun l hl=>by
                   by_cases e:l=0
                   . rw [e];exact HQ.o
                   . exact HAj.o l (by omega)⟩
        . simp [intOf]
     . have kc:=HCj.o.cell 1
       simp at kc
       cases hq:ZoM B 1 with
       | false=>
        have HF:Hd (ZaW B=false):=ZoU (Ze2 HSZ.o) (by omega) hq;go_wp2_with (go_at_call 185;refine (ZjT lo m _ _ _ B _ (HK.o.below HBj.o)).mono ?_;rintro e w3 ⟨he,hb3⟩;replace he:=he.trans (congrArg (fun b=>Ending.returned (.bool b)) hq);subst he;have HB3:=Zab (zbt HBj.o hb3);have HR3:=Zab (HRj.o.on hb3);have r0:=HR3.o.cell;have g0:=HR3.o.free;clear hb3);refine bodyPost_ret (v:=.tuple #[.agg #[.int .i64 0,.slice none 0 0,.slice none 0 0,.slice none 0 0,.map none],.bool false]) (by simp [results,results77,go_sem,r0]) rfl ⟨?_,Or.inl ⟨HF.o,rfl⟩⟩
        repeat (refine Below.setCell ?_ (by simp only [];omega) _)
        exact HB3.o
       | true=>
        have HQ:=Zab hq;go_wp2_with (go_at_call 185;refine (ZjT lo m _ _ _ B _ (HK.o.below HBj.o)).mono ?_;rintro e w3 ⟨he,hb3⟩;replace he:=he.trans (congrArg (fun b=>Ending.returned (.bool b)) HQ.o);subst he;have HB3:=Zab (zbt HBj.o hb3);have HW3:=Zab (zbt HWj.o hb3);have HR3:=Zab (HRj.o.on hb3);have HX3:=Zab (HXj.o.on hb3);have HC3:=Zab (HCj.o.on hb3);clear hb3);go_roundw
        case rel=>exact⟨2,by go_num,by omega,HB3.o,HW3.o,HR3.o,HX3.o,HC3.o,fun l hl=>by
                   by_cases e:l=1
                   . rw [e];exact HQ.o
                   . exact HAj.o l (by omega)⟩
        . simp [intOf]
     . have kc:=HCj.o.cell 2
       simp at kc
       cases hq:ZoM B 2 with
       | false=>
        have HF:Hd (ZaW B=false):=ZoU (Ze2 HSZ.o) (by omega) hq;go_wp2_with (go_at_call 186;refine (Zi0 lo m _ _ _ B _ (HK.o.below HBj.o)).mono ?_;rintro e w3 ⟨he,hb3⟩;replace he:=he.trans (congrArg (fun b=>Ending.returned (.bool b)) hq);subst he;have HB3:=Zab (zbt HBj.o hb3);have HR3:=Zab (HRj.o.on hb3);have r0:=HR3.o.cell;have g0:=HR3.o.free;clear hb3);refine bodyPost_ret (v:=.tuple #[.agg #[.int .i64 0,.slice none 0 0,.slice none 0 0,.slice none 0 0,.map none],.bool false]) (by simp [results,results77,go_sem,r0]) rfl ⟨?_,Or.inl ⟨HF.o,rfl⟩⟩
        repeat (refine Below.setCell ?_ (by simp only [];omega) _)
        exact HB3.o
       | true=>
        have HQ:=Zab hq;go_wp2_with (go_at_call 186;refine (Zi0 lo m _ _ _ B _ (HK.o.below HBj.o)).mono ?_;rintro e w3 ⟨he,hb3⟩;replace he:=he.trans (congrArg (fun b=>Ending.returned (.bool b)) HQ.o);subst he;have HB3:=Zab (zbt HBj.o hb3);have HW3:=Zab (zbt HWj.o hb3);have HR3:=Zab (HRj.o.on hb3);have HX3:=Zab (HXj.o.on hb3);have HC3:=Zab (HCj.o.on hb3);clear hb3);go_roundw
        case rel=>exact⟨3,by go_num,by omega,HB3.o,HW3.o,HR3.o,HX3.o,HC3.o,fun l hl=>by
                   by_cases e:l=2
                   . rw [e];exact HQ.o
                   . exact HAj.o l (by omega)⟩
        . simp [intOf]
     . have kc:=HCj.o.cell 3
       simp at kc;have h1:=HAj.o 1 (by omega);have HU:Hd (ZcK rSv B.ss=true):=(Bool.and_eq_true_iff.1 h1).1;have HSS:Hd (B.ss.all (svB B.now)=true):=(Bool.and_eq_true_iff.1 h1).2;clear h1
       cases hq:ZoM B 3 with
       | false=>
        have HF:Hd (ZaW B=false):=ZoU (Ze2 HSZ.o) (by omega) hq;go_wp2_with (go_at_call 187;refine (Zi6 lo m _ _ _ B _ (HK.o.below HBj.o) (HIX.o.below HWj.o) HU.o HSS.o).mono ?_;rintro e w3 ⟨he,hb3⟩;replace he:=he.trans (congrArg (fun b=>Ending.returned (.bool b)) hq);subst he;have HB3:=Zab (zbt HBj.o hb3);have HR3:=Zab (HRj.o.on hb3);have r0:=HR3.o.cell;have g0:=HR3.o.free;clear hb3);refine bodyPost_ret (v:=.tuple #[.agg #[.int .i64 0,.slice none 0 0,.slice none 0 0,.slice none 0 0,.map none],.bool false]) (by simp [results,results77,go_sem,r0]) rfl ⟨?_,Or.inl ⟨HF.o,rfl⟩⟩
        repeat (refine Below.setCell ?_ (by simp only [];omega) _)
        exact HB3.o
       | true=>
        have HQ:=Zab hq;go_wp2_with (go_at_call 187;refine (Zi6 lo m _ _ _ B _ (HK.o.below HBj.o) (HIX.o.below HWj.o) HU.o HSS.o).mono ?_;rintro e w3 ⟨he,hb3⟩;replace he:=he.trans (congrArg (fun b=>Ending.returned (.bool b)) HQ.o);subst he;have HB3:=Zab (zbt HBj.o hb3);have HW3:=Zab (zbt HWj.o hb3);have HR3:=Zab (HRj.o.on hb3);have HX3:=Zab (HXj.o.on hb3);have HC3:=Zab (HCj.o.on hb3);clear hb3);go_roundw
        case rel=>exact⟨4,by go_num,by omega,HB3.o,HW3.o,HR3.o,HX3.o,HC3.o,fun l hl=>by
                   by_cases e:l=3
                   . rw [e];exact HQ.o
                   . exact HAj.o l (by omega)⟩
        . simp [intOf]
   . have hjn:j=4:=by omega
     subst hjn;have HT:Hd (ZaW B=true):=Zs2 (Ze2 HSZ.o) HAj.o;have x:=HXj.o.cell;have r0:=HRj.o.cell;have g0:=HRj.o.free;go_wp2;refine bodyPost_ret (v:=.tuple #[.agg #[.int .i64 B.now,.slice a0 B.ss.length k0,.slice a1 B.cs.length k1,.slice a2 B.bs.length k2,.map (some m)],.bool true]) (by simp [results,results77,go_sem,r0]) rfl ⟨?_,Or.inr ⟨HT.o,m,?_,rfl⟩⟩
     . repeat (refine Below.setCell ?_ (by simp only [];omega) _)
       exact HBj.o
     . obtain⟨n,D,ho,hix⟩:=HIX.o.below HWj.o
       refine⟨n,D,?_,hix⟩
       repeat (refine World.ownsMap.setCell ?_ hne _)
       exact ho
end
open Go.RowKit Go.Deep Go.Maps
theorem Zio (lo:Nat) (sv cv bv:Value) (B:Sb) (w:World) (h:Zc5 lo w sv cv bv B) :
 Calls prog 28 #[.agg #[.int .i64 B.now,sv,cv,bv]] w fun e w'=>e=.returned (.bool (ZaW B))/\Zw_ w w':=by
 have HK:=Zab h;obtain⟨a0,k0,rfl⟩:=h.svs.form;obtain⟨a1,k1,rfl⟩:=h.cps.form;obtain⟨a2,k2,rfl⟩:=h.bes.form;clear h;go_enter func28,ntmps28;go_wp2_with fail;generalize hWa:w.alloc _=Wa;have HB0:Hd (Zw_ w Wa):=by rw [<- hWa];exact Zac w _
 clear hWa;refine (Zho lo _ _ _ B _ (HK.o.below HB0.o)).mono ?_;rintro e w1 ⟨hb1,hh⟩;have HB1:=Zab (zbt HB0.o hb1);clear hb1
 rcases hh with ⟨hv,rfl⟩ | ⟨hv,m,-,rfl⟩
 . have HV:=Zab hv
   clear hv;go_wp2;go_ret;exact⟨Zaa HV.o.symm,zbt HB1.o (Zac _ _)⟩
 . have HV:=Zab hv
   clear hv;go_wp2;go_ret;exact⟨Zaa HV.o.symm,zbt HB1.o (Zac _ _)⟩
end Go.Proofs.YtbdhbihhgfpnnaaGreat
