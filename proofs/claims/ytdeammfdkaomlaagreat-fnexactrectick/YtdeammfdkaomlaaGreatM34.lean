import Derived.Test.YtdeammfdkaomlaaGreatM25
import Derived.Test.YtdeammfdkaomlaaGreatM30
import Derived.Test.YtdeammfdkaomlaaGreatM33
set_option maxHeartbeats 16000000
set_option maxRecDepth 100000
open Go.Proofs.Tryz
namespace Go.Proofs.YtdeammfdkaomlaaGreat
open Go.RowKit Go.Deep
def Zj7 (U:Rr) (a:Ra):Bool:=(a.ix == U.dk.kn+1)&&(decide (U.of < 2*(a.fr.length:Int))&&(decide (a.ix<=(U.dk.sl.length:Int))&&(match U.dk.sl[(a.ix - 1).toNat]? with | some s=>s.ba == U.ba | none=>false)))
def adv1 (U:Rr) (a:Ra):Rr:=if Zj7 U a then { U with dk:={ U.dk with kn:=a.ix } } else U
def ZfK (U:Rr) (i:Nat):Rr:=(U.ac.take i).foldl adv1 U
def Zcv (U:Rr):Rr:=U.ac.foldl adv1 U
structure Zhx (U V:Rr):Prop where
 e:V={ U with dk:={ U.dk with kn:=V.dk.kn } }
 k0:0<=V.dk.kn
 k1:V.dk.kn<=1000
theorem ZkH {U V:Rr} (h:Zhx U V) (a:Ra) (ha:1<=a.ix/\a.ix<=1000):Zhx U (adv1 V a):=by
 unfold adv1
 split
 . exact⟨by rw [h.e],by show 0<=a.ix;omega,by show a.ix<=1000;omega⟩
 . exact h
theorem Zc8 {U:Rr} {i:Nat} (h:i < U.ac.length):ZfK U (i+1)=adv1 (ZfK U i) U.ac[i]:=by
 unfold ZfK;rw [List.take_succ_eq_append_getElem h,List.foldl_append]
 rfl
theorem ZeT (U:Rr):ZfK U U.ac.length=Zcv U:=by unfold ZfK Zcv;rw [List.take_length]
theorem ZfO {U:Rr} (h0:0<=U.dk.kn) (h1:U.dk.kn<=1000) (ha:∀ i (h:i < U.ac.length),1<=U.ac[i].ix/\U.ac[i].ix<=1000):∀ i,i<=U.ac.length->Zhx U (ZfK U i):=by
 intro i
 induction i with
 | zero=>intro _;exact⟨rfl,h0,h1⟩
 | succ i ih=>intro hi;rw [Zc8 (by omega)];exact ZkH (ih (by omega)) _ (ha i (by omega))
theorem ZeU (K:Nat->Prop) (lo:Nat) (w:World) (U:Rr) (b:Nat->Option Addr) (m:Nat->Nat) (S:Nat->Nat->Prop) (h:Cz K lo w b m S U) (h0:0<=U.dk.kn) (h1:U.dk.kn<=1000) (ha:∀ i (h:i < U.ac.length),1<=U.ac[i].ix/\U.ac[i].ix<=1000) (hl:U.ac.length<=1000000) (hf:∀ i (h:i < U.ac.length),U.ac[i].fr.length<=1048576) (_hsl:U.dk.sl.length<=1048576) :
 Calls prog 170 #[.agg (rrF U b m).toArray] w fun e w'=>∃ b' m' S',e=.returned (.agg (rrF (Zcv U) b' m').toArray)/\Zag K w w'/\Cz K lo w' b' m' S' (Zcv U):=by
 have HC:=Zaa h;have HKw:Hd (∀ k,K k->k < w.heap.size):=fun k hk=>(h.prot k hk).1
 obtain⟨cs,hcs⟩:∃ cs,cs=rrF U b m:=⟨_,rfl⟩
 rw [<- hcs];have HCS:=Zaa hcs;clear hcs h;go_enter func170,ntmps170
 go_upto_region 1 with fail
 obtain⟨wz,hwz,FB,RB,HB⟩:∃ wz,wz=(w.alloc (.cells cs.toArray 61)).alloc (.cells zR 61)/\Hd (Box wz w.heap.size (rrF U b m).toArray)/\Hd (Box wz (w.heap.size+1) zR)/\Hd (Zw_ w wz):=⟨_,rfl,by unfold Hd;rw [<- HCS.o];exact ((Box.new w _ _ _ rfl).on (Zab _ _)),Box.new _ _ _ _ (by simp),(bt (Zab _ _) (Zab _ _))⟩
 rw [<- hwz];clear hwz;have hwn:w.heap.size+2<=wz.heap.size:=by have:=RB.o.lt;omega
 have HR:Hd (Rz (fun k=>K k\/(w.heap.size+1<=k/\k < w.heap.size+2)) lo wz w.heap.size b m S U):=HC.o.rz HB.o FB.o Zl_ (fun k hk=>hk.imp (fun h=>h) (fun h=>⟨by omega,by omega,by omega⟩));have HKP:Hd (Zag K w wz):=Zag.below HB.o HKw.o;clear FB HB;have HAO:=Zaa (ZfO h0 h1 ha);have HAI:=Zaa ha;have HFL:=Zaa hf;clear ha hf
 go_upto_region 2 with fail
 go_loopw [3] (fun iv wr=>∃ (i:Nat) (b':Nat->Option Addr) (m':Nat->Nat) (S':Nat->Nat->Prop),iv=.int .i64 i/\i<=U.ac.length/\Rz (fun k=>K k\/(w.heap.size+1<=k/\k < w.heap.size+2)) lo wr w.heap.size b' m' S' (ZfK U i)/\Zag K w wr/\w.heap.size+2<=wr.heap.size/\Box wr (w.heap.size+1) zR) (fun iv _=>U.ac.length - (intOf iv).toNat)
 case atStart=>exact⟨0,b,m,S,rfl,by omega,HR.o,HKP.o,hwn,RB.o⟩
 case round=>
  obtain⟨i,b5,m5,S5,rfl,hi,hr,hkp,hsz,hrb⟩:=hrel;clear HR HKP RB;have HR:=Zaa hr;have HKP:=Zaa hkp;have RB:=Zaa hrb;clear hr hkp hrb;obtain⟨V,hV⟩:∃ V,V=ZfK U i:=⟨_,rfl⟩
  rw [<- hV] at HR;have hof:=HAO.o i hi;rw [<- hV] at hof;have HV:=Zaa hV;clear hV;have hac:V.ac=U.ac:=by rw [hof.e]
  have hvsl:V.dk.sl=U.dk.sl:=by rw [hof.e]
  have hvk0:=hof.k0;have hvk1:=hof.k1;have x16:wr.cell? ⟨w.heap.size,16,none⟩=some (.slice (b5 6) U.ac.length (m5 6)):=by rw [HR.o.box.cell 16,<- hac];rfl
  by_cases hlt:i < U.ac.length
  . have i0:(0:Int)<=(i:Int):=by omega
    have i1:(i:Int) < (U.ac.length:Int):=by omega
    obtain⟨L6,h6,hmap⟩:=HR.o.cp.o6;rw [hac] at h6 hmap;have hl6:L6.length=U.ac.length:=by rw [<- hmap,List.length_map]
    rcases h6 with ⟨-,hnil⟩ | ⟨g,c6,hSg,⟨g',cap,hv,hfr⟩,hinn⟩
    . rw [hnil] at hl6;simp at hl6;omega
    obtain rfl:g'=g:=by have:=hfr.bs;have:=hfr.up;omega
    have hi6:i < L6.length:=by omega
    have hxi:L6[i].1=U.ac[i]:=by
     have:=congrArg (fun l=>l[i]?) hmap;simp only [List.getElem?_map,List.getElem?_eq_getElem hi6,List.getElem?_eq_getElem hlt,Option.map_some,Option.some.injEq] at this;exact this
    obtain⟨A,hA⟩:∃ A,A=U.ac[i]:=⟨_,rfl⟩
    obtain⟨X6,hX6⟩:∃ X,X=L6[i]:=⟨_,rfl⟩
    have hXA:X6.1=A:=by rw [hX6,hA];exact hxi
    have r0:wr.cell? ⟨g',i*2,none⟩=some (.int .i64 A.ix):=by rw [<- hXA,hX6];exact hfr.get Zar hi6 (t:=0) (by omega) rfl
    have r1:wr.cell? ⟨g',i*2+1,none⟩=some (.slice X6.2.1 A.fr.length X6.2.2):=by rw [<- hXA,hX6];exact hfr.get Zar hi6 (t:=1) (by omega) rfl
    injection hv with hv1 hv2 hv3
    rw [hv1] at x16;have hA1:=HAI.o i hlt;have hA2:=HFL.o i hlt;rw [<- hA] at hA1 hA2;have HA:=Zaa hA;clear hfr hinn hmap hxi hX6 hXA hA hv1 hv2 hv3 hl6 hi6;obtain⟨X61,hX61⟩:∃ q,q=X6.2.1:=⟨_,rfl⟩
    obtain⟨X62,hX62⟩:∃ q,q=X6.2.2:=⟨_,rfl⟩
    rw [<- hX61,<- hX62] at r1;clear hX61 hX62
    go_upto_region 5 with fail
    clear x16 r0 r1;obtain⟨w2,hw2,QB,HB2⟩:∃ w2,w2=wr.alloc (.cells #[.int .i64 A.ix,.slice X61 A.fr.length X62] 170)/\Hd (Box w2 wr.heap.size #[.int .i64 A.ix,.slice X61 A.fr.length X62])/\Hd (Below wr.heap.size wr w2):=⟨_,rfl,Box.new _ _ _ _ rfl,Zab _ _⟩
    rw [<- hw2];clear hw2;have hs2:=HB2.o.size;replace HR:=Zaa (HR.o.on HB2.o);replace RB:=Zaa (RB.o.on HB2.o);replace HKP:Hd (Zag K w w2):=HKP.o.trans (Zag.below HB2.o (fun k hk=>by have:=HKw.o k hk;omega));clear HB2;have a0:w2.cell? ⟨wr.heap.size,0,none⟩=some (.int .i64 A.ix):=QB.o.cell 0;have a1:w2.cell? ⟨wr.heap.size,1,none⟩=some (.slice X61 A.fr.length X62):=QB.o.cell 1;have x1:w2.cell? ⟨w.heap.size,1,none⟩=some (.int .i64 V.of):=HR.o.box.cell 1;have x7:w2.cell? ⟨w.heap.size,7,none⟩=some (.int .i64 V.dk.kn):=HR.o.box.cell 7;have x8:w2.cell? ⟨w.heap.size,8,none⟩=some (.slice (b5 1) U.dk.sl.length (m5 1)):=by rw [HR.o.box.cell 8,<- hvsl];rfl
    have x13:w2.cell? ⟨w.heap.size,13,none⟩=some (.int .i64 V.ba):=HR.o.box.cell 13;have wk:IntKind.wrap .i64 (V.dk.kn+1)=V.dk.kn+1:=by rw [IntKind.wrap_i64];omega
    have wf:IntKind.wrap .i64 (2*(A.fr.length:Int))=2*(A.fr.length:Int):=by rw [IntKind.wrap_i64];omega
    have HAB:Hd (Zj7 V A=((A.ix == V.dk.kn+1)&&(decide (V.of < 2*(A.fr.length:Int))&&(decide (A.ix<=(U.dk.sl.length:Int))&&(match U.dk.sl[(A.ix - 1).toNat]? with | some s=>s.ba == V.ba | none=>false))))):=by unfold Hd Zj7;rw [hvsl]
    have HST:Hd (∀ W,Below w2.heap.size w2 W->adv1 V A=V->(∃ b' m' S',Rz (fun k=>K k\/(w.heap.size+1<=k/\k < w.heap.size+2)) lo W w.heap.size b' m' S' (ZfK U (i+1)))/\Zag K w W/\w.heap.size+2<=W.heap.size/\Box W (w.heap.size+1) zR):=fun W hb he=>by
     refine⟨⟨b5,m5,S5,?_⟩,HKP.o.trans (Zag.below hb (fun k hk=>by have:=HKw.o k hk;omega)),by have:=hb.size;omega,RB.o.on hb⟩;rw [Zc8 hlt,<- HV.o,<- HA.o,he];exact HR.o.on hb
    cases q1:(A.ix == V.dk.kn+1) with
    | false=>
     have HE:Hd (adv1 V A=V):=by unfold Hd adv1;rw [HAB.o,q1];rfl
     go_quiet (fail)
     obtain⟨w3,hw3⟩:∃ w3,w3=w2.drewN nq:=⟨_,rfl⟩
     have hb3:Below w2.heap.size w2 w3:=by rw [hw3];exact below_drewN Zb_ _
     rw [<- hw3];clear hw3 a0 a1 x1 x7 x8 x13;go_wp2;go_roundw
     . 
      obtain⟨⟨b1,m1,S1,e1⟩,e2,e3,e4⟩:=HST.o w3 hb3 HE.o;exact⟨i+1,b1,m1,S1,by go_num,by omega,e1,e2,e3,e4⟩
     . simp [intOf];omega
    | true=>
    by_cases h2:V.of < 2*(A.fr.length:Int)
    case neg=>
     have d2:decide (V.of < 2*(A.fr.length:Int))=false:=decide_eq_false h2;have HE:Hd (adv1 V A=V):=by unfold Hd adv1;rw [HAB.o,q1,d2];rfl
     go_quiet (fail)
     obtain⟨w3,hw3⟩:∃ w3,w3=w2.drewN nq:=⟨_,rfl⟩
     have hb3:Below w2.heap.size w2 w3:=by rw [hw3];exact below_drewN Zb_ _
     rw [<- hw3];clear hw3 a0 a1 x1 x7 x8 x13;go_wp2;go_roundw
     . 
      obtain⟨⟨b1,m1,S1,e1⟩,e2,e3,e4⟩:=HST.o w3 hb3 HE.o;exact⟨i+1,b1,m1,S1,by go_num,by omega,e1,e2,e3,e4⟩
     . simp [intOf];omega
    have d2:decide (V.of < 2*(A.fr.length:Int))=true:=decide_eq_true h2
    by_cases h3:A.ix<=(U.dk.sl.length:Int)
    case neg=>
     have d3:decide (A.ix<=(U.dk.sl.length:Int))=false:=decide_eq_false h3;have HE:Hd (adv1 V A=V):=by unfold Hd adv1;rw [HAB.o,q1,d2,d3];rfl
     go_quiet (fail)
     obtain⟨w3,hw3⟩:∃ w3,w3=w2.drewN nq:=⟨_,rfl⟩
     have hb3:Below w2.heap.size w2 w3:=by rw [hw3];exact below_drewN Zb_ _
     rw [<- hw3];clear hw3 a0 a1 x1 x7 x8 x13;go_wp2;go_roundw
     . 
      obtain⟨⟨b1,m1,S1,e1⟩,e2,e3,e4⟩:=HST.o w3 hb3 HE.o;exact⟨i+1,b1,m1,S1,by go_num,by omega,e1,e2,e3,e4⟩
     . simp [intOf];omega
    have d3:decide (A.ix<=(U.dk.sl.length:Int))=true:=decide_eq_true h3;obtain⟨q,hq⟩:∃ q:Nat,(q:Int)=A.ix - 1:=⟨(A.ix - 1).toNat,by omega⟩
    have hql:q < U.dk.sl.length:=by omega
    have hqn:(A.ix - 1).toNat=q:=by omega
    rw [hqn,List.getElem?_eq_getElem hql] at HAB;obtain⟨sq,hsq⟩:∃ x,x=U.dk.sl[q]:=⟨_,rfl⟩
    rw [<- hsq] at HAB;have ho1:=HR.o.cp.o1;rw [hvsl] at ho1
    rcases ho1 with ⟨-,hnil⟩ | ⟨g1,hSg1,g1',cap1,hv,hfr1⟩
    . rw [hnil] at hql;simp at hql
    injection hv with hv1 hv2 hv3
    rw [hv1] at x8;have z0:w2.cell? ⟨g1',q*2,none⟩=some (.int .i64 sq.ba):=by rw [hsq];exact hfr1.get ZaC hql (t:=0) (by omega) rfl
    have j0:(0:Int)<=(q:Int):=by omega
    have j1:(q:Int) < (U.dk.sl.length:Int):=by omega
    have wq:IntKind.wrap .i64 (A.ix - 1)=(q:Int):=by rw [IntKind.wrap_i64];omega
    have HQ:=Zaa hq;clear hfr1 hv1 hv2 hv3 hsq hqn hq
    cases q4:(sq.ba == V.ba) with
    | false=>
     have HE:Hd (adv1 V A=V):=by unfold Hd adv1;rw [HAB.o,q1,d2,d3];simp only [];rw [q4];rfl
     go_quiet (fail)
     obtain⟨w3,hw3⟩:∃ w3,w3=w2.drewN nq:=⟨_,rfl⟩
     have hb3:Below w2.heap.size w2 w3:=by rw [hw3];exact below_drewN Zb_ _
     rw [<- hw3];clear hw3 a0 a1 x1 x7 x8 x13;go_wp2;go_roundw
     . 
      obtain⟨⟨b1,m1,S1,e1⟩,e2,e3,e4⟩:=HST.o w3 hb3 HE.o;exact⟨i+1,b1,m1,S1,by go_num,by omega,e1,e2,e3,e4⟩
     . simp [intOf];omega
    | true=>
     have HE:Hd (adv1 V A={ V with dk:={ V.dk with kn:=A.ix } }):=by unfold Hd adv1;rw [HAB.o,q1,d2,d3];simp only [];rw [q4];rfl
     go_quiet (fail)
     obtain⟨w3,hw3⟩:∃ w3,w3=w2.drewN nq:=⟨_,rfl⟩
     have hb3:Below w2.heap.size w2 w3:=by rw [hw3];exact below_drewN Zb_ _
     rw [<- hw3];clear hw3 a0 a1 x1 x7 x8 x13 z0;have hs3:=hb3.size;replace HR:=Zaa (HR.o.on hb3);replace RB:=Zaa (RB.o.on hb3);replace HKP:Hd (Zag K w w3):=HKP.o.trans (Zag.below hb3 (fun k hk=>by have:=HKw.o k hk;omega));have a0:w3.cell? ⟨wr.heap.size,0,none⟩=some (.int .i64 A.ix):=(QB.o.on hb3).cell 0;have x7:w3.cell? ⟨w.heap.size,7,none⟩=some (.int .i64 V.dk.kn):=HR.o.box.cell 7;have gf:=HR.o.box.free;have HP:=Zaa (HR.o.scal (U':={ V with dk:={ V.dk with kn:=A.ix } }) (j:=7) (v:=.int .i64 A.ix) (by show 7 < 18;omega) rfl (fun _ h=>⟨h.seg,h.ap,h.o0,h.o1,h.o2,h.o3,h.o4,h.o5,h.o6⟩));go_wp2;clear a0 x7 gf;go_roundw
     . 
      exact⟨i+1,b5,m5,S5,by go_num,by omega,by rw [Zc8 hlt,<- HV.o,<- HA.o,HE.o];exact HP.o.1,HKP.o.trans (HP.o.2.less fun k hk=>Or.inl hk),by simp [World.setCell];omega,RB.o.setFar (by simp only [];omega) _⟩
     . simp [intOf];omega
  . have hii:i=U.ac.length:=by omega
    have HE:Hd (Zcv U=V):=by unfold Hd;rw [HV.o,hii,ZeT]
    have HII:=Zaa hii;have dn:decide ((i:Int) < (U.ac.length:Int))=false:=by simp;omega
    clear hii
    go_upto_region 7 with fail
    clear x16 dn;obtain⟨b9,m9,S9,yl,HRx,HYL,HRA,HTH,HON,HSy,hy18⟩:=exA (U:=V) HR.o RB.o rfl;clear HR
    go_wp2_with (first
     | (with_reducible refine ldR (.tmp 1) w.heap.size 0 yl HRA.o HSy.o ?_)
     | (with_reducible refine stR (.tmp 2) (.tmp 60) (w.heap.size+1) 0 yl.toArray HTH.o (szN hy18) HON.o ?_;refine Hd.o ?_))
    generalize hW9:World.setCells _ _ _ _=W9;obtain⟨FR9,HKn,HRn⟩:=exB hW9 RB.o hy18 HRx.o (Or.inr (by omega)) HKP.o HKw.o (by omega);clear hW9;refine Zaa ?_;go_wp2;exact bodyPost_ret (v:=.agg yl.toArray) (Zks (p:=2) results170 FR9.o HSy.o rfl) rfl ⟨b9,m9,S9,by rw [HYL.o,HE.o],HKn.o,by rw [HE.o];exact HRn.o⟩
theorem Zcf {P:Program}{ops:Array Oper}{o:Oper}{a:Act}{w:World}{K:Act->World->Prop}{Q:Exit->Act->World->Prop}{E:Prop} (hgd:o.guard=none) (ty:TypeId) (x y:Operand) (ho:o.op=.store ty x y)
 (b of:Nat) (cells:Array Value) (hx:a.eval x=.pointer (some ⟨b,of,none⟩)) (hy:a.eval y=.agg cells) (ht:w.there b of cells.size) (hi:(P.info? ty).map (·.size)=some cells.size) (h1:cells.all (·.oneCell')=true)
 (h:K (a.put o.dst undef) (w.setCells b of cells.toList)):if Region.wanted o (yielded ops a.tmps)=true then Oper.wp P o a w K Q else E:=by
 have hw:Region.wanted o (yielded ops a.tmps)=true:=by simp [Region.wanted,hgd]
 rw [if_pos hw];exact wp_store_mid ty x y ho b of cells hx hy ht hi h1 h
def ZkX (U:Rr) (n:Int):Rr:={ U with ye:=ZbD U.ye n }
def ZbP (U:Rr) (n:Int) (L:List Rs):Rr:={ ZkX U n with be:=Zas U.be L }
def ZdS (U:Rr):Rr:={ Za7 U with ld:=true,ba:=U.ba }
def ZbQ (U:Rr) (B:List Rs) (k0:Nat):Nat->Rr
 | 0=>U
 | i+1=>match B[k0+i]? with
  | some s=>ZdA (ZbQ U B k0 i) (k0+i+1) ⟨U.ba,s.tx⟩
  | none=>ZbQ U B k0 i
def Zeu (U:Rr) (B:List Rs):Rr:=ZbQ U B U.dk.kn.toNat (B.length - U.dk.kn.toNat)
def Zb1 (U:Rr) (n:Int) (L:List Rs):Rr:=if 2*((ZbD U.ye n).length:Int)<=U.of then ZbP U n L else Zeu (ZdS (ZbP U n L)) (Zas U.be L)
theorem Rz.guard {K:Nat->Prop}{lo g:Nat}{w:World}{γ:Nat}{b:Nat->Option Addr}{m:Nat->Nat}{S:Nat->Nat->Prop}{U:Rr}{R:Nat->Prop} (h:Rz (fun k=>K k\/R k) lo w γ b m S U) (h1:g < w.heap.size) (h2:g≠γ) (h3:∀ i,i < 7->¬ S i g):Rz (fun k=>K k\/(R k\/k=g)) lo w γ b m S U:=
 ⟨h.box,h.cp,h.low,h.far,fun k hk=>by
  rcases hk with hk | hk | rfl
  . exact h.prot k (Or.inl hk)
  . exact h.prot k (Or.inr hk)
  . exact⟨h1,h2,h3⟩⟩
theorem ZbU (L:List Int) (n:Int):(ZbD L n).length<=L.length+1:=by
 unfold ZbD
 split
 . omega
 . simp;have:=Zif L n;omega
theorem Zef (U:Rr) (B:List Rs) (k0:Nat) (hB:B.length<=1000) (hU:U.dk.sl.length<=1000):∀ i,(ZbQ U B k0 i).dk.sl.length<=1000
 | 0=>hU
 | i+1=>by
  unfold ZbQ;have ih:=Zef U B k0 hB hU i
  split
  . rename_i s hs
    have:=(List.getElem?_eq_some_iff.1 hs).1;simp only [ZdA,ZgQ,List.length_set,List.length_append,List.length_replicate]
    omega
  . exact ih
theorem Ze0 (U:Rr) (B:List Rs) (k0:Nat):∀ i,(ZbQ U B k0 i).ba=U.ba
 | 0=>rfl
 | i+1=>by unfold ZbQ;split <;> exact Ze0 U B k0 i
section
variable {L:List AX} {w w':World} {g m n cap:Nat} {ao:Option Addr}
theorem Zkf {X:Type}{L:List X}{k:Nat}{x:X} (hk:k<=L.length) {i:Nat} (hi:i < (L.take k ++ [x] ++ L.drop k).length):(L.take k ++ [x] ++ L.drop k)[i]=if h:i < k then L[i]'(by omega) else if h':i=k then x else L[i - 1]'(by simp at hi;omega):=by
 have hl:(L.take k).length=k:=by simp;omega
 by_cases h:i < k
 . rw [dif_pos h,List.getElem_append_left (by simp;omega),List.getElem_append_left (by omega),List.getElem_take]
 . rw [dif_neg h]
   by_cases h':i=k
   . subst h'
     rw [dif_pos rfl,List.getElem_append_left (by simp;omega),List.getElem_append_right (by omega)];simp
   . rw [dif_neg h',List.getElem_append_right (by simp;omega),List.getElem_drop]
     congr 1
     simp
     omega
def Zkb (c:Nat->Nat×Nat) (k:Nat):Nat->Nat×Nat:=fun i=>if i < k then c i else if i=k then (0,0) else c (i - 1)
theorem ZcP.ins {X:Type}{P:X->World->Nat->Nat->Prop}{S:Nat->Prop}{g':Nat}{L:List X}{c:Nat->Nat×Nat} (h:ZcP P w S g L c) {k:Nat} (hk:k<=L.length) {x:X} (hx:P x w 0 0) (hg:∀ i,i < L.length->g' < (c i).1\/(c i).2<=g'):ZcP P w S g' (L.take k ++ [x] ++ L.drop k) (Zkb c k):=by
 have hl:(L.take k ++ [x] ++ L.drop k).length=L.length+1:=by simp;omega
 have e1:∀ i,i < k->Zkb c k i=c i:=fun i hi=>by unfold Zkb;rw [if_pos hi]
 have e2:Zkb c k k=(0,0):=by unfold Zkb;rw [if_neg (by omega),if_pos rfl]
 have e3:∀ i,k < i->Zkb c k i=c (i - 1):=fun i hi=>by unfold Zkb;rw [if_neg (by omega),if_neg (by omega)]
 refine⟨fun i hi=>?_,fun i hi=>?_,fun i j hi hj hne=>?_,fun i hi=>?_⟩
 . rcases Nat.lt_trichotomy i k with q | q | q
   . rw [e1 i q];exact⟨(h.seg i (by omega)).1,(h.seg i (by omega)).2.1,hg i (by omega)⟩
   . subst q;rw [e2];exact⟨Nat.le_refl _,fun k _ h=>absurd h (Nat.not_lt_zero _),Or.inr Zz_⟩
   . rw [e3 i q];exact⟨(h.seg (i - 1) (by omega)).1,(h.seg (i - 1) (by omega)).2.1,hg (i - 1) (by omega)⟩
 . rcases Nat.lt_trichotomy i k with q | q | q
   . rw [e1 i q];exact h.one i (by omega)
   . subst q;rw [e2];exact Nat.zero_le _
   . rw [e3 i q];exact h.one (i - 1) (by omega)
 . rcases Nat.lt_trichotomy i k with q | q | q
   . rw [e1 i q]
     rcases Nat.lt_trichotomy j k with r | r | r
     . rw [e1 j r];exact h.ap i j (by omega) (by omega) hne
     . subst r;rw [e2];exact Or.inr Zz_
     . rw [e3 j r];exact h.ap i (j - 1) (by omega) (by omega) (by omega)
   . subst q;rw [e2];exact Or.inl Zz_
   . rw [e3 i q]
     rcases Nat.lt_trichotomy j k with r | r | r
     . rw [e1 j r];exact h.ap (i - 1) j (by omega) (by omega) (by omega)
     . subst r;rw [e2];exact Or.inr Zz_
     . rw [e3 j r];exact h.ap (i - 1) (j - 1) (by omega) (by omega) (by omega)
 . rw [Zkf hk hi]
   rcases Nat.lt_trichotomy i k with q | q | q
   . rw [e1 i q,dif_pos q];exact h.inn i (by omega)
   . subst q;rw [e2,dif_neg (by omega),dif_pos rfl];exact hx
   . rw [e3 i q,dif_neg (by omega),dif_neg (by omega)];exact h.inn (i - 1) (by omega)
theorem ZcP.setAt {X:Type}{P:X->World->Nat->Nat->Prop}{S S':Nat->Prop}{L:List X}{c:Nat->Nat×Nat} (h:ZcP P w S g L c) (hS:∀ k,S k->S' k) {k:Nat} (hk:k < L.length) {x:X} {l u:Nat} (h1:l<=u) (h2:u<=l+1) (h3:∀ t,l<=t->t < u->S' t) (h4:g < l\/u<=g) (h5:∀ i,i < L.length->i≠k->(c i).2<=l\/u<=(c i).1) (hx:P x w l u):ZcP P w S' g (L.set k x) (upd c k (l,u)):=by
 refine⟨fun i hi=>?_,fun i hi=>?_,fun i j hi hj hne=>?_,fun i hi=>?_⟩
 . rw [List.length_set] at hi
   by_cases e:i=k
   . subst e;rw [Zam];exact⟨h1,h3,h4⟩
   . rw [ZaG _ _ e];exact⟨(h.seg i hi).1,fun t a b=>hS t ((h.seg i hi).2.1 t a b),(h.seg i hi).2.2⟩
 . rw [List.length_set] at hi
   by_cases e:i=k
   . subst e;rw [Zam];exact h2
   . rw [ZaG _ _ e];exact h.one i hi
 . rw [List.length_set] at hi hj
   by_cases e:i=k
   . subst e;rw [Zam,ZaG _ _ (Ne.symm hne)];exact (h5 j hj (Ne.symm hne)).symm
   . rw [ZaG _ _ e]
     by_cases e':j=k
     . subst e';rw [Zam];exact h5 i hi e
     . rw [ZaG _ _ e'];exact h.ap i j hi hj hne
 . rw [List.length_set] at hi
   by_cases e:i=k
   . subst e;rw [Zam,List.getElem_set_self];exact hx
   . rw [ZaG _ _ e,List.getElem_set_ne (Ne.symm e)];exact h.inn i hi
theorem Rz.turn6 {K:Nat->Prop}{lo:Nat}{γ:Nat}{b:Nat->Option Addr}{m:Nat->Nat}{S:Nat->Nat->Prop}{U:Rr}{L':List Ra} (h:Rz K lo w γ b m S U) (ht:Zaj (S 6) w w') (hl:L'.length=U.ac.length) (hr:∃ L,NGS PA axL 2 w' (Gr (S 6) w w') (.slice (b 6) L'.length (m 6)) L/\L.map (·.1)=L') :
 Rz K lo w' γ b m (upd S 6 (Gr (S 6) w w')) { U with ac:=L' }/\Zag K w w':=by
 have hsz:=ht.size;have hγ:=h.box.lt;have hk:Zag (fun k=>k < w.heap.size/\¬ S 6 k) w w':=Zag.touchS ht fun _ h=>h
 have hcp:=CpS.grow6 (v':=.slice (b 6) L'.length (m 6)) h.cp ht h.low hr
 have sub:∀ i k,upd S 6 (Gr (S 6) w w') i k->S i k\/w.heap.size<=k:=fun i k hS=>by
  by_cases e:i=6
  . subst e;rw [Zam] at hS;exact hS.imp id fun h=>h.1
  . rw [ZaG _ _ e] at hS;exact Or.inl hS
 refine⟨⟨?_,hcp,by have:=h.low;omega,fun i hi hS=>(sub i γ hS).elim (h.far i hi) (fun h=>by omega),fun k hk'=>⟨by have:=(h.prot k hk').1;omega,(h.prot k hk').2.1,fun i hi hS=>(sub i k hS).elim ((h.prot k hk').2.2 i hi) (fun h'=>by have:=(h.prot k hk').1;omega)⟩⟩,Zag.touchS ht fun k hk'=>⟨(h.prot k hk').1,(h.prot k hk').2.2 6 (by decide)⟩⟩;have hb:=h.box.kept hk ⟨hγ,h.far 6 (by decide)⟩;have e:rrF { U with ac:=L' } b m=rrF U b m:=by simp [rrF,rrL,hl]
 rw [e];exact hb
def Zg5 (ao:Option Addr) (c m:Nat):Option Addr:=if c=m then ao else ao.map (·.add (m*2))
theorem ZdQ {ops:Array Oper}{C:World->Prop}{o:Oper}{a:Act} (hgd:o.guard=none) (x y:Operand) (ho:o.op=.slice 59 x (some y) none none)
 (ao:Option Addr) (n c m:Nat) (hx:a.eval x=.slice ao n c) (hy:a.eval y=.int .i64 m) (hm:m<=n):YieldsIf prog ops C o (.slice (Zg5 ao c m) (n - m) (c - m)) a:=by
 refine Or.inl ⟨by simp [Region.wanted,hgd],fun w _=>?_⟩;have hr:=run_slice_l (P:=prog) w 59 ao n c underlying59 .i64 m (by omega) (by omega);have hs:=run_sliceAt_slice (P:=prog) w 59 (.slice ao n c) (some (.int .i64 m)) none none underlying59;obtain⟨i0,hi,hz0,hz1,hz2⟩:=info_parts ZaT;have hsz:(sizeOf 170).run prog w=.ok 2 w:=by simp [sizeOf,typeInfo,hi,hz1]
 unfold execOp;simp only [ho,Option.map_some,Option.map_none,hx,hy,Sem.run_bind,Sem.run_pure,Result.andThen_ok,hs,hr,show prog.elem 59=170 from rfl,hsz,sliced,Int.toNat_natCast]
 rfl
structure Zgs (w:World) (ao:Option Addr) (n cap:Nat) (L:List AX):Prop where
 len:n=L.length
 nil:ao=none->n=0
 le:n<=cap
 src:∀ ad,ao=some ad->∀ j u,(Zai axL L)[j]?=some u->w.cell? (ad.add j)=some u
theorem NGS.srcA {S:Nat->Prop} (h:NGS PA axL 2 w S (.slice ao n cap) L):Zgs w ao n cap L:=by
 rcases h with ⟨h,rfl⟩ | ⟨g,c,hg,⟨g',cp,e1,e2⟩,hI⟩
 . injection h with h1 h2 h3
   exact⟨h2,fun _=>h2,by omega,fun ad e=>by rw [h1] at e;cases e⟩
 . injection e1 with h1 h2 h3
   refine⟨h2,fun e=>?_,by rw [h2,h3];exact e2.le,fun ad e j u hu=>?_⟩
   . rw [h1] at e;cases e
   . rw [h1] at e
     injection e with e
     subst e;rw [Addr.add_lit];exact e2.rg j u hu
theorem Zgs.below (h:Zgs w ao n cap L) (hb:∀ p:Addr,∀ u,w.cell? p=some u->w'.cell? p=some u):Zgs w' ao n cap L:=⟨h.len,h.nil,h.le,fun ad e j u hu=>hb _ _ (h.src ad e j u hu)⟩
theorem Zgs.take (h:Zgs w ao n cap L) (m:Nat):∀ ad,ao=some ad->∀ j u,(Zai axL (L.take m))[j]?=some u->w.cell? (ad.add j)=some u:=by
 intro ad e j u hu;refine h.src ad e j u ?_;have:Zai axL L=Zai axL (L.take m) ++ Zai axL (L.drop m):=by rw [<- Zbg,List.take_append_drop]
 rw [this];have hj:=(List.getElem?_eq_some_iff.1 hu).1;rw [List.getElem?_append_left hj];exact hu
theorem Zgs.from (h:Zgs w ao n cap L) (hm:m<=L.length):∀ ad,Zg5 ao cap m=some ad->∀ j u,(Zai axL (L.drop m))[j]?=some u->w.cell? (ad.add j)=some u:=by
 intro ad hc j u hu;have hj:=(List.getElem?_eq_some_iff.1 hu).1;rw [Zaw Zar,List.length_drop] at hj;have h0:=h.len;have h1:=h.le
 cases ao with
 | none=>have:=h.nil rfl;omega
 | some a0=>
  unfold Zg5 at hc;rw [if_neg (by omega)] at hc;simp only [Option.map_some,Option.some.injEq] at hc;subst hc;have hu':=Zdq Zar hm hu;have:=h.src _ rfl _ _ hu'
  rwa [Addr.add_add]
theorem Zgs.cutN (h:Zgs w ao n cap L):Zg5 ao cap m=none->n - m=0:=by
 intro hc
 have:ao=none:=by
  unfold Zg5 at hc
  split at hc
  . exact hc
  . cases ao with
    | none=>rfl
    | some x=>simp at hc
 have:=h.nil this
 omega
end
section
variable {L:List Ra} {k:Nat}
def Zch (L:List Ra) (ix:Int):Nat:=(L.takeWhile (fun a=>decide (a.ix < ix))).length
def Zcg (L:List Ra) (ix:Int):List Ra:=if (L[Zch L ix]?).map (·.ix)=some ix then L else L.take (Zch L ix) ++ [⟨ix,[]⟩] ++ L.drop (Zch L ix)
def Zd1 (L:List Ra) (k:Nat) (n:Int):List Ra:=match L[k]? with
 | some a=>L.set k { a with fr:=ZbD a.fr n }
 | none=>L
def ZcR (U:Rr) (ix n:Int):Rr:=Zcv { U with ac:=Zd1 (Zcg U.ac ix) (Zch U.ac ix) n }
theorem Zf9 {n:Int} (hk:k<=L.length) (hlt:∀ j (hj:j < L.length),j < k->L[j].ix < n) (hge:∀ (h:k < L.length),¬ L[k].ix < n):Zch L n=k:=by
 unfold Zch
 induction L generalizing k with
 | nil=>simp at hk;simp [hk]
 | cons x r ih=>
  cases k with
  | zero=>
   have:=hge (by simp);rw [List.takeWhile_cons];simp at this;rw [if_neg (by simpa using this)]
   rfl
  | succ k=>
   have h0:=hlt 0 (by simp) (by omega);rw [List.takeWhile_cons,if_pos (by simpa using h0),List.length_cons,ih (k:=k) (by simpa using hk) (fun j hj hjk=>by have:=hlt (j+1) (by simpa using hj) (by omega);simpa using this) (fun h=>by have:=hge (by simpa using h);simpa using this)]
theorem ZfN (h:k < L.length) (n:Int):Zd1 L k n=L.set k { L[k] with fr:=ZbD L[k].fr n }:=by unfold Zd1;rw [List.getElem?_eq_getElem h]
theorem FR.setOne {X:Type}{f:X->List Value}{n:Nat} (hf:∀ x,(f x).length=n) {w:World} {lo hi g cap:Nat} {L:List X} (h:FR f n w lo hi g cap L) {i t:Nat} (hi':i < L.length) (ht:t < n) (x:X) (v:Value) (hx:f x=(f L[i]).set t v):FR f n (w.setCell ⟨g,i*n+t,none⟩ v) lo hi g cap (L.set i x):=by
 have hcn:i*n+n<=cap*n:=by rw [<- Nat.succ_mul];exact Nat.mul_le_mul_right _ (Nat.le_trans hi' h.le)
 have hth:=h.th (i*n+t) (by omega);refine⟨h.bs,h.up,by simpa [World.setCell] using h.lt,by rw [List.length_set];exact h.le,h.mx,fun j hj=>World.isSome_setCells g [v] (i*n+t) w _ (h.th j hj),fun j=>by rw [World.frozen?_setCell];exact h.fz j,fun j u hu=>?_⟩;rw [Zfi hf L i x hi'] at hu;rw [Nat.zero_add]
 by_cases hj:i*n<=j/\j < i*n+n
 . rw [if_pos hj,hx] at hu
   by_cases e:j=i*n+t
   . subst e
     rw [show i*n+t - i*n=t by omega,List.getElem?_set_self (by rw [hf];exact ht)] at hu;injection hu with hu
     subst hu;exact World.cell?_setCell_same' _ _ _ hth
   . rw [List.getElem?_set_ne (by omega)] at hu
     rw [ZcA _ _ _ _ _ (Ne.symm e)];have:=h.rg j u (by rw [show j=i*n+(j - i*n) by omega,Zbt hf L i (j - i*n) hi' (by omega)];exact hu)
     rwa [Nat.zero_add] at this
 . rw [if_neg hj] at hu
   rw [ZcA _ _ _ _ _ (by intro e;subst e;omega)];have:=h.rg j u hu
   rwa [Nat.zero_add] at this
theorem Rz.ack6 {K:Nat->Prop}{lo:Nat}{w:World}{γ:Nat}{b:Nat->Option Addr}{m:Nat->Nat}{S:Nat->Nat->Prop}{V:Rr} (h:Rz K lo w γ b m S V) {k:Nat} (hk:k < V.ac.length) :
 ∃ g a1 c1,b 6=some ⟨g,0,none⟩/\w.cell? ⟨g,k*2+1,none⟩=some (.slice a1 V.ac[k].fr.length c1)/\w.frozen? ⟨g,k*2+1,none⟩=false/\g < w.heap.size/\g≠γ/\¬ K g/\ZaR lo w (.slice a1 V.ac[k].fr.length c1) V.ac[k].fr/\
  ∀ w1 v1 N,Zw_ w w1->((v1=.slice a1 V.ac[k].fr.length c1/\N=V.ac[k].fr)\/ZaH inL 1 w1 w.heap.size w1.heap.size v1 N)->∃ S',Rz K lo (w1.setCell ⟨g,k*2+1,none⟩ v1) γ b m S' { V with ac:=V.ac.set k { V.ac[k] with fr:=N } }/\Zag K w (w1.setCell ⟨g,k*2+1,none⟩ v1):=by
 obtain⟨L,hng,hmap⟩:=h.cp.o6;have hll:L.length=V.ac.length:=by rw [<- hmap,List.length_map]
 have hkL:k < L.length:=by omega
 have hLk:L[k].1=V.ac[k]:=by
  have:=congrArg (fun l=>l[k]?) hmap
  simpa only [List.getElem?_map,List.getElem?_eq_getElem hkL,List.getElem?_eq_getElem hk,Option.map_some,Option.some.injEq] using this
 have hsg:=h.cp.seg 6 (by decide)
 rcases hng with ⟨_,e⟩ | ⟨g,c,hg,⟨g',cp,e1,e2⟩,hI⟩
 . rw [e] at hkL;simp at hkL
 obtain rfl:g'=g:=by have:=e2.bs;have:=e2.up;omega
 injection e1 with e1 e3 e4
 have hin:Zay inL 1 w (c k).1 (c k).2 (.slice L[k].2.1 L[k].1.fr.length L[k].2.2) L[k].1.fr:=hI.inn k hkL;have hgl:=e2.lt;have hth:=e2.th (k*2+1) (by have:=e2.le;omega);have hc:=e2.get Zar (i:=k) hkL (t:=1) (by omega) (v:=.slice L[k].2.1 L[k].1.fr.length L[k].2.2) rfl;rw [hLk] at hin hc;refine⟨g',L[k].2.1,L[k].2.2,e1,hc,e2.fz _,hgl,fun e=>h.far 6 (by decide) (e ▸ hg),fun hK=>(h.prot g' hK).2.2 6 (by decide) hg,hin.ris.at_ge (fun t p q=>(hsg t ((hI.seg k hkL).2.1 t p q)).1),fun w1 v1 N hb hN=>?_⟩
 obtain⟨a',c',rfl⟩:∃ a' c',v1=.slice a' N.length c':=by
  rcases hN with ⟨e,e'⟩ | ⟨_,_,e,_⟩
  . exact⟨_,_,by rw [e,e']⟩
  . exact⟨_,_,e⟩
 have hs1:=hb.size;obtain⟨W,hW⟩:∃ W,W=w1.setCell ⟨g',k*2+1,none⟩ (.slice a' N.length c'):=⟨_,rfl⟩
 rw [<- hW];have hsW:W.heap.size=w1.heap.size:=by rw [hW];simp [World.setCell]
 have ht1:Zad g' (g'+1) w1 W:=by rw [hW];exact Zad.setCell _ _ _ _ _ ⟨Nat.le_refl _,Nat.lt_succ_self _⟩
 have htS:Zaj (S 6) w W:=Zaj.trans (Zaj.below hb) (ht1.toS (ZcX hg));have hkp:Zag (fun t=>t < w.heap.size/\t≠g') w W:=(Zag.below hb (fun t p=>p.1)).trans (Zag.touch ht1 (fun t p=>⟨by omega,by omega⟩))
 have hfr:FR axL 2 W g' (g'+1) g' cp (L.set k ({ V.ac[k] with fr:=N },a',c')):=by
  rw [hW];refine FR.setOne Zar (e2.below hb) hkL (by omega) _ _ ?_;have:axL L[k]=[.int .i64 L[k].1.ix,.slice L[k].2.1 L[k].1.fr.length L[k].2.2]:=rfl;rw [this,hLk]
  rfl
 have hI0:ZcP PA W (S 6) g' L c:=⟨hI.seg,hI.one,hI.ap,fun i hi=>Zdm.kp (hI.inn i hi) hkp (fun t p q=>⟨(hsg t ((hI.seg i hi).2.1 t p q)).2,by have:=(hI.seg i hi).2.2;omega⟩)⟩
 have hin':∃ l u,l<=u/\u<=l+1/\(∀ t,l<=t->t < u->Gr (S 6) w W t)/\(g' < l\/u<=g')/\(∀ i,i < L.length->i≠k->(c i).2<=l\/u<=(c i).1)/\Zay inL 1 W l u (.slice a' N.length c') N:=by
  rcases hN with ⟨e,e'⟩ | ⟨gn,cn,e,hf⟩
  . have hin2:=hI0.inn k hkL
    refine⟨(c k).1,(c k).2,(hI.seg k hkL).1,hI.one k hkL,fun t p q=>Or.inl ((hI.seg k hkL).2.1 t p q),(hI.seg k hkL).2.2,fun i hi hne=>hI.ap i k hi hkL hne,?_⟩;have:Zay inL 1 W (c k).1 (c k).2 (.slice L[k].2.1 L[k].1.fr.length L[k].2.2) L[k].1.fr:=hin2;rw [hLk,<- e,<- e'] at this;exact this
  . have q1:=hf.bs
    have q2:=hf.lt;refine⟨gn,gn+1,by omega,by omega,fun t p q=>Or.inr ⟨by omega,by omega⟩,by omega,fun i hi hne=>?_,Or.inr ⟨gn,cn,e,hf.own'.touch ht1 (by omega)⟩⟩
    rcases Nat.lt_or_ge (c i).1 (c i).2 with p | p
    . have:=(hsg (c i).1 ((hI.seg i hi).2.1 _ Zl_ p)).2
      have:=hI.one i hi
      omega
    . rcases Nat.lt_or_ge gn (c i).1 with p' | p'
      . exact Or.inr p'
      . exact Or.inl (by omega)
 obtain⟨l,u,q1,q2,q3,q4,q5,q6⟩:=hin';have hI2:=hI0.setAt (S':=Gr (S 6) w W) (fun t p=>Or.inl p) hkL (x:=({ V.ac[k] with fr:=N },a',c')) q1 q2 q3 q4 q5 q6;refine⟨_,h.turn6 htS (by rw [List.length_set]) ⟨L.set k ({ V.ac[k] with fr:=N },a',c'),Or.inr ⟨g',_,Or.inl hg,⟨g',cp,?_,hfr⟩,hI2⟩,by rw [List.map_set,hmap]⟩⟩;rw [List.length_set,List.length_set,hll,e1,<- e4]
end
variable {w w':World} {L:List Ra} {lo k:Nat}
abbrev Zdk (ix:Int):AX:=(⟨ix,[]⟩,none,0)
theorem Zgs.on {ao:Option Addr}{n cap:Nat}{L:List AX} (h:Zgs w ao n cap L) (hb:Zw_ w w'):Zgs w' ao n cap L:=h.below fun p u hu=>by rw [hb.cell (World.block_lt_of_cell? w p hu)];exact hu
theorem Rz.ins6 {K:Nat->Prop}{γ:Nat}{b:Nat->Option Addr}{m:Nat->Nat}{S:Nat->Nat->Prop}{V:Rr} (h:Rz K lo w γ b m S V) :
 ∃ L:List AX,Zgs w (b 6) V.ac.length (m 6) L/\∀ k,k<=V.ac.length->∀ (ix:Int) w3 (Sx:Nat->Prop) v,Zw_ w w3->(∀ t,Sx t->w.heap.size<=t/\t < w3.heap.size)->NRS axL 2 w3 Sx v (L.take k ++ [Zdk ix] ++ L.drop k)->
  ∃ a' c',v=.slice a' (V.ac.take k ++ [(⟨ix,[]⟩:Ra)] ++ V.ac.drop k).length c'/\∃ b' m' S',Rz K lo (w3.setCell ⟨γ,16,none⟩ v) γ b' m' S' { V with ac:=V.ac.take k ++ [(⟨ix,[]⟩:Ra)] ++ V.ac.drop k }/\Zag K w (w3.setCell ⟨γ,16,none⟩ v):=by
 obtain⟨L,hng,hmap⟩:=h.cp.o6;have hll:L.length=V.ac.length:=by rw [<- hmap,List.length_map]
 have hsg:=h.cp.seg 6 (by decide);refine⟨L,hng.srcA,fun k hk ix w3 Sx v hb hSx hr=>?_⟩
 have hmk:(L.take k ++ [Zdk ix] ++ L.drop k).map (·.1)=V.ac.take k ++ [(⟨ix,[]⟩:Ra)] ++ V.ac.drop k:=by
  rw [<- hmap,List.map_append,List.map_append,List.map_take,List.map_drop]
  rfl
 rcases hr with ⟨_,e⟩ | ⟨g3,hg3,g',cp,e1,e2⟩
 . simp at e
 obtain rfl:g'=g3:=by have:=e2.bs;have:=e2.up;omega
 have hg':=hSx g' hg3;have hlen:(L.take k ++ [Zdk ix] ++ L.drop k).length=(V.ac.take k ++ [(⟨ix,[]⟩:Ra)] ++ V.ac.drop k).length:=by rw [<- hmk,List.length_map]
 rw [hlen] at e1;refine⟨_,_,e1,?_⟩;have hnil:PA (Zdk ix) w3 0 0:=Or.inl ⟨rfl,rfl⟩
 obtain⟨c,hI⟩:∃ c,ZcP PA w3 (Gr (S 6) w w3) g' (L.take k ++ [Zdk ix] ++ L.drop k) c:=by
  rcases hng with ⟨_,e⟩ | ⟨g,c,hg,hrow,hI⟩
  . have h0:ZcP PA w3 (Gr (S 6) w w3) g' L (fun _=>(0,0)):=by
     rw [e];exact⟨fun i hi=>absurd hi (Nat.not_lt_zero _),fun i hi=>absurd hi (Nat.not_lt_zero _),fun i j hi=>absurd hi (Nat.not_lt_zero _),fun i hi=>absurd hi (Nat.not_lt_zero _)⟩
    exact⟨_,h0.ins (by omega) hnil (fun i hi=>by rw [e] at hi;exact absurd hi (Nat.not_lt_zero _))⟩
  . have hI0:ZcP PA w3 (Gr (S 6) w w3) g L c:=⟨fun i hi=>⟨(hI.seg i hi).1,fun t p q=>Or.inl ((hI.seg i hi).2.1 t p q),(hI.seg i hi).2.2⟩,hI.one,hI.ap,fun i hi=>Zdm.kp (hI.inn i hi) (Zag.below hb fun _ p=>p) (fun t p q=>(hsg t ((hI.seg i hi).2.1 t p q)).2)⟩
    refine⟨_,hI0.ins (by omega) hnil (fun i hi=>?_)⟩
    rcases Nat.lt_or_ge (c i).1 (c i).2 with p | p
    . have:=(hsg (c i).1 ((hI.seg i hi).2.1 _ Zl_ p)).2
      have:=hI.one i hi
      omega
    . omega
 have:=h.part6 (Zaj.below hb) (L':=V.ac.take k ++ [(⟨ix,[]⟩:Ra)] ++ V.ac.drop k) (a':=some ⟨g',0,none⟩) (m':=cp) ⟨_,Or.inr ⟨g',c,Or.inr hg',⟨g',cp,by rw [hlen],e2⟩,hI⟩,hmk⟩;rw [e1];exact⟨_,_,_,this⟩
theorem Cz.other {K:Nat->Prop}{b:Nat->Option Addr}{m:Nat->Nat}{S:Nat->Nat->Prop}{U:Rr} (h:Cz K lo w b m S U) {β:Nat} (hβ:K β) (ht:Zad β (β+1) w w'):Cz K lo w' b m S U:=by
 have hsz:=ht.size;refine⟨h.cp.kept (K:=fun k=>∃ i,i < 7/\S i k) (Zag.touch ht (fun k ⟨i,hi,hS⟩=>⟨(h.cp.seg i hi k hS).2,?_⟩)) (fun i hi k hS=>⟨i,hi,hS⟩),Nat.le_trans h.low hsz,fun k hk=>⟨by have:=(h.prot k hk).1;omega,(h.prot k hk).2⟩⟩;have hne:k≠β:=fun e=>(h.prot β hβ).2 i hi (e ▸ hS)
 omega
theorem Zc6 {P Q:Ra->Prop}{n:Int} (h:∀ a ∈ L,P a) (hq:∀ a,P a->Q a) (hs:∀ a,P a->Q { a with fr:=ZbD a.fr n }):∀ a ∈ Zd1 L k n,Q a:=by
 intro a ha;unfold Zd1 at ha
 split at ha
 . rename_i x hx
   rcases List.mem_or_eq_of_mem_set ha with h1 | h1
   . exact hq a (h a h1)
   . rw [h1];exact hs x (h x (List.mem_of_getElem? hx))
 . exact hq a (h a ha)
theorem Zc7 (L:List Ra) (k:Nat) (n:Int):(Zd1 L k n).length=L.length:=by
 unfold Zd1
 split
 . rw [List.length_set]
 . rfl
theorem Zf0 {P:Ra->Prop}{x:Ra} (h:∀ a ∈ L,P a) (hx:P x):∀ a ∈ L.take k ++ [x] ++ L.drop k,P a:=by
 intro a ha;rw [List.mem_append,List.mem_append,List.mem_singleton] at ha
 rcases ha with (h1 | h1) | h1
 . exact h a (List.mem_of_mem_take h1)
 . rw [h1];exact hx
 . exact h a (List.mem_of_mem_drop h1)
end Go.Proofs.YtdeammfdkaomlaaGreat
