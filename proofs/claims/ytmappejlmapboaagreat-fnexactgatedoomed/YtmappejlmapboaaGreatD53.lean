import Derived.Test.YtmappejlmapboaaGreatD49
import Derived.Test.YtmappejlmapboaaGreatD50
import Derived.Test.YtmappejlmapboaaGreatD51
import Derived.Test.YtmappejlmapboaaGreatD52
set_option maxHeartbeats 16000000
set_option maxRecDepth 100000
open Go.Proofs.Tryz
namespace Go.Proofs.YtmappejlmapboaaGreat
section
open Go.RowKit Go.Deep Go.Shelf Go.Maps
theorem ZiD {P:Program}{w:World}{a:Addr}{m:Mode} (f:Fn) (x y:Array Value):(store a (.func f x y) m).run P w=stored P w a (.func f x y) m:=run_store P w a _ m rfl
attribute [local go_sem] ZiD
def Zjz (w:World) (Os:List Ob) (gf:FuncId) (ba ca:Array Value) (Wa:Nat->Bool):Prop:=
 ∀ i (_:i < Os.length) (va ha:Option Addr) (vc hc:Nat) (W:World),Zw_ w W->Calls prog gf (ba.push (.agg #[.string Os[i].kd,.string Os[i].nm,.string Os[i].tm,.slice va Os[i].vs.length vc,.bool Os[i].en,.slice ha Os[i].hs.length hc,.int .i64 Os[i].ver]) ++ ca) W
  fun e w'=>e=.returned (.bool (Wa i))/\Below W.heap.size W w'
theorem Zjz.later {w w':World}{Os:List Ob}{gf:FuncId}{ba ca:Array Value}{Wa:Nat->Bool} (h:Zjz w Os gf ba ca Wa) (hb:Zw_ w w'):Zjz w' Os gf ba ca Wa:=fun i hi va ha vc hc W hW=>h i hi va ha vc hc W (bt hb hW)
section
variable (lo:Nat) (W0:World) (Os:List Ob) (S:Nat->List Nat) (R:Nat->Prop) (mb b1 b2 b3 b4 lb N1 base:Nat) (ov:Value) (D1:DataW Value) (hO:Za3 lo W0 ov Os) (hn:Os.length<=1048576) (hd:Zhl Os)
 (x1:Box W0 b1 #[.map (some mb)]) (x2:Box W0 b2 #[ov]) (x3:Box W0 b3 #[.map (some lb)])
 (x4:Box W0 b4 #[.func (.func 163) #[] #[.pointer (some ⟨b1,0,none⟩),.pointer (some ⟨b2,0,none⟩),.pointer (some ⟨b3,0,none⟩),.pointer (some ⟨b4,0,none⟩)]])
 (hm:b1≠mb/\b2≠mb/\b3≠mb/\b4≠mb/\lb≠mb/\∀ g,ov.ownBlock=some g->g≠mb)
 (hl:W0.ownsMap prog 153 Zcu lb N1 D1)
 (hrow:∀ k (h:k < Os.length),∃ v,D1.atKey (ZbI Os[k].kd Os[k].nm) (.held (.slice none 0 0))=.held v/\(∀ g,v.ownBlock=some g->g≠mb)/\W0.ownsRow base 3 1 v (ZdR (S k)).length ((ZdR (S k)).map (Value.int .i64)))
 (hS:∀ k,k < Os.length->∀ y ∈ S k,y < Os.length) (hR:∀ k,R k->∀ y ∈ S k,R y)
include hO hn hd x1 x2 x3 x4 hm hl hrow hS hR
theorem Zog (M:Nat->Bool):ZfS W0 Os S R mb b1 b2 b3 b4 M:=by
 have:∀ n:Nat,∀ M:Nat->Bool,ZeD Os.length M=n->ZfS W0 Os S R mb b1 b2 b3 b4 M:=fun n=>by
  induction n using Nat.strongRecOn with
  | ind n ih=>exact fun M hM=>ZlW lo W0 Os S R mb b1 b2 b3 b4 lb N1 base ov D1 M hO hn hd x1 x2 x3 x4 hm hl hrow hS hR fun M' h=>ih _ (hM ▸ h) M' rfl
 exact this _ M rfl
end
theorem Zpj (n:Nat):ZeD n (fun _=>false)<=n:=by
 unfold ZeD;have:=List.countP_le_length (p:=fun i:Nat=>!(fun _:Nat=>false) i) (l:=List.range n);exact Nat.le_trans this (by simp)
theorem Box.put1 {w:World}{β:Nat}{u:Value} (h:Box w β #[u]) (v:Value):Box (w.setCell ⟨β,0,none⟩ v) β #[v]:=
 ⟨by have:=h.lt;simpa [World.setCell] using this,fun i=>by
  cases i with
  | zero=>exact World.cell?_setCell_same' _ _ _ (by rw [h.cell 0];rfl)
  | succ i=>exact (World.cell?_setCell_other _ _ _ _ (by simp)).trans (h.cell (i+1)),fun i=>by rw [World.frozen?_setCell];exact h.free i⟩
section
variable (lo:Nat) (ov:Value) (Os:List Ob) (w:World) (gf:FuncId) (ba ca:Array Value) (lb N1 base:Nat) (D1:DataW Value) (S:Nat->List Nat) (Wa:Nat->Bool)
theorem Zia (hO:Za3 lo w ov Os) (hn:Os.length<=1048576) (hd:Zhl Os) (hl:w.ownsMap prog 153 Zcu lb N1 D1)
 (hrow:∀ k (h:k < Os.length),∃ v,D1.atKey (ZbI Os[k].kd Os[k].nm) (.held (.slice none 0 0))=.held v/\w.ownsRow base 3 1 v (ZdR (S k)).length ((ZdR (S k)).map (Value.int .i64)))
 (hS:∀ k,k < Os.length->∀ y ∈ S k,y < Os.length) (hW:Zjz w Os gf ba ca Wa) (ec:∀ args W,(callFunc gf args).run prog W=.ok (.enter gf args) W) :
 Calls prog 119 #[ov,.func (.func gf) ba ca,.map (some lb)] w
  fun e w'=>∃ mb N,∃ D:DataW Value,∃ M:Nat->Bool,e=.returned (.map (some mb))/\Zw_ w w'/\w.heap.size<=mb/\w'.ownsMap prog 153 Zcu mb N D/\ZfB Os D M/\N<=Os.length/\∀ i,M i=true↔Least Os.length Wa S i:=by
 have HO:=Zab hO;have HD:=Zab hd;have HL:=Zab hl;have HRO:=Zab hrow;have HS:=Zab hS;have HWA:=Zab hW;obtain⟨oa,ocap,rfl⟩:=hO.form;have hlb:=hl.lt;clear hO hd hl hrow hS hW;have hmm:=@run_makeMap prog;go_enter func119,ntmps119
 go_upto_region 3 with fail
 clear hmm;generalize hW1:World.alloc (World.alloc (World.alloc (World.alloc (w.alloc _) _) _) _) _=W1;have HB1:Hd (Zw_ w W1):=by unfold Hd;rw [<- hW1];exact ((((Zac w _).alloc (by simp) _).alloc (by simp;omega) _).alloc (by simp;omega) _).alloc (by simp;omega) _
 have HX2:Hd (Box W1 w.heap.size #[.slice oa Os.length ocap]):=by unfold Hd;rw [<- hW1];exact ((((Box.new _ _ _ _ rfl).on (Zac _ _)).on (Zac _ _)).on (Zac _ _)).on (Zac _ _)
 have HX3:Hd (Box W1 (w.heap.size+1) #[.map (some lb)]):=by unfold Hd;rw [<- hW1];exact (((Box.new _ _ _ _ (by simp)).on (Zac _ _)).on (Zac _ _)).on (Zac _ _)
 have HX1:Hd (Box W1 (w.heap.size+1+1+1) #[.map (some (w.heap.size+1+1))]):=by unfold Hd;rw [<- hW1];exact (Box.new _ _ _ _ (by simp)).on (Zac _ _)
 have HX4:Hd (Box W1 (w.heap.size+1+1+1+1) #[.nilFunc]):=by unfold Hd;rw [<- hW1];exact Box.new _ _ _ _ (by simp)
 have HM1:Hd (W1.ownsMap prog 153 Zcu (w.heap.size+1+1) 0 (.map [])):=by
  unfold Hd;rw [<- hW1];have h:=World.ownsMap_made ((w.alloc (.cells #[.slice oa Os.length ocap] 43)).alloc (.cells #[.map (some lb)] 150)) prog 153 Zcu;simp only [World.size_alloc] at h;exact (h.alloc _).alloc _
 have hz1:W1.heap.size=w.heap.size+1+1+1+1+1:=by rw [<- hW1];simp
 clear hW1;have y4:=HX4.o.cell 0;have f4:=HX4.o.free 0;simp at y4
 go_upto_region 4 with fail
 obtain⟨W0,hW0⟩:∃ W0,W0=W1.setCell ⟨w.heap.size+1+1+1+1,0,none⟩ (.func (.func 163) #[] #[.pointer (some ⟨w.heap.size+1+1+1,0,none⟩),.pointer (some ⟨w.heap.size,0,none⟩),.pointer (some ⟨w.heap.size+1,0,none⟩),.pointer (some ⟨w.heap.size+1+1+1+1,0,none⟩)]):=⟨_,rfl⟩
 rw [<- hW0];obtain⟨mb,hmb⟩:∃ mb,mb=w.heap.size+1+1:=⟨_,rfl⟩
 have HB0:Hd (Zw_ w W0):=by unfold Hd;rw [hW0];exact HB1.o.setCell (by simp only [];omega) _
 have x2:Hd (Box W0 w.heap.size #[.slice oa Os.length ocap]):=by unfold Hd;rw [hW0];exact HX2.o.setFar (by simp only [];omega) _
 have x3:Hd (Box W0 (w.heap.size+1) #[.map (some lb)]):=by unfold Hd;rw [hW0];exact HX3.o.setFar (by simp only [];omega) _
 have x1:Hd (Box W0 (w.heap.size+1+1+1) #[.map (some mb)]):=by unfold Hd;rw [hW0,hmb];exact HX1.o.setFar (by simp only [];omega) _
 have x4:=Zab (HX4.o.put1 (.func (.func 163) #[] #[.pointer (some ⟨w.heap.size+1+1+1,0,none⟩),.pointer (some ⟨w.heap.size,0,none⟩),.pointer (some ⟨w.heap.size+1,0,none⟩),.pointer (some ⟨w.heap.size+1+1+1+1,0,none⟩)]));rw [<- hW0] at x4
 have HM0:Hd (W0.ownsMap prog 153 Zcu mb 0 (.map [])):=by
  unfold Hd;rw [hW0,hmb];exact HM1.o.kept (grownBy_setCell' W1 _ _) (fun e=>by injection e with e;omega)
 have HL0:Hd (W0.ownsMap prog 153 Zcu lb N1 D1):=by
  refine HL.o.kept (row:=none) ⟨HB0.o.os,HB0.o.tape,HB0.o.output,HB0.o.size,fun q hq _=>HB0.o.block q hq⟩ (fun e=>by cases e)
 have HFO:Hd (∀ M,ZfS W0 Os S (Least Os.length Wa S) mb (w.heap.size+1+1+1) w.heap.size (w.heap.size+1) (w.heap.size+1+1+1+1) M):=fun M=>by
  by_cases he:Os.length=0
  . intro p _ _ _ hp
    omega
  . refine Zog lo W0 Os S _ mb _ _ _ _ lb N1 base _ D1 (HO.o.below HB0.o) hn HD.o x1.o x2.o x3.o x4.o ⟨by omega,by omega,by omega,by omega,by omega,fun g hg=>?_⟩ HL0.o (fun k hk=>?_) HS.o (fun k hk y hy=>.step k y hk hy) M
    . obtain⟨b,off,rfl,hbw,-⟩:=HO.o.full' (by omega)
      injection hg with hg
      have hg:b=g:=hg
      omega
    . obtain⟨v,h1,h2⟩:=HRO.o k hk
      refine⟨v,h1,fun g hg=>?_,ZdC h2 (row:=none) ⟨HB0.o.os,HB0.o.tape,HB0.o.output,HB0.o.size,fun q hq _=>HB0.o.block q hq⟩ (fun g _ e=>by cases e)⟩
      rcases h2.2 with ⟨rfl,-⟩ | ⟨g',_,_,rfl,h3,h4,_⟩
      . cases hg
      . injection hg with hg
        have hg:g'=g:=hg;have:=(Array.getElem?_eq_some_iff.1 h4).1
        omega
 clear hW0 HX1 HX2 HX3 HX4 HM1 HB1 y4 f4 hz1 HS HRO HL HL0;have hm1:=HB0.o.size;have HM:=Zab hmb;clear hmb;have z2:W0.cell? ⟨w.heap.size,0,none⟩=some (.slice oa Os.length ocap):=x2.o.cell 0;go_wp2;clear z2
 go_loopw [15] (fun q wr=>∃ k:Nat,q=.int .i64 k/\k<=Os.length/\W0.grownBy wr (some mb)/\∃ (M:Nat->Bool) (N:Nat) (D:DataW Value),wr.ownsMap prog 153 Zcu mb N D/\ZfB Os D M/\N+ZeD Os.length M<=Os.length/\Met S (Least Os.length Wa S) (fun _=>false) M/\∀ i,i < k->Wa i=true->M i=true) (fun q _=>Os.length - (intOf q).toNat)
 case atStart=>exact⟨0,rfl,Nat.zero_le _,ZaN Zb_ _,fun _=>false,0,.map [],HM0.o,ZfB.start Os,by have:=Zpj Os.length;omega,Met.refl _,fun i hi=>absurd hi (Nat.not_lt_zero _)⟩
 case round=>
  obtain⟨k,rfl,hk,hg,M,N,D,ho,hsd,hnn,hmet,hgot⟩:=hrel;have HGr:=Zab hg;have HOr:=Zab ho;have HSD:=Zab hsd;have HMT:=Zab hmet;have HGT:=Zab hgot;clear hg ho hsd hmet hgot HM0
  by_cases hlt:k < Os.length
  . obtain⟨b,off,rfl,hbw,-,hc⟩:=HO.o.full' (by omega)
    obtain⟨hs,vv0,vv1,hcell,hv0,hv1⟩:=hc k hlt;obtain⟨c0,c1,c2,c3,c4,c5,c6⟩:=Zm5 hcell hbw HB0.o HGr.o (by have:=HM.o;omega);obtain⟨va,vc,rfl⟩:=hv0.at.form';obtain⟨ha,hc',rfl⟩:=hv1.at.form';clear hc hcell hs hv0 hv1;go_wp2_with fail;refine (HWA.o k hlt va ha vc hc' _ ((ZdG HB0.o HGr.o (by have:=HM.o;omega)).alloc (by have:=HGr.o.size;omega) _)).mono ?_;rintro e w5 ⟨rfl,hb5⟩;have HG5:Hd (W0.grownBy w5 (some mb)):=HGr.o.trans ((ZaN (Zac _ _) _).trans (ZaN hb5 _));have HO5:Hd (w5.ownsMap prog 153 Zcu mb N D):=(HOr.o.alloc _).kept (ZaN hb5 none) (fun e=>by cases e);clear hb5 c0 c1 c2 c3 c4 c5 c6
    cases hWk:Wa k with
    | false=>
     go_wp2;go_roundw
     case rel=>exact⟨k+1,by go_num,by omega,HG5.o,M,N,D,HO5.o,HSD.o,hnn,HMT.o,fun i hi hw=>by
      rcases Nat.lt_or_ge i k with h | h
      . exact HGT.o i h hw
      . have:i=k:=by omega
        rw [this,hWk] at hw
        cases hw⟩
     . simp [intOf];omega
    | true=>
     have z4:w5.cell? ⟨w.heap.size+1+1+1+1,0,none⟩=some (.func (.func 163) #[] #[.pointer (some ⟨w.heap.size+1+1+1,0,none⟩),.pointer (some ⟨w.heap.size,0,none⟩),.pointer (some ⟨w.heap.size+1,0,none⟩),.pointer (some ⟨w.heap.size+1+1+1+1,0,none⟩)]):=(x4.o.row HG5.o (fun e=>by injection e with e;have:=HM.o;omega)).cell 0;go_wp2_with fail;refine (HFO.o M k w5 N D hlt (.base k hlt hWk) HG5.o HO5.o HSD.o hnn).mono ?_;rintro e w6 ⟨rfl,M2,N2,D2,hg6,ho6,hsd6,hnn6,hmet6,hmk⟩;have HG6:=Zab hg6;have HO6:=Zab ho6;have HS6:=Zab hsd6;have HM6:=Zab hmet6;clear hg6 ho6 hsd6 hmet6 z4;go_wp2;go_roundw
     case rel=>exact⟨k+1,by go_num,by omega,HG6.o,M2,N2,D2,HO6.o,HS6.o,hnn6,HMT.o.trans HM6.o,fun i hi hw=>by
      rcases Nat.lt_or_ge i k with h | h
      . exact HM6.o.mono i (HGT.o i h hw)
      . have:i=k:=by omega
        rw [this];exact hmk⟩
     . simp [intOf];omega
  . have hke:k=Os.length:=by omega
    have HE:=Zab (Zqt HMT.o fun i hi hw=>HGT.o i (by omega) hw);have z1:wr.cell? ⟨w.heap.size+1+1+1,0,none⟩=some (.map (some mb)):=(x1.o.row HGr.o (fun e=>by injection e with e;have:=HM.o;omega)).cell 0;clear hke;go_wp2;go_ret;exact⟨mb,N,D,M,rfl,ZdG HB0.o HGr.o (by have:=HM.o;omega),by have:=HM.o;omega,HOr.o,HSD.o,by omega,HE.o⟩
end
end
section
open Go.RowKit Go.Deep Go.Shelf Go.Maps
theorem ZkS (o:Ob) (va ha:Option Addr) (vn vc hn hc:Nat) (w:World) :
 Calls prog 109 #[.agg #[.string o.kd,.string o.nm,.string o.tm,.slice va vn vc,.bool o.en,.slice ha hn hc,.int .i64 o.ver]] w
  fun e w'=>e=.returned (.bool o.en)/\Zw_ w w':=by
 go_enter func109,ntmps109;go_wp2;go_ret;exact⟨rfl,Zac _ _⟩
theorem ZkA (w:World) (Os:List Ob):Zjz w Os 109 #[] #[] (ZsK Os):=fun i hi va ha vc hc W _=>by
 have h:=ZkS Os[i] va ha Os[i].vs.length vc Os[i].hs.length hc W;have e:ZsK Os i=Os[i].en:=by unfold ZsK;rw [List.getElem?_eq_getElem hi]
 rw [e];exact h
theorem ZpM (w1:World) (Os:List Ob) (β:Nat) (gf:FuncId) (ba ca:Array Value) (So:Nat->Bool) (hx:Box w1 β #[.func (.func gf) ba ca]) (hWa:Zjz w1 Os gf ba ca So) (ec:∀ args W,(callFunc gf args).run prog W=.ok (.enter gf args) W) :
 Zjz w1 Os 149 #[] #[.pointer (some ⟨β,0,none⟩)] (fun i=>!So i || ZaX Os i):=fun i hi va ha vc hc W hW=>by
 show Calls prog 149 #[.agg #[.string Os[i].kd,.string Os[i].nm,.string Os[i].tm,.slice va Os[i].vs.length vc,.bool Os[i].en,.slice ha Os[i].hs.length hc,.int .i64 Os[i].ver],.pointer (some ⟨β,0,none⟩)] W _
 have HWA:=Zab hWa;have y1:=(hx.on hW).on (Zac W (.cells #[.string Os[i].kd,.string Os[i].nm,.string Os[i].tm,.slice va Os[i].vs.length vc,.bool Os[i].en,.slice ha Os[i].hs.length hc,.int .i64 Os[i].ver] 128));have y0:(W.alloc (.cells #[.string Os[i].kd,.string Os[i].nm,.string Os[i].tm,.slice va Os[i].vs.length vc,.bool Os[i].en,.slice ha Os[i].hs.length hc,.int .i64 Os[i].ver] 128)).cell? ⟨β,0,none⟩=some (.func (.func gf) ba ca):=y1.cell 0;have HW:=Zab hW;clear hWa hW y1 hx;go_enter func149,ntmps149;go_wp2_with fail;refine (HWA.o i hi va ha vc hc _ (bt HW.o (Zac _ _))).mono ?_;rintro e w5 ⟨rfl,hb⟩;have HB:=Zab (bt (Zac W _) hb);have b5:w5.cell? ⟨W.heap.size,5,none⟩=some (.slice ha Os[i].hs.length hc):=((Box.new W _ _ _ rfl).on hb).cell 5;have e:ZaX Os i=decide (0 < Os[i].hs.length):=by unfold ZaX;rw [List.getElem?_eq_getElem hi]
 clear hb y0
 cases hSo:So i with
 | false=>
  go_wp2;go_ret;exact⟨by rw [hSo];rfl,HB.o⟩
 | true=>
  go_wp2;go_ret;exact⟨by rw [hSo,e];rfl,HB.o⟩
section
variable (lo:Nat) (sv ov:Value) (Ss:List Sh) (Os:List Ob) (w:World) (gf:FuncId) (ba ca:Array Value) (So:Nat->Bool)
theorem ZkH (hS:ZaI lo w sv Ss) (hO:Za3 lo w ov Os) (hn:Zbg Os) (hsp:ZfX Ss Os) (hd:Zhl Os) (ht:ZeK Ss Os) (hW:Zjz w Os gf ba ca So) (ec:∀ args W,(callFunc gf args).run prog W=.ok (.enter gf args) W) :
 Calls prog 108 #[sv,ov,.func (.func gf) ba ca] w
  fun e w'=>∃ mb N,∃ D:DataW Value,∃ M:Nat->Bool,e=.returned (.map (some mb))/\Zw_ w w'/\w.heap.size<=mb/\w'.ownsMap prog 153 Zcu mb N D/\ZfB Os D (fun i=>!M i)/\∀ i,M i=true↔Least Os.length (fun j=>!So j || ZaX Os j) (ZhU Ss Os) i:=by
 have HS:=Zab hS;have HO:=Zab hO;have HN:=Zab hn;have HSP:=Zab hsp;have HD:=Zab hd;have HT:=Zab ht;have HWA:=Zab hW;have HKF:=Zab (ZgD hO);obtain⟨a,cap,rfl⟩:=hS.form;obtain⟨oa,ocap,rfl⟩:=hO.form;have hos:Os.length<=1048576:=hn.1;have ecb:∀ args W,(callFunc 149 args).run prog W=.ok (.enter 149 args) W:=fun args W=>by rfl
 clear hS hO hn hsp hd ht hW;have hmm:=@run_makeMap prog;go_enter func108,ntmps108;go_wp2_with fail;generalize hWa:w.alloc _=w1;have HB1:Hd (Zw_ w w1):=by unfold Hd;rw [<- hWa];exact Zac _ _
 have HX1:Hd (Box w1 w.heap.size #[.func (.func gf) ba ca]):=by unfold Hd;rw [<- hWa];exact Box.new _ _ _ _ rfl
 clear hWa;refine (Zor lo _ _ Ss Os w1 (HS.o.below HB1.o) (HO.o.below HB1.o) HN.o HSP.o HD.o).mono ?_;rintro e w2 ⟨lb,D1,rfl,hb2,hlb,ho2,hg2⟩;have HB2:Hd (Zw_ w w2):=bt HB1.o hb2;have HBd:=Zab (ZpM w1 Os w.heap.size gf ba ca So HX1.o (HWA.o.later HB1.o) ec);have HBd2:=Zab (HBd.o.later hb2);have HO2:=Zab ho2;have HG2:=Zab hg2;have hlt2:=ho2.lt;clear hb2 ho2 hg2 HBd;go_wp2_with fail;refine (Zia lo _ Os w2 149 #[] #[.pointer (some ⟨w.heap.size,0,none⟩)] lb (Os.length*1048577) (lb+2) D1 (ZhU Ss Os) (fun i=>!So i || ZaX Os i) (HO.o.below HB2.o) hos HD.o HO2.o (fun k hk=>?_) (fun k hk y hy=>((Zk6 HD.o HT.o hk y).1 hy).1) HBd2.o ecb).mono ?_
 . obtain⟨s0,s1⟩:=HKF.o k hk
   obtain⟨v,h1,h2⟩:=HG2.o.at' Os[k].kd Os[k].nm s0 s1;rw [ZrR HD.o hk] at h2;exact⟨v,h1,h2⟩
 . rintro e w3 ⟨m3,N3,D3,M,rfl,hb3,hm3,ho3,hs3,hN3,hM⟩
   have HB3:Hd (Zw_ w w3):=bt HB2.o hb3;have HO3:=Zab ho3;have HS3:=Zab hs3;have HM:=Zab hM;have hz3:=HB3.o.size;have hlt3:=ho3.lt;clear hb3 ho3 hs3 hM HO2 HG2 HBd2 ecb HX1;go_wp2;clear hmm;generalize hWb:w3.alloc (.map #[] 0)=W0;have HB0:Hd (Zw_ w W0):=by unfold Hd;rw [<- hWb];exact bt HB3.o (Zac _ _)
   have HO0:Hd (W0.ownsMap prog 153 Zcu m3 N3 D3):=by unfold Hd;rw [<- hWb];exact HO3.o.alloc _
   have HM0:Hd (W0.ownsMap prog 153 Zcu w3.heap.size 0 (.map [])):=by unfold Hd;rw [<- hWb];exact World.ownsMap_made _ _ _ _
   clear hWb HO3 HB3;generalize w3.heap.size=pm at*
   go_loopw [22] (fun q wr=>∃ k:Nat,q=.int .i64 k/\k<=Os.length/\W0.grownBy wr (some pm)/\∃ (N:Nat) (D:DataW Value),N<=k/\wr.ownsMap prog 153 Zcu pm N D/\ZfB Os D (fun q=>decide (q < k)&&!M q)) (fun q _=>Os.length - (intOf q).toNat)
   case atStart=>exact⟨0,rfl,Nat.zero_le _,ZaN Zb_ _,0,.map [],Nat.le_refl _,HM0.o,(ZfB.start Os).congr fun i _=>by simp⟩
   case round=>
    obtain⟨k,rfl,hk,hg,N,D,hnn,ho,hsd⟩:=hrel;have HGr:=Zab hg;have HOr:=Zab ho;have HSD:=Zab hsd;clear hg ho hsd HM0
    by_cases hlt:k < Os.length
    . obtain⟨b,off,rfl,hbw,-,hc⟩:=HO.o.full' (by omega)
      obtain⟨hs,vv0,vv1,hcell,hv0,hv1⟩:=hc k hlt;obtain⟨c0,c1,c2,c3,c4,c5,c6⟩:=Zm5 hcell hbw HB0.o HGr.o (by omega);obtain⟨va,vc,rfl⟩:=hv0.at.form';obtain⟨ha,hc',rfl⟩:=hv1.at.form';have HZ:=Zab hs;clear hc hcell hs hv0 hv1;have hown:(wr.alloc (.cells #[.string Os[k].kd,.string Os[k].nm,.string Os[k].tm,.slice va Os[k].vs.length vc,.bool Os[k].en,.slice ha Os[k].hs.length hc',.int .i64 Os[k].ver] 128)).ownsMap prog 153 Zcu m3 N3 D3:=(HO0.o.kept HGr.o (fun e=>by injection e with e;omega)).alloc _;have HH:=Zab (ZgL Os M k m3 N3 D3 va ha Os[k].vs.length vc Os[k].hs.length hc' _ HD.o hlt HZ.o.s0 HZ.o.s1 hown HS3.o);clear hown;go_wp2_with fail;refine HH.o.mono ?_;rintro e w5 ⟨rfl,hb5⟩
      have hx:=(Box.new wr #[.string Os[k].kd,.string Os[k].nm,.string Os[k].tm,.slice va Os[k].vs.length vc,.bool Os[k].en,.slice ha Os[k].hs.length hc',.int .i64 Os[k].ver] 128 _ rfl).on hb5;have x0:=hx.cell 0;have x1:=hx.cell 1;have x2:=hx.cell 2;have x3:=hx.cell 3;have x4:=hx.cell 4;have x5:=hx.cell 5;have x6:=hx.cell 6;simp at x0 x1 x2 x3 x4 x5 x6;have HG5:Hd (W0.grownBy w5 (some pm)):=HGr.o.trans ((ZaN (Zac _ _) _).trans (ZaN hb5 _));have HO5:Hd (w5.ownsMap prog 153 Zcu pm N D):=(HOr.o.alloc _).kept (ZaN hb5 none) (fun e=>by cases e);clear hb5 hx c0 c1 c2 c3 c4 c5 c6 HH
      cases hMk:M k with
      | true=>
       go_wp2;go_roundw
       case rel=>exact⟨k+1,by go_num,by omega,HG5.o,N,D,by omega,HO5.o,HSD.o.congr fun i _=>by
        by_cases e:i=k
        . subst e
          simp [hMk]
        . have:decide (i < k+1)=decide (i < k):=by rw [decide_eq_decide];omega
          rw [this]⟩
       . simp [intOf];omega
      | false=>
       go_wp2_with fail;refine (Zcb Os[k] va Os[k].vs.length vc ha Os[k].hs.length hc' _).mono ?_;rintro e w6 ⟨rfl,hb6⟩;have HG6:Hd (W0.grownBy w6 (some pm)):=HG5.o.trans (ZaN hb6 _);have ho6:w6.ownsMap prog 153 Zcu pm N D:=HO5.o.kept (ZaN hb6 none) (fun e=>by cases e);have hbig:N < maxLen:=by unfold maxLen;omega
       clear hb6 x0 x1 x2 x3 x4 x5 x6;go_wp2_with (at_mapUpdate;refine wpList_mapUpdate_own _ rfl _ _ _ 147 rfl 153 3 ZcJ underlying147 Zcu pm N D rfl ho6 hbig _ _ _ rfl rfl (Zc1.mk' HZ.o.s0 HZ.o.s1) (.held (.int .i64 (k:Int))) [] rfl ?_;intro w7 ho7 hg7;have HO7:=Zab ho7;have HG7:=Zab hg7;clear ho7 hg7);go_roundw
       case rel=>exact⟨k+1,by go_num,by omega,HG6.o.trans HG7.o,N+1,_,by omega,HO7.o,(HSD.o.step HD.o hlt HZ.o.s0 HZ.o.s1).congr fun i _=>by
        by_cases e:i=k
        . subst e
          simp [hMk]
        . have h1:decide (i < k+1)=decide (i < k):=by rw [decide_eq_decide];omega
          have h2:(i == k)=false:=by rw [beq_eq_false_iff_ne];exact e
          rw [h1,h2,Bool.or_false]⟩
       . simp [intOf];omega
    . have hke:k=Os.length:=by omega
      have HE:=Zab (HSD.o.congr (P':=fun i=>!M i) fun i hi=>by rw [hke];simp [hi]);clear hke;go_wp2;go_ret;exact⟨pm,N,D,M,rfl,ZdG HB0.o HGr.o (by omega),by omega,HOr.o,HE.o,HM.o⟩
end
end
section
open Go.RowKit Go.Deep Go.Maps
theorem ZlN {Ss:List Sh}{Ms:List Md}{Ts:List Tm}{B:Bk}{FF:Nat->List Zy_} (h:Zdh Ss Ms Ts B FF=true) {M:Nat->Bool}
 (hM:∀ i,M i=true↔Least B.os.length (fun j=>!Zeu Ss B.os j || ZaX B.os j) (ZhU Ss B.os) i):Zei B.os (fun i=>!M i)=ZeS Ss B.os:=by
 unfold Zei ZeS Zb5
 congr 1
 refine List.filter_congr fun i hi=>?_
 have hi:=List.mem_range.1 hi;rw [Bool.eq_iff_iff,ZkJ hi,ZoY (Zk4 (ZdA h)) (Zjn h),<- hM i]
 cases M i <;> simp
theorem Zql (w:World) (Os:List Ob) (mb N:Nat) (D:DataW Value) (M:Nat->Bool) (hk:Zfz Os) (hd:Zhl Os) (ho:w.ownsMap prog 153 Zcu mb N D) (hD:ZfB Os D M):Zjz w Os 120 #[.map (some mb)] #[] M:=fun i hi va ha vc hc W hW=>
 ZgL Os M i mb N D va ha Os[i].vs.length vc Os[i].hs.length hc W hd hi (hk i hi).1 (hk i hi).2 (ho.kept (ZmU hW) (fun e=>by cases e)) hD
theorem Zqb (lo:Nat) (sv ov:Value) (Ss:List Sh) (Os:List Ob) (w:World) (hS:ZaI lo w sv Ss) (hO:Za3 lo w ov Os) (hn:Zbg Os) (hsp:ZfX Ss Os) (hd:Zhl Os) (ht:ZeK Ss Os) :
 Calls prog 73 #[sv,ov] w
  fun e w'=>∃ mb N,∃ D:DataW Value,∃ M:Nat->Bool,e=.returned (.map (some mb))/\Zw_ w w'/\w.heap.size<=mb/\w'.ownsMap prog 153 Zcu mb N D/\ZfB Os D (fun i=>!M i)/\∀ i,M i=true↔Least Os.length (fun j=>!Zeu Ss Os j || ZaX Os j) (ZhU Ss Os) i:=by
 have HS:=Zab hS;have HO:=Zab hO;have HN:=Zab hn;have HSP:=Zab hsp;have HD:=Zab hd;have HT:=Zab ht;have HKF:=Zab (ZgD hO);obtain⟨a,cap,rfl⟩:=hS.form;obtain⟨oa,ocap,rfl⟩:=hO.form;clear hS hO hn hsp hd ht;go_enter func73,ntmps73;go_wp2_with fail;refine (Zmt lo _ _ Ss Os w HS.o HO.o HN.o HSP.o).mono ?_;rintro e w2 ⟨rfl,hb2,D1,ho2,hg2⟩;have HB2:=Zab hb2;have HO2:=Zab ho2;have HG2:=Zab hg2;clear hb2 ho2 hg2;go_wp2_with fail;refine (Zia lo _ Os w2 109 #[] #[] w.heap.size (Os.length*1048577) (w.heap.size+2) D1 (ZtF Ss Os) (ZsK Os) (HO.o.below HB2.o) HN.o.1 HD.o HO2.o (fun k hk=>?_) (fun k hk y hy=>((Zm1 k hk y).1 hy).1) (ZkA w2 Os) (fun args W=>by rfl)).mono ?_
 . obtain⟨s0,s1⟩:=HKF.o k hk
   obtain⟨v,h1,h2⟩:=HG2.o.at' Os[k].kd Os[k].nm s0 s1;rw [<- ZqM hk] at h2;exact⟨v,h1,h2⟩
 . rintro e w3 ⟨m3,N3,D3,M1,rfl,hb3,hm3,ho3,hs3,hN3,hM1⟩
   have hf:M1=Zeu Ss Os:=funext fun i=>by rw [Bool.eq_iff_iff,hM1,Zqc]
   subst hf;have HB3:Hd (Zw_ w w3):=bt HB2.o hb3;have HWT:=Zab (Zql w3 Os m3 N3 D3 _ HKF.o HD.o ho3 hs3);have hz3:=HB3.o.size;clear hb3 ho3 hs3 hM1 HO2 HG2;go_wp2_with fail;refine (ZkH lo _ _ Ss Os w3 120 #[.map (some m3)] #[] (Zeu Ss Os) (HS.o.below HB3.o) (HO.o.below HB3.o) HN.o HSP.o HD.o HT.o HWT.o (fun args W=>by rfl)).mono ?_;rintro e w4 ⟨mb,N,D,M,rfl,h1,h2,h3,h4,h5⟩;have HH:=Zab (And.intro (bt HB3.o h1) (And.intro (Nat.le_trans hz3 h2) (And.intro h3 (And.intro h4 h5))));clear h1 h2 h3 h4 h5;go_wp2;go_ret;obtain⟨h1,h2,h3,h4,h5⟩:=HH.o;exact⟨mb,N,D,M,rfl,h1,h2,h3,h4,h5⟩
section
variable (lo:Nat) (sv mv tv ov gv lv pv:Value) (Ss:List Sh) (Ms:List Md) (Ts:List Tm) (B:Bk) (FF:Nat->List Zy_) (w:World)
theorem ZiK (hl:ZbH lo w sv mv tv Ss Ms Ts) (h:ZaU lo w ov gv lv pv B) (hn:Zbp B) (hsh:Zcw Ss Ms B.os FF) :
 Calls prog 43 #[.agg #[sv,mv,tv],.agg #[.int .i64 B.now,.int .i64 B.tick,.int .i64 B.given,ov,gv,lv,pv],.func (.func 73) #[] #[]] w
  fun e w'=>∃ v,e=.returned v/\Zw_ w w'/\Zav w.heap.size w'.heap.size w' v (ZrB Ss Ms Ts B FF (ZeS Ss B.os)):=by
 have HL:=Zab hl;have HK:=Zab h;have HN:=Zab hn;have HSH:=Zab hsh;obtain⟨sa,sc,rfl⟩:=hl.shs.form;obtain⟨ma,mc,rfl⟩:=hl.mds.form;obtain⟨ta,tc,rfl⟩:=hl.tms.form;obtain⟨a0,k0,rfl⟩:=h.obs.form;obtain⟨a1,k1,rfl⟩:=h.grs.form;obtain⟨a2,k2,rfl⟩:=h.les.form;obtain⟨a3,k3,rfl⟩:=h.pus.form;clear hl h hn hsh;go_enter func43,ntmps43;go_wp2_with fail;generalize hWa:(World.alloc (w.alloc _) _)=w0;have HB0:Hd (Zw_ w w0):=by rw [<- hWa];exact (Zac w _).alloc (by simp) _
 have HX0:Hd (Box w0 w.heap.size #[.slice sa Ss.length sc,.slice ma Ms.length mc,.slice ta Ts.length tc]):=by rw [<- hWa];exact (Box.new _ _ _ _ rfl).on (Zac _ _)
 have HY0:Hd (Box w0 (w.heap.size+1) #[.int .i64 B.now,.int .i64 B.tick,.int .i64 B.given,.slice a0 B.os.length k0,.slice a1 B.gs.length k1,.slice a2 B.ls.length k2,.slice a3 B.ps.length k3]):=by rw [<- hWa];exact Box.new _ _ _ _ (by simp)
 clear hWa;refine (ZkP lo _ _ _ _ _ _ _ Ss Ms Ts B FF _ (HL.o.below HB0.o) (HK.o.below HB0.o) HN.o HSH.o).mono ?_;rintro e w1 ⟨rfl,hb⟩;have HB1:Hd (Zw_ w w1):=HB0.o.trans (hb.mono HB0.o.size);have HX1:=Zab (HX0.o.on hb);have HY1:=Zab (HY0.o.on hb);clear hb HB0 HX0 HY0;have c0:=HX1.o.cell 0;have b3:=HY1.o.cell 3;simp at c0 b3
 cases h0:Zdh Ss Ms Ts B FF with
 | false=>
  go_wp2;go_ret;exact⟨_,rfl,HB1.o,by rw [ZmO h0];exact Or.inl ⟨_,_,rfl,rfl⟩⟩
 | true=>
  have hob:=ZdA h0;have HSP:=Zab (Zlo hob);have HLO:=Zab (Zk4 hob);have HT:=Zab h0;have hz1:=HB1.o.size;clear hob;go_wp2_with fail;refine (Zqb lo _ _ Ss B.os w1 (HL.o.below HB1.o).shs (HK.o.below HB1.o).obs HN.o.1 HSP.o HLO.o (Zjn HT.o)).mono ?_;rintro e w2 ⟨mb,Nn,D,M,rfl,hb2,hmb,hown,hD,hM⟩;have HGL:=Zab (ZlN HT.o hM);clear hM;have HB2:Hd (Zw_ w w2):=bt HB1.o hb2;have HOw:=Zab hown;have HDD:=Zab hD;have hz2:=hb2.size;clear hown hD hb2 c0 b3;go_wp2_with fail;refine (Zkf B.os (fun i=>!M i) HLO.o (ZgD HK.o.obs) HN.o.1.1 mb Nn D HDD.o w2 HOw.o).mono ?_;rintro e w3 ⟨v,rfl,hb3,hi⟩;rw [HGL.o] at hi;have HI:=Zab hi;have HB3:Hd (Zw_ w w3):=bt HB2.o hb3;clear hi hb3;go_wp2;go_ret
  exact⟨v,rfl,HB3.o,by rw [Zno HT.o];exact HI.o.wide (by omega) Zl_⟩
theorem Zft (hl:ZbH lo w sv mv tv Ss Ms Ts) (h:ZaU lo w ov gv lv pv B) (hn:Zbp B) (hsh:Zcw Ss Ms B.os FF) :
 Calls prog 26 #[.agg #[sv,mv,tv],.agg #[.int .i64 B.now,.int .i64 B.tick,.int .i64 B.given,ov,gv,lv,pv]] w
  fun e w'=>∃ v,e=.returned v/\Zw_ w w'/\Zav w.heap.size w'.heap.size w' v (ZrB Ss Ms Ts B FF (ZeS Ss B.os)):=by
 have HL:=Zab hl;have HK:=Zab h;have HN:=Zab hn;have HSH:=Zab hsh;obtain⟨sa,sc,rfl⟩:=hl.shs.form;obtain⟨ma,mc,rfl⟩:=hl.mds.form;obtain⟨ta,tc,rfl⟩:=hl.tms.form;obtain⟨a0,k0,rfl⟩:=h.obs.form;obtain⟨a1,k1,rfl⟩:=h.grs.form;obtain⟨a2,k2,rfl⟩:=h.les.form;obtain⟨a3,k3,rfl⟩:=h.pus.form;clear hl h hn hsh;go_enter func26,ntmps26;go_wp2_with fail;generalize hWa:(World.alloc (w.alloc _) _)=w0;have HB0:Hd (Zw_ w w0):=by rw [<- hWa];exact (Zac w _).alloc (by simp) _
 clear hWa;refine (ZiK lo _ _ _ _ _ _ _ Ss Ms Ts B FF _ (HL.o.below HB0.o) (HK.o.below HB0.o) HN.o HSH.o).mono ?_;rintro e w1 ⟨v,rfl,hb,hi⟩;have HI:=Zab hi;have HB:=Zab (bt HB0.o hb);have hz0:=HB0.o.size;clear hi hb;go_wp2;go_ret;exact⟨v,rfl,HB.o,HI.o.wide (by omega) Zl_⟩
end
end
open Go.RowKit Go.Deep
theorem Zou (sv mv tv ov gv lv pv:Value) (Ss:List Sh) (Ms:List Md) (Ts:List Tm) (B:Bk) (w:World)
 (hL:ZbH 0 w sv mv tv Ss Ms Ts) (hB:ZaU 0 w ov gv lv pv B) :
 Calls prog 6 #[.agg #[sv,mv,tv],.agg #[.int .i64 B.now,.int .i64 B.tick,.int .i64 B.given,ov,gv,lv,pv]] w fun e w'=>e=.returned (.bool true)/\Zw_ w w':=by
 obtain⟨FF,hFF⟩:=Zcw.exists Ss Ms B.os;have HSH:=Zab hFF;clear hFF;have HL:=Zab hL;have HK:=Zab hB;obtain⟨a,cap,rfl⟩:=hL.shs.form;obtain⟨a1,cap1,rfl⟩:=hL.mds.form;obtain⟨a2,cap2,rfl⟩:=hL.tms.form;obtain⟨oa0,oc0,rfl⟩:=hB.obs.form;obtain⟨oa1,oc1,rfl⟩:=hB.grs.form;obtain⟨oa2,oc2,rfl⟩:=hB.les.form;obtain⟨oa3,oc3,rfl⟩:=hB.pus.form;clear hL hB;go_enter func6,ntmps6;go_wp2_with fail;generalize hWa:(World.alloc (w.alloc _) _)=Wa;have HBa:Hd (Zw_ w Wa):=by rw [<- hWa];exact (Zac w _).alloc (by simp) _
 have FA:Hd (Box Wa w.heap.size (#[Value.slice a Ss.length cap,.slice a1 Ms.length cap1,.slice a2 Ts.length cap2])):=by rw [<- hWa];exact (Box.new _ _ _ _ rfl).on (Zac _ _)
 have FB:Hd (Box Wa (w.heap.size+1) (#[Value.int .i64 B.now,.int .i64 B.tick,.int .i64 B.given,.slice oa0 B.os.length oc0,.slice oa1 B.gs.length oc1,.slice oa2 B.ls.length oc2,.slice oa3 B.ps.length oc3])):=by rw [<- hWa];exact Box.new _ _ _ _ (by simp)
 clear hWa;refine (Zq6 0 _ _ _ Ss Ms Ts _ _ (by omega) (by omega) (HL.o.below HBa.o)).mono ?_;rintro e w1 ⟨q,rfl,hb1,hr0,hr1,hr2⟩;have HB1:Hd (Zw_ w w1):=bt HBa.o hb1;replace FA:=Zab (FA.o.on hb1);replace FB:=Zab (FB.o.on hb1);have HQ:=Zab hr2;clear hb1 hr2 HBa
 by_cases hneg:q < 0
 . go_wp2
   go_ret;exact⟨rfl,HB1.o⟩
 have hLm:Hd (ZfU Ss Ms Ts):=HQ.o (by omega);clear HQ hr0;have g1:=FB.o.cell;have gm:=FB.o.lt;go_wp2_with fail;clear g1 gm;refine (ZoZ 0 _ _ _ _ B _ _ (by omega) (by omega) (HK.o.below HB1.o)).mono ?_;rintro e w2 ⟨q2,rfl,hb2,hr0,hr2,hr3⟩;have HB:Hd (Zw_ w w2):=bt HB1.o hb2;replace FA:=Zab (FA.o.on hb2);replace FB:=Zab (FB.o.on hb2);have HQ:=Zab hr3;clear hb2 hr3 HB1
 by_cases hneg2:q2 < 0
 . go_wp2
   go_ret;exact⟨rfl,HB.o⟩
 have hBm:Hd (Zbp B):=HQ.o (by omega);clear HQ hr0 hr1 hr2 hneg;obtain⟨Lq,hAN,hSM⟩:∃ Lq:List Int,ZrB Ss Ms Ts B FF (ZeS Ss B.os)=Lq/\Lq.length<=1048576:=⟨_,rfl,Zsp (Nat.le_trans (ZlL Ss B.os) hBm.o.1.1)⟩
 have HAN:=Zab hAN;clear hAN;go_wp2;clear hneg2;have HLr:=Zab (HL.o.below HB.o);have HKr:=Zab (HK.o.below HB.o)
 go_region_held3 (ZbA w2 w.heap.size (#[Value.slice a Ss.length cap,.slice a1 Ms.length cap1,.slice a2 Ts.length cap2]) (w.heap.size+1) (#[Value.int .i64 B.now,.int .i64 B.tick,.int .i64 B.given,.slice oa0 B.os.length oc0,.slice oa1 B.gs.length oc1,.slice oa2 B.ls.length oc2,.slice oa3 B.ps.length oc3]))
  (first
    | (with_reducible exact ZbA.drew FA.o FB.o)
    | (with_reducible exact ZbA.on (by assumption) (by assumption)))
  (first
    | (go_at_call 10
       refine (Zii 0 _ _ _ Ss Ms Ts _ (HLr.o.below (Zb_.drew)) hLm.o).mono ?_;rintro e w3 ⟨x0,y0,x1,y1,x2,y2,rfl,hb3,hs3⟩;have HD3:Hd (Below w2.heap.size w2 w3):=bt (Zb_.drew) hb3;have HS3:=Zab (hs3.mono Zz_);clear hs3)
    | (go_at_call 11
       refine (ZgP 0 _ _ _ _ B _ (HKr.o.below HD3.o) hBm.o).mono ?_;rintro e w4 ⟨z0,t0,z1,t1,z2,t2,z3,t3,rfl,hb4,hs4⟩;have HD4:Hd (Below w2.heap.size w2 w4):=bt HD3.o hb4;have HS4:Hd (ZbH 0 w4 _ _ _ Ss Ms Ts):=HS3.o.below hb4;have HK4:=Zab (hs4.mono Zz_);clear hs4 HS3)
    | (go_at_call 25
       refine (ZiE 0 _ _ _ _ _ _ _ Ss Ms Ts B FF _ HS4.o HK4.o hBm.o HSH.o).mono ?_;rintro e w5 ⟨v,rfl,hb5,hi5⟩;rw [HAN.o] at hi5;have HD5:Hd (Below w2.heap.size w2 w5):=bt HD4.o hb5;have HI5:Hd (Zat 0 w5 v Lq):=hi5.in'.mono Zz_;clear hi5))
 have hzw:w.heap.size+1 < w2.heap.size:=FB.o.lt
 have hzc:=HD5.o.size;replace FA:=Zab (FA.o.on HD5.o);replace FB:=Zab (FB.o.on HD5.o);replace HB:=Zab (bt HB.o HD5.o);have HW0:=Zab HI5.o;have FO:=Zab HI5.o;have FC:Hd (Below w5.heap.size w5 w5):=Below.refl _ _;clear HLr HKr HD3 HD4 HS4 HK4 HD5 HI5 hb3 hb4 hb5;have g1:=FA.o.cell;have g2:=FA.o.lt;go_wp2_with fail;clear g1 g2;refine (Zo7 0 _ _ _ Ss Ms Ts _ (HL.o.below HB.o) hLm.o).mono ?_;rintro e w6 ⟨c0,d0,c1,d1,c2,d2,rfl,hb6,ho6⟩;have hz6:=hb6.size;replace FC:=Zab (FC.o.trans (hb6.mono FC.o.size));replace FA:=Zab (FA.o.on hb6);replace FB:=Zab (FB.o.on hb6);replace HB:=Zab (HB.o.trans (hb6.mono HB.o.size));replace FO:=Zab (FO.o.below hb6);have OX:=Zab ho6;clear hb6 ho6;have g0:=FB.o.cell;have gl:=FB.o.lt;have g1:∀ o i,(w6.alloc o).cell? ⟨w.heap.size+1,i,none⟩=_:=fun o i=>(Zaj _ _ _ _ gl).trans (g0 i)
 go_wp2_with fail;clear g0 gl g1;generalize hWn:w6.alloc _=W6;have hbn:Below w6.heap.size w6 W6:=by rw [<- hWn];exact Zac _ _
 have FX:Hd (Box W6 w6.heap.size (#[Value.slice c0 Ss.length d0,.slice c1 Ms.length d1,.slice c2 Ts.length d2])):=by rw [<- hWn];exact Box.new _ _ _ _ rfl
 have hzW6:W6.heap.size=w6.heap.size+1:=by rw [<- hWn];simp
 replace FC:=Zab (FC.o.trans (hbn.mono FC.o.size));replace FA:=Zab (FA.o.on hbn);replace FB:=Zab (FB.o.on hbn);replace HB:=Zab (HB.o.trans (hbn.mono HB.o.size));replace FO:=Zab (FO.o.below hbn);replace OX:=Zab (OX.o.below hbn);clear hbn hWn;refine (ZmJ 0 _ _ _ _ B _ (HK.o.below HB.o) hBm.o).mono ?_;rintro e w7 ⟨x0,y0,x1,y1,x2,y2,x3,y3,rfl,hb7,ho7⟩;have hz7:=hb7.size;replace FC:=Zab (FC.o.trans (hb7.mono FC.o.size));replace FA:=Zab (FA.o.on hb7);replace FB:=Zab (FB.o.on hb7);replace HB:=Zab (HB.o.trans (hb7.mono HB.o.size));replace FO:=Zab (FO.o.below hb7);replace OX:=Zab (OX.o.below hb7);replace FX:=Zab (FX.o.on hb7);have OY:=Zab ho7;clear hb7 ho7;have g0:=FX.o.cell;have gl:=FX.o.lt;have g1:∀ o i,(w7.alloc o).cell? ⟨w6.heap.size,i,none⟩=_:=fun o i=>(Zaj _ _ _ _ gl).trans (g0 i)
 go_wp2_with fail;clear g0 gl g1;generalize hWn:w7.alloc _=W7;have hbn:Below w7.heap.size w7 W7:=by rw [<- hWn];exact Zac _ _
 have FY:Hd (Box W7 w7.heap.size (#[Value.int .i64 B.now,.int .i64 B.tick,.int .i64 B.given,.slice x0 B.os.length y0,.slice x1 B.gs.length y1,.slice x2 B.ls.length y2,.slice x3 B.ps.length y3])):=by rw [<- hWn];exact Box.new _ _ _ _ rfl
 have hzW7:W7.heap.size=w7.heap.size+1:=by rw [<- hWn];simp
 replace FC:=Zab (FC.o.trans (hbn.mono FC.o.size));replace FA:=Zab (FA.o.on hbn);replace FB:=Zab (FB.o.on hbn);replace HB:=Zab (HB.o.trans (hbn.mono HB.o.size));replace FO:=Zab (FO.o.below hbn);replace OX:=Zab (OX.o.below hbn);replace FX:=Zab (FX.o.on hbn);replace OY:=Zab (OY.o.below hbn);clear hbn hWn;refine (Zft 0 _ _ _ _ _ _ _ Ss Ms Ts B FF _ (OX.o.at.mono Zz_) (OY.o.at.mono Zz_) hBm.o HSH.o).mono ?_;rintro e w8 ⟨v2,rfl,hb8,ho8⟩;rw [HAN.o] at ho8;have hz8:=hb8.size;replace FC:=Zab (FC.o.trans (hb8.mono FC.o.size));replace FA:=Zab (FA.o.on hb8);replace FB:=Zab (FB.o.on hb8);replace HB:=Zab (HB.o.trans (hb8.mono HB.o.size));replace FO:=Zab (FO.o.below hb8);replace OX:=Zab (OX.o.below hb8);replace FX:=Zab (FX.o.on hb8);replace OY:=Zab (OY.o.below hb8);replace FY:=Zab (FY.o.on hb8)
 have OG:=Zab ho8;clear hb8 ho8;go_wp2_with fail;refine (Zec _ _ _ _ Lq _ (OG.o.in') FO.o).mono ?_;rintro e w9 ⟨rfl,hbe⟩;have hzw9:=hbe.size;replace FC:=Zab (FC.o.trans (hbe.mono FC.o.size));replace FA:=Zab (FA.o.on hbe);replace FB:=Zab (FB.o.on hbe);replace HB:=Zab (HB.o.trans (hbe.mono HB.o.size));replace FO:=Zab (FO.o.below hbe);replace OX:=Zab (OX.o.below hbe);replace FX:=Zab (FX.o.on hbe);replace OY:=Zab (OY.o.below hbe);replace FY:=Zab (FY.o.on hbe);replace OG:=Zab (OG.o.below hbe);clear hbe;have g1:=FX.o.cell;have g2:=FA.o.cell;have g3:=FX.o.lt;have g4:=FA.o.lt;go_wp2_with fail;clear g1 g2 g3 g4;have HLb:=Zab (HL.o.below HB.o)
 go_region_held3 (ZbA w9 w6.heap.size (#[Value.slice c0 Ss.length d0,.slice c1 Ms.length d1,.slice c2 Ts.length d2]) w.heap.size (#[Value.slice a Ss.length cap,.slice a1 Ms.length cap1,.slice a2 Ts.length cap2]))
  (first
    | (with_reducible exact ZbA.drew FX.o FA.o)
    | (with_reducible exact ZbA.on (by assumption) (by assumption)))
  (first
    | (go_at_call 10
       refine (Zii 0 _ _ _ Ss Ms Ts _ (HLb.o.below (Zb_.drew)) hLm.o).mono ?_;rintro e we ⟨f0,j0,f1,j1,f2,j2,rfl,hbe,hse⟩;have HC8:Hd (Below w9.heap.size w9 we):=bt (Zb_.drew) hbe;have HSe:=Zab hse;clear hse)
    | (go_at_call 14
       refine (Zn3 _ _ _ _ Ss Ms Ts _ _ _ _ _ (OX.o.below HC8.o).at HSe.o).mono ?_;rintro e w10 ⟨rfl,hbf⟩;have HC9:Hd (Below w9.heap.size w9 w10):=bt HC8.o hbf))
 have hb10:=HC9.o;have hz10:=hb10.size;replace FC:=Zab (FC.o.trans (hb10.mono FC.o.size));replace FA:=Zab (FA.o.on hb10);replace FB:=Zab (FB.o.on hb10);replace HB:=Zab (HB.o.trans (hb10.mono HB.o.size));replace FO:=Zab (FO.o.below hb10);replace OX:=Zab (OX.o.below hb10);replace FX:=Zab (FX.o.on hb10);replace OY:=Zab (OY.o.below hb10);replace FY:=Zab (FY.o.on hb10);replace OG:=Zab (OG.o.below hb10);clear hb10 HC9 HC8 HSe HLb hbe hbf;go_wp2_with fail;have HKb:=Zab (HK.o.below HB.o)
 go_region_held3 (ZbA w10 w7.heap.size (#[Value.int .i64 B.now,.int .i64 B.tick,.int .i64 B.given,.slice x0 B.os.length y0,.slice x1 B.gs.length y1,.slice x2 B.ls.length y2,.slice x3 B.ps.length y3]) (w.heap.size+1) (#[Value.int .i64 B.now,.int .i64 B.tick,.int .i64 B.given,.slice oa0 B.os.length oc0,.slice oa1 B.gs.length oc1,.slice oa2 B.ls.length oc2,.slice oa3 B.ps.length oc3]))
  (first
    | (with_reducible exact ZbA.drew FY.o FB.o)
    | (with_reducible exact ZbA.on (by assumption) (by assumption)))
  (first
    | (go_at_call 11
       refine (ZgP 0 _ _ _ _ B _ (HKb.o.below (Zb_.drew)) hBm.o).mono ?_;rintro e we ⟨f0,j0,f1,j1,f2,j2,f3,j3,rfl,hbe,hse⟩;have HC8:Hd (Below w10.heap.size w10 we):=bt (Zb_.drew) hbe;have HSe:=Zab hse;clear hse)
    | (go_at_call 15
       refine (ZlQ _ _ _ _ _ B _ _ _ _ _ _ (OY.o.below HC8.o).at HSe.o).mono ?_;rintro e w11 ⟨rfl,hbf⟩;have HC9:Hd (Below w10.heap.size w10 w11):=bt HC8.o hbf))
 have hb11:=HC9.o;have hz11:=hb11.size;replace FC:=Zab (FC.o.trans (hb11.mono FC.o.size));replace FA:=Zab (FA.o.on hb11);replace FB:=Zab (FB.o.on hb11);replace HB:=Zab (HB.o.trans (hb11.mono HB.o.size));replace FO:=Zab (FO.o.below hb11);replace OX:=Zab (OX.o.below hb11);replace FX:=Zab (FX.o.on hb11);replace OY:=Zab (OY.o.below hb11);replace FY:=Zab (FY.o.on hb11);replace OG:=Zab (OG.o.below hb11);clear hb11 HC9 HC8 HSe HKb hbe hbf;have g1:=FX.o.cell;go_wp2_with fail;clear g1;refine (Zmh _ _ _ _ _ Ss Ms Ts _ OX.o hLm.o (by omega)).mono ?_;rintro e w12 ⟨k1,rfl,hk1,hk2,ht12⟩;have hz12:=ht12.size;replace FC:=Zab (FC.o.trans ((ht12.under (by omega)).mono (by omega)));replace FA:=Zab (FA.o.touch ht12 (by omega));replace FB:=Zab (FB.o.touch ht12 (by omega));replace HB:=Zab (HB.o.trans ((ht12.under (by omega)).mono (by omega)))
 replace FO:=Zab (HW0.o.below FC.o);replace FX:=Zab (FX.o.touch ht12 (by omega));replace OY:=Zab (OY.o.touch ht12 (by omega));replace FY:=Zab (FY.o.touch ht12 (by omega));replace OG:=Zab (OG.o.touch ht12 (by omega));clear OX FX ht12;have g1:=FY.o.cell;go_wp2_with fail;clear g1;refine (Zk5 _ _ _ _ _ _ B _ k1 OY.o hBm.o (by omega) (by omega) (by omega)).mono ?_;rintro e w13 ⟨rfl,ht13,hm13⟩;have hz13:=ht13.size;replace FC:=Zab (FC.o.trans ((ht13.under (by omega)).mono (by omega)));replace FA:=Zab (FA.o.touch ht13 (by omega));replace FB:=Zab (FB.o.touch ht13 (by omega));replace HB:=Zab (HB.o.trans ((ht13.under (by omega)).mono (by omega)));replace FO:=Zab (HW0.o.below FC.o);replace FY:=Zab (FY.o.touch ht13 (by omega));replace OG:=Zab (OG.o.touch ht13 (by omega));clear OY FY ht13 hm13;have hke:¬ (ZrM k1 B < 0):=by unfold ZrM;omega
 generalize ZrM k1 B=K1 at hke |-;go_wp2_with fail;refine (Zec _ _ _ _ Lq _ (OG.o.in') FO.o).mono ?_;rintro e w14 ⟨rfl,hbe⟩;have hzw14:=hbe.size;replace FC:=Zab (FC.o.trans (hbe.mono FC.o.size));replace FA:=Zab (FA.o.on hbe);replace FB:=Zab (FB.o.on hbe);replace HB:=Zab (HB.o.trans (hbe.mono HB.o.size));replace FO:=Zab (FO.o.below hbe);replace OG:=Zab (OG.o.below hbe);clear hbe;go_wp2_with fail;clear hke;refine (Zg6 _ _ _ Lq 1 _ OG.o (by omega) (by omega)).mono ?_;rintro e w15 ⟨rfl,ht15,hm15⟩;have hz15:=ht15.size;replace FC:=Zab (FC.o.trans ((ht15.under (by omega)).mono (by omega)));replace FA:=Zab (FA.o.touch ht15 (by omega));replace FB:=Zab (FB.o.touch ht15 (by omega));replace HB:=Zab (HB.o.trans ((ht15.under (by omega)).mono (by omega)));replace FO:=Zab (HW0.o.below FC.o);have OM:=Zab hm15;clear OG ht15 hm15
 go_wp2_with fail;refine (ZgY _ _ Lq.length 1 _ OM.o.in' (by omega) (by omega)).mono ?_;rintro e w16 ⟨rfl,hb16⟩;have hz16:=hb16.size;replace FC:=Zab (FC.o.trans (hb16.mono FC.o.size));replace FA:=Zab (FA.o.on hb16);replace FB:=Zab (FB.o.on hb16);replace HB:=Zab (HB.o.trans (hb16.mono HB.o.size));replace FO:=Zab (FO.o.below hb16);replace OM:=Zab (OM.o.below hb16);clear hb16;have hke:¬ ((1:Int)+Lq.length < 0):=by omega
 generalize hK2:(1:Int)+(Lq.length:Int)=K2 at hke |-;have HK2:=Zab hK2;clear hK2;go_wp2_with fail;have HLr:=Zab (HL.o.below HB.o);have HKr:=Zab (HK.o.below HB.o)
 go_region_held3 (ZbA w16 w.heap.size (#[Value.slice a Ss.length cap,.slice a1 Ms.length cap1,.slice a2 Ts.length cap2]) (w.heap.size+1) (#[Value.int .i64 B.now,.int .i64 B.tick,.int .i64 B.given,.slice oa0 B.os.length oc0,.slice oa1 B.gs.length oc1,.slice oa2 B.ls.length oc2,.slice oa3 B.ps.length oc3]))
  (first
    | (with_reducible exact ZbA.drew FA.o FB.o)
    | (with_reducible exact ZbA.on (by assumption) (by assumption)))
  (first
    | (go_at_call 10
       refine (Zii 0 _ _ _ Ss Ms Ts _ (HLr.o.below (Zb_.drew)) hLm.o).mono ?_;rintro e w3 ⟨x0,y0,x1,y1,x2,y2,rfl,hb3,hs3⟩;have HD3:Hd (Below w16.heap.size w16 w3):=bt (Zb_.drew) hb3;have HS3:=Zab (hs3.mono Zz_);clear hs3)
    | (go_at_call 11
       refine (ZgP 0 _ _ _ _ B _ (HKr.o.below HD3.o) hBm.o).mono ?_;rintro e w4 ⟨z0,t0,z1,t1,z2,t2,z3,t3,rfl,hb4,hs4⟩;have HD4:Hd (Below w16.heap.size w16 w4):=bt HD3.o hb4;have HS4:Hd (ZbH 0 w4 _ _ _ Ss Ms Ts):=HS3.o.below hb4;have HK4:=Zab (hs4.mono Zz_);clear hs4 HS3)
    | (go_at_call 26
       refine (Zft 0 _ _ _ _ _ _ _ Ss Ms Ts B FF _ HS4.o HK4.o hBm.o HSH.o).mono ?_;rintro e w17 ⟨v3,rfl,hb5,hi5⟩;rw [HAN.o] at hi5;have HD5:Hd (Below w16.heap.size w16 w17):=bt HD4.o hb5;have HI5:Hd (Zat 0 w17 v3 Lq):=hi5.in'.mono Zz_;clear hi5))
 have hz17:=HD5.o.size;replace FC:=Zab (FC.o.trans (HD5.o.mono FC.o.size));replace FA:=Zab (FA.o.on HD5.o);replace FB:=Zab (FB.o.on HD5.o);replace HB:=Zab (HB.o.trans (HD5.o.mono HB.o.size));replace FO:=Zab (FO.o.below HD5.o);replace OM:=Zab (OM.o.below HD5.o);have HH:=Zab HI5.o;clear HLr HKr HD3 HD4 HS4 HK4 HD5 HI5 hb3 hb4 hb5;go_wp2_with fail;refine (Zec _ _ _ _ Lq _ (HH.o) FO.o).mono ?_;rintro e w18 ⟨rfl,hbe⟩;have hzw18:=hbe.size;replace FC:=Zab (FC.o.trans (hbe.mono FC.o.size));replace FA:=Zab (FA.o.on hbe);replace FB:=Zab (FB.o.on hbe);replace HB:=Zab (HB.o.trans (hbe.mono HB.o.size));replace FO:=Zab (FO.o.below hbe);replace OM:=Zab (OM.o.below hbe);clear hbe;go_wp2_with fail;refine (ZgY _ _ Lq.length 1 _ OM.o.in' (by omega) (by omega)).mono ?_;rintro e w19 ⟨rfl,hb19⟩
 replace FC:=Zab (FC.o.trans (hb19.mono FC.o.size));replace FA:=Zab (FA.o.on hb19);replace FB:=Zab (FB.o.on hb19);replace HB:=Zab (HB.o.trans (hb19.mono HB.o.size));replace FO:=Zab (FO.o.below hb19);replace OM:=Zab (OM.o.below hb19);clear hb19;rw [HK2.o];go_wp2;go_ret;exact⟨rfl,HB.o⟩
end Go.Proofs.YtmappejlmapboaaGreat
