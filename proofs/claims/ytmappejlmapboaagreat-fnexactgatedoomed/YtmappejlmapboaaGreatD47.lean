import Derived.Test.YtmappejlmapboaaGreatD40
import Derived.Test.YtmappejlmapboaaGreatD42
import Derived.Test.YtmappejlmapboaaGreatD43
import Derived.Test.YtmappejlmapboaaGreatD46
set_option maxHeartbeats 16000000
set_option maxRecDepth 100000
open Go.Proofs.Tryz
namespace Go.Proofs.YtmappejlmapboaaGreat
section
open Go.RowKit Go.Deep
variable {Os:List Ob} {Ss:List Sh} {Ts:List Tm} {B:Bk} {Ms:List Md} {L:List Int}
theorem Zs8 (h:ZdN Zgv Os=true):Zhl Os:=fun i j hi hj e1 e2=>by
 have no:∀ a b (ha:a < Os.length) (hb:b < Os.length),a < b->Os[a].kd=Os[b].kd->Os[a].nm=Os[b].nm->False:=fun a b ha hb hab e1 e2=>by
  have:=Zkb (c:=Zgv) (fun x y z h h'=>ZiT h h') h ha hb hab;have h0:Zgv Os[a] Os[b]=0:=ZhF.2 ⟨e1,e2⟩
  omega
 rcases Nat.lt_trichotomy i j with h1 | h1 | h1
 . exact (no i j hi hj h1 e1 e2).elim
 . exact h1
 . exact (no j i hj hi h1 e1.symm e2.symm).elim
theorem Zk4 {FF:Nat->List Zy_} (h:Zas Ss Ts B FF=true):Zhl B.os:=by
 unfold Zas at h;simp only [Bool.and_eq_true] at h;exact Zs8 h.2.1
theorem ZdA {FF:Nat->List Zy_} (h:Zdh Ss Ms Ts B FF=true):Zas Ss Ts B FF=true:=by
 unfold Zdh Zey at h;simp only [Bool.and_eq_true] at h;exact h.2.2.1
theorem ZgD {lo:Nat}{w:World}{v:Value} (h:Za3 lo w v Os):Zfz Os:=fun i hi=>by
 obtain⟨a,cap,rfl⟩:=h.form;obtain⟨b,off,-,-,-,hc⟩:=h.full' (by omega);exact⟨(hc i hi).1.s0,(hc i hi).1.s1⟩
def ZrB (Ss:List Sh) (Ms:List Md) (Ts:List Tm) (B:Bk) (FF:Nat->List Zy_) (L:List Int):List Int:=if Zdh Ss Ms Ts B FF then L else []
theorem Zsp {FF:Nat->List Zy_}{n:Nat} (h:L.length<=n):(ZrB Ss Ms Ts B FF L).length<=n:=by
 unfold ZrB
 split
 . exact h
 . simp
theorem ZmO {FF:Nat->List Zy_} (h:Zdh Ss Ms Ts B FF=false):ZrB Ss Ms Ts B FF L=[]:=by unfold ZrB;rw [h];rfl
theorem Zno {FF:Nat->List Zy_} (h:Zdh Ss Ms Ts B FF=true):ZrB Ss Ms Ts B FF L=L:=by unfold ZrB;rw [h];rfl
end
section
open Go.RowKit Go.Deep
def ZsK (Os:List Ob) (i:Nat):Bool:=match Os[i]? with
 | some o=>o.en
 | none=>false
theorem Zn0 (Os:List Ob):ZfE Os=(List.range Os.length).map (ZsK Os):=by
 apply List.ext_getElem
 . simp [ZfE]
 . intro i h1 h2
   have hi:i < Os.length:=by simpa [ZfE] using h1
   simp [ZfE,ZsK,hi]
theorem ZjL (Os:List Ob):(ZfE Os).length=Os.length:=by simp [ZfE]
theorem Zsg {w:World}{base:Nat}{v:Value}{n:Nat}{xs:List Value} (h:w.ownsRow base 4 1 v n xs) (hv:v≠.slice none 0 0):∃ g cap,v=.slice (some ⟨g,0,none⟩) n cap:=by
 rcases h.2 with ⟨h1,_⟩ | ⟨g,cap,cur,h1,_⟩
 . exact absurd h1 hv
 . exact⟨g,cap,h1⟩
end
section
open Go.RowKit Go.Deep Go.Maps
variable {Fs:List Fd} {Ss:List Sh}
theorem Zm2 {V:List Zy_}{t:Tie}:∀ {k:Nat},t ∈ Zdu Fs V k->∃ i,∃ hi:i < Fs.length,Fs[i].kd=4/\t.2.1=Fs[i].ro
 | 0,h=>by cases h
 | k+1,h=>by
  rw [Zdu] at h
  rcases List.mem_append.1 h with h | h
  . exact Zm2 h
  . cases hf:Fs[k]? with
    | none=>rw [hf] at h;cases h
    | some f=>
     cases hv:V[k]? with
     | none=>rw [hf,hv] at h;cases h
     | some s=>
      rw [hf,hv] at h;obtain⟨hk,hfe⟩:=List.getElem?_eq_some_iff.1 hf;dsimp only at h;unfold Zfw at h
      split at h
      . rename_i hc
        rw [List.mem_singleton] at h;rw [Bool.and_eq_true,beq_iff_eq] at hc;exact⟨k,hk,by rw [hfe];exact hc.1,by rw [h,hfe]⟩
      . cases h
theorem Ztq (h:ZaA Ss Fs=true) {i:Nat} (hi:i < Fs.length) (hk:Fs[i].kd=4):Fs[i].ro=1\/Fs[i].ro=2\/Fs[i].ro=3:=by
 unfold ZaA at h;rw [Bool.and_eq_true] at h;have h1:=Zhr hi h.2;rw [ZaG hi,Bool.and_eq_true,Bool.and_eq_true] at h1;have h2:=h1.1.2;unfold Zd3 at h2;rw [hk] at h2;rw [if_neg (by decide),if_neg (by decide),if_neg (by decide),if_pos rfl] at h2;unfold Zc3 Zlk at h2;simp at h2
 omega
theorem Zjn {Ms:List Md}{Ts:List Tm}{B:Bk}{FF:Nat->List Zy_} (h:Zdh Ss Ms Ts B FF=true):ZeK Ss B.os:=fun k hk t ht=>by
 have hob:=ZdA h
 have hsh:ZaH Ss=true:=by
  unfold Zdh Zkq Zax at h;simp only [Bool.and_eq_true] at h;exact h.1.1.1.1.1
 unfold Zas at hob;simp only [Bool.and_eq_true] at hob;have ha:=Zhr (k:=k) hk hob.2.2;rw [Zh4 hk] at ha;unfold ZcC at ht
 cases hs:Zcn Ss B.os[k].kd with
 | none=>rw [hs] at ht;cases ht
 | some x=>
  rw [hs] at ht;rw [Zfb hs] at ha;simp only [Bool.and_eq_true] at ha;obtain⟨i,hi,h4,hr⟩:=Zm2 ht;refine⟨by rw [hr];exact Ztq (Zbz hsh (Zcg hs).1) hi h4,fun _=>?_⟩;have htd:=ha.2.2;unfold ZiJ at htd;have h1:=List.all_eq_true.1 htd t ht;unfold ZcY at h1;obtain⟨o,ho,hoi⟩:=List.any_eq_true.1 h1;obtain⟨j,hj,rfl⟩:=List.getElem_of_mem ho;unfold Zhj at hoi;rw [Bool.and_eq_true,Zaz,Zaz] at hoi;exact⟨j,hj,hoi.1,hoi.2⟩
end
open Go.RowKit Go.Deep Go.Shelf Go.Maps
theorem ZfB.has {Os:List Ob}{D:DataW Value}{M:Nat->Bool} (h:ZfB Os D M) (hd:Zhl Os) {p:Nat} (hp:p < Os.length) (s0:Os[p].kd.size<=maxLen) (s1:Os[p].nm.size<=maxLen):Maps.has D (ZbI Os[p].kd Os[p].nm)=M p:=by
 cases hm:M p with
 | true=>exact has_true_of_atKey (y:=.held (.int .i64 (p:Int))) fun zd=>by rw [h.at' _ _ s0 s1,Zfd hd hp hm]
 | false=>
  have hn:ZeC Os M Os[p].kd Os[p].nm=none:=ZgJ fun i hi hPi hk=>by
   have:=hd i p hi hp hk.1 hk.2;subst this;rw [hm] at hPi
   cases hPi
  exact has_false_of_atKey fun z=>by rw [h.at' _ _ s0 s1,hn]
theorem ZgL (Os:List Ob) (M:Nat->Bool) (p mb Nn:Nat) (D:DataW Value) (va ha:Option Addr) (vn vc hn hc:Nat) (w:World) (hd:Zhl Os) (hp:p < Os.length) (s0:Os[p].kd.size<=maxLen) (s1:Os[p].nm.size<=maxLen)
 (hown:w.ownsMap prog 153 Zcu mb Nn D) (hD:ZfB Os D M) :
 Calls prog 120 #[.map (some mb),.agg #[.string Os[p].kd,.string Os[p].nm,.string Os[p].tm,.slice va vn vc,.bool Os[p].en,.slice ha hn hc,.int .i64 Os[p].ver]] w
  fun e w'=>e=.returned (.bool (M p))/\Zw_ w w':=by
 go_enter func120,ntmps120;go_wp2_with fail;refine (Zcb Os[p] _ _ _ _ _ _ _).mono ?_;rintro e w1 ⟨rfl,hb1⟩;have HB:Hd (Zw_ w w1):=bt (Zac _ _) hb1;have ho:w1.ownsMap prog 153 Zcu mb Nn D:=(hown.alloc _).kept (ZaN hb1 none) (fun e=>by cases e);have hh:=hD.has hd hp s0 s1;clear hb1;go_wp2_with (at_lookup;refine wpList_lookup_own_ok _ rfl _ _ 147 rfl 153 3 ZcJ underlying147 Zcu (by rfl) (.held (.int .i64 0)) [] rfl mb Nn D rfl ho _ _ rfl (Zc1.mk' s0 s1) ?_;intro v ps hv;rw [hh]);go_ret;exact⟨rfl,HB.o⟩
end Go.Proofs.YtmappejlmapboaaGreat
