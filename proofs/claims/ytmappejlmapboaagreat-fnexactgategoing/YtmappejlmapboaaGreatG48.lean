import Derived.Test.YtmappejlmapboaaGreatG42
import Derived.Test.YtmappejlmapboaaGreatG43
import Derived.Test.YtmappejlmapboaaGreatG44
import Derived.Test.YtmappejlmapboaaGreatG47
set_option maxHeartbeats 16000000
set_option maxRecDepth 100000
open Go.Proofs.Tryz
namespace Go.Proofs.YtmappejlmapboaaGreat
section
open Go.RowKit Go.Deep
variable {Os:List Ob} {Ss:List Sh} {Ts:List Tm} {B:Bk} {Ms:List Md} {L:List Int}
theorem Zsm (h:ZdC Zf9 Os=true):Zg4 Os:=fun i j hi hj e1 e2=>by
 have no:∀ a b (ha:a < Os.length) (hb:b < Os.length),a < b->Os[a].kd=Os[b].kd->Os[a].nm=Os[b].nm->False:=fun a b ha hb hab e1 e2=>by
  have:=Zjy (c:=Zf9) (fun x y z h h'=>Zij h h') h ha hb hab;have h0:Zf9 Os[a] Os[b]=0:=Zhd.2 ⟨e1,e2⟩
  omega
 rcases Nat.lt_trichotomy i j with h1 | h1 | h1
 . exact (no i j hi hj h1 e1 e2).elim
 . exact h1
 . exact (no j i hj hi h1 e1.symm e2.symm).elim
theorem Zkw {FF:Nat->List Zy_} (h:Zas Ss Ts B FF=true):Zg4 B.os:=by
 unfold Zas at h;simp only [Bool.and_eq_true] at h;exact Zsm h.2.1
theorem Zdq {FF:Nat->List Zy_} (h:Zc6 Ss Ms Ts B FF=true):Zas Ss Ts B FF=true:=by
 unfold Zc6 Zeg at h;simp only [Bool.and_eq_true] at h;exact h.2.2.1
theorem Ziv {lo:Nat}{w:World}{v:Value} (h:Za2 lo w v Os):Zf3 Os:=fun i hi=>by
 obtain⟨a,cap,rfl⟩:=h.form;obtain⟨b,off,-,-,-,hc⟩:=h.full' (by omega);exact⟨(hc i hi).1.s0,(hc i hi).1.s1⟩
def ZqE (Ss:List Sh) (Ms:List Md) (Ts:List Tm) (B:Bk) (FF:Nat->List Zy_) (L:List Int):List Int:=if Zc6 Ss Ms Ts B FF then L else []
theorem ZrD {FF:Nat->List Zy_}{n:Nat} (h:L.length<=n):(ZqE Ss Ms Ts B FF L).length<=n:=by
 unfold ZqE
 split
 . exact h
 . simp
theorem Zl7 {FF:Nat->List Zy_} (h:Zc6 Ss Ms Ts B FF=false):ZqE Ss Ms Ts B FF L=[]:=by unfold ZqE;rw [h];rfl
theorem ZmE {FF:Nat->List Zy_} (h:Zc6 Ss Ms Ts B FF=true):ZqE Ss Ms Ts B FF L=L:=by unfold ZqE;rw [h];rfl
end
section
open Go.RowKit Go.Deep
def Zos (Os:List Ob) (i:Nat):Bool:=match Os[i]? with
 | some o=>o.en
 | none=>false
theorem ZmU (Os:List Ob):Zim Os=(List.range Os.length).map (Zos Os):=by
 apply List.ext_getElem
 . simp [Zim]
 . intro i h1 h2
   have hi:i < Os.length:=by simpa [Zim] using h1
   simp [Zim,Zos,hi]
def Zgz (Ss:List Sh) (Os:List Ob):List Int:=Zb3 (Zby Os.length (Zos Os) (ZaX Os) (ZbL Ss Os)) Os.length
theorem Zna (Ss:List Sh) (Os:List Ob):(Zgz Ss Os).length<=Os.length:=ZhE _ _
theorem Zmd (Os:List Ob):(Zim Os).length=Os.length:=by simp [Zim]
theorem Zje (Ss:List Sh) (Os:List Ob):passes Os.length (ZaX Os) (ZbL Ss Os) (Zim Os) (Os.length+1)=Zby Os.length (Zos Os) (ZaX Os) (ZbL Ss Os):=by
 unfold Zby;rw [ZmU]
theorem Zru {w:World}{base:Nat}{v:Value}{n:Nat}{xs:List Value} (h:w.ownsRow base 4 1 v n xs) (hv:v≠.slice none 0 0):∃ g cap,v=.slice (some ⟨g,0,none⟩) n cap:=by
 rcases h.2 with ⟨h1,_⟩ | ⟨g,cap,cur,h1,_⟩
 . exact absurd h1 hv
 . exact⟨g,cap,h1⟩
section
variable (lo:Nat) (sv mv tv ov gv lv pv:Value) (Ss:List Sh) (Ms:List Md) (Ts:List Tm) (B:Bk) (FF:Nat->List Zy_) (w:World)
theorem ZjD (hl:ZbF lo w sv mv tv Ss Ms Ts) (h:ZaU lo w ov gv lv pv B) (hn:Zbn B) (hsh:Zcr Ss Ms B.os FF) :
 Calls prog 20 #[.agg #[sv,mv,tv],.agg #[.int .i64 B.now,.int .i64 B.tick,.int .i64 B.given,ov,gv,lv,pv]] w
  fun e w'=>∃ v,e=.returned v/\Zw_ w w'/\Zav w.heap.size w'.heap.size w' v (ZqE Ss Ms Ts B FF (Zgz Ss B.os)):=by
 obtain⟨i0,hi,hz0,hz1,hz2⟩:=info_parts Tryz.info3;have HI3:=Zab (And.intro hi (And.intro hz0 (And.intro hz1 hz2)));clear hi hz0 hz1 hz2;have HL:=Zab hl;have HK:=Zab h;have HN:=Zab hn;have HSH:=Zab hsh;obtain⟨sa,sc,rfl⟩:=hl.shs.form;obtain⟨ma,mc,rfl⟩:=hl.mds.form;obtain⟨ta,tc,rfl⟩:=hl.tms.form;obtain⟨a0,k0,rfl⟩:=h.obs.form;obtain⟨a1,k1,rfl⟩:=h.grs.form;obtain⟨a2,k2,rfl⟩:=h.les.form;obtain⟨a3,k3,rfl⟩:=h.pus.form;clear hl h hn hsh;go_enter func20,ntmps20;go_wp2_with fail;generalize hWa:(World.alloc (w.alloc _) _)=w0;have HB0:Hd (Zw_ w w0):=by rw [<- hWa];exact (Zac w _).alloc (by simp) _
 have HX0:Hd (Box w0 w.heap.size #[.slice sa Ss.length sc,.slice ma Ms.length mc,.slice ta Ts.length tc]):=by rw [<- hWa];exact (Box.new _ _ _ _ rfl).on (Zac _ _)
 have HY0:Hd (Box w0 (w.heap.size+1) #[.int .i64 B.now,.int .i64 B.tick,.int .i64 B.given,.slice a0 B.os.length k0,.slice a1 B.gs.length k1,.slice a2 B.ls.length k2,.slice a3 B.ps.length k3]):=by rw [<- hWa];exact Box.new _ _ _ _ (by simp)
 clear hWa;refine (ZkP lo _ _ _ _ _ _ _ Ss Ms Ts B FF _ (HL.o.below HB0.o) (HK.o.below HB0.o) HN.o HSH.o).mono ?_;rintro e w1 ⟨rfl,hb⟩;have HB1:Hd (Zw_ w w1):=bt HB0.o hb;have HX1:=Zab (HX0.o.on hb);have HY1:=Zab (HY0.o.on hb);clear hb HB0 HX0 HY0;have c0:=HX1.o.cell;have b0:=HY1.o.cell
 cases h0:Zc6 Ss Ms Ts B FF with
 | false=>
  obtain⟨hi,hz0,hz1,hz2⟩:=HI3.o;go_wp2;go_ret
  first
   | exact⟨_,rfl,HB1.o,by rw [Zl7 h0];exact Or.inl ⟨_,_,rfl,rfl⟩⟩
   | exact⟨_,rfl,HB1.o.alloc HB1.o.size _,by rw [Zl7 h0];exact Or.inl ⟨_,_,rfl,rfl⟩⟩
 | true=>
  have HSP:=Zab (ZkO (Zdq h0));have HT:=Zab h0;have hz1:=HB1.o.size;have HLr:=Zab (HL.o.below HB1.o);have HKr:=Zab (HK.o.below HB1.o);have hgl:(Zby B.os.length (Zos B.os) (ZaX B.os) (ZbL Ss B.os)).length=B.os.length:=Zkb;go_wp2_with fail
  go_region_held3 (Zbo w1 w.heap.size (#[Value.slice sa Ss.length sc,.slice ma Ms.length mc,.slice ta Ts.length tc]) (w.heap.size+1) (#[Value.int .i64 B.now,.int .i64 B.tick,.int .i64 B.given,.slice a0 B.os.length k0,.slice a1 B.gs.length k1,.slice a2 B.ls.length k2,.slice a3 B.ps.length k3]))
   (first
     | (with_reducible exact Zbo.drew HX1.o HY1.o)
     | (with_reducible exact Zbo.on (by assumption) (by assumption)))
   (first
     | (go_at_call 61
        refine (Zkt lo _ _ _ _ B _ (HKr.o.below (Zb_.drew)) HN.o.1.1).mono ?_;rintro e w2 ⟨v,rfl,hnn,hb2,hr2⟩;have HBA:Zce w2 v (Zim B.os):=Zce.of_row hr2;rw [Zmd] at hr2;obtain⟨g,cap,rfl⟩:=Zru hr2 hnn;have HRW:=Zab (ZrO hr2).2;have HBW:=Zab HBA;have HD2:Hd (Below w1.heap.size w1 w2):=bt (Zb_.drew) hb2;clear hnn hr2 HBA)
     | (go_at_call 60
        refine (Zh3 lo _ _ _ _ _ _ _ _ _ Ss Ms Ts B (Zim B.os) _ (HLr.o.below HD2.o) (HKr.o.below HD2.o) HSP.o HBW.o HRW.o (Zmd _) HN.o.1.1).mono ?_;rintro e w3 ⟨g2,c2,rfl,hb3,hr3⟩;have HD3:Hd (Below w1.heap.size w1 w3):=bt HD2.o hb3;rw [Zje] at hr3;have HR3:=Zab hr3;clear hr3)
     | (go_at_call 59
        refine (Zku _ (Zby B.os.length (Zos B.os) (ZaX B.os) (ZbL Ss B.os)) _ (Zce.of_row (by rw [hgl];exact HR3.o)) (by rw [hgl];exact HN.o.1.1)).mono ?_;rintro e w4 ⟨v4,rfl,hb4,hi4⟩;have HD4:Hd (Below w1.heap.size w1 w4):=bt HD3.o hb4;have hz3:=HD3.o.size;rw [hgl] at hi4;have HI4:Hd (Zav w1.heap.size w4.heap.size w4 v4 (Zgz Ss B.os)):=Zav.wide hi4 hz3 Zl_;clear hi4))
  go_wp2;go_ret;exact⟨v4,rfl,bt HB1.o HD4.o,by rw [ZmE HT.o];exact HI4.o.wide hz1 Zl_⟩
end
end
section
open Go.RowKit Go.Deep Go.Maps
variable {Fs:List Fd} {Ss:List Sh} {Ms:List Md} {Ts:List Tm} {B:Bk}
theorem Zmk {V:List Zy_}{t:Tie}:∀ {k:Nat},t ∈ ZdD Fs V k->∃ i,∃ hi:i < Fs.length,Fs[i].kd=4/\t.2.1=Fs[i].ro
 | 0,h=>by cases h
 | k+1,h=>by
  rw [ZdD] at h
  rcases List.mem_append.1 h with h | h
  . exact Zmk h
  . cases hf:Fs[k]? with
    | none=>rw [hf] at h;cases h
    | some f=>
     cases hv:V[k]? with
     | none=>rw [hf,hv] at h;cases h
     | some s=>
      rw [hf,hv] at h;obtain⟨hk,hfe⟩:=List.getElem?_eq_some_iff.1 hf;dsimp only at h;unfold Zfg at h
      split at h
      . rename_i hc
        rw [List.mem_singleton] at h;rw [Bool.and_eq_true,beq_iff_eq] at hc;exact⟨k,hk,by rw [hfe];exact hc.1,by rw [h,hfe]⟩
      . cases h
theorem ZsE (h:Zay Ss Fs=true) {i:Nat} (hi:i < Fs.length) (hk:Fs[i].kd=4):Fs[i].ro=1\/Fs[i].ro=2\/Fs[i].ro=3:=by
 unfold Zay at h;rw [Bool.and_eq_true] at h;have h1:=ZgZ hi h.2;rw [ZaG hi,Bool.and_eq_true,Bool.and_eq_true] at h1;have h2:=h1.1.2;unfold ZdR at h2;rw [hk] at h2;rw [if_neg (by decide),if_neg (by decide),if_neg (by decide),if_pos rfl] at h2;unfold ZcV ZkK at h2;simp at h2
 omega
theorem ZiP {FF:Nat->List Zy_} (h:Zc6 Ss Ms Ts B FF=true):Zes Ss B.os:=fun k hk t ht=>by
 have hob:=Zdq h
 have hsh:ZaH Ss=true:=by
  unfold Zc6 ZjP Zax at h;simp only [Bool.and_eq_true] at h;exact h.1.1.1.1.1
 unfold Zas at hob;simp only [Bool.and_eq_true] at hob;have ha:=ZgZ (k:=k) hk hob.2.2;rw [ZhA hk] at ha;unfold Zdu at ht
 cases hs:Zcj Ss B.os[k].kd with
 | none=>rw [hs] at ht;cases ht
 | some x=>
  rw [hs] at ht;rw [ZeW hs] at ha;simp only [Bool.and_eq_true] at ha;obtain⟨i,hi,h4,hr⟩:=Zmk ht;refine⟨by rw [hr];exact ZsE (Zbz hsh (Zcd hs).1) hi h4,fun _=>?_⟩;have htd:=ha.2.2;unfold Zia at htd;have h1:=List.all_eq_true.1 htd t ht;unfold ZcR at h1;obtain⟨o,ho,hoi⟩:=List.any_eq_true.1 h1;obtain⟨j,hj,rfl⟩:=List.getElem_of_mem ho;unfold ZgS at hoi;rw [Bool.and_eq_true,ZaA,ZaA] at hoi;exact⟨j,hj,hoi.1,hoi.2⟩
theorem Znc {FF:Nat->List Zy_} (h:Zc6 Ss Ms Ts B FF=true) {M:Nat->Bool}
 (hM:∀ i,M i=true↔Least B.os.length (fun j=>!Zos B.os j || ZaX B.os j) (Zhr Ss B.os) i):Zd5 B.os (fun i=>!M i)=Zgz Ss B.os:=by
 unfold Zd5 Zgz Zb3
 congr 1
 refine List.filter_congr fun i hi=>?_
 have hi:=List.mem_range.1 hi;rw [Bool.eq_iff_iff,Zka hi,ZnS (Zkw (Zdq h)) (ZiP h),<- hM i]
 cases M i <;> simp
end
open Go.RowKit Go.Deep Go.Shelf Go.Maps
theorem Zfv.has {Os:List Ob}{D:DataW Value}{M:Nat->Bool} (h:Zfv Os D M) (hd:Zg4 Os) {p:Nat} (hp:p < Os.length) (s0:Os[p].kd.size<=maxLen) (s1:Os[p].nm.size<=maxLen):Maps.has D (ZbG Os[p].kd Os[p].nm)=M p:=by
 cases hm:M p with
 | true=>exact has_true_of_atKey (y:=.held (.int .i64 (p:Int))) fun zd=>by rw [h.at' _ _ s0 s1,ZeY hd hp hm]
 | false=>
  have hn:Zek Os M Os[p].kd Os[p].nm=none:=Zgl fun i hi hPi hk=>by
   have:=hd i p hi hp hk.1 hk.2;subst this;rw [hm] at hPi
   cases hPi
  exact has_false_of_atKey fun z=>by rw [h.at' _ _ s0 s1,hn]
theorem ZiM (Os:List Ob) (M:Nat->Bool) (p mb Nn:Nat) (D:DataW Value) (va ha:Option Addr) (vn vc hn hc:Nat) (w:World) (hd:Zg4 Os) (hp:p < Os.length) (s0:Os[p].kd.size<=maxLen) (s1:Os[p].nm.size<=maxLen)
 (hown:w.ownsMap prog 153 ZcK mb Nn D) (hD:Zfv Os D M) :
 Calls prog 120 #[.map (some mb),.agg #[.string Os[p].kd,.string Os[p].nm,.string Os[p].tm,.slice va vn vc,.bool Os[p].en,.slice ha hn hc,.int .i64 Os[p].ver]] w
  fun e w'=>e=.returned (.bool (M p))/\Zw_ w w':=by
 go_enter func120,ntmps120;go_wp2_with fail;refine (Zb8 Os[p] _ _ _ _ _ _ _).mono ?_;rintro e w1 ⟨rfl,hb1⟩;have HB:Hd (Zw_ w w1):=bt (Zac _ _) hb1;have ho:w1.ownsMap prog 153 ZcK mb Nn D:=(hown.alloc _).kept (ZaM hb1 none) (fun e=>by cases e);have hh:=hD.has hd hp s0 s1;clear hb1;go_wp2_with (at_lookup;refine wpList_lookup_own_ok _ rfl _ _ 147 rfl 153 3 ZcB underlying147 ZcK (by rfl) (.held (.int .i64 0)) [] rfl mb Nn D rfl ho _ _ rfl (Zdb.mk' s0 s1) ?_;intro v ps hv;rw [hh]);go_ret;exact⟨rfl,HB.o⟩
end Go.Proofs.YtmappejlmapboaaGreat
